/- A region that draws its order: that what is told of each operation (planOk, Obs) tells the region (drawn). No dump is imported. -/
import Derived.Test.YtiebelmglchbdaaVc
namespace Go.Proofs.Ytiebelmglchbdaa
set_option linter.unusedVariables false
set_option linter.unusedSimpArgs false
open Go Go.RowKit

theorem maskOf_bit {ks : List Nat} {j : Nat} : (maskOf ks).testBit j = true ↔ j ∈ ks := by
  induction ks with
  | nil => simp [maskOf]
  | cons k r ih =>
    show (Nat.lor (Nat.shiftLeft 1 k) (maskOf r)).testBit j = true ↔ _
    have e1 : Nat.lor (Nat.shiftLeft 1 k) (maskOf r) = (1 <<< k) ||| maskOf r := rfl
    rw [e1, Nat.testBit_or, Bool.or_eq_true, ih, List.mem_cons]
    have : ((1 <<< k).testBit j = true) ↔ j = k := by
      rw [Nat.shiftLeft_eq, Nat.one_mul, Nat.testBit_two_pow]
      simp only [decide_eq_true_eq]
      exact eq_comm
    rw [this]
theorem low_bit {k j : Nat} : (Nat.shiftLeft 1 k - 1).testBit j = decide (j < k) := by
  have e1 : Nat.shiftLeft 1 k = 2 ^ k := by
    show 1 <<< k = _
    rw [Nat.shiftLeft_eq, Nat.one_mul]
  rw [e1, Nat.testBit_two_pow_sub_one]
section
variable {P : Program} {n : Nat} {w0 w w' : World} {a : Act} {e : Env} {h : Hep} {Q : Exit → Act → World → Prop} {ops : Array Oper} {plan : List Item} {ms : List Nat}
theorem masks_get {i : Nat} {o : Oper} (hm : masks ops = ms) (ho : ops[i]? = some o) : ms[i]? = some (maskOf (waits o)) := by
  subst hm
  unfold masks
  simp [ho]
theorem mem_waits {o : Oper} {j : Nat} : j ∈ waits o ↔ ∃ x ∈ o.after, Region.binds .any x = true ∧ x.on = j := by
  unfold waits
  simp only [List.mem_map, List.mem_filter, Array.mem_toList_iff]
  constructor
  · rintro ⟨x, ⟨h1, h2⟩, rfl⟩
    exact ⟨x, h1, h2, rfl⟩
  · rintro ⟨x, h1, h2, rfl⟩
    exact ⟨x, ⟨h1, h2⟩, rfl⟩
/-- What one waits for has come before it. -/
def Down (ops : Array Oper) (l : Array Bool) : Prop := ∀ i o, ops[i]? = some o → l.getD i false = true → ∀ x ∈ o.after, Region.binds .any x = true → l.getD x.on false = true
theorem size_of_listed {l : Array Bool} {i : Nat} (h : l.getD i false = true) : i < l.size := by
  apply Nat.lt_of_not_le
  intro hl
  simp [Array.getElem?_eq_none hl] at h
theorem close_listed {l : Array Bool} (hm : masks ops = ms) (hd : Down ops l) (hs : l.size = ops.size) : ∀ (k S : Nat), (∀ j, S.testBit j = true → l.getD j false = true) → ∀ j, (closeM ms k S).testBit j = true → l.getD j false = true
  | 0, S, h, j, hj => h j hj
  | k + 1, S, h, j, hj => by
    unfold closeM at hj
    cases hb : Nat.testBit S k with
    | false =>
      rw [hb] at hj
      exact close_listed hm hd hs k S h j hj
    | true =>
      rw [hb] at hj
      refine close_listed hm hd hs k _ (fun i hi => ?_) j hj
      have hi : (S ||| ms.getD k 0).testBit i = true := hi
      rw [Nat.testBit_or, Bool.or_eq_true] at hi
      rcases hi with hi | hi
      · exact h i hi
      · have hk := h k hb
        have hlt := size_of_listed hk
        rw [hs] at hlt
        have ho : ops[k]? = some ops[k] := Array.getElem?_eq_getElem hlt
        have hg := masks_get hm ho
        have e2 : ms.getD k 0 = maskOf (waits ops[k]) := by simp [hg]
        rw [e2, maskOf_bit, mem_waits] at hi
        obtain ⟨x, hx, hb2, rfl⟩ := hi
        exact hd k _ ho hk x hx hb2
theorem ready_waits {l : Array Bool} {i : Nat} (hm : masks ops = ms) (hr : i ∈ Region.ready .any ops l) : ∀ j, (ms.getD i 0).testBit j = true → l.getD j false = true := by
  obtain ⟨_, o, ho, hall⟩ := mem_ready.1 hr
  intro j hj
  have hg := masks_get hm ho
  have e2 : ms.getD i 0 = maskOf (waits o) := by simp [hg]
  rw [e2, maskOf_bit, mem_waits] at hj
  obtain ⟨x, hx, hb, rfl⟩ := hj
  exact hall x hx hb
theorem low_bits {k m j : Nat} (hm : m ≤ k) : (Nat.shiftLeft 1 k - Nat.shiftLeft 1 m).testBit j = (decide (m ≤ j) && decide (j < k)) := by
  have e1 : ∀ i, Nat.shiftLeft 1 i = 2 ^ i := fun i => by
    show 1 <<< i = _
    rw [Nat.shiftLeft_eq, Nat.one_mul]
  have e2 : 2 ^ k - 2 ^ m = 2 ^ m * (2 ^ (k - m) - 1) := by
    rw [Nat.mul_sub, ← Nat.pow_add, show m + (k - m) = k by omega, Nat.mul_one]
  rw [e1, e1, e2, Nat.testBit_two_pow_mul, Nat.testBit_two_pow_sub_one, Bool.eq_iff_iff]
  simp only [Bool.and_eq_true, decide_eq_true_eq, ge_iff_le]
  omega
theorem lineUp_get {m k : Nat} {l : List Nat} (hmk : m ≤ k) (hl : lineUp ms m k l = true) : ∀ j x, l[j]? = some x → ∀ i, m ≤ i → i < k + j → (closeM ms (k + j) x).testBit i = true := by
  induction l generalizing k with
  | nil => intro j x hj; cases hj
  | cons x0 r ih =>
    intro j x hj i hmi hi
    unfold lineUp at hl
    rw [Bool.and_eq_true] at hl
    cases j with
    | zero =>
      injection hj with hj
      subst hj
      have e1 := Nat.eq_of_beq_eq_true hl.1
      have e2 : (Nat.land (closeM ms k x0) (Nat.shiftLeft 1 k - Nat.shiftLeft 1 m)).testBit i = true := by
        rw [e1, low_bits hmk, decide_eq_true hmi, decide_eq_true (by omega)]
        rfl
      have e3 : Nat.land (closeM ms k x0) (Nat.shiftLeft 1 k - Nat.shiftLeft 1 m) = closeM ms k x0 &&& (Nat.shiftLeft 1 k - Nat.shiftLeft 1 m) := rfl
      rw [e3, Nat.testBit_and, Bool.and_eq_true] at e2
      exact e2.1
    | succ j =>
      have := ih (by omega) hl.2 j x hj i hmi (by omega)
      rw [show k + (j + 1) = k + 1 + j by omega]
      exact this
theorem sub2_get {a b j : Nat} (h : sub2 a b = true) (hj : a.testBit j = true) : b.testBit j = true := by
  have e1 := Nat.eq_of_beq_eq_true h
  have e2 : (Nat.land a b).testBit j = true := by rw [e1]; exact hj
  have e3 : Nat.land a b = a &&& b := rfl
  rw [e3, Nat.testBit_and, Bool.and_eq_true] at e2
  exact e2.2
theorem lor_get {a b j : Nat} (h : (Nat.lor a b).testBit j = true) : a.testBit j = true ∨ b.testBit j = true := by
  have e3 : Nat.lor a b = a ||| b := rfl
  rw [e3, Nat.testBit_or, Bool.or_eq_true] at h
  exact h
theorem purMask_get {k : Nat} {r : List Item} : ∀ j, (purMask k r).testBit j = true → ∃ i d v ps, j = k + i ∧ r[i]? = some (.pur d v ps) := by
  induction r generalizing k with
  | nil => intro j hj; simp [purMask] at hj
  | cons it r ih =>
    intro j hj
    have go : (purMask (k + 1) r).testBit j = true → ∃ i d v ps, j = k + i ∧ (it :: r)[i]? = some (.pur d v ps) := fun hj => by
      obtain ⟨i, d, v, ps, h1, h2⟩ := ih j hj
      exact ⟨i + 1, d, v, ps, by omega, h2⟩
    cases it with
    | val d v ps => exact go hj
    | off d ps => exact go hj
    | new d t z => exact go hj
    | pur d v ps =>
      rcases lor_get hj with h | h
      · have e1 : Nat.shiftLeft 1 k = 2 ^ k := by
          show 1 <<< k = _
          rw [Nat.shiftLeft_eq, Nat.one_mul]
        rw [e1, Nat.testBit_two_pow] at h
        have := of_decide_eq_true h
        exact ⟨0, d, v, ps, by omega, rfl⟩
      · exact go h
theorem purMask_has {k : Nat} {r : List Item} : ∀ i d v ps, r[i]? = some (.pur d v ps) → (purMask k r).testBit (k + i) = true := by
  induction r generalizing k with
  | nil => intro i d v ps h; cases h
  | cons it r ih =>
    intro i d v ps h
    have e3 : ∀ a b : Nat, Nat.lor a b = a ||| b := fun _ _ => rfl
    cases i with
    | zero =>
      injection h with h
      subst h
      show (Nat.lor (Nat.shiftLeft 1 k) (purMask (k + 1) r)).testBit (k + 0) = true
      have e1 : Nat.shiftLeft 1 k = 2 ^ k := by
        show 1 <<< k = _
        rw [Nat.shiftLeft_eq, Nat.one_mul]
      rw [e3, Nat.testBit_or, e1, Nat.testBit_two_pow, decide_eq_true (by omega)]
      rfl
    | succ i =>
      have := ih (k := k + 1) i d v ps h
      rw [show k + 1 + i = k + (i + 1) by omega] at this
      cases it with
      | val d v ps => exact this
      | off d ps => exact this
      | new d t z => exact this
      | pur d v ps =>
        show (Nat.lor (Nat.shiftLeft 1 k) (purMask (k + 1) r)).testBit (k + (i + 1)) = true
        rw [e3, Nat.testBit_or, this, Bool.or_true]
theorem downs_get {k : Nat} {l : List Nat} (hl : downs k l = true) : ∀ j m, l[j]? = some m → ∀ i, m.testBit i = true → i < k + j := by
  induction l generalizing k with
  | nil => intro j m hj; cases hj
  | cons m0 r ih =>
    intro j m hj i hi
    unfold downs at hl
    rw [Bool.and_eq_true] at hl
    cases j with
    | zero =>
      injection hj with hj
      subst hj
      have h1 : m0 < 2 ^ k := by
        have := hl.1
        rw [Nat.blt_eq] at this
        have e1 : Nat.shiftLeft 1 k = 2 ^ k := by
          show 1 <<< k = _
          rw [Nat.shiftLeft_eq, Nat.one_mul]
        rwa [e1] at this
      apply Nat.lt_of_not_le
      intro hk
      have h2 : m0 < 2 ^ i := Nat.lt_of_lt_of_le h1 (Nat.pow_le_pow_right (by omega) hk)
      rw [Nat.testBit_lt_two_pow h2] at hi
      cases hi
    | succ j =>
      have := ih hl.2 j m hj i hi
      omega
/-- The rest, one after another. -/
theorem any_tail (hm : masks ops = ms) (hdn : downs 0 ms = true) {m : Nat} (hl : lineUp ms m m (ms.drop m) = true) : ∀ (fuel k : Nat) (l : Array Bool) (a : Act) (w : World), m ≤ k → k ≤ ops.size → ops.size - k ≤ fuel → l.size = ops.size → (∀ i, i < ops.size → (l.getD i false = true ↔ i < k)) → wpList P ops Q (ops.toList.drop k) a w → wpAny P .any ops Q fuel l a w := by
  have hmsl : ms.length = ops.size := by rw [← hm]; simp [masks]
  have rdy : ∀ (k : Nat) (l : Array Bool), m ≤ k → l.size = ops.size → (∀ i, i < ops.size → (l.getD i false = true ↔ i < k)) → ∀ i ∈ Region.ready .any ops l, i = k ∧ i < ops.size := by
    intro k l hk hs hli i hi
    obtain ⟨h0, o, ho, hall⟩ := mem_ready.1 hi
    have hlt : i < ops.size := (Array.getElem?_eq_some_iff.1 ho).1
    refine ⟨?_, hlt⟩
    have hge : k ≤ i := by
      apply Nat.le_of_not_lt
      intro hik
      have := (hli i hlt).2 hik
      have hl2 : i < l.size := by omega
      simp [Array.getElem?_eq_getElem hl2] at h0 this
      rw [h0] at this
      cases this
    have hd : Down ops l := by
      intro j o' ho' hj x hx hb
      have hjl : j < ops.size := (Array.getElem?_eq_some_iff.1 ho').1
      have hjk := (hli j hjl).1 hj
      have hg := masks_get hm ho'
      have hx2 : (maskOf (waits o')).testBit x.on = true := maskOf_bit.2 (mem_waits.2 ⟨x, hx, hb, rfl⟩)
      have hxl := downs_get hdn j _ hg x.on hx2
      exact (hli x.on (by omega)).2 (by omega)
    apply Nat.le_antisymm _ hge
    apply Nat.le_of_not_lt
    intro hki
    have hg := masks_get hm ho
    have hg2 : (ms.drop m)[i - m]? = some (maskOf (waits o)) := by
      rw [List.getElem?_drop, show m + (i - m) = i by omega]
      exact hg
    have hc := lineUp_get (Nat.le_refl _) hl (i - m) _ hg2 k hk (by omega)
    rw [show m + (i - m) = i by omega] at hc
    have e2 : ms.getD i 0 = maskOf (waits o) := by simp [hg]
    have hc2 := close_listed hm hd hs i (maskOf (waits o)) (fun j hj => ready_waits hm hi j (by rw [e2]; exact hj)) k hc
    have := (hli k (by omega)).1 hc2
    omega
  intro fuel
  induction fuel with
  | zero =>
    intro k l a w hk hk2 hf hs hli hw
    have e : k = ops.size := by omega
    refine ⟨?_, ?_⟩
    · apply List.eq_nil_iff_forall_not_mem.2
      intro i hi
      have := rdy k l hk hs hli i hi
      omega
    · rw [e, List.drop_of_length_le (by simp)] at hw
      exact hw
  | succ fuel ih =>
    intro k l a w hk hk2 hf hs hli hw
    by_cases e : k = ops.size
    · refine ⟨fun _ => ?_, fun i hi => ?_⟩
      · rw [e, List.drop_of_length_le (by simp)] at hw
        exact hw
      · have := rdy k l hk hs hli i hi
        omega
    · have hlt : k < ops.size := by omega
      have hin : k ∈ Region.ready .any ops l := by
        refine mem_ready.2 ⟨?_, ops[k], Array.getElem?_eq_getElem hlt, fun x hx hb => ?_⟩
        · have hn : ¬ l.getD k false = true := fun h => by have := (hli k hlt).1 h; omega
          have hl2 : k < l.size := by omega
          simp [Array.getElem?_eq_getElem hl2] at hn ⊢
          exact hn
        · have hg := masks_get hm (Array.getElem?_eq_getElem hlt)
          have hx2 : (maskOf (waits ops[k])).testBit x.on = true := maskOf_bit.2 (mem_waits.2 ⟨x, hx, hb, rfl⟩)
          have hxl := downs_get hdn k _ hg x.on hx2
          exact (hli x.on (by omega)).2 (by omega)
      refine ⟨(fun h => by rw [h] at hin; cases hin), fun i hi => ?_⟩
      obtain ⟨rfl, _⟩ := rdy k l hk hs hli i hi
      have hgo : ∀ a w, wpList P ops Q (ops.toList.drop (i + 1)) a w → wpAny P .any ops Q fuel (l.setIfInBounds i true) a w := fun a w hw2 => by
        refine ih (i + 1) _ a w (by omega) (by omega) (by omega) (by simpa using hs) (fun j hj => ?_) hw2
        by_cases hij : i = j
        · subst hij
          have : i < l.size := by omega
          simp [this]
        · rw [getD_set_ne false hij, hli j hj]
          omega
      have hdrop : ops.toList.drop i = ops[i] :: ops.toList.drop (i + 1) := by
        rw [List.drop_eq_getElem_cons (by simpa using hlt)]
        simp
      rw [hdrop] at hw
      unfold wpList at hw
      unfold wpOp
      rw [Array.getElem?_eq_getElem hlt]
      dsimp only
      split at hw
      · next hwn =>
        rw [if_pos hwn]
        exact hw.imp (Oper.wp_mono hgo) id
      · next hwn =>
        rw [if_neg hwn]
        exact hgo _ _ hw
/-- What is known in the midst. -/
structure Mid (plan : List Item) (n : Nat) (w0 : World) (e : Env) (h : Hep) (l : Array Bool) (G : Nat → Nat) (a : Act) (w : World) : Prop where
  base : St n w0 a w e h
  vals : ∀ j it, plan[j]? = some it → l.getD j false = true → a.tmps[it.d]? = some (it.out (G j))
  news : ∀ j d (t : TypeId) z, plan[j]? = some (.new d t z) → l.getD j false = true → Blk w (G j) t z ∧ w0.heap.size ≤ G j ∧ ∀ p ∈ h, p.1 ≠ G j
  dist : ∀ j k d t z d' t' z', plan[j]? = some (.new d t z) → plan[k]? = some (.new d' t' z') → l.getD j false = true → l.getD k false = true → j ≠ k → G j ≠ G k
theorem outs_mem {G : Nat → Nat} {k : Nat} {r : List Item} {p : Nat × Value} (hp : p ∈ outs G k r) : ∃ (j : Nat) (it : Item), r[j]? = some it ∧ p = (it.d, it.out (G (k + j))) := by
  induction r generalizing k with
  | nil => cases hp
  | cons it r ih =>
    rcases List.mem_cons.1 hp with rfl | hp
    · exact ⟨0, it, rfl, rfl⟩
    · obtain ⟨j, it', h1, rfl⟩ := ih hp
      exact ⟨j + 1, it', h1, by rw [show k + (j + 1) = k + 1 + j by omega]⟩
theorem newHep_mem {G : Nat → Nat} {k : Nat} {r : List Item} {p : Nat × Tid × Array Value} (hp : p ∈ newHep G k r) : ∃ (j d : Nat) (t : TypeId) (z : Array Value), r[j]? = some (.new d t z) ∧ p = (G (k + j), .ty t, z) := by
  induction r generalizing k with
  | nil => cases hp
  | cons it r ih =>
    have go : p ∈ newHep G (k + 1) r → ∃ (j d : Nat) (t : TypeId) (z : Array Value), (it :: r)[j]? = some (.new d t z) ∧ p = (G (k + j), .ty t, z) := fun hp => by
      obtain ⟨j, d, t, z, h1, rfl⟩ := ih hp
      exact ⟨j + 1, d, t, z, h1, by rw [show k + (j + 1) = k + 1 + j by omega]⟩
    cases it with
    | val d v ps => exact go hp
    | pur d v ps => exact go hp
    | off d ps => exact go hp
    | new d t z =>
      rcases List.mem_cons.1 hp with rfl | hp
      · exact ⟨0, d, t, z, rfl, rfl⟩
      · exact go hp
theorem newHep_pw {G : Nat → Nat} {k : Nat} {r : List Item} (hd : ∀ (i j d : Nat) (t : TypeId) (z : Array Value) (d' : Nat) (t' : TypeId) (z' : Array Value), r[i]? = some (.new d t z) → r[j]? = some (.new d' t' z') → i ≠ j → G (k + i) ≠ G (k + j)) : (newHep G k r).Pairwise (fun p q => p.1 ≠ q.1) := by
  induction r generalizing k with
  | nil => exact List.Pairwise.nil
  | cons it r ih =>
    have go : (newHep G (k + 1) r).Pairwise (fun p q => p.1 ≠ q.1) := ih fun i j d t z d' t' z' h1 h2 hne => by
      have := hd (i + 1) (j + 1) d t z d' t' z' h1 h2 (by omega)
      rw [show k + 1 + i = k + (i + 1) by omega, show k + 1 + j = k + (j + 1) by omega]
      exact this
    cases it with
    | val d v ps => exact go
    | pur d v ps => exact go
    | off d ps => exact go
    | new d t z =>
      refine List.pairwise_cons.2 ⟨fun p hp => ?_, go⟩
      obtain ⟨j, d', t', z', h1, rfl⟩ := newHep_mem hp
      have := hd 0 (j + 1) d t z d' t' z' rfl h1 (by omega)
      rw [show k + 1 + j = k + (j + 1) by omega]
      exact this
theorem Mid.all {l : Array Bool} {G : Nat → Nat} (H : Mid plan n w0 e h l G a w) (hl : ∀ i, i < plan.length → l.getD i false = true) : St n w0 a w (outs G 0 plan ++ e) (newHep G 0 plan ++ h) := by
  have lt : ∀ {j : Nat} {it : Item}, plan[j]? = some it → l.getD j false = true := fun hj => hl _ (List.getElem?_eq_some_iff.1 hj).1
  refine ⟨H.base.size, H.base.defers, fun p hp => ?_, H.base.below, fun p hp => ?_, fun p hp => ?_, List.pairwise_append.2 ⟨newHep_pw fun i j d t z d' t' z' h1 h2 hne => ?_, H.base.apart, fun p hp q hq => ?_⟩⟩
  · rcases List.mem_append.1 hp with hp | hp
    · obtain ⟨j, it, h1, rfl⟩ := outs_mem hp
      rw [Nat.zero_add]
      exact H.vals j it h1 (lt h1)
    · exact H.base.env p hp
  · rcases List.mem_append.1 hp with hp | hp
    · obtain ⟨j, d, t, z, h1, rfl⟩ := newHep_mem hp
      rw [Nat.zero_add]
      exact (H.news j d t z h1 (lt h1)).1
    · exact H.base.heap p hp
  · rcases List.mem_append.1 hp with hp | hp
    · obtain ⟨j, d, t, z, h1, rfl⟩ := newHep_mem hp
      rw [Nat.zero_add]
      exact (H.news j d t z h1 (lt h1)).2.1
    · exact H.base.own p hp
  · rw [Nat.zero_add, Nat.zero_add]
    exact H.dist i j d t z d' t' z' h1 h2 (lt h1) (lt h2) hne
  · obtain ⟨j, d, t, z, h1, rfl⟩ := newHep_mem hp
    rw [Nat.zero_add]
    exact Ne.symm ((H.news j d t z h1 (lt h1)).2.2 q hq)
theorem depE_mem {ps : List Nat} {p : Nat × Value} (hp : p ∈ depE plan ps) : ∃ j ∈ ps, ∃ it : Item, plan[j]? = some it ∧ ∀ g, p = (it.d, it.out g) := by
  induction ps with
  | nil => cases hp
  | cons k r ih =>
    have go : p ∈ depE plan r → ∃ j ∈ k :: r, ∃ it : Item, plan[j]? = some it ∧ ∀ g, p = (it.d, it.out g) := fun hp => by
      obtain ⟨j, hj, it, h1, h2⟩ := ih hp
      exact ⟨j, List.mem_cons_of_mem _ hj, it, h1, h2⟩
    unfold depE at hp
    cases hk : plan[k]? with
    | none => rw [hk] at hp; exact go hp
    | some it =>
      rw [hk] at hp
      cases it with
      | val d v qs =>
        rcases List.mem_cons.1 hp with rfl | hp
        · exact ⟨k, List.mem_cons_self, _, hk, fun _ => rfl⟩
        · exact go hp
      | pur d v qs =>
        rcases List.mem_cons.1 hp with rfl | hp
        · exact ⟨k, List.mem_cons_self, _, hk, fun _ => rfl⟩
        · exact go hp
      | off d qs =>
        rcases List.mem_cons.1 hp with rfl | hp
        · exact ⟨k, List.mem_cons_self, _, hk, fun _ => rfl⟩
        · exact go hp
      | new d t z => exact go hp
/-- The values that one hangs on are there. -/
theorem Mid.deps {l : Array Bool} {G : Nat → Nat} (H : Mid plan n w0 e h l G a w) {ps : List Nat} (hp : ∀ j ∈ ps, l.getD j false = true) : St n w0 a w (depE plan ps ++ e) h := by
  refine ⟨H.base.size, H.base.defers, fun p hq => ?_, H.base.below, H.base.heap, H.base.own, H.base.apart⟩
  rcases List.mem_append.1 hq with hq | hq
  · obtain ⟨j, hj, it, h1, h2⟩ := depE_mem hq
    rw [h2 (G j)]
    exact H.vals j it h1 (hp j hj)
  · exact H.base.env p hq
theorem distinct_get {l : List Nat} (hd : distinct l = true) : ∀ (i j x y : Nat), l[i]? = some x → l[j]? = some y → i ≠ j → x ≠ y := by
  have key : ∀ (l : List Nat), distinct l = true → ∀ (i j x y : Nat), l[i]? = some x → l[j]? = some y → i < j → x ≠ y := by
    intro l
    induction l with
    | nil => intro _ i j x y h1; cases h1
    | cons k r ih =>
      intro hd i j x y h1 h2 hij
      unfold distinct at hd
      rw [Bool.and_eq_true] at hd
      obtain ⟨j, rfl⟩ : ∃ j', j = j' + 1 := ⟨j - 1, by omega⟩
      cases i with
      | zero =>
        injection h1 with h1
        subst h1
        have hy : y ∈ r := List.mem_iff_getElem?.2 ⟨j, h2⟩
        have := List.all_eq_true.1 hd.1 y hy
        intro e
        rw [e, Nat.beq_refl] at this
        cases this
      | succ i => exact ih hd.2 i j x y h1 h2 (by omega)
  intro i j x y h1 h2 hne
  rcases Nat.lt_or_ge i j with hl | hl
  · exact key l hd i j x y h1 h2 hl
  · exact Ne.symm (key l hd j i y x h2 h1 (by omega))
theorem listed_set {l : Array Bool} {i j : Nat} (h : (l.setIfInBounds i true).getD j false = true) (hne : j ≠ i) : l.getD j false = true := by
  rw [getD_set_ne false (Ne.symm hne)] at h
  exact h
/-- One more has come to its value. -/
theorem Mid.put {l : Array Bool} {G : Nat → Nat} (H : Mid plan n w0 e h l G a w) {i : Nat} {it : Item} {v : Value} (hi : plan[i]? = some it) (hv : ∀ g, it.out g = v) (hnew : ∀ d t z, it ≠ .new d t z) (hlt : it.d < n) (he : ∀ p ∈ e, p.1 ≠ it.d)
    (hd : ∀ j jt, plan[j]? = some jt → j ≠ i → jt.d ≠ it.d) (hb : Below w.heap.size w w') : Mid plan n w0 e h (l.setIfInBounds i true) G (a.put (some it.d) v) w' := by
  have hlt' : it.d < a.tmps.size := by rw [H.base.size]; exact hlt
  have keep : ∀ k x, k ≠ it.d → a.tmps[k]? = some x → (a.put (some it.d) v).tmps[k]? = some x := fun k x hne hx => by
    show (a.tmps.setIfInBounds it.d v)[k]? = some x
    rw [Array.getElem?_setIfInBounds_ne (Ne.symm hne)]
    exact hx
  refine ⟨⟨by simp [Act.put, H.base.size], H.base.defers, fun p hp => keep _ _ (he p hp) (H.base.env p hp), H.base.below.trans (hb.mono H.base.below.size), fun p hp => (H.base.heap p hp).below hb (H.base.heap p hp).lt, H.base.own, H.base.apart⟩, fun j jt hj hl => ?_, fun j d t z hj hl => ?_, fun j k d t z d' t' z' hj hk hlj hlk hne => ?_⟩
  · by_cases hji : j = i
    · subst hji
      rw [hi] at hj
      injection hj with hj
      subst hj
      rw [hv]
      show (a.tmps.setIfInBounds it.d v)[it.d]? = some v
      simp [hlt']
    · exact keep _ _ (hd j jt hj hji) (H.vals j jt hj (listed_set hl hji))
  · have hji : j ≠ i := fun e1 => by
      subst e1
      rw [hi] at hj
      injection hj with hj
      exact hnew d t z hj
    obtain ⟨h1, h2, h3⟩ := H.news j d t z hj (listed_set hl hji)
    exact ⟨h1.below hb h1.lt, h2, h3⟩
  · have nj : ∀ k d t z, plan[k]? = some (.new d t z) → k ≠ i := fun k d t z hk e1 => by
      subst e1
      rw [hi] at hk
      injection hk with hk
      exact hnew d t z hk
    exact H.dist j k d t z d' t' z' hj hk (listed_set hlj (nj j d t z hj)) (listed_set hlk (nj k d' t' z' hk)) hne
/-- One more variable. -/
theorem Mid.more {l : Array Bool} {G : Nat → Nat} (H : Mid plan n w0 e h l G a w) {i d : Nat} {t : TypeId} {z : Array Value} (hi : plan[i]? = some (.new d t z)) (hlt : d < n) (he : ∀ p ∈ e, p.1 ≠ d)
    (hd : ∀ j jt, plan[j]? = some jt → j ≠ i → jt.d ≠ d) : Mid plan n w0 e h (l.setIfInBounds i true) (fun j => if j = i then w.heap.size else G j) (a.put (some d) (.pointer (some ⟨w.heap.size, 0, none⟩))) (w.alloc (.cells z t)) := by
  have hlt' : d < a.tmps.size := by rw [H.base.size]; exact hlt
  have keep : ∀ k x, k ≠ d → a.tmps[k]? = some x → (a.put (some d) (.pointer (some ⟨w.heap.size, 0, none⟩))).tmps[k]? = some x := fun k x hne hx => by
    show (a.tmps.setIfInBounds d _)[k]? = some x
    rw [Array.getElem?_setIfInBounds_ne (Ne.symm hne)]
    exact hx
  refine ⟨⟨by simp [Act.put, H.base.size], H.base.defers, fun p hp => keep _ _ (he p hp) (H.base.env p hp), H.base.below.alloc H.base.below.size _, fun p hp => (H.base.heap p hp).alloc _, H.base.own, H.base.apart⟩, fun j jt hj hl => ?_, fun j d' t' z' hj hl => ?_, fun j k d1 t1 z1 d2 t2 z2 hj hk hlj hlk hne => ?_⟩
  · by_cases hji : j = i
    · subst hji
      rw [hi] at hj
      injection hj with hj
      subst hj
      rw [if_pos rfl]
      show (a.tmps.setIfInBounds d _)[d]? = some _
      simp [hlt', Item.out]
    · rw [if_neg hji]
      exact keep _ _ (hd j jt hj hji) (H.vals j jt hj (listed_set hl hji))
  · by_cases hji : j = i
    · subst hji
      rw [hi] at hj
      injection hj with hj
      injection hj with h1 h2 h3
      subst h1 h2 h3
      rw [if_pos rfl]
      exact ⟨Blk.new _ _ _, H.base.below.size, fun p hp => Nat.ne_of_lt (H.base.heap p hp).lt⟩
    · rw [if_neg hji]
      obtain ⟨h1, h2, h3⟩ := H.news j d' t' z' hj (listed_set hl hji)
      exact ⟨h1.alloc _, h2, h3⟩
  · by_cases hji : j = i
    · by_cases hki : k = i
      · omega
      · rw [if_pos hji, if_neg hki]
        have := (H.news k d2 t2 z2 hk (listed_set hlk hki)).1.lt
        omega
    · by_cases hki : k = i
      · rw [if_neg hji, if_pos hki]
        have := (H.news j d1 t1 z1 hj (listed_set hlj hji)).1.lt
        omega
      · rw [if_neg hji, if_neg hki]
        exact H.dist j k d1 t1 z1 d2 t2 z2 hj hk (listed_set hlj hji) (listed_set hlk hki) hne
theorem Obs_get {os : List Oper} {r : List Item} (ho : Obs P ops Q n w0 e h plan os r) : ∀ (j : Nat) (o : Oper) (it : Item), os[j]? = some o → r[j]? = some it → it.ob P ops Q n w0 e h plan o := by
  induction os generalizing r with
  | nil => intro j o it h1; cases h1
  | cons o0 os ih =>
    cases r with
    | nil => intro j o it _ h2; cases h2
    | cons it0 r =>
      intro j o it h1 h2
      obtain ⟨ho1, ho2⟩ := ho
      cases j with
      | zero =>
        injection h1 with h1
        injection h2 with h2
        subst h1 h2
        exact ho1
      | succ j => exact ih ho2 j o it h1 h2
theorem dstOk_get {os : List Oper} {r : List Item} (hd : dstOk os r = true) : ∀ (j : Nat) (o : Oper) (it : Item), os[j]? = some o → r[j]? = some it → o.dst = some it.d := by
  induction os generalizing r with
  | nil => intro j o it h1; cases h1
  | cons o0 os ih =>
    cases r with
    | nil => intro j o it _ h2; cases h2
    | cons it0 r =>
      intro j o it h1 h2
      unfold dstOk at hd
      rw [Bool.and_eq_true] at hd
      cases j with
      | zero =>
        injection h1 with h1
        injection h2 with h2
        subst h1 h2
        have := hd.1
        cases hdst : o0.dst with
        | none => rw [hdst] at this; cases this
        | some d =>
          rw [hdst] at this
          rw [Nat.eq_of_beq_eq_true this]
      | succ j => exact ih hd.2 j o it h1 h2
theorem psOk_get {l : List Nat} {r : List Item} (hp : psOk l r = true) : ∀ (j m : Nat) (it : Item), l[j]? = some m → r[j]? = some it → ∀ k ∈ it.ps, m.testBit k = true := by
  induction l generalizing r with
  | nil => intro j m it h1; cases h1
  | cons m0 l ih =>
    cases r with
    | nil => intro j m it _ h2; cases h2
    | cons it0 r =>
      intro j m it h1 h2 k hk
      unfold psOk at hp
      rw [Bool.and_eq_true] at hp
      cases j with
      | zero =>
        injection h1 with h1
        injection h2 with h2
        subst h1 h2
        exact List.all_eq_true.1 hp.1 k hk
      | succ j => exact ih hp.2 j m it h1 h2 k hk
/-- How many of the first m have not come. -/
def left (l : Array Bool) : Nat → Nat
  | 0 => 0
  | m + 1 => left l m + (if l.getD m false = true then 0 else 1)
theorem left_le (l : Array Bool) : ∀ m, left l m ≤ m
  | 0 => Nat.le_refl _
  | m + 1 => by
    have := left_le l m
    unfold left
    split <;> omega
theorem left_zero {l : Array Bool} : ∀ {m : Nat}, left l m = 0 → ∀ i, i < m → l.getD i false = true
  | 0, _, i, hi => absurd hi (by omega)
  | m + 1, h, i, hi => by
    unfold left at h
    by_cases hm : l.getD m false = true
    · rw [if_pos hm] at h
      by_cases e1 : i = m
      · rw [e1]; exact hm
      · exact left_zero (m := m) (by omega) i (by omega)
    · rw [if_neg hm] at h
      omega
theorem left_mono {l : Array Bool} {i : Nat} : ∀ m, left (l.setIfInBounds i true) m ≤ left l m
  | 0 => Nat.le_refl _
  | m + 1 => by
    have := left_mono (l := l) (i := i) m
    unfold left
    by_cases hm : l.getD m false = true
    · rw [if_pos hm, if_pos (getD_set_true hm)]
      omega
    · rw [if_neg hm]
      split <;> omega
theorem left_set {l : Array Bool} {i : Nat} (hs : i < l.size) (hu : ¬ l.getD i false = true) : ∀ m, i < m → left (l.setIfInBounds i true) m + 1 ≤ left l m
  | 0, h => absurd h (by omega)
  | m + 1, h => by
    unfold left
    by_cases e1 : i = m
    · subst e1
      have := left_mono (l := l) (i := i) i
      rw [if_neg hu, if_pos (by simp [hs])]
      omega
    · have := left_set hs hu m (by omega)
      rw [getD_set_ne false e1]
      omega
theorem first_left {l : Array Bool} : ∀ m, (∃ i, i < m ∧ ¬ l.getD i false = true) → ∃ i, i < m ∧ ¬ l.getD i false = true ∧ ∀ j, j < i → l.getD j false = true
  | 0, ⟨i, hi, _⟩ => absurd hi (by omega)
  | m + 1, ⟨i, hi, hu⟩ => by
    by_cases h : ∃ i, i < m ∧ ¬ l.getD i false = true
    · obtain ⟨j, h1, h2, h3⟩ := first_left m h
      exact ⟨j, by omega, h2, h3⟩
    · have hall : ∀ j, j < m → l.getD j false = true := fun j hj => Classical.byContradiction fun hn => h ⟨j, hj, hn⟩
      have e1 : i = m := by
        apply Nat.le_antisymm (by omega)
        apply Nat.le_of_not_lt
        intro hlt
        exact hu (hall i hlt)
      subst e1
      exact ⟨i, hi, hu, hall⟩
theorem down_set {l : Array Bool} {i : Nat} (hd : Down ops l) (hr : i ∈ Region.ready .any ops l) : Down ops (l.setIfInBounds i true) := by
  intro j o ho hj x hx hb
  by_cases e1 : j = i
  · subst e1
    obtain ⟨_, o', ho', hall⟩ := mem_ready.1 hr
    rw [ho] at ho'
    injection ho' with ho'
    subst ho'
    exact getD_set_true (hall x hx hb)
  · exact getD_set_true (hd j o ho (listed_set hj e1) x hx hb)
theorem not_listed {l : Array Bool} {i : Nat} (hr : i ∈ Region.ready .any ops l) : ¬ l.getD i false = true := by
  intro hl
  have h0 := (mem_ready.1 hr).1
  have := size_of_listed hl
  simp [Array.getElem?_eq_getElem this] at h0 hl
  rw [h0] at hl
  cases hl
/-- The slots that one hangs on, in whatever world. -/
theorem Mid.slots {l : Array Bool} {G : Nat → Nat} (H : Mid plan n w0 e h l G a w) {ps : List Nat} (hp : ∀ j ∈ ps, l.getD j false = true) (W : World) : St n W a W (depE plan ps ++ e) [] :=
  ⟨H.base.size, H.base.defers, (H.deps hp).env, Below.refl _ _, (fun p hp => by cases hp), (fun p hp => by cases hp), List.Pairwise.nil⟩
theorem free_all {i : Nat} {oi : Oper} {l : Array Bool} {S : Nat} (hi : ops[i]? = some oi) (hf : Region.free .any ops (maskArr ops.size S) i = true) (hS : ∀ j, S.testBit j = true → l.getD j false = true) : ∀ j oj, ops[j]? = some oj → j ≠ i → l.getD j true = false → (∀ x ∈ oj.after, Region.binds .any x = true → x.on ≠ i) → oi.apart ops oj = true := fun j oj hj hne hun hno => by
  refine Region.free_spec hi hf j oj hj hne ?_ hno
  have hlt : j < ops.size := (Array.getElem?_eq_some_iff.1 hj).1
  have hb : S.testBit j = false := by
    cases hb : S.testBit j with
    | false => rfl
    | true =>
      have hl := hS j hb
      have := size_of_listed hl
      simp [Array.getElem?_eq_getElem this] at hl hun
      rw [hun] at hl
      cases hl
  unfold maskArr
  simp [hlt, hb]
theorem any_plan (hQ : ∀ (d : Nat) (v : Value) c a w, Q (.panic c) (a.put (some d) v) w → Q (.panic c) a w) (hm : masks ops = ms) (hk : planOk ops n e plan ms = true) (ho : Obs P ops Q n w0 e h plan ops.toList plan)
    (tail : ∀ (G : Nat → Nat) a w, St n w0 a w (outs G 0 plan ++ e) (newHep G 0 plan ++ h) → wpList P ops Q (ops.toList.drop plan.length) a w) :
    ∀ (fuel : Nat) (l : Array Bool) (a : Act) (w : World) (G : Nat → Nat), l.size = ops.size → Down ops l → (∀ i, plan.length ≤ i → ¬ l.getD i false = true) → ops.size - plan.length + left l plan.length ≤ fuel → Mid plan n w0 e h l G a w → wpAny P .any ops Q fuel l a w := by
  unfold planOk at hk
  simp only [Bool.and_eq_true] at hk
  obtain ⟨⟨⟨⟨⟨⟨⟨⟨k1, k2⟩, k3⟩, k4⟩, k5⟩, k6⟩, k7⟩, k8⟩, k9⟩ := hk
  have hlen : plan.length ≤ ops.size := Nat.le_of_ble_eq_true k1
  have hmsl : ms.length = ops.size := by rw [← hm]; simp [masks]
  have after_all : ∀ (l : Array Bool) (i : Nat), l.size = ops.size → Down ops l → (∀ i, plan.length ≤ i → ¬ l.getD i false = true) → (∀ j ∈ Region.ready .any ops l, ∀ d v ps, plan[j]? ≠ some (.pur d v ps)) → i ∈ Region.ready .any ops l → plan.length ≤ i → ∀ j, j < plan.length → l.getD j false = true := by
    intro l i hs hd hB hnp hr hge
    obtain ⟨_, o, hoo, _⟩ := mem_ready.1 hr
    have hilt : i < ops.size := (Array.getElem?_eq_some_iff.1 hoo).1
    have hg := masks_get hm hoo
    have e2 : ms.getD i 0 = maskOf (waits o) := by simp [hg]
    have hlist : ∀ j, (closeM ms i (maskOf (waits o))).testBit j = true → l.getD j false = true := fun j hc => close_listed hm hd hs i (maskOf (waits o)) (fun j hj => ready_waits hm hr j (by rw [e2]; exact hj)) j hc
    have hg2 : (ms.drop plan.length)[i - plan.length]? = some (maskOf (waits o)) := by
      rw [List.getElem?_drop, show plan.length + (i - plan.length) = i by omega]
      exact hg
    have him : i = plan.length := by
      apply Nat.le_antisymm _ hge
      apply Nat.le_of_not_lt
      intro hlt
      have hc := lineUp_get (Nat.le_refl _) k7 (i - plan.length) _ hg2 plan.length (Nat.le_refl _) (by omega)
      rw [show plan.length + (i - plan.length) = i by omega] at hc
      exact hB plan.length (Nat.le_refl _) (hlist _ hc)
    subst him
    have hdr : ms.drop plan.length = maskOf (waits o) :: ms.drop (plan.length + 1) := by
      have hlt2 : plan.length < ms.length := by omega
      rw [List.drop_eq_getElem_cons hlt2]
      congr 1
      rw [List.getElem?_eq_getElem hlt2] at hg
      exact Option.some.inj hg
    rw [hdr] at k8
    unfold headOk at k8
    rw [Bool.and_eq_true] at k8
    intro j
    induction j using Nat.strongRecOn with
    | _ j ih =>
      intro hj
      have hbit : (Nat.shiftLeft 1 plan.length - 1).testBit j = true := by rw [low_bit]; exact decide_eq_true hj
      rcases lor_get (sub2_get k8.1 hbit) with h1 | h1
      · exact hlist j h1
      · apply Classical.byContradiction
        intro hu
        have hjo : j < ops.size := by omega
        have hgj := masks_get hm (Array.getElem?_eq_getElem hjo)
        have e3 : ms.getD j 0 = maskOf (waits ops[j]) := by simp [hgj]
        have hsub := List.all_eq_true.1 k8.2 j (List.mem_range.2 hj)
        rw [h1] at hsub
        have hsub : sub2 (ms.getD j 0) (Nat.lor (closeM ms plan.length (maskOf (waits o))) (purMask 0 plan)) = true := by simpa using hsub
        have hrj : j ∈ Region.ready .any ops l := by
          refine mem_ready.2 ⟨?_, ops[j], Array.getElem?_eq_getElem hjo, fun x hx hb => ?_⟩
          · have hl2 : j < l.size := by omega
            simp [Array.getElem?_eq_getElem hl2] at hu ⊢
            exact hu
          · have hx2 : (maskOf (waits ops[j])).testBit x.on = true := maskOf_bit.2 (mem_waits.2 ⟨x, hx, hb, rfl⟩)
            have hxl := downs_get k2 j _ hgj x.on hx2
            exact ih x.on (by omega) (by omega)
        obtain ⟨i', d, v, ps, e4, h4⟩ := purMask_get j h1
        rw [Nat.zero_add] at e4
        subst e4
        exact hnp j hrj d v ps h4
  have fin : ∀ (fuel : Nat) (l : Array Bool) (a : Act) (w : World) (G : Nat → Nat), l.size = ops.size → (∀ i, plan.length ≤ i → ¬ l.getD i false = true) → (∀ j, j < plan.length → l.getD j false = true) → ops.size - plan.length ≤ fuel → Mid plan n w0 e h l G a w → wpAny P .any ops Q fuel l a w := by
    intro fuel l a w G hs hB hall hf H
    refine any_tail hm k2 k7 fuel plan.length l a w (Nat.le_refl _) hlen hf hs (fun i hi => ⟨fun h1 => ?_, fun h1 => hall i h1⟩) (tail G a w (H.all hall))
    exact Classical.byContradiction fun hn => hB i (by omega) h1
  intro fuel
  induction fuel with
  | zero =>
    intro l a w G hs hd hB hf H
    exact fin 0 l a w G hs hB (left_zero (by omega)) (by omega) H
  | succ fuel ih =>
    intro l a w G hs hd hB hf H
    by_cases hall : ∀ j, j < plan.length → l.getD j false = true
    · exact fin _ l a w G hs hB hall (by omega) H
    by_cases hpur : ∃ i ∈ Region.ready .any ops l, ∃ d v ps, plan[i]? = some (.pur d v ps)
    · obtain ⟨i, hr, d, v, ps, hit⟩ := hpur
      have hilt : i < plan.length := (List.getElem?_eq_some_iff.1 hit).1
      have hios : i < ops.size := by omega
      have hoi : ops[i]? = some ops[i] := Array.getElem?_eq_getElem hios
      have hoi2 : ops.toList[i]? = some ops[i] := by simp [hios]
      have hu := not_listed hr
      obtain ⟨hrun, hgd⟩ := Obs_get ho i _ _ hoi2 hit
      have hdst : ops[i].dst = some d := dstOk_get k4 i _ _ hoi2 hit
      have hg := masks_get hm hoi
      have e2 : ms.getD i 0 = maskOf (waits ops[i]) := by simp [hg]
      have hps : ∀ j ∈ ps, l.getD j false = true := fun j hj => ready_waits hm hr j (by rw [e2]; exact psOk_get k3 i _ _ hg hit j hj)
      have h6 := List.all_eq_true.1 k6 _ (List.mem_iff_getElem?.2 ⟨i, hit⟩)
      rw [Bool.and_eq_true] at h6
      have hdn : d < n := by
        have := h6.1
        rw [Nat.blt_eq] at this
        exact this
      have hen : ∀ p ∈ e, p.1 ≠ d := fun p hp e1 => by
        have := List.all_eq_true.1 h6.2 p hp
        rw [e1] at this
        simp [Item.d] at this
      have hdd : ∀ j jt, plan[j]? = some jt → j ≠ i → jt.d ≠ d := fun j jt hj hne =>
        distinct_get k5 j i jt.d d (by rw [List.getElem?_map, hj]; rfl) (by rw [List.getElem?_map, hit]; rfl) hne
      have hbit := purMask_has (k := 0) i d v ps hit
      rw [Nat.zero_add] at hbit
      unfold purFree at k9
      rw [Bool.and_eq_true] at k9
      have hfr : Region.free .any ops (maskArr ops.size (closeM ms i (ms.getD i 0))) i = true := by
        have := List.all_eq_true.1 k9.1 i (List.mem_range.2 hilt)
        rw [hbit] at this
        simpa using this
      have hns : Region.noSelect ops = true := by
        have h9 := k9.2
        rw [Bool.or_eq_true] at h9
        rcases h9 with h9 | h9
        · have := Nat.eq_of_beq_eq_true h9
          rw [this] at hbit
          simp at hbit
        · exact h9
      refine wpAny_first hoi (Region.noSelect_spec hns) (v := v) (fun c a w hq => ?_) fuel l a w (free_all hoi hfr (close_listed hm hd hs i _ (ready_waits hm hr))) hr (.inl ⟨by simp [Region.wanted, hgd], fun W => hrun W a W (H.slots hps W)⟩) ?_
      · rw [hdst] at hq
        exact hQ d v c a w hq
      · rw [hdst]
        refine ih _ _ _ G (by simpa using hs) (down_set hd hr) (fun j hj hl => hB j hj (listed_set hl (by omega))) ?_ (H.put hit (fun _ => rfl) (fun _ _ _ hc => by cases hc) hdn hen hdd (Below.refl _ _))
        have := left_set (l := l) (i := i) (by omega) hu plan.length hilt
        omega
    · have hnp : ∀ j ∈ Region.ready .any ops l, ∀ d v ps, plan[j]? ≠ some (.pur d v ps) := fun j hj d v ps hc => hpur ⟨j, hj, d, v, ps, hc⟩
      have hex : ∃ i, i < plan.length ∧ ¬ l.getD i false = true := Classical.byContradiction fun hn => hall fun j hj => Classical.byContradiction fun hu => hn ⟨j, hj, hu⟩
      obtain ⟨i0, hi0, hu0, hlow⟩ := first_left _ hex
      refine ⟨fun hnil => ?_, fun i hr => ?_⟩
      · exfalso
        have hlt : i0 < ops.size := by omega
        have hin : i0 ∈ Region.ready .any ops l := by
          refine mem_ready.2 ⟨?_, ops[i0], Array.getElem?_eq_getElem hlt, fun x hx hb => hlow _ ?_⟩
          · have hl2 : i0 < l.size := by omega
            simp [Array.getElem?_eq_getElem hl2] at hu0 ⊢
            exact hu0
          · have hg := masks_get hm (Array.getElem?_eq_getElem hlt)
            have hx2 : (maskOf (waits ops[i0])).testBit x.on = true := maskOf_bit.2 (mem_waits.2 ⟨x, hx, hb, rfl⟩)
            have := downs_get k2 i0 _ hg x.on hx2
            omega
        rw [hnil] at hin
        cases hin
      · have hu := not_listed hr
        have hilt : i < plan.length := by
          apply Nat.lt_of_not_le
          intro hge
          exact hu0 (after_all l i hs hd hB hnp hr hge i0 hi0)
        have hios : i < ops.size := by omega
        have hit : plan[i]? = some plan[i] := List.getElem?_eq_getElem hilt
        have hoi : ops[i]? = some ops[i] := Array.getElem?_eq_getElem hios
        have hoi2 : ops.toList[i]? = some ops[i] := by simp [hios]
        have hob := Obs_get ho i _ _ hoi2 hit
        have hdst := dstOk_get k4 i _ _ hoi2 hit
        have hg := masks_get hm hoi
        have e2 : ms.getD i 0 = maskOf (waits ops[i]) := by simp [hg]
        have hps : ∀ j ∈ plan[i].ps, l.getD j false = true := fun j hj => ready_waits hm hr j (by rw [e2]; exact psOk_get k3 i _ _ hg hit j hj)
        have h6 := List.all_eq_true.1 k6 _ (List.getElem_mem hilt)
        rw [Bool.and_eq_true] at h6
        have hdn : plan[i].d < n := by
          have := h6.1
          rw [Nat.blt_eq] at this
          exact this
        have hen : ∀ p ∈ e, p.1 ≠ plan[i].d := fun p hp e1 => by
          have := List.all_eq_true.1 h6.2 p hp
          rw [e1, Nat.beq_refl] at this
          cases this
        have hdd : ∀ j jt, plan[j]? = some jt → j ≠ i → jt.d ≠ plan[i].d := fun j jt hj hne =>
          distinct_get k5 j i jt.d plan[i].d (by rw [List.getElem?_map, hj]; rfl) (by rw [List.getElem?_map, hit]; rfl) hne
        have hs2 : (l.setIfInBounds i true).size = ops.size := by simpa using hs
        have hd2 := down_set hd hr
        have hB2 : ∀ j, plan.length ≤ j → ¬ (l.setIfInBounds i true).getD j false = true := fun j hj hl => hB j hj (listed_set hl (by omega))
        have hf2 : ops.size - plan.length + left (l.setIfInBounds i true) plan.length ≤ fuel := by
          have := left_set (l := l) (i := i) (by omega) hu plan.length hilt
          omega
        unfold wpOp
        rw [hoi]
        dsimp only
        generalize hI : plan[i] = it at *
        cases it with
        | val d v ps =>
          obtain ⟨hdo, hw⟩ := hob
          have hst := H.deps hps
          rw [hw _ _ hst, if_pos rfl]
          refine .inl (Oper.wp_mono (fun a' w' hx => ?_) (hdo _ _ hst))
          obtain ⟨rfl, hb⟩ := hx
          rw [hdst]
          exact ih _ _ _ G hs2 hd2 hB2 hf2 (H.put hit (fun _ => rfl) (fun _ _ _ hc => by cases hc) hdn hen hdd hb)
        | pur d v ps => exact absurd hit (hnp i hr d v ps)
        | off d ps =>
          have hst := H.deps hps
          rw [hob _ _ hst]
          rw [hdst]
          exact ih _ _ _ G hs2 hd2 hB2 hf2 (H.put hit (fun _ => rfl) (fun _ _ _ hc => by cases hc) hdn hen hdd (Below.refl _ _))
        | new d t z =>
          obtain ⟨hn, hgd⟩ := hob
          have hw : Region.wanted ops[i] (yielded ops a.tmps) = true := by simp [Region.wanted, hgd]
          rw [hw, if_pos rfl]
          left
          unfold Oper.wp
          rw [hn a w]
          show wpAny P .any ops Q fuel (l.setIfInBounds i true) (a.put ops[i].dst _) (w.alloc (.cells z t))
          rw [hdst]
          exact ih _ _ _ _ hs2 hd2 hB2 hf2 (H.more hit hdn hen hdd)
/-- **The region.** -/
theorem drawn {id : Nat} (plan : List Item) (ms : List Nat) (hQ : ∀ (d : Nat) (v : Value) c a w, Q (.panic c) (a.put (some d) v) w → Q (.panic c) a w) (hf : P.follows .mixedOrders = true) (hm : masks ops = ms) (hk : planOk ops n e plan ms = true) (H : St n w0 a w e h) (ho : Obs P ops Q n w0 e h plan ops.toList plan)
    (tail : ∀ (G : Nat → Nat) a w, St n w0 a w (outs G 0 plan ++ e) (newHep G 0 plan ++ h) → wpList P ops Q (ops.toList.drop plan.length) a w) : (Code.region id ops true).wp P Q a w := by
  refine wp_region_any hf ?_
  have none_ : ∀ i, ¬ (Array.replicate ops.size false).getD i false = true := fun i hi => by
    by_cases h : i < ops.size
    · simp [h] at hi
    · simp [h] at hi
  have hlen : plan.length ≤ ops.size := by
    unfold planOk at hk
    simp only [Bool.and_eq_true] at hk
    exact Nat.le_of_ble_eq_true hk.1.1.1.1.1.1.1.1
  refine any_plan hQ hm hk ho tail ops.size _ a w.drew (fun _ => 0) (by simp) (fun i o _ hi => absurd hi (none_ i)) (fun i _ => none_ i) ?_ ⟨H.drew, fun j _ _ hj => absurd hj (none_ j), fun j _ _ _ _ hj => absurd hj (none_ j), fun j _ _ _ _ _ _ _ _ _ hj => absurd hj (none_ j)⟩
  have := left_le (Array.replicate ops.size false) plan.length
  omega
end
end Go.Proofs.Ytiebelmglchbdaa
