/- Walks told by slots and blocks: a region that draws its order, of operations that leave what was there: what each comes to is told by what holds of it, whatever world it comes in (drawnF); the same in the text's order (pl_F); copies. No dump is imported. -/
import Derived.Test.YtiebelmglchbdaaVh
import Derived.Laws.CopyRow
namespace Go.Proofs.Ytiebelmglchbdaa
set_option linter.unusedVariables false
set_option linter.unusedSimpArgs false
open Go Go.RowKit

/-- One operation: its slot, what holds of its value, which operations' values it hangs on. -/
structure Fct where
  d : Nat
  F : Value → World → Prop
  ps : List Nat
  /-- It need not hold any more once this operation has come. -/
  til : Option Nat := none
  /-- It writes on what an operation before it has made. -/
  own : Bool := false
/-- What is known where the values of some operations are there. -/
def Chain (plan : List Fct) (w : World) (K : Env → Prop) : List Nat → Env → Prop
  | [], e => K e
  | j :: r, e => match plan[j]? with
    | some it => ∀ v, it.F v w → Chain plan w K r ((it.d, v) :: e)
    | none => Chain plan w K r e
abbrev Rel := World → World → Prop
/-- How the world turns by it: R; by what writes: R'. -/
def Fct.rel (R R' : Rel) (it : Fct) : Rel := bif it.own then R' else R
def Fct.ob (P : Program) (R R' : Rel) (ops : Array Oper) (Q : Exit → Act → World → Prop) (n : Nat) (w0 : World) (e : Env) (h : Hep) (plan : List Fct) (o : Oper) (it : Fct) : Prop :=
  (∀ a w, Chain plan w (fun e' => St n w0 a w e' h → Region.wanted o (yielded ops a.tmps) = true ∧ o.wp P a w (fun a' w' => ∃ v, a' = a.put o.dst v ∧ it.rel R R' w w' ∧ it.F v w') Q) it.ps e) ∧ (∀ v w w', it.F v w → R w w' → it.F v w') ∧ (it.til = none → ∀ v w w', it.F v w → R' w w' → it.F v w')
def ObsF (P : Program) (R R' : Rel) (ops : Array Oper) (Q : Exit → Act → World → Prop) (n : Nat) (w0 : World) (e : Env) (h : Hep) (plan : List Fct) : List Oper → List Fct → Prop
  | o :: os, it :: r => it.ob P R R' ops Q n w0 e h plan o ∧ ObsF P R R' ops Q n w0 e h plan os r
  | _, _ => True
def psOkF : List Nat → List Fct → Bool
  | m :: ms, it :: r => it.ps.all (fun j => Nat.testBit m j) && psOkF ms r
  | _, [] => true
  | [], _ :: _ => false
def dstOkF : List Oper → List Fct → Bool
  | o :: os, it :: r => (match o.dst with | some d => Nat.beq d it.d | none => false) && dstOkF os r
  | _, [] => true
  | [], _ :: _ => false
def headOkF (ms : List Nat) (m : Nat) : List Nat → Bool
  | [] => true
  | x :: _ => sub2 (Nat.shiftLeft 1 m - 1) (closeM ms m x)
/-- What one hangs on holds till it comes. -/
def tilOk (plan : List Fct) (i : Nat) (j : Nat) : Bool := match plan[j]? with
  | some jt => (match jt.til with | none => true | some k => Nat.beq k i)
  | none => true
/-- What holds for a while alone does not, or no more, when another one writes. -/
def ownOk (ms : List Nat) (plan : List Fct) (i : Nat) : Bool := (List.range plan.length).all fun j => match plan[j]? with
  | some jt => (match jt.til with | none => true | some k => Nat.beq k i || Nat.beq j i || Nat.testBit (closeM ms i (ms.getD i 0)) k || Nat.testBit (closeM ms j (ms.getD j 0)) i)
  | none => true
def lastOk (ms : List Nat) (plan : List Fct) : Bool := (List.range plan.length).all fun i => match plan[i]? with
  | some it => it.ps.all (tilOk plan i) && (!it.own || ownOk ms plan i)
  | none => true
def planOkF (ops : Array Oper) (n : Nat) (e : Env) (plan : List Fct) (ms : List Nat) : Bool :=
  Nat.ble plan.length ops.size && downs 0 ms && psOkF ms plan && dstOkF ops.toList plan && distinct (plan.map (·.d)) && plan.all (fun it => Nat.blt it.d n && e.all (fun p => !Nat.beq p.1 it.d)) && lineUp ms plan.length plan.length (ms.drop plan.length) && headOkF ms plan.length (ms.drop plan.length) && lastOk ms plan
section
variable {P : Program} {n : Nat} {w0 w w' : World} {a : Act} {e : Env} {h : Hep} {Q : Exit → Act → World → Prop} {ops : Array Oper} {plan : List Fct} {ms : List Nat} {rest : List Oper} {o : Oper} {R R' : Rel}
structure MidF (plan : List Fct) (n : Nat) (w0 : World) (e : Env) (h : Hep) (l : Array Bool) (a : Act) (w : World) : Prop where
  base : St n w0 a w e h
  vals : ∀ (j : Nat) (it : Fct), plan[j]? = some it → l.getD j false = true → (∀ k, it.til = some k → ¬ l.getD k false = true) → ∃ v, a.tmps[it.d]? = some v ∧ it.F v w
theorem Chain.get {K : Env → Prop} {ps : List Nat} (hv : ∀ j ∈ ps, ∀ (it : Fct), plan[j]? = some it → ∃ v, a.tmps[it.d]? = some v ∧ it.F v w) : ∀ {e : Env}, Chain plan w K ps e → St n w0 a w e h → ∃ e', K e' ∧ St n w0 a w e' h := by
  induction ps with
  | nil => intro e hc he; exact ⟨e, hc, he⟩
  | cons j r ih =>
    intro e hc he
    unfold Chain at hc
    have hr : ∀ j ∈ r, ∀ (it : Fct), plan[j]? = some it → ∃ v, a.tmps[it.d]? = some v ∧ it.F v w := fun k hk => hv k (List.mem_cons_of_mem _ hk)
    cases hj : plan[j]? with
    | none =>
      rw [hj] at hc
      exact ih hr hc he
    | some it =>
      rw [hj] at hc
      obtain ⟨v, h1, h2⟩ := hv j List.mem_cons_self it hj
      refine ih hr (hc v h2) ⟨he.size, he.defers, fun p hp => ?_, he.below, he.heap, he.own, he.apart⟩
      rcases List.mem_cons.1 hp with rfl | hp
      · exact h1
      · exact he.env p hp
theorem MidF.put {l : Array Bool} (H : MidF plan n w0 e h l a w) {i : Nat} {it : Fct} {v : Value} (hi : plan[i]? = some it) (hlt : it.d < n) (he : ∀ p ∈ e, p.1 ≠ it.d)
    (hd : ∀ (j : Nat) (jt : Fct), plan[j]? = some jt → j ≠ i → jt.d ≠ it.d)
    (hst : ∀ (j : Nat) (jt : Fct), plan[j]? = some jt → j ≠ i → l.getD j false = true → (∀ k, jt.til = some k → ¬ (l.setIfInBounds i true).getD k false = true) → ∀ (v : Value), jt.F v w → jt.F v w')
    (hb : St n w0 a w' e h) (hF : it.F v w') : MidF plan n w0 e h (l.setIfInBounds i true) (a.put (some it.d) v) w' := by
  have hlt' : it.d < a.tmps.size := by rw [H.base.size]; exact hlt
  have keep : ∀ k x, k ≠ it.d → a.tmps[k]? = some x → (a.put (some it.d) v).tmps[k]? = some x := fun k x hne hx => by
    show (a.tmps.setIfInBounds it.d v)[k]? = some x
    rw [Array.getElem?_setIfInBounds_ne (Ne.symm hne)]
    exact hx
  refine ⟨⟨by simp [Act.put, H.base.size], H.base.defers, fun p hp => keep _ _ (he p hp) (H.base.env p hp), hb.below, hb.heap, hb.own, hb.apart⟩, fun j jt hj hl ht => ?_⟩
  by_cases hji : j = i
  · subst hji
    rw [hi] at hj
    injection hj with hj
    subst hj
    refine ⟨v, ?_, hF⟩
    show (a.tmps.setIfInBounds it.d v)[it.d]? = some v
    simp [hlt']
  · have hl' := listed_set hl hji
    obtain ⟨u, h1, h2⟩ := H.vals j jt hj hl' (fun k hk h3 => ht k hk (getD_set_true h3))
    exact ⟨u, keep _ _ (hd j jt hj hji) h1, hst j jt hj hji hl' ht _ h2⟩
theorem ObsF_get {os : List Oper} {r : List Fct} (ho : ObsF P R R' ops Q n w0 e h plan os r) : ∀ (j : Nat) (o : Oper) (it : Fct), os[j]? = some o → r[j]? = some it → it.ob P R R' ops Q n w0 e h plan o := by
  induction os generalizing r with
  | nil => intro j o it h1; cases h1
  | cons o0 os ih =>
    cases r with
    | nil => intro j o it _ h2; cases h2
    | cons it0 r =>
      intro j o it h1 h2
      obtain ⟨ho1, ho2⟩ := ho
      cases j with
      | zero =>
        injection h1 with h1
        injection h2 with h2
        subst h1 h2
        exact ho1
      | succ j => exact ih ho2 j o it h1 h2
theorem dstOkF_get {os : List Oper} {r : List Fct} (hd : dstOkF os r = true) : ∀ (j : Nat) (o : Oper) (it : Fct), os[j]? = some o → r[j]? = some it → o.dst = some it.d := by
  induction os generalizing r with
  | nil => intro j o it h1; cases h1
  | cons o0 os ih =>
    cases r with
    | nil => intro j o it _ h2; cases h2
    | cons it0 r =>
      intro j o it h1 h2
      unfold dstOkF at hd
      rw [Bool.and_eq_true] at hd
      cases j with
      | zero =>
        injection h1 with h1
        injection h2 with h2
        subst h1 h2
        have := hd.1
        cases hdst : o0.dst with
        | none => rw [hdst] at this; cases this
        | some d =>
          rw [hdst] at this
          rw [Nat.eq_of_beq_eq_true this]
      | succ j => exact ih hd.2 j o it h1 h2
theorem psOkF_get {l : List Nat} {r : List Fct} (hp : psOkF l r = true) : ∀ (j m : Nat) (it : Fct), l[j]? = some m → r[j]? = some it → ∀ k ∈ it.ps, m.testBit k = true := by
  induction l generalizing r with
  | nil => intro j m it h1; cases h1
  | cons m0 l ih =>
    cases r with
    | nil => intro j m it _ h2; cases h2
    | cons it0 r =>
      intro j m it h1 h2 k hk
      unfold psOkF at hp
      rw [Bool.and_eq_true] at hp
      cases j with
      | zero =>
        injection h1 with h1
        injection h2 with h2
        subst h1 h2
        exact List.all_eq_true.1 hp.1 k hk
      | succ j => exact ih hp.2 j m it h1 h2 k hk
/-- What is pointed at was not there yet. -/
def FreshAt (w : World) (v : Value) : Prop := ∀ g, v = .pointer (some ⟨g, 0, none⟩) → w.heap.size ≤ g
def DistAll (plan : List Fct) (nw : List Nat) (a : Act) : Prop := ∀ (i j : Nat) (it jt : Fct), plan[i]? = some it → plan[j]? = some jt → i ≠ j → i ∈ nw → j ∈ nw → a.tmps[it.d]? ≠ a.tmps[jt.d]?
def Dist (plan : List Fct) (nw : List Nat) (l : Array Bool) (a : Act) : Prop := ∀ (i j : Nat) (it jt : Fct), plan[i]? = some it → plan[j]? = some jt → i ≠ j → i ∈ nw → j ∈ nw → l.getD i false = true → l.getD j false = true → a.tmps[it.d]? ≠ a.tmps[jt.d]?
theorem Dist.put {nw : List Nat} {l : Array Bool} (D : Dist plan nw l a) {i : Nat} {it : Fct} {v : Value} (hi : plan[i]? = some it) (hd : ∀ (j : Nat) (jt : Fct), plan[j]? = some jt → j ≠ i → jt.d ≠ it.d) (hlt : it.d < a.tmps.size)
    (hv : i ∈ nw → ∀ (j : Nat) (jt : Fct), plan[j]? = some jt → j ≠ i → j ∈ nw → l.getD j false = true → a.tmps[jt.d]? ≠ some v) : Dist plan nw (l.setIfInBounds i true) (a.put (some it.d) v) := by
  have hat : ∀ k, (a.put (some it.d) v).tmps[k]? = if it.d = k then some v else a.tmps[k]? := fun k => by
    show (a.tmps.setIfInBounds it.d v)[k]? = _
    rw [Array.getElem?_setIfInBounds]
    by_cases hk : it.d = k
    · rw [if_pos hk, if_pos hk, if_pos hlt]
    · rw [if_neg hk, if_neg hk]
  intro j k jt kt hj hk hne hjn hkn hlj hlk
  rw [hat, hat]
  by_cases h1 : j = i
  · subst h1
    rw [hi] at hj
    injection hj with hj
    subst hj
    rw [if_pos rfl, if_neg (Ne.symm (hd k kt hk (Ne.symm hne)))]
    exact Ne.symm (hv hjn k kt hk (Ne.symm hne) hkn (listed_set hlk (Ne.symm hne)))
  · by_cases h2 : k = i
    · subst h2
      rw [hi] at hk
      injection hk with hk
      subst hk
      rw [if_pos rfl, if_neg (Ne.symm (hd j jt hj hne))]
      exact hv hkn j jt hj hne hjn (listed_set hlj hne)
    · rw [if_neg (Ne.symm (hd j jt hj h1)), if_neg (Ne.symm (hd k kt hk h2))]
      exact D j k jt kt hj hk hne hjn hkn (listed_set hlj h1) (listed_set hlk h2)
theorem any_planN {nw : List Nat} (hR : ∀ a w w', St n w0 a w e h → R w w' → St n w0 a w' e h) (hR' : ∀ a w w', St n w0 a w e h → R' w w' → St n w0 a w' e h) (hm : masks ops = ms) (hk : planOkF ops n e plan ms = true) (ho : ObsF P R R' ops Q n w0 e h plan ops.toList plan)
    (hold : ∀ (j : Nat) (it : Fct), plan[j]? = some it → j ∈ nw → it.til = none ∧ ∀ v w, it.F v w → ∃ g, v = .pointer (some ⟨g, 0, none⟩) ∧ g < w.heap.size)
    (strong : ∀ (j : Nat) (o : Oper) (it : Fct), ops[j]? = some o → plan[j]? = some it → j ∈ nw → ∀ a w, St n w0 a w e h → o.wp P a w (fun a' w' => ∃ v, a' = a.put o.dst v ∧ it.rel R R' w w' ∧ it.F v w' ∧ FreshAt w v) Q)
    (tail : ∀ a w, DistAll plan nw a → (∀ (j : Nat) (it : Fct), plan[j]? = some it → it.til = none → ∃ v, a.tmps[it.d]? = some v ∧ it.F v w) → St n w0 a w e h → wpList P ops Q (ops.toList.drop plan.length) a w) :
    ∀ (fuel : Nat) (l : Array Bool) (a : Act) (w : World), l.size = ops.size → Down ops l → (∀ i, plan.length ≤ i → ¬ l.getD i false = true) → ops.size - plan.length + left l plan.length ≤ fuel → MidF plan n w0 e h l a w → Dist plan nw l a → wpAny P .any ops Q fuel l a w := by
  unfold planOkF at hk
  simp only [Bool.and_eq_true] at hk
  obtain ⟨⟨⟨⟨⟨⟨⟨⟨k1, k2⟩, k3⟩, k4⟩, k5⟩, k6⟩, k7⟩, k8⟩, k9⟩ := hk
  have hlen : plan.length ≤ ops.size := Nat.le_of_ble_eq_true k1
  have hmsl : ms.length = ops.size := by rw [← hm]; simp [masks]
  have after_all : ∀ (l : Array Bool) (i : Nat), l.size = ops.size → Down ops l → (∀ i, plan.length ≤ i → ¬ l.getD i false = true) → i ∈ Region.ready .any ops l → plan.length ≤ i → ∀ j, j < plan.length → l.getD j false = true := by
    intro l i hs hd hB hr hge
    obtain ⟨_, o, hoo, _⟩ := mem_ready.1 hr
    have hilt : i < ops.size := (Array.getElem?_eq_some_iff.1 hoo).1
    have hg := masks_get hm hoo
    have e2 : ms.getD i 0 = maskOf (waits o) := by simp [hg]
    have hlist : ∀ j, (closeM ms i (maskOf (waits o))).testBit j = true → l.getD j false = true := fun j hc => close_listed hm hd hs i (maskOf (waits o)) (fun j hj => ready_waits hm hr j (by rw [e2]; exact hj)) j hc
    have hg2 : (ms.drop plan.length)[i - plan.length]? = some (maskOf (waits o)) := by
      rw [List.getElem?_drop, show plan.length + (i - plan.length) = i by omega]
      exact hg
    have him : i = plan.length := by
      apply Nat.le_antisymm _ hge
      apply Nat.le_of_not_lt
      intro hlt
      have hc := lineUp_get (Nat.le_refl _) k7 (i - plan.length) _ hg2 plan.length (Nat.le_refl _) (by omega)
      rw [show plan.length + (i - plan.length) = i by omega] at hc
      exact hB plan.length (Nat.le_refl _) (hlist _ hc)
    subst him
    have hdr : ms.drop plan.length = maskOf (waits o) :: ms.drop (plan.length + 1) := by
      have hlt2 : plan.length < ms.length := by omega
      rw [List.drop_eq_getElem_cons hlt2]
      congr 1
      rw [List.getElem?_eq_getElem hlt2] at hg
      exact Option.some.inj hg
    rw [hdr] at k8
    unfold headOkF at k8
    intro j hj
    have hbit : (Nat.shiftLeft 1 plan.length - 1).testBit j = true := by rw [low_bit]; exact decide_eq_true hj
    exact hlist j (sub2_get k8 hbit)
  have fin : ∀ (fuel : Nat) (l : Array Bool) (a : Act) (w : World), l.size = ops.size → (∀ i, plan.length ≤ i → ¬ l.getD i false = true) → (∀ j, j < plan.length → l.getD j false = true) → ops.size - plan.length ≤ fuel → MidF plan n w0 e h l a w → Dist plan nw l a → wpAny P .any ops Q fuel l a w := by
    intro fuel l a w hs hB hall hf H D
    refine any_tail hm k2 k7 fuel plan.length l a w (Nat.le_refl _) hlen hf hs (fun i hi => ⟨fun h1 => ?_, fun h1 => hall i h1⟩) (tail a w (fun i j it jt hi hj hne hin hjn => D i j it jt hi hj hne hin hjn (hall i (List.getElem?_eq_some_iff.1 hi).1) (hall j (List.getElem?_eq_some_iff.1 hj).1)) (fun j it hj ht => H.vals j it hj (hall j (List.getElem?_eq_some_iff.1 hj).1) (fun k hk => by rw [ht] at hk; cases hk)) H.base)
    exact Classical.byContradiction fun hn => hB i (by omega) h1
  intro fuel
  induction fuel with
  | zero =>
    intro l a w hs hd hB hf H D
    exact fin 0 l a w hs hB (left_zero (by omega)) (by omega) H D
  | succ fuel ih =>
    intro l a w hs hd hB hf H D
    by_cases hall : ∀ j, j < plan.length → l.getD j false = true
    · exact fin _ l a w hs hB hall (by omega) H D
    have hex : ∃ i, i < plan.length ∧ ¬ l.getD i false = true := Classical.byContradiction fun hn => hall fun j hj => Classical.byContradiction fun hu => hn ⟨j, hj, hu⟩
    obtain ⟨i0, hi0, hu0, hlow⟩ := first_left _ hex
    refine ⟨fun hnil => ?_, fun i hr => ?_⟩
    · exfalso
      have hlt : i0 < ops.size := by omega
      have hin : i0 ∈ Region.ready .any ops l := by
        refine mem_ready.2 ⟨?_, ops[i0], Array.getElem?_eq_getElem hlt, fun x hx hb => hlow _ ?_⟩
        · have hl2 : i0 < l.size := by omega
          simp [Array.getElem?_eq_getElem hl2] at hu0 ⊢
          exact hu0
        · have hg := masks_get hm (Array.getElem?_eq_getElem hlt)
          have hx2 : (maskOf (waits ops[i0])).testBit x.on = true := maskOf_bit.2 (mem_waits.2 ⟨x, hx, hb, rfl⟩)
          have := downs_get k2 i0 _ hg x.on hx2
          omega
      rw [hnil] at hin
      cases hin
    · have hu := not_listed hr
      have hilt : i < plan.length := by
        apply Nat.lt_of_not_le
        intro hge
        exact hu0 (after_all l i hs hd hB hr hge i0 hi0)
      have hios : i < ops.size := by omega
      have hit : plan[i]? = some plan[i] := List.getElem?_eq_getElem hilt
      have hoi : ops[i]? = some ops[i] := Array.getElem?_eq_getElem hios
      have hoi2 : ops.toList[i]? = some ops[i] := by simp [hios]
      have hob := ObsF_get ho i _ _ hoi2 hit
      have hdst := dstOkF_get k4 i _ _ hoi2 hit
      have hg := masks_get hm hoi
      have e2 : ms.getD i 0 = maskOf (waits ops[i]) := by simp [hg]
      have hps : ∀ j ∈ plan[i].ps, l.getD j false = true := fun j hj => ready_waits hm hr j (by rw [e2]; exact psOkF_get k3 i _ _ hg hit j hj)
      have h6 := List.all_eq_true.1 k6 _ (List.getElem_mem hilt)
      rw [Bool.and_eq_true] at h6
      have hdn : plan[i].d < n := by
        have := h6.1
        rw [Nat.blt_eq] at this
        exact this
      have hen : ∀ p ∈ e, p.1 ≠ plan[i].d := fun p hp e1 => by
        have := List.all_eq_true.1 h6.2 p hp
        rw [e1, Nat.beq_refl] at this
        cases this
      have hdd : ∀ j jt, plan[j]? = some jt → j ≠ i → jt.d ≠ plan[i].d := fun j jt hj hne =>
        distinct_get k5 j i jt.d plan[i].d (by rw [List.getElem?_map, hj]; rfl) (by rw [List.getElem?_map, hit]; rfl) hne
      have hs2 : (l.setIfInBounds i true).size = ops.size := by simpa using hs
      have hd2 := down_set hd hr
      have hB2 : ∀ j, plan.length ≤ j → ¬ (l.setIfInBounds i true).getD j false = true := fun j hj hl => hB j hj (listed_set hl (by omega))
      have hf2 : ops.size - plan.length + left (l.setIfInBounds i true) plan.length ≤ fuel := by
        have := left_set (l := l) (i := i) (by omega) hu plan.length hilt
        omega
      unfold wpOp
      rw [hoi]
      dsimp only
      have hin := List.all_eq_true.1 k9 i (List.mem_range.2 hilt)
      rw [hit] at hin
      simp only [Bool.and_eq_true] at hin
      obtain ⟨hin1, hin2⟩ := hin
      obtain ⟨e', hob2, hst⟩ := Chain.get (fun j hj it hjt => H.vals j it hjt (hps j hj) (fun k hk hl => by
        have := List.all_eq_true.1 hin1 j hj
        unfold tilOk at this
        rw [hjt] at this
        simp only [hk] at this
        rw [Nat.eq_of_beq_eq_true this] at hl
        exact hu hl)) (hob.1 a w) H.base
      obtain ⟨hw, hwp⟩ := hob2 hst
      rw [hw, if_pos rfl]
      have hwp2 : ops[i].wp P a w (fun a' w' => ∃ v, a' = a.put ops[i].dst v ∧ plan[i].rel R R' w w' ∧ plan[i].F v w' ∧ (i ∈ nw → FreshAt w v)) Q := by
        by_cases hnw : i ∈ nw
        · exact Oper.wp_mono (fun a' w' ⟨v, h1, h2, h3, h4⟩ => ⟨v, h1, h2, h3, fun _ => h4⟩) (strong i _ _ hoi hit hnw a w H.base)
        · exact Oper.wp_mono (fun a' w' ⟨v, h1, h2, h3⟩ => ⟨v, h1, h2, h3, fun hh => absurd hh hnw⟩) hwp
      refine .inl (Oper.wp_mono (fun a' w' hx => ?_) hwp2)
      obtain ⟨v, rfl, hb, hF, hfr⟩ := hx
      have D2 : Dist plan nw (l.setIfInBounds i true) (a.put (some plan[i].d) v) := D.put hit hdd (by rw [H.base.size]; exact hdn) (fun hin j jt hj hne hjn hlj => by
        obtain ⟨ht, ho2⟩ := hold j jt hj hjn
        obtain ⟨u, hu1, hu2⟩ := H.vals j jt hj hlj (fun k hk => by rw [ht] at hk; cases hk)
        obtain ⟨g, rfl, hg1⟩ := ho2 u w hu2
        rw [hu1]
        intro e1
        injection e1 with e1
        have := hfr hin g e1.symm
        omega)
      rw [hdst]
      have stab : ∀ (j : Nat) (jt : Fct), plan[j]? = some jt → (∀ v w w', jt.F v w → R w w' → jt.F v w') ∧ (jt.til = none → ∀ v w w', jt.F v w → R' w w' → jt.F v w') := fun j jt hj => by
        have hjl : j < ops.size := by have := (List.getElem?_eq_some_iff.1 hj).1; omega
        exact (ObsF_get ho j ops[j] jt (by simp [hjl]) hj).2
      cases hown : plan[i].own with
      | false =>
        unfold Fct.rel at hb
        rw [hown] at hb
        exact ih _ _ _ hs2 hd2 hB2 hf2 (H.put hit hdn hen hdd (fun j jt hj _ _ _ v hv => (stab j jt hj).1 v w w' hv hb) (hR _ _ _ H.base hb) hF) D2
      | true =>
        unfold Fct.rel at hb
        rw [hown] at hb
        rw [hown] at hin2
        have hin2 : ownOk ms plan i = true := by simpa using hin2
        refine ih _ _ _ hs2 hd2 hB2 hf2 (H.put hit hdn hen hdd (fun j jt hj hne hl ht v hv => ?_) (hR' _ _ _ H.base hb) hF) D2
        cases htil : jt.til with
        | none => exact (stab j jt hj).2 htil v w w' hv hb
        | some k =>
          exfalso
          have hnk := ht k htil
          have hjp : j < plan.length := (List.getElem?_eq_some_iff.1 hj).1
          have hc := List.all_eq_true.1 hin2 j (List.mem_range.2 hjp)
          rw [hj] at hc
          simp only [htil, Bool.or_eq_true] at hc
          rcases hc with ((hc | hc) | hc) | hc
          · rw [Nat.eq_of_beq_eq_true hc] at hnk
            exact hnk (by simp [show i < l.size by omega])
          · exact hne (Nat.eq_of_beq_eq_true hc)
          · exact hnk (getD_set_true (close_listed hm hd hs i _ (ready_waits hm hr) k hc))
          · have hjo : j < ops.size := by omega
            have hgj := masks_get hm (Array.getElem?_eq_getElem hjo)
            have e3 : ms.getD j 0 = maskOf (waits ops[j]) := by simp [hgj]
            refine hu (close_listed hm hd hs j _ (fun m hm2 => ?_) i hc)
            rw [e3, maskOf_bit, mem_waits] at hm2
            obtain ⟨x, hx, hb3, rfl⟩ := hm2
            exact hd j _ (Array.getElem?_eq_getElem hjo) hl x hx hb3
theorem drawnN {id : Nat} (nw : List Nat) (R R' : Rel) (plan : List Fct) (ms js : List Nat) (hR : ∀ a w w', St n w0 a w e h → R w w' → St n w0 a w' e h) (hR' : ∀ a w w', St n w0 a w e h → R' w w' → St n w0 a w' e h) (hf : P.follows .mixedOrders = true) (hm : masks ops = ms) (hk : planOkF ops n e plan ms = true) (H : St n w0 a w e h) (ho : ObsF P R R' ops Q n w0 e h plan ops.toList plan)
    (hl : js.all (fun j => match plan[j]? with | some jt => jt.til.isNone | none => true) = true)
    (hold : ∀ (j : Nat) (it : Fct), plan[j]? = some it → j ∈ nw → it.til = none ∧ ∀ v w, it.F v w → ∃ g, v = .pointer (some ⟨g, 0, none⟩) ∧ g < w.heap.size)
    (strong : ∀ (j : Nat) (o : Oper) (it : Fct), ops[j]? = some o → plan[j]? = some it → j ∈ nw → ∀ a w, St n w0 a w e h → o.wp P a w (fun a' w' => ∃ v, a' = a.put o.dst v ∧ it.rel R R' w w' ∧ it.F v w' ∧ FreshAt w v) Q)
    (tail : ∀ a w, Chain plan w (fun e' => DistAll plan nw a → St n w0 a w e' h → wpList P ops Q (ops.toList.drop plan.length) a w) js e) : (Code.region id ops true).wp P Q a w := by
  refine wp_region_any hf ?_
  have none_ : ∀ i, ¬ (Array.replicate ops.size false).getD i false = true := fun i hi => by
    by_cases h : i < ops.size
    · simp [h] at hi
    · simp [h] at hi
  refine any_planN hR hR' hm hk ho hold strong (fun a w hD hv hst => ?_) ops.size _ a w.drew (by simp) (fun i o _ hi => absurd hi (none_ i)) (fun i _ => none_ i) ?_ ⟨H.drew, fun j _ _ hj => absurd hj (none_ j)⟩ (fun i j _ _ _ _ _ _ _ hi => absurd hi (none_ i))
  · obtain ⟨e', h1, h2⟩ := Chain.get (fun j hjs it hj => hv j it hj (by
      have := List.all_eq_true.1 hl j hjs
      rw [hj] at this
      simpa using this)) (tail a w) hst
    exact h1 hD h2
  · have := left_le (Array.replicate ops.size false) plan.length
    unfold planOkF at hk
    simp only [Bool.and_eq_true] at hk
    have := Nat.le_of_ble_eq_true hk.1.1.1.1.1.1.1.1
    omega
theorem Chain.imp {w : World} {K K' : Env → Prop} (h : ∀ e, K e → K' e) : ∀ {js : List Nat} {e : Env}, Chain plan w K js e → Chain plan w K' js e
  | [], e, hc => h e hc
  | j :: r, e, hc => by
    unfold Chain at hc ⊢
    cases hj : plan[j]? with
    | none =>
      rw [hj] at hc
      exact Chain.imp h hc
    | some it =>
      rw [hj] at hc
      exact fun v hv => Chain.imp h (hc v hv)
/-- **The region.** js: the operations whose values the rest asks for. -/
theorem drawnR {id : Nat} (R R' : Rel) (plan : List Fct) (ms js : List Nat) (hR : ∀ a w w', St n w0 a w e h → R w w' → St n w0 a w' e h) (hR' : ∀ a w w', St n w0 a w e h → R' w w' → St n w0 a w' e h) (hf : P.follows .mixedOrders = true) (hm : masks ops = ms) (hk : planOkF ops n e plan ms = true) (H : St n w0 a w e h) (ho : ObsF P R R' ops Q n w0 e h plan ops.toList plan)
    (hl : js.all (fun j => match plan[j]? with | some jt => jt.til.isNone | none => true) = true)
    (tail : ∀ a w, Chain plan w (fun e' => St n w0 a w e' h → wpList P ops Q (ops.toList.drop plan.length) a w) js e) : (Code.region id ops true).wp P Q a w :=
  drawnN [] R R' plan ms js hR hR' hf hm hk H ho hl (fun j it _ hj => by cases hj) (fun j o it _ _ hj => by cases hj) (fun a w => Chain.imp (fun e' h _ => h) (tail a w))
end
/-- What was there keeps its cells; what is told whole (h) stays as it was. -/
structure Grow (B : Nat) (h : Hep) (w w' : World) : Prop where
  below : Below B w w'
  cells : ∀ p : Addr, p.block < w.heap.size → w'.cell? p = w.cell? p
  objs : ∀ (g : Nat) (C : Array Value) (t : TypeId) (fr : Nat × Nat), w.heap[g]? = some (.cells C t fr) → ∃ fr', w'.heap[g]? = some (.cells C t fr')
  blks : ∀ x ∈ h, x.1 < w.heap.size → w'.heap[x.1]? = w.heap[x.1]?
theorem gro {B : Nat} {h : Hep} {w w' : World} (hb : Below w.heap.size w w') (hB : B ≤ w.heap.size) : Grow B h w w' :=
  ⟨hb.mono hB, fun p hp => hb.cell hp, fun g C t fr hg => ⟨fr, (hb.block g (Array.getElem?_eq_some_iff.1 hg).1).trans hg⟩, fun x _ hx => hb.block x.1 hx⟩
section
variable {P : Program} {n : Nat} {w0 w w' : World} {a : Act} {e : Env} {h : Hep} {Q : Exit → Act → World → Prop} {ops : Array Oper} {rest : List Oper} {o : Oper}
theorem grow_st : ∀ (a : Act) (w w' : World), St n w0 a w e h → Grow w0.heap.size h w w' → St n w0 a w' e h := fun a w w' H hb =>
  ⟨H.size, H.defers, H.env, H.below.trans hb.below, fun p hp => (H.heap p hp).as (hb.blks p hp (H.heap p hp).lt), H.own, H.apart⟩
/-- One operation, in the text's order. -/
theorem pl_F {d : Nat} {F : Value → World → Prop} (hob : Region.wanted o (yielded ops a.tmps) = true ∧ o.wp P a w (fun a' w' => ∃ v, a' = a.put o.dst v ∧ Grow w0.heap.size h w w' ∧ F v w') Q) (hdst : o.dst = some d) (hl : Nat.blt d n = true) (hf : e.all (fun p => !Nat.beq p.1 d) = true)
    (H : St n w0 a w e h) (next : ∀ v a w', F v w' → Grow w0.heap.size h w w' → St n w0 a w' ((d, v) :: e) h → wpList P ops Q rest a w') : wpList P ops Q (o :: rest) a w :=
  wpList_step fun K hK => by
    rw [hob.1, if_pos rfl]
    exact Oper.wp_mono (fun a' w' hw => by
      obtain ⟨v, rfl, hb, hF⟩ := hw
      refine hK _ _ (next v _ _ hF hb ?_)
      rw [hdst]
      exact (grow_st _ _ _ H hb).put v hl hf) hob.2
theorem pl_V {d : Nat} {F : Value → World → Prop} (hob : Region.wanted o (yielded ops a.tmps) = true ∧ o.wp P a w (fun a' w' => ∃ v, a' = a.put o.dst v ∧ Grow w0.heap.size h w w' ∧ F v w') Q) (hdst : o.dst = some d) (hl : Nat.blt d n = true) (hf : e.all (fun p => !Nat.beq p.1 d) = true)
    (H : St n w0 a w e h) (next : ∀ v a w', F v w' → St n w0 a w' ((d, v) :: e) h → wpList P ops Q rest a w') : wpList P ops Q (o :: rest) a w :=
  pl_F hob hdst hl hf H fun v a w' hF _ => next v a w' hF
/-! What is to be shown of an operation. -/
abbrev Ob (P : Program) (ops : Array Oper) (Q : Exit → Act → World → Prop) (B : Nat) (h : Hep) (o : Oper) (a : Act) (w : World) (F : Value → World → Prop) : Prop :=
  Region.wanted o (yielded ops a.tmps) = true ∧ o.wp P a w (fun a' w' => ∃ v, a' = a.put o.dst v ∧ Grow B h w w' ∧ F v w') Q
theorem ob_val {V : Value} (H : St n w0 a w e h) (hw : ∀ a w, St n w0 a w e h → Region.wanted o (yielded ops a.tmps) = true) (hd : Does P Q n w0 e h o V) : Ob P ops Q w0.heap.size h o a w (fun v _ => v = V) :=
  ⟨hw a w H, Oper.wp_mono (fun a' w' hx => ⟨V, hx.1, gro hx.2 H.below.size, rfl⟩) (hd a w H)⟩
theorem ob_run {F : Value → World → Prop} (H : St n w0 a w e h) (hw : ∀ a w, St n w0 a w e h → Region.wanted o (yielded ops a.tmps) = true) (hr : ∃ v w', (execOp a.eval o).run P w = .ok (.value v) w' ∧ Grow w0.heap.size h w w' ∧ F v w') : Ob P ops Q w0.heap.size h o a w F := by
  refine ⟨hw a w H, ?_⟩
  obtain ⟨v, w', h1, h2, h3⟩ := hr
  unfold Oper.wp
  rw [h1]
  exact ⟨v, rfl, h2, h3⟩
theorem ob_call {f : FuncId} {args : List Operand} {tys : Array TypeId} {vs : List Value} {F : Value → World → Prop} (H : St n w0 a w e h) (hw : ∀ a w, St n w0 a w e h → Region.wanted o (yielded ops a.tmps) = true)
    (ho : o.op = .call { callee := .value (.func f), args := args.toArray, argTypes := tys }) (hf : Ours P f) (hx : sevs e args = some vs)
    (hc : Calls P f vs.toArray w (fun r W' => ∃ v, r = .returned v ∧ Below w.heap.size w W' ∧ F v W')) : Ob P ops Q w0.heap.size h o a w F := by
  refine ⟨hw a w H, ?_⟩
  unfold Oper.wp
  rw [run_call ho hf rfl, H.evs hx, Oper.upon_enter]
  refine hc.mono ?_
  rintro r W' ⟨v, rfl, hb, hF⟩
  exact ⟨v, rfl, gro hb H.below.size, hF⟩
theorem ob_cal {f : FuncId} {args : List Operand} {tys : Array TypeId} {vs : List Value} {V : Value} (H : St n w0 a w e h) (hw : ∀ a w, St n w0 a w e h → Region.wanted o (yielded ops a.tmps) = true)
    (ho : o.op = .call { callee := .value (.func f), args := args.toArray, argTypes := tys }) (hf : Ours P f) (hx : sevs e args = some vs)
    (hc : Calls P f vs.toArray w (fun r W' => r = .returned V ∧ Below w.heap.size w W')) : Ob P ops Q w0.heap.size h o a w (fun v _ => v = V) :=
  ob_call H hw ho hf hx (hc.mono fun r W' ⟨h1, h2⟩ => ⟨V, h1, h2, rfl⟩)
theorem ob_move {x : Operand} {v : Value} {F : Value → World → Prop} (H : St n w0 a w e h) (hw : ∀ a w, St n w0 a w e h → Region.wanted o (yielded ops a.tmps) = true) (ho : o.op = .move x) (hx : sev e x = some v) (hv : F v w) : Ob P ops Q w0.heap.size h o a w F := by
  refine ob_run H hw ⟨v, w, ?_, gro (Below.refl _ _) H.below.size, hv⟩
  simp [execOp, ho, H.ev hx]
/-- A new variable. -/
def NewF (B : Nat) (h : Hep) (t : Tid) (z : Array Value) (v : Value) (w : World) : Prop := ∃ g, v = .pointer (some ⟨g, 0, none⟩) ∧ Blk w g t z ∧ B ≤ g ∧ ∀ p ∈ h, p.1 ≠ g
theorem ob_new {t : TypeId} {z : Array Value} (H : St n w0 a w e h) (hn : News P o t z) (hg : o.guard = none) : Region.wanted o (yielded ops a.tmps) = true ∧ o.wp P a w (fun a' w' => ∃ v, a' = a.put o.dst v ∧ Below w.heap.size w w' ∧ NewF w0.heap.size h t z v w') Q := by
  refine ⟨by simp [Region.wanted, hg], ?_⟩
  unfold Oper.wp
  rw [hn a w]
  exact ⟨_, rfl, (Below.refl _ _).alloc (Nat.le_refl _) _, _, rfl, Blk.new _ _ _, H.below.size, fun p hp => Nat.ne_of_lt (H.heap p hp).lt⟩
theorem St.add (H : St n w0 a w e h) {g : Nat} {t : Tid} {z : Array Value} (hb : Blk w g t z) (ho : w0.heap.size ≤ g) (hn : ∀ p ∈ h, p.1 ≠ g) : St n w0 a w e ((g, t, z) :: h) := by
  refine ⟨H.size, H.defers, H.env, H.below, fun p hp => ?_, fun p hp => ?_, List.pairwise_cons.2 ⟨fun p hp => Ne.symm (hn p hp), H.apart⟩⟩
  · rcases List.mem_cons.1 hp with rfl | hp
    · exact hb
    · exact H.heap p hp
  · rcases List.mem_cons.1 hp with rfl | hp
    · exact ho
    · exact H.own p hp
theorem val_grow {R : Rel} {V : Value} : ∀ (v : Value) (w w' : World), v = V → R w w' → v = V := fun _ _ _ h _ => h
/-- What was there when this began. -/
theorem blk_old {g : Nat} {t : Tid} {cs : Array Value} (hb : Blk w0 g t cs) (H : St n w0 a w e h) : Blk w g t cs := hb.below H.below hb.lt
theorem does_loadOld {t : TypeId} {x : Operand} {g : Nat} {t' : TypeId} {cs : Array Value} {d : TypeDesc} (ho : o.op = .load t x) (hx : sev e x = some (.pointer (some ⟨g, 0, none⟩))) (hb : Blk w0 g t' cs)
    (hu : P.underlying t = some d) (hd : (match d with | .struct _ | .array _ _ => true | _ => false) = true) (hi : (P.info? t).map (·.size) = some cs.size) : Does P Q n w0 e h o (.agg cs) := fun a w H =>
  wp_load_row t x ho g (H.ev hx) t' cs (0, 0) d (blk_old hb H) hu hd hi ⟨rfl, Below.refl _ _⟩
theorem St.blk (H : St n w0 a w e h) {k g : Nat} {t : Tid} {cs : Array Value} (hk : h[k]? = some (g, t, cs)) : Blk w g t cs := H.heap (g, t, cs) (List.mem_iff_getElem?.2 ⟨k, hk⟩)
/-- What was there is there; what this call made is new to what it begins with now. -/
theorem St.rebase (H : St n w0 a w e h) : St n w a w e [] := ⟨H.size, H.defers, H.env, Below.refl _ _, (fun p hp => by cases hp), (fun p hp => by cases hp), List.Pairwise.nil⟩
/-- A slice of what a pointer leads to, or of a slice. -/
theorem does_slice {t : TypeId} {x : Operand} {lo hi : Option Operand} {u v : Value} {vl vh : Option Value} (ho : o.op = .slice t x lo hi none) (hx : sev e x = some u) (hl : lo.map (sev e) = vl.map some) (hh : hi.map (sev e) = vh.map some)
    (hv : ∀ W, (Instr.sliceAt t u vl vh none).run P W = .ok v W) : Does P Q n w0 e h o v := does_run fun a w H => by
  unfold execOp
  have el : lo.map a.eval = vl := by
    cases lo with
    | none => cases vl with
      | none => rfl
      | some _ => cases hl
    | some x => cases vl with
      | none => cases hl
      | some y => injection hl with hl; exact congrArg some (H.ev hl)
  have eh : hi.map a.eval = vh := by
    cases hi with
    | none => cases vh with
      | none => rfl
      | some _ => cases hh
    | some x => cases vh with
      | none => cases hh
      | some y => injection hh with hh; exact congrArg some (H.ev hh)
  simp only [ho, H.ev hx, el, eh, Option.map_none, Sem.run_bind, hv, Result.andThen_ok, Sem.run_pure]
theorem does_len {x : Operand} {t el : TypeId} {A : Option Addr} {k c : Nat} (hu : P.underlying t = some (.slice el)) (ho : o.op = .call { callee := .builtin .len, args := #[x], argTypes := #[t] }) (hx : sev e x = some (.slice A k c)) : Does P Q n w0 e h o (.int .i64 (k : Int)) := does_run fun a w H => by
  simp [execOp, ho, resolve, invoke, builtin, H.ev hx, Builtin.len_, Builtin.lenOf, goInt, run_underlying hu, Result.andThen]
/-- A copy onto a block that is known, out of a block that is known. -/
def spliceA (cur : Array Value) (off : Nat) (cs : List Value) : Array Value := (cur.toList.take off ++ cs ++ cur.toList.drop (off + cs.length)).toArray
theorem pl_copy {x y : Operand} {d : Nat} {dT sT elem : TypeId} {g off dl dc k gs so sl sc k2 m : Nat} {t ts : TypeId} {cur src c : Array Value} (ho : o.op = .call { callee := .builtin .copy, args := #[x, y], argTypes := #[dT, sT] })
    (hu : P.underlying dT = some (.slice elem)) (hsz : (P.info? elem).map (·.size) = some 1)
    (hx : sev e x = some (.slice (some ⟨g, off, none⟩) dl dc)) (hy : sev e y = some (.slice (some ⟨gs, so, none⟩) sl sc)) (hk : h[k]? = some (g, .ty t, cur)) (hk2 : h[k2]? = some (gs, .ty ts, src))
    (hm : Nat.min sl dl = m) (hs : so + m ≤ src.size) (hd : off + m ≤ cur.size) (h1 : src.all (·.oneCell') = true) (hc : spliceA cur off ((src.toList.drop so).take m) = c)
    (hg : o.guard = none) (hdst : o.dst = some d) (hl : Nat.blt d n = true) (hf : e.all (fun p => !Nat.beq p.1 d) = true)
    (H : St n w0 a w e h) (next : ∀ a w', St n w0 a w' ((d, .int .i64 (m : Int)) :: e) (h.set k (g, .ty t, c)) → wpList P ops Q rest a w') : wpList P ops Q (o :: rest) a w :=
  wpList_plain hg fun K hK => by
    have hb := H.blk hk
    have hb2 := H.blk hk2
    have hlen : ((src.toList.drop so).take m).length = m := by simp; omega
    have hrun := run_copy_row (P := P) w dT sT o.type elem g off dl dc ⟨gs, so, none⟩ sl sc cur t ((src.toList.drop so).take m) hu hsz hb (by rw [hlen, hm]) (fun j v hv => by
      rw [Addr.add_lit, hb2.cell]
      rw [List.getElem?_take] at hv
      split at hv
      · rw [List.getElem?_drop] at hv
        rw [← Array.getElem?_toList]
        exact hv
      · cases hv) (by rw [hlen]; exact hd) (fun v hv => by
      have := List.mem_of_mem_drop (List.mem_of_mem_take hv)
      rw [Array.all_eq_true'] at h1
      exact h1 v (by simpa using this))
    rw [show (cur.toList.take off ++ (src.toList.drop so).take m ++ cur.toList.drop (off + ((src.toList.drop so).take m).length)).toArray = c from hc] at hrun
    unfold Oper.wp
    simp [execOp, ho, resolve, invoke, builtin, H.ev hx, H.ev hy, hrun, Result.andThen]
    refine hK _ _ (next _ _ ?_)
    rw [hdst]
    have e1 : min m (src.size - so) = m := by omega
    simp only [e1]
    exact (H.setRow hk c).put _ hl hf
end
end Go.Proofs.Ytiebelmglchbdaa
