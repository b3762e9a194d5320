/- A region that draws its order, in which some operations come one behind the other and write on what is told apart (d2C). No dump is imported. -/
import Derived.Test.YtiebelmglchbdaaPq
namespace Go.Proofs.Ytiebelmglchbdaa
set_option linter.unusedVariables false
set_option linter.unusedSimpArgs false
open Go Go.RowKit

section
variable {P : Program} {n : Nat} {w0 w w' : World} {a : Act} {e : Env} {h : Hep} {Q : Exit → Act → World → Prop} {ops : Array Oper} {plan : List Fct} {ms : List Nat} {rest : List Oper} {o : Oper}
theorem any_planC {nc : Nat} {cp : Nat → Nat} {C : Nat → World → Prop} {R' : Rel} (hR' : ∀ a w w', St n w0 a w e h → R' w w' → St n w0 a w' e h) (htil : ∀ (j : Nat) (it : Fct), plan[j]? = some it → it.til = none) (hstab : ∀ (j : Nat) (it : Fct), plan[j]? = some it → ∀ v w w', it.F v w → it.F v w')
    (hC : ∀ j w w', C j w → Below w.heap.size w w' → C j w') (hin : ∀ j, j < nc → cp j < plan.length) (hcp : ∀ j, j + 1 < nc → (closeM ms (cp (j + 1)) (ms.getD (cp (j + 1)) 0)).testBit (cp j) = true) (hinj : ∀ i j, i < nc → j < nc → cp i = cp j → i = j)
    (hm : masks ops = ms) (hk : planOkF ops n e plan ms = true)
    (ho : ∀ (i : Nat) (o : Oper) (it : Fct), ops[i]? = some o → plan[i]? = some it → (∀ j, j < nc → cp j ≠ i) → ∀ a w, Chain plan w (fun e' => St n w0 a w e' h → ObJ P ops Q o a w (fun a' w' => ∃ v, a' = a.put o.dst v ∧ Below w.heap.size w w' ∧ it.F v w')) it.ps e)
    (hch : ∀ j, j < nc → ∀ (o : Oper) (it : Fct), ops[cp j]? = some o → plan[cp j]? = some it → ∀ a w, Chain plan w (fun e' => St n w0 a w e' h → C j w → ObJ P ops Q o a w (fun a' w' => ∃ v, a' = a.put o.dst v ∧ R' w w' ∧ it.F v w' ∧ C (j + 1) w')) it.ps e)
    (tail : ∀ a w, (∀ (j : Nat) (it : Fct), plan[j]? = some it → ∃ v, a.tmps[it.d]? = some v ∧ it.F v w) → St n w0 a w e h → C nc w → wpList P ops Q (ops.toList.drop plan.length) a w) :
    ∀ (fuel : Nat) (l : Array Bool) (a : Act) (w : World), l.size = ops.size → Down ops l → (∀ i, plan.length ≤ i → ¬ l.getD i false = true) → ops.size - plan.length + left l plan.length ≤ fuel → MidF plan n w0 e h l a w → (∃ j, j ≤ nc ∧ (∀ i, i < nc → (l.getD (cp i) false = true ↔ i < j)) ∧ C j w) → wpAny P .any ops Q fuel l a w := by
  unfold planOkF at hk
  simp only [Bool.and_eq_true] at hk
  obtain ⟨⟨⟨⟨⟨⟨⟨⟨k1, k2⟩, k3⟩, k4⟩, k5⟩, k6⟩, k7⟩, k8⟩, k9⟩ := hk
  have hlen : plan.length ≤ ops.size := Nat.le_of_ble_eq_true k1
  have hmsl : ms.length = ops.size := by rw [← hm]; simp [masks]
  have after_all : ∀ (l : Array Bool) (i : Nat), l.size = ops.size → Down ops l → (∀ i, plan.length ≤ i → ¬ l.getD i false = true) → i ∈ Region.ready .any ops l → plan.length ≤ i → ∀ j, j < plan.length → l.getD j false = true := by
    intro l i hs hd hB hr hge
    obtain ⟨_, o, hoo, _⟩ := mem_ready.1 hr
    have hilt : i < ops.size := (Array.getElem?_eq_some_iff.1 hoo).1
    have hg := masks_get hm hoo
    have e2 : ms.getD i 0 = maskOf (waits o) := by simp [hg]
    have hlist : ∀ j, (closeM ms i (maskOf (waits o))).testBit j = true → l.getD j false = true := fun j hc => close_listed hm hd hs i (maskOf (waits o)) (fun j hj => ready_waits hm hr j (by rw [e2]; exact hj)) j hc
    have hg2 : (ms.drop plan.length)[i - plan.length]? = some (maskOf (waits o)) := by
      rw [List.getElem?_drop, show plan.length + (i - plan.length) = i by omega]
      exact hg
    have him : i = plan.length := by
      apply Nat.le_antisymm _ hge
      apply Nat.le_of_not_lt
      intro hlt
      have hc := lineUp_get (Nat.le_refl _) k7 (i - plan.length) _ hg2 plan.length (Nat.le_refl _) (by omega)
      rw [show plan.length + (i - plan.length) = i by omega] at hc
      exact hB plan.length (Nat.le_refl _) (hlist _ hc)
    subst him
    have hdr : ms.drop plan.length = maskOf (waits o) :: ms.drop (plan.length + 1) := by
      have hlt2 : plan.length < ms.length := by omega
      rw [List.drop_eq_getElem_cons hlt2]
      congr 1
      rw [List.getElem?_eq_getElem hlt2] at hg
      exact Option.some.inj hg
    rw [hdr] at k8
    unfold headOkF at k8
    intro j hj
    have hbit : (Nat.shiftLeft 1 plan.length - 1).testBit j = true := by rw [low_bit]; exact decide_eq_true hj
    exact hlist j (sub2_get k8 hbit)
  have fin : ∀ (fuel : Nat) (l : Array Bool) (a : Act) (w : World), l.size = ops.size → (∀ i, plan.length ≤ i → ¬ l.getD i false = true) → (∀ j, j < plan.length → l.getD j false = true) → ops.size - plan.length ≤ fuel → MidF plan n w0 e h l a w → (∃ j, j ≤ nc ∧ (∀ i, i < nc → (l.getD (cp i) false = true ↔ i < j)) ∧ C j w) → wpAny P .any ops Q fuel l a w := by
    intro fuel l a w hs hB hall hf H HC
    have hCn : C nc w := by
      obtain ⟨j, hj, hl, hc⟩ := HC
      have e1 : j = nc := Nat.le_antisymm hj (Nat.le_of_not_lt fun hlt => absurd ((hl j hlt).1 (hall _ (hin j hlt))) (Nat.lt_irrefl j))
      rw [e1] at hc
      exact hc
    refine any_tail hm k2 k7 fuel plan.length l a w (Nat.le_refl _) hlen hf hs (fun i hi => ⟨fun h1 => ?_, fun h1 => hall i h1⟩) (tail a w (fun j it hj => H.vals j it hj (hall j (List.getElem?_eq_some_iff.1 hj).1) (fun k hk => by rw [htil j it hj] at hk; cases hk)) H.base hCn)
    exact Classical.byContradiction fun hn => hB i (by omega) h1
  intro fuel
  induction fuel with
  | zero =>
    intro l a w hs hd hB hf H HC
    exact fin 0 l a w hs hB (left_zero (by omega)) (by omega) H HC
  | succ fuel ih =>
    intro l a w hs hd hB hf H HC
    by_cases hall : ∀ j, j < plan.length → l.getD j false = true
    · exact fin _ l a w hs hB hall (by omega) H HC
    have hex : ∃ i, i < plan.length ∧ ¬ l.getD i false = true := Classical.byContradiction fun hn => hall fun j hj => Classical.byContradiction fun hu => hn ⟨j, hj, hu⟩
    obtain ⟨i0, hi0, hu0, hlow⟩ := first_left _ hex
    refine ⟨fun hnil => ?_, fun i hr => ?_⟩
    · exfalso
      have hlt : i0 < ops.size := by omega
      have hin : i0 ∈ Region.ready .any ops l := by
        refine mem_ready.2 ⟨?_, ops[i0], Array.getElem?_eq_getElem hlt, fun x hx hb => hlow _ ?_⟩
        · have hl2 : i0 < l.size := by omega
          simp [Array.getElem?_eq_getElem hl2] at hu0 ⊢
          exact hu0
        · have hg := masks_get hm (Array.getElem?_eq_getElem hlt)
          have hx2 : (maskOf (waits ops[i0])).testBit x.on = true := maskOf_bit.2 (mem_waits.2 ⟨x, hx, hb, rfl⟩)
          have := downs_get k2 i0 _ hg x.on hx2
          omega
      rw [hnil] at hin
      cases hin
    · have hu := not_listed hr
      have hilt : i < plan.length := by
        apply Nat.lt_of_not_le
        intro hge
        exact hu0 (after_all l i hs hd hB hr hge i0 hi0)
      have hios : i < ops.size := by omega
      have hit : plan[i]? = some plan[i] := List.getElem?_eq_getElem hilt
      have hoi : ops[i]? = some ops[i] := Array.getElem?_eq_getElem hios
      have hoi2 : ops.toList[i]? = some ops[i] := by simp [hios]
      have hdst := dstOkF_get k4 i _ _ hoi2 hit
      have hg := masks_get hm hoi
      have e2 : ms.getD i 0 = maskOf (waits ops[i]) := by simp [hg]
      have hps : ∀ j ∈ plan[i].ps, l.getD j false = true := fun j hj => ready_waits hm hr j (by rw [e2]; exact psOkF_get k3 i _ _ hg hit j hj)
      have h6 := List.all_eq_true.1 k6 _ (List.getElem_mem hilt)
      rw [Bool.and_eq_true] at h6
      have hdn : plan[i].d < n := by
        have := h6.1
        rw [Nat.blt_eq] at this
        exact this
      have hen : ∀ p ∈ e, p.1 ≠ plan[i].d := fun p hp e1 => by
        have := List.all_eq_true.1 h6.2 p hp
        rw [e1, Nat.beq_refl] at this
        cases this
      have hdd : ∀ j jt, plan[j]? = some jt → j ≠ i → jt.d ≠ plan[i].d := fun j jt hj hne =>
        distinct_get k5 j i jt.d plan[i].d (by rw [List.getElem?_map, hj]; rfl) (by rw [List.getElem?_map, hit]; rfl) hne
      have hs2 : (l.setIfInBounds i true).size = ops.size := by simpa using hs
      have hd2 := down_set hd hr
      have hB2 : ∀ j, plan.length ≤ j → ¬ (l.setIfInBounds i true).getD j false = true := fun j hj hl => hB j hj (listed_set hl (by omega))
      have hf2 : ops.size - plan.length + left (l.setIfInBounds i true) plan.length ≤ fuel := by
        have := left_set (l := l) (i := i) (by omega) hu plan.length hilt
        omega
      unfold wpOp
      rw [hoi]
      dsimp only
      have hin9 := List.all_eq_true.1 k9 i (List.mem_range.2 hilt)
      rw [hit] at hin9
      simp only [Bool.and_eq_true] at hin9
      obtain ⟨hin1, hin2⟩ := hin9
      have hvals : ∀ j ∈ plan[i].ps, ∀ (it : Fct), plan[j]? = some it → ∃ v, a.tmps[it.d]? = some v ∧ it.F v w := fun j hj it hjt => H.vals j it hjt (hps j hj) (fun k hk hl => by
        rw [htil j it hjt] at hk
        cases hk)
      have hil : i < l.size := by omega
      obtain ⟨j, hjn, hjl, hcj⟩ := HC
      by_cases hchn : ∃ i', i' < nc ∧ cp i' = i
      · obtain ⟨i', hi', hci⟩ := hchn
        have hij : i' = j := by
          have h1 : ¬ i' < j := fun hlt => hu (by rw [← hci]; exact (hjl i' hi').2 hlt)
          rcases Nat.eq_zero_or_pos i' with h0 | h0
          · omega
          · have hb := hcp (i' - 1) (by omega)
            rw [show i' - 1 + 1 = i' by omega, hci] at hb
            have h2 := close_listed hm hd hs i (maskOf (waits ops[i])) (fun j hj => ready_waits hm hr j (by rw [e2]; exact hj)) (cp (i' - 1)) (by rw [← e2]; exact hb)
            have h3 := (hjl (i' - 1) (by omega)).1 h2
            omega
        subst hij
        obtain ⟨e', hob2, hst⟩ := Chain.get hvals (hch i' hi' ops[i] plan[i] (by rw [hci]; exact hoi) (by rw [hci]; exact hit) a w) H.base
        have hob3 := hob2 hst hcj
        have fin2 : ∀ a' w', (∃ v, a' = a.put ops[i].dst v ∧ R' w w' ∧ plan[i].F v w' ∧ C (i' + 1) w') → wpAny P .any ops Q fuel (l.setIfInBounds i true) a' w' := ?_
        · rcases hob3 with ⟨hw, hwp2⟩ | ⟨hw, hp⟩
          · rw [hw, if_pos rfl]
            exact .inl (Oper.wp_mono fin2 hwp2)
          · rw [hw, if_neg (by decide)]
            exact fin2 _ _ hp
        rintro a' w' ⟨v, rfl, hb, hF, hc1⟩
        rw [hdst]
        refine ih _ _ _ hs2 hd2 hB2 hf2 (H.put hit hdn hen hdd (fun j jt hj _ _ _ v hv => hstab j jt hj v w w' hv) (hR' _ _ _ H.base hb) hF) ⟨i' + 1, by omega, fun k hk2 => ?_, hc1⟩
        by_cases e1 : cp k = i
        · have e2 : k = i' := hinj k i' hk2 hi' (e1.trans hci.symm)
          rw [e1]
          exact ⟨fun _ => by omega, fun _ => by simp [hil]⟩
        · have e2 : k ≠ i' := fun e => e1 (by rw [e]; exact hci)
          have e3 := hjl k hk2
          constructor
          · intro hl
            have := e3.1 (listed_set hl e1)
            omega
          · intro hlt
            exact getD_set_true (e3.2 (by omega))
      · have hne : ∀ k, k < nc → cp k ≠ i := fun k hk2 e1 => hchn ⟨k, hk2, e1⟩
        obtain ⟨e', hob2, hst⟩ := Chain.get hvals (ho i _ _ hoi hit hne a w) H.base
        have hob3 := hob2 hst
        have fin2 : ∀ a' w', (∃ v, a' = a.put ops[i].dst v ∧ Below w.heap.size w w' ∧ plan[i].F v w') → wpAny P .any ops Q fuel (l.setIfInBounds i true) a' w' := ?_
        · rcases hob3 with ⟨hw, hwp2⟩ | ⟨hw, hp⟩
          · rw [hw, if_pos rfl]
            exact .inl (Oper.wp_mono fin2 hwp2)
          · rw [hw, if_neg (by decide)]
            exact fin2 _ _ hp
        rintro a' w' ⟨v, rfl, hb, hF⟩
        rw [hdst]
        refine ih _ _ _ hs2 hd2 hB2 hf2 (H.put hit hdn hen hdd (fun j jt hj _ _ _ v hv => hstab j jt hj v w w' hv) (H.base.call hb) hF) ⟨j, hjn, fun k hk2 => ?_, hC j w w' hcj hb⟩
        rw [← hjl k hk2]
        exact ⟨fun hl => listed_set hl (hne k hk2), fun hl => getD_set_true hl⟩
end
def noF : It2 → Bool
  | .f _ _ _ => false
  | _ => true
def Ob3 (P : Program) (ops : Array Oper) (Q : Exit → Act → World → Prop) (n : Nat) (w0 : World) (e : Env) (h : Hep) (plan : List It2) (o : Oper) : It2 → Prop
  | .v d V ps => ∀ a w, Chain2 plan w (fun e' => St n w0 a w e' h → GS [] w → ObS P ops Q o a w (fun u _ => u = V)) ps e
  | .u d ps => ∀ a w, Chain2 plan w (fun e' => St n w0 a w e' h → GS [] w → Region.wanted o (yielded ops a.tmps) = false) ps e
  | .f _ _ _ => False
/-- What each operation comes to, but those of the chain (ch). -/
def Obs3 (P : Program) (ops : Array Oper) (Q : Exit → Act → World → Prop) (n : Nat) (w0 : World) (e : Env) (h : Hep) (plan : List It2) (ch : Nat → Bool) : Nat → List Oper → List It2 → Prop
  | k, o :: os, it :: r => (ch k = false → Ob3 P ops Q n w0 e h plan o it) ∧ Obs3 P ops Q n w0 e h plan ch (k + 1) os r
  | _, _, _ => True
section
variable {P : Program} {n : Nat} {w0 w : World} {a : Act} {e : Env} {h : Hep} {Q : Exit → Act → World → Prop} {ops : Array Oper} {plan : List It2} {ch : Nat → Bool}
theorem Obs3_get : ∀ {k : Nat} {os : List Oper} {r : List It2}, Obs3 P ops Q n w0 e h plan ch k os r → ∀ (j : Nat) (o : Oper) (it : It2), os[j]? = some o → r[j]? = some it → ch (k + j) = false → Ob3 P ops Q n w0 e h plan o it
  | k, [], r, ho, j, o, it, h1, h2, _ => by cases h1
  | k, o0 :: os, [], ho, j, o, it, h1, h2, _ => by cases h2
  | k, o0 :: os, it0 :: r, ho, 0, o, it, h1, h2, hc => by
    injection h1 with h1
    injection h2 with h2
    subst h1 h2
    exact ho.1 hc
  | k, o0 :: os, it0 :: r, ho, j + 1, o, it, h1, h2, hc => Obs3_get ho.2 j o it h1 h2 (by rwa [show k + 1 + j = k + (j + 1) by omega])
/-- **The region.** -/
theorem d2C {id nc : Nat} {cp : Nat → Nat} {C : Nat → World → Prop} {R' : Rel} (plan : List It2) (ch : Nat → Bool) (h0 : C 0 w) (hR' : ∀ a w w', St n w0 a w e h → R' w w' → St n w0 a w' e h) (hC : ∀ j w w', C j w → Below w.heap.size w w' → C j w') (hnf : plan.all noF = true) (hchp : ∀ i, ch i = true → ∃ j, j < nc ∧ cp j = i)
    (hin : ∀ j, j < nc → cp j < plan.length) (hcp : ∀ j, j + 1 < nc → (closeM (masks ops) (cp (j + 1)) ((masks ops).getD (cp (j + 1)) 0)).testBit (cp j) = true) (hinj : ∀ i j, i < nc → j < nc → cp i = cp j → i = j)
    (hf : P.follows .mixedOrders = true) (hk : planOkF ops n e (plan.map It2.fct) (masks ops) = true) (H : St n w0 a w e h) (ho : Obs3 P ops Q n w0 e h plan ch 0 ops.toList plan)
    (hch : ∀ j, j < nc → ∀ (o : Oper) (it : Fct), ops[cp j]? = some o → (plan.map It2.fct)[cp j]? = some it → ∀ a w, Chain (plan.map It2.fct) w (fun e' => St n w0 a w e' h → C j w → ObJ P ops Q o a w (fun a' w' => ∃ v, a' = a.put o.dst v ∧ R' w w' ∧ it.F v w' ∧ C (j + 1) w')) it.ps e)
    (tail : nxt2 plan (fun e' G' => ∀ a w, St n w0 a w e' h → GS G' w → C nc w → wpList P ops Q (ops.toList.drop plan.length) a w) e []) : (Code.region id ops true).wp P Q a w := by
  refine wp_region_any hf ?_
  have none_ : ∀ i, ¬ (Array.replicate ops.size false).getD i false = true := fun i hi => by
    by_cases h : i < ops.size
    · simp [h] at hi
    · simp [h] at hi
  have hlen : (plan.map It2.fct).length = plan.length := List.length_map _
  have hget : ∀ (j : Nat) (it : Fct), (plan.map It2.fct)[j]? = some it → ∃ x, plan[j]? = some x ∧ it = x.fct ∧ noF x = true := fun j it hj => by
    rw [List.getElem?_map] at hj
    obtain ⟨x, hx, rfl⟩ := Option.map_eq_some_iff.1 hj
    exact ⟨x, hx, rfl, List.all_eq_true.1 hnf x (List.mem_iff_getElem?.2 ⟨j, hx⟩)⟩
  refine any_planC (nc := nc) (cp := cp) (C := C) hR' (fun j it hj => by
    obtain ⟨x, _, rfl, hx⟩ := hget j it hj
    cases x <;> rfl) (fun j it hj v w w' hv => by
    obtain ⟨x, _, rfl, hx⟩ := hget j it hj
    cases x with
    | v d V ps => exact hv
    | u d ps => exact hv
    | f d F ps => cases hx) hC (fun j hj => by rw [hlen]; exact hin j hj) hcp hinj rfl hk (fun i o it hoi hit hne a w => ?_) hch (fun a w hv hst hc => ?_) ops.size _ a w.drew (by simp) (fun i o _ hi => absurd hi (none_ i)) (fun i _ => none_ i) ?_ ⟨H.drew, fun j _ _ hj => absurd hj (none_ j)⟩ ⟨0, Nat.zero_le _, fun i _ => ⟨fun hl => absurd hl (none_ _), fun h => absurd h (Nat.not_lt_zero _)⟩, hC _ _ _ h0 (Below.refl _ _).drew⟩
  · obtain ⟨x, hx, rfl, hxf⟩ := hget i it hit
    have hc : ch i = false := by
      cases hq : ch i with
      | false => rfl
      | true =>
        obtain ⟨j, hj, e⟩ := hchp i hq
        exact absurd e (hne j hj)
    have hoi2 : ops.toList[i]? = some o := by simpa using hoi
    have hob := Obs3_get ho i o x hoi2 hx (by rw [Nat.zero_add]; exact hc)
    cases x with
    | v d V ps => exact Chain.imp (fun e' hx H => .inl (hx H gs0)) (Chain2.out (hob a w))
    | u d ps => exact Chain.imp (fun e' hx H => .inr ⟨hx H gs0, undef, rfl, Below.refl _ _, rfl⟩) (Chain2.out (hob a w))
    | f d F ps => cases hxf
  · obtain ⟨e', G', h1, h2, h3⟩ := nxt2_of a w tail hst gs0 fun it hi => by
        obtain ⟨j, hj⟩ := List.mem_iff_getElem?.1 hi
        exact hv j it.fct (by rw [List.getElem?_map, hj]; rfl)
    rw [hlen]
    exact h1 a w h2 h3 hc
  · have := left_le (Array.replicate ops.size false) (plan.map It2.fct).length
    unfold planOkF at hk
    simp only [Bool.and_eq_true] at hk
    have := Nat.le_of_ble_eq_true hk.1.1.1.1.1.1.1.1
    omega
end
end Go.Proofs.Ytiebelmglchbdaa
