/- A region that draws its order, in which some operations come one behind the other (a chain) and tell more than their values: C j, behind the j-th one (d2K). No dump is imported. -/
import Derived.Test.YtiebelmglchbdaaPj
namespace Go.Proofs.Ytiebelmglchbdaa
set_option linter.unusedVariables false
set_option linter.unusedSimpArgs false
open Go Go.RowKit

section
variable {P : Program} {n : Nat} {w0 w w' : World} {a : Act} {e : Env} {h : Hep} {Q : Exit → Act → World → Prop} {ops : Array Oper} {plan : List Fct} {ms : List Nat} {rest : List Oper} {o : Oper}
theorem ObsJ.mapJ {J : World → Prop} {R R' : Rel} : ∀ {k : Nat} {os : List Oper} {t : List Fct}, ObsJ P R R' J ms ops Q n w0 e h plan k os t → (∀ w, J w) → ObsJ P R R' (fun _ => True) ms ops Q n w0 e h plan k os t
  | k, [], t, ho, hJ => by cases t <;> trivial
  | k, o :: os, [], ho, hJ => trivial
  | k, o :: os, it :: t, ho, hJ => ⟨⟨fun a w => Chain.mapK (fun e' hx H _ => hx H (fun _ => hJ w)) (ho.1.1 a w), ho.1.2.1, ho.1.2.2⟩, ObsJ.mapJ ho.2 hJ⟩
theorem any_planK {nc : Nat} {cp : Nat → Nat} {C : Nat → Act → World → Prop} (hno : ∀ (j : Nat) (it : Fct), plan[j]? = some it → it.own = false ∧ it.til = none)
    (hC : ∀ j a w w' d v, C j a w → Below w.heap.size w w' → (∀ (i : Nat) (it : Fct), i < nc → plan[cp i]? = some it → it.d ≠ d) → C j (a.put (some d) v) w')
    (hin : ∀ j, j < nc → cp j < plan.length) (hcp : ∀ j, j + 1 < nc → (ms.getD (cp (j + 1)) 0).testBit (cp j) = true) (hinj : ∀ i j, i < nc → j < nc → cp i = cp j → i = j)
    (hm : masks ops = ms) (hk : planOkF ops n e plan ms = true) (ho : ObsJ P (fun w w' => Below w.heap.size w w') (fun w w' => Below w.heap.size w w') (fun _ => True) ms ops Q n w0 e h plan 0 ops.toList plan)
    (hch : ∀ j, j < nc → ∀ (o : Oper) (it : Fct), ops[cp j]? = some o → plan[cp j]? = some it → ∀ a w, Chain plan w (fun e' => St n w0 a w e' h → C j a w → ObJ P ops Q o a w (fun a' w' => ∃ v, a' = a.put o.dst v ∧ Below w.heap.size w w' ∧ it.F v w' ∧ C (j + 1) a' w')) it.ps e)
    (tail : ∀ a w, (∀ (j : Nat) (it : Fct), plan[j]? = some it → ∃ v, a.tmps[it.d]? = some v ∧ it.F v w) → St n w0 a w e h → C nc a w → wpList P ops Q (ops.toList.drop plan.length) a w) :
    ∀ (fuel : Nat) (l : Array Bool) (a : Act) (w : World), l.size = ops.size → Down ops l → (∀ i, plan.length ≤ i → ¬ l.getD i false = true) → ops.size - plan.length + left l plan.length ≤ fuel → MidF plan n w0 e h l a w → (∃ j, j ≤ nc ∧ (∀ i, i < nc → (l.getD (cp i) false = true ↔ i < j)) ∧ C j a w) → wpAny P .any ops Q fuel l a w := by
  unfold planOkF at hk
  simp only [Bool.and_eq_true] at hk
  obtain ⟨⟨⟨⟨⟨⟨⟨⟨k1, k2⟩, k3⟩, k4⟩, k5⟩, k6⟩, k7⟩, k8⟩, k9⟩ := hk
  have hlen : plan.length ≤ ops.size := Nat.le_of_ble_eq_true k1
  have hmsl : ms.length = ops.size := by rw [← hm]; simp [masks]
  have after_all : ∀ (l : Array Bool) (i : Nat), l.size = ops.size → Down ops l → (∀ i, plan.length ≤ i → ¬ l.getD i false = true) → i ∈ Region.ready .any ops l → plan.length ≤ i → ∀ j, j < plan.length → l.getD j false = true := by
    intro l i hs hd hB hr hge
    obtain ⟨_, o, hoo, _⟩ := mem_ready.1 hr
    have hilt : i < ops.size := (Array.getElem?_eq_some_iff.1 hoo).1
    have hg := masks_get hm hoo
    have e2 : ms.getD i 0 = maskOf (waits o) := by simp [hg]
    have hlist : ∀ j, (closeM ms i (maskOf (waits o))).testBit j = true → l.getD j false = true := fun j hc => close_listed hm hd hs i (maskOf (waits o)) (fun j hj => ready_waits hm hr j (by rw [e2]; exact hj)) j hc
    have hg2 : (ms.drop plan.length)[i - plan.length]? = some (maskOf (waits o)) := by
      rw [List.getElem?_drop, show plan.length + (i - plan.length) = i by omega]
      exact hg
    have him : i = plan.length := by
      apply Nat.le_antisymm _ hge
      apply Nat.le_of_not_lt
      intro hlt
      have hc := lineUp_get (Nat.le_refl _) k7 (i - plan.length) _ hg2 plan.length (Nat.le_refl _) (by omega)
      rw [show plan.length + (i - plan.length) = i by omega] at hc
      exact hB plan.length (Nat.le_refl _) (hlist _ hc)
    subst him
    have hdr : ms.drop plan.length = maskOf (waits o) :: ms.drop (plan.length + 1) := by
      have hlt2 : plan.length < ms.length := by omega
      rw [List.drop_eq_getElem_cons hlt2]
      congr 1
      rw [List.getElem?_eq_getElem hlt2] at hg
      exact Option.some.inj hg
    rw [hdr] at k8
    unfold headOkF at k8
    intro j hj
    have hbit : (Nat.shiftLeft 1 plan.length - 1).testBit j = true := by rw [low_bit]; exact decide_eq_true hj
    exact hlist j (sub2_get k8 hbit)
  have fin : ∀ (fuel : Nat) (l : Array Bool) (a : Act) (w : World), l.size = ops.size → (∀ i, plan.length ≤ i → ¬ l.getD i false = true) → (∀ j, j < plan.length → l.getD j false = true) → ops.size - plan.length ≤ fuel → MidF plan n w0 e h l a w → (∃ j, j ≤ nc ∧ (∀ i, i < nc → (l.getD (cp i) false = true ↔ i < j)) ∧ C j a w) → wpAny P .any ops Q fuel l a w := by
    intro fuel l a w hs hB hall hf H HC
    have hCn : C nc a w := by
      obtain ⟨j, hj, hl, hc⟩ := HC
      have e1 : j = nc := Nat.le_antisymm hj (Nat.le_of_not_lt fun hlt => absurd ((hl j hlt).1 (hall _ (hin j hlt))) (Nat.lt_irrefl j))
      rw [e1] at hc
      exact hc
    refine any_tail hm k2 k7 fuel plan.length l a w (Nat.le_refl _) hlen hf hs (fun i hi => ⟨fun h1 => ?_, fun h1 => hall i h1⟩) (tail a w (fun j it hj => H.vals j it hj (hall j (List.getElem?_eq_some_iff.1 hj).1) (fun k hk => by rw [(hno j it hj).2] at hk; cases hk)) H.base hCn)
    exact Classical.byContradiction fun hn => hB i (by omega) h1
  intro fuel
  induction fuel with
  | zero =>
    intro l a w hs hd hB hf H HC
    exact fin 0 l a w hs hB (left_zero (by omega)) (by omega) H HC
  | succ fuel ih =>
    intro l a w hs hd hB hf H HC
    by_cases hall : ∀ j, j < plan.length → l.getD j false = true
    · exact fin _ l a w hs hB hall (by omega) H HC
    have hex : ∃ i, i < plan.length ∧ ¬ l.getD i false = true := Classical.byContradiction fun hn => hall fun j hj => Classical.byContradiction fun hu => hn ⟨j, hj, hu⟩
    obtain ⟨i0, hi0, hu0, hlow⟩ := first_left _ hex
    refine ⟨fun hnil => ?_, fun i hr => ?_⟩
    · exfalso
      have hlt : i0 < ops.size := by omega
      have hin : i0 ∈ Region.ready .any ops l := by
        refine mem_ready.2 ⟨?_, ops[i0], Array.getElem?_eq_getElem hlt, fun x hx hb => hlow _ ?_⟩
        · have hl2 : i0 < l.size := by omega
          simp [Array.getElem?_eq_getElem hl2] at hu0 ⊢
          exact hu0
        · have hg := masks_get hm (Array.getElem?_eq_getElem hlt)
          have hx2 : (maskOf (waits ops[i0])).testBit x.on = true := maskOf_bit.2 (mem_waits.2 ⟨x, hx, hb, rfl⟩)
          have := downs_get k2 i0 _ hg x.on hx2
          omega
      rw [hnil] at hin
      cases hin
    · have hu := not_listed hr
      have hilt : i < plan.length := by
        apply Nat.lt_of_not_le
        intro hge
        exact hu0 (after_all l i hs hd hB hr hge i0 hi0)
      have hios : i < ops.size := by omega
      have hit : plan[i]? = some plan[i] := List.getElem?_eq_getElem hilt
      have hoi : ops[i]? = some ops[i] := Array.getElem?_eq_getElem hios
      have hoi2 : ops.toList[i]? = some ops[i] := by simp [hios]
      have hdst := dstOkF_get k4 i _ _ hoi2 hit
      have hg := masks_get hm hoi
      have e2 : ms.getD i 0 = maskOf (waits ops[i]) := by simp [hg]
      have hps : ∀ j ∈ plan[i].ps, l.getD j false = true := fun j hj => ready_waits hm hr j (by rw [e2]; exact psOkF_get k3 i _ _ hg hit j hj)
      have h6 := List.all_eq_true.1 k6 _ (List.getElem_mem hilt)
      rw [Bool.and_eq_true] at h6
      have hdn : plan[i].d < n := by
        have := h6.1
        rw [Nat.blt_eq] at this
        exact this
      have hen : ∀ p ∈ e, p.1 ≠ plan[i].d := fun p hp e1 => by
        have := List.all_eq_true.1 h6.2 p hp
        rw [e1, Nat.beq_refl] at this
        cases this
      have hdd : ∀ j jt, plan[j]? = some jt → j ≠ i → jt.d ≠ plan[i].d := fun j jt hj hne =>
        distinct_get k5 j i jt.d plan[i].d (by rw [List.getElem?_map, hj]; rfl) (by rw [List.getElem?_map, hit]; rfl) hne
      have hs2 : (l.setIfInBounds i true).size = ops.size := by simpa using hs
      have hd2 := down_set hd hr
      have hB2 : ∀ j, plan.length ≤ j → ¬ (l.setIfInBounds i true).getD j false = true := fun j hj hl => hB j hj (listed_set hl (by omega))
      have hf2 : ops.size - plan.length + left (l.setIfInBounds i true) plan.length ≤ fuel := by
        have := left_set (l := l) (i := i) (by omega) hu plan.length hilt
        omega
      unfold wpOp
      rw [hoi]
      dsimp only
      have hin9 := List.all_eq_true.1 k9 i (List.mem_range.2 hilt)
      rw [hit] at hin9
      simp only [Bool.and_eq_true] at hin9
      obtain ⟨hin1, hin2⟩ := hin9
      have hvals : ∀ j ∈ plan[i].ps, ∀ (it : Fct), plan[j]? = some it → ∃ v, a.tmps[it.d]? = some v ∧ it.F v w := fun j hj it hjt => H.vals j it hjt (hps j hj) (fun k hk hl => by
        rw [(hno j it hjt).2] at hk
        cases hk)
      have stab : ∀ (j : Nat) (jt : Fct), plan[j]? = some jt → (∀ v w w', jt.F v w → Below w.heap.size w w' → jt.F v w') := fun j jt hj => by
        have hjl : j < ops.size := by have := (List.getElem?_eq_some_iff.1 hj).1; omega
        exact (ObsJ_get ho j ops[j] jt (by simp [hjl]) hj).2.1
      have hil : i < l.size := by omega
      obtain ⟨j, hjn, hjl, hcj⟩ := HC
      by_cases hchn : ∃ i', i' < nc ∧ cp i' = i
      · obtain ⟨i', hi', hci⟩ := hchn
        have hij : i' = j := by
          have h1 : ¬ i' < j := fun hlt => hu (by rw [← hci]; exact (hjl i' hi').2 hlt)
          rcases Nat.eq_zero_or_pos i' with h0 | h0
          · omega
          · have hb := hcp (i' - 1) (by omega)
            rw [show i' - 1 + 1 = i' by omega, hci] at hb
            have h2 := ready_waits hm hr (cp (i' - 1)) hb
            have h3 := (hjl (i' - 1) (by omega)).1 h2
            omega
        subst hij
        obtain ⟨e', hob2, hst⟩ := Chain.get hvals (hch i' hi' ops[i] plan[i] (by rw [hci]; exact hoi) (by rw [hci]; exact hit) a w) H.base
        have hob3 := hob2 hst hcj
        have fin2 : ∀ a' w', (∃ v, a' = a.put ops[i].dst v ∧ Below w.heap.size w w' ∧ plan[i].F v w' ∧ C (i' + 1) a' w') → wpAny P .any ops Q fuel (l.setIfInBounds i true) a' w' := ?_
        · rcases hob3 with ⟨hw, hwp2⟩ | ⟨hw, hp⟩
          · rw [hw, if_pos rfl]
            exact .inl (Oper.wp_mono fin2 hwp2)
          · rw [hw, if_neg (by decide)]
            exact fin2 _ _ hp
        rintro a' w' ⟨v, rfl, hb, hF, hc1⟩
        rw [hdst] at hc1 ⊢
        refine ih _ _ _ hs2 hd2 hB2 hf2 (H.put hit hdn hen hdd (fun j jt hj _ _ _ v hv => stab j jt hj v w w' hv hb) (H.base.call hb) hF) ⟨i' + 1, by omega, fun k hk2 => ?_, hc1⟩
        by_cases e1 : cp k = i
        · have e2 : k = i' := hinj k i' hk2 hi' (e1.trans hci.symm)
          rw [e1]
          exact ⟨fun _ => by omega, fun _ => by simp [hil]⟩
        · have e2 : k ≠ i' := fun e => e1 (by rw [e]; exact hci)
          have e3 := hjl k hk2
          constructor
          · intro hl
            have := e3.1 (listed_set hl e1)
            omega
          · intro hlt
            exact getD_set_true (e3.2 (by omega))
      · have hne : ∀ k, k < nc → cp k ≠ i := fun k hk2 e1 => hchn ⟨k, hk2, e1⟩
        have hob := ObsJ_get ho i _ _ hoi2 hit
        obtain ⟨e', hob2, hst⟩ := Chain.get hvals (hob.1 a w) H.base
        have hob3 := hob2 hst (fun _ => trivial)
        have fin2 : ∀ a' w', (∃ v, a' = a.put ops[i].dst v ∧ plan[i].rel (fun w w' => Below w.heap.size w w') (fun w w' => Below w.heap.size w w') w w' ∧ plan[i].F v w') → wpAny P .any ops Q fuel (l.setIfInBounds i true) a' w' := ?_
        · rcases hob3 with ⟨hw, hwp2⟩ | ⟨hw, hp⟩
          · rw [hw, if_pos rfl]
            exact .inl (Oper.wp_mono fin2 hwp2)
          · rw [hw, if_neg (by decide)]
            exact fin2 _ _ hp
        rintro a' w' ⟨v, rfl, hb, hF⟩
        rw [hdst]
        have hb : Below w.heap.size w w' := by
          unfold Fct.rel at hb
          cases hq : plan[i].own with
          | true => rw [hq] at hb; exact hb
          | false => rw [hq] at hb; exact hb
        refine ih _ _ _ hs2 hd2 hB2 hf2 (H.put hit hdn hen hdd (fun j jt hj _ _ _ v hv => stab j jt hj v w w' hv hb) (H.base.call hb) hF) ⟨j, hjn, fun k hk2 => ?_, hC j a w w' _ v hcj hb fun k kt hk2 hkt => hdd (cp k) kt hkt (hne k hk2)⟩
        rw [← hjl k hk2]
        exact ⟨fun hl => listed_set hl (hne k hk2), fun hl => getD_set_true hl⟩
end
section
variable {P : Program} {n : Nat} {w0 w : World} {a : Act} {e : Env} {h : Hep} {G : List (World → Prop)} {Q : Exit → Act → World → Prop} {ops : Array Oper}
/-- **The region.** -/
theorem d2K {id nc : Nat} {cp : Nat → Nat} {C : Nat → Act → World → Prop} (plan : List It2) (hC0 : ∀ a w, St n w0 a w e h → C 0 a w)
    (hC : ∀ j a w w' d v, C j a w → Below w.heap.size w w' → (∀ (i : Nat) (it : Fct), i < nc → (plan.map It2.fct)[cp i]? = some it → it.d ≠ d) → C j (a.put (some d) v) w')
    (hin : ∀ j, j < nc → cp j < plan.length) (hcp : ∀ j, j + 1 < nc → ((masks ops).getD (cp (j + 1)) 0).testBit (cp j) = true) (hinj : ∀ i j, i < nc → j < nc → cp i = cp j → i = j)
    (hch : ∀ j, j < nc → ∀ (o : Oper) (it : Fct), ops[cp j]? = some o → (plan.map It2.fct)[cp j]? = some it → ∀ a w, Chain (plan.map It2.fct) w (fun e' => St n w0 a w e' h → C j a w → ObJ P ops Q o a w (fun a' w' => ∃ v, a' = a.put o.dst v ∧ Below w.heap.size w w' ∧ it.F v w' ∧ C (j + 1) a' w')) it.ps e)
    (hf : P.follows .mixedOrders = true) (hk : planOkF ops n e (plan.map It2.fct) (masks ops) = true) (H : St n w0 a w e h) (ho : Obs2 P ops Q n w0 e h [] plan ops.toList plan)
    (tail : nxt2 plan (fun e' G' => ∀ a w, St n w0 a w e' h → GS G' w → C nc a w → wpList P ops Q (ops.toList.drop plan.length) a w) e []) : (Code.region id ops true).wp P Q a w := by
  refine wp_region_any hf ?_
  have none_ : ∀ i, ¬ (Array.replicate ops.size false).getD i false = true := fun i hi => by
    by_cases h : i < ops.size
    · simp [h] at hi
    · simp [h] at hi
  have hlen : (plan.map It2.fct).length = plan.length := List.length_map _
  refine any_planK (nc := nc) (cp := cp) (C := C) (fun j it hj => by
    rw [List.getElem?_map] at hj
    obtain ⟨x, _, rfl⟩ := Option.map_eq_some_iff.1 hj
    cases x <;> exact ⟨rfl, rfl⟩) hC (fun j hj => by rw [hlen]; exact hin j hj) hcp hinj rfl hk (ObsJ.mapJ (Obs2.out 0 (no_own _ _) ho) (fun w => gs0)) hch (fun a w hv hst hc => ?_) ops.size _ a w.drew (by simp) (fun i o _ hi => absurd hi (none_ i)) (fun i _ => none_ i) ?_ ⟨H.drew, fun j _ _ hj => absurd hj (none_ j)⟩ ⟨0, Nat.zero_le _, fun i _ => ⟨fun hl => absurd hl (none_ _), fun h => absurd h (Nat.not_lt_zero _)⟩, hC0 _ _ H.drew⟩
  · obtain ⟨e', G', h1, h2, h3⟩ := nxt2_of a w tail hst gs0 fun it hi => by
        obtain ⟨j, hj⟩ := List.mem_iff_getElem?.1 hi
        exact hv j it.fct (by rw [List.getElem?_map, hj]; rfl)
    rw [hlen]
    exact h1 a w h2 h3 hc
  · have := left_le (Array.replicate ops.size false) (plan.map It2.fct).length
    unfold planOkF at hk
    simp only [Bool.and_eq_true] at hk
    have := Nat.le_of_ble_eq_true hk.1.1.1.1.1.1.1.1
    omega
end
end Go.Proofs.Ytiebelmglchbdaa
