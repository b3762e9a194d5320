/- A region that draws its order, of which one operation alone writes on what an operation before it has made (drawnR1). No dump is imported. -/
import Derived.Test.YtiebelmglchbdaaVk
namespace Go.Proofs.Ytiebelmglchbdaa
set_option linter.unusedVariables false
set_option linter.unusedSimpArgs false
open Go Go.RowKit

def Fct.ob1 (P : Program) (R R' : Rel) (ops : Array Oper) (Q : Exit → Act → World → Prop) (n : Nat) (w0 : World) (e : Env) (h : Hep) (plan : List Fct) (o : Oper) (it : Fct) : Prop :=
  (∀ a w, Chain plan w (fun e' => St n w0 a w e' h → Region.wanted o (yielded ops a.tmps) = true ∧ o.wp P a w (fun a' w' => ∃ v, a' = a.put o.dst v ∧ it.rel R R' w w' ∧ it.F v w') Q) it.ps e) ∧ (∀ v w w', it.F v w → R w w' → it.F v w') ∧ (it.til = none → it.own = false → ∀ v w w', it.F v w → R' w w' → it.F v w')
def ObsF1 (P : Program) (R R' : Rel) (ops : Array Oper) (Q : Exit → Act → World → Prop) (n : Nat) (w0 : World) (e : Env) (h : Hep) (plan : List Fct) : List Oper → List Fct → Prop
  | o :: os, it :: r => it.ob1 P R R' ops Q n w0 e h plan o ∧ ObsF1 P R R' ops Q n w0 e h plan os r
  | _, _ => True
section
variable {P : Program} {n : Nat} {w0 w w' : World} {a : Act} {e : Env} {h : Hep} {Q : Exit → Act → World → Prop} {ops : Array Oper} {plan : List Fct} {ms : List Nat} {rest : List Oper} {o : Oper} {R R' : Rel}
theorem ObsF1_get {os : List Oper} {r : List Fct} (ho : ObsF1 P R R' ops Q n w0 e h plan os r) : ∀ (j : Nat) (o : Oper) (it : Fct), os[j]? = some o → r[j]? = some it → it.ob1 P R R' ops Q n w0 e h plan o := by
  induction os generalizing r with
  | nil => intro j o it h1; cases h1
  | cons o0 os ih =>
    cases r with
    | nil => intro j o it _ h2; cases h2
    | cons it0 r =>
      intro j o it h1 h2
      obtain ⟨ho1, ho2⟩ := ho
      cases j with
      | zero =>
        injection h1 with h1
        injection h2 with h2
        subst h1 h2
        exact ho1
      | succ j => exact ih ho2 j o it h1 h2
theorem any_plan1 {nw : List Nat} (hone : ∀ (i j : Nat) (it jt : Fct), plan[i]? = some it → plan[j]? = some jt → it.own = true → jt.own = true → i = j) (hR : ∀ a w w', St n w0 a w e h → R w w' → St n w0 a w' e h) (hR' : ∀ a w w', St n w0 a w e h → R' w w' → St n w0 a w' e h) (hm : masks ops = ms) (hk : planOkF ops n e plan ms = true) (ho : ObsF1 P R R' ops Q n w0 e h plan ops.toList plan)
    (hold : ∀ (j : Nat) (it : Fct), plan[j]? = some it → j ∈ nw → it.til = none ∧ ∀ v w, it.F v w → ∃ g, v = .pointer (some ⟨g, 0, none⟩) ∧ g < w.heap.size)
    (strong : ∀ (j : Nat) (o : Oper) (it : Fct), ops[j]? = some o → plan[j]? = some it → j ∈ nw → ∀ a w, St n w0 a w e h → o.wp P a w (fun a' w' => ∃ v, a' = a.put o.dst v ∧ it.rel R R' w w' ∧ it.F v w' ∧ FreshAt w v) Q)
    (tail : ∀ a w, DistAll plan nw a → (∀ (j : Nat) (it : Fct), plan[j]? = some it → it.til = none → ∃ v, a.tmps[it.d]? = some v ∧ it.F v w) → St n w0 a w e h → wpList P ops Q (ops.toList.drop plan.length) a w) :
    ∀ (fuel : Nat) (l : Array Bool) (a : Act) (w : World), l.size = ops.size → Down ops l → (∀ i, plan.length ≤ i → ¬ l.getD i false = true) → ops.size - plan.length + left l plan.length ≤ fuel → MidF plan n w0 e h l a w → Dist plan nw l a → wpAny P .any ops Q fuel l a w := by
  unfold planOkF at hk
  simp only [Bool.and_eq_true] at hk
  obtain ⟨⟨⟨⟨⟨⟨⟨⟨k1, k2⟩, k3⟩, k4⟩, k5⟩, k6⟩, k7⟩, k8⟩, k9⟩ := hk
  have hlen : plan.length ≤ ops.size := Nat.le_of_ble_eq_true k1
  have hmsl : ms.length = ops.size := by rw [← hm]; simp [masks]
  have after_all : ∀ (l : Array Bool) (i : Nat), l.size = ops.size → Down ops l → (∀ i, plan.length ≤ i → ¬ l.getD i false = true) → i ∈ Region.ready .any ops l → plan.length ≤ i → ∀ j, j < plan.length → l.getD j false = true := by
    intro l i hs hd hB hr hge
    obtain ⟨_, o, hoo, _⟩ := mem_ready.1 hr
    have hilt : i < ops.size := (Array.getElem?_eq_some_iff.1 hoo).1
    have hg := masks_get hm hoo
    have e2 : ms.getD i 0 = maskOf (waits o) := by simp [hg]
    have hlist : ∀ j, (closeM ms i (maskOf (waits o))).testBit j = true → l.getD j false = true := fun j hc => close_listed hm hd hs i (maskOf (waits o)) (fun j hj => ready_waits hm hr j (by rw [e2]; exact hj)) j hc
    have hg2 : (ms.drop plan.length)[i - plan.length]? = some (maskOf (waits o)) := by
      rw [List.getElem?_drop, show plan.length + (i - plan.length) = i by omega]
      exact hg
    have him : i = plan.length := by
      apply Nat.le_antisymm _ hge
      apply Nat.le_of_not_lt
      intro hlt
      have hc := lineUp_get (Nat.le_refl _) k7 (i - plan.length) _ hg2 plan.length (Nat.le_refl _) (by omega)
      rw [show plan.length + (i - plan.length) = i by omega] at hc
      exact hB plan.length (Nat.le_refl _) (hlist _ hc)
    subst him
    have hdr : ms.drop plan.length = maskOf (waits o) :: ms.drop (plan.length + 1) := by
      have hlt2 : plan.length < ms.length := by omega
      rw [List.drop_eq_getElem_cons hlt2]
      congr 1
      rw [List.getElem?_eq_getElem hlt2] at hg
      exact Option.some.inj hg
    rw [hdr] at k8
    unfold headOkF at k8
    intro j hj
    have hbit : (Nat.shiftLeft 1 plan.length - 1).testBit j = true := by rw [low_bit]; exact decide_eq_true hj
    exact hlist j (sub2_get k8 hbit)
  have fin : ∀ (fuel : Nat) (l : Array Bool) (a : Act) (w : World), l.size = ops.size → (∀ i, plan.length ≤ i → ¬ l.getD i false = true) → (∀ j, j < plan.length → l.getD j false = true) → ops.size - plan.length ≤ fuel → MidF plan n w0 e h l a w → Dist plan nw l a → wpAny P .any ops Q fuel l a w := by
    intro fuel l a w hs hB hall hf H D
    refine any_tail hm k2 k7 fuel plan.length l a w (Nat.le_refl _) hlen hf hs (fun i hi => ⟨fun h1 => ?_, fun h1 => hall i h1⟩) (tail a w (fun i j it jt hi hj hne hin hjn => D i j it jt hi hj hne hin hjn (hall i (List.getElem?_eq_some_iff.1 hi).1) (hall j (List.getElem?_eq_some_iff.1 hj).1)) (fun j it hj ht => H.vals j it hj (hall j (List.getElem?_eq_some_iff.1 hj).1) (fun k hk => by rw [ht] at hk; cases hk)) H.base)
    exact Classical.byContradiction fun hn => hB i (by omega) h1
  intro fuel
  induction fuel with
  | zero =>
    intro l a w hs hd hB hf H D
    exact fin 0 l a w hs hB (left_zero (by omega)) (by omega) H D
  | succ fuel ih =>
    intro l a w hs hd hB hf H D
    by_cases hall : ∀ j, j < plan.length → l.getD j false = true
    · exact fin _ l a w hs hB hall (by omega) H D
    have hex : ∃ i, i < plan.length ∧ ¬ l.getD i false = true := Classical.byContradiction fun hn => hall fun j hj => Classical.byContradiction fun hu => hn ⟨j, hj, hu⟩
    obtain ⟨i0, hi0, hu0, hlow⟩ := first_left _ hex
    refine ⟨fun hnil => ?_, fun i hr => ?_⟩
    · exfalso
      have hlt : i0 < ops.size := by omega
      have hin : i0 ∈ Region.ready .any ops l := by
        refine mem_ready.2 ⟨?_, ops[i0], Array.getElem?_eq_getElem hlt, fun x hx hb => hlow _ ?_⟩
        · have hl2 : i0 < l.size := by omega
          simp [Array.getElem?_eq_getElem hl2] at hu0 ⊢
          exact hu0
        · have hg := masks_get hm (Array.getElem?_eq_getElem hlt)
          have hx2 : (maskOf (waits ops[i0])).testBit x.on = true := maskOf_bit.2 (mem_waits.2 ⟨x, hx, hb, rfl⟩)
          have := downs_get k2 i0 _ hg x.on hx2
          omega
      rw [hnil] at hin
      cases hin
    · have hu := not_listed hr
      have hilt : i < plan.length := by
        apply Nat.lt_of_not_le
        intro hge
        exact hu0 (after_all l i hs hd hB hr hge i0 hi0)
      have hios : i < ops.size := by omega
      have hit : plan[i]? = some plan[i] := List.getElem?_eq_getElem hilt
      have hoi : ops[i]? = some ops[i] := Array.getElem?_eq_getElem hios
      have hoi2 : ops.toList[i]? = some ops[i] := by simp [hios]
      have hob := ObsF1_get ho i _ _ hoi2 hit
      have hdst := dstOkF_get k4 i _ _ hoi2 hit
      have hg := masks_get hm hoi
      have e2 : ms.getD i 0 = maskOf (waits ops[i]) := by simp [hg]
      have hps : ∀ j ∈ plan[i].ps, l.getD j false = true := fun j hj => ready_waits hm hr j (by rw [e2]; exact psOkF_get k3 i _ _ hg hit j hj)
      have h6 := List.all_eq_true.1 k6 _ (List.getElem_mem hilt)
      rw [Bool.and_eq_true] at h6
      have hdn : plan[i].d < n := by
        have := h6.1
        rw [Nat.blt_eq] at this
        exact this
      have hen : ∀ p ∈ e, p.1 ≠ plan[i].d := fun p hp e1 => by
        have := List.all_eq_true.1 h6.2 p hp
        rw [e1, Nat.beq_refl] at this
        cases this
      have hdd : ∀ j jt, plan[j]? = some jt → j ≠ i → jt.d ≠ plan[i].d := fun j jt hj hne =>
        distinct_get k5 j i jt.d plan[i].d (by rw [List.getElem?_map, hj]; rfl) (by rw [List.getElem?_map, hit]; rfl) hne
      have hs2 : (l.setIfInBounds i true).size = ops.size := by simpa using hs
      have hd2 := down_set hd hr
      have hB2 : ∀ j, plan.length ≤ j → ¬ (l.setIfInBounds i true).getD j false = true := fun j hj hl => hB j hj (listed_set hl (by omega))
      have hf2 : ops.size - plan.length + left (l.setIfInBounds i true) plan.length ≤ fuel := by
        have := left_set (l := l) (i := i) (by omega) hu plan.length hilt
        omega
      unfold wpOp
      rw [hoi]
      dsimp only
      have hin := List.all_eq_true.1 k9 i (List.mem_range.2 hilt)
      rw [hit] at hin
      simp only [Bool.and_eq_true] at hin
      obtain ⟨hin1, hin2⟩ := hin
      obtain ⟨e', hob2, hst⟩ := Chain.get (fun j hj it hjt => H.vals j it hjt (hps j hj) (fun k hk hl => by
        have := List.all_eq_true.1 hin1 j hj
        unfold tilOk at this
        rw [hjt] at this
        simp only [hk] at this
        rw [Nat.eq_of_beq_eq_true this] at hl
        exact hu hl)) (hob.1 a w) H.base
      obtain ⟨hw, hwp⟩ := hob2 hst
      rw [hw, if_pos rfl]
      have hwp2 : ops[i].wp P a w (fun a' w' => ∃ v, a' = a.put ops[i].dst v ∧ plan[i].rel R R' w w' ∧ plan[i].F v w' ∧ (i ∈ nw → FreshAt w v)) Q := by
        by_cases hnw : i ∈ nw
        · exact Oper.wp_mono (fun a' w' ⟨v, h1, h2, h3, h4⟩ => ⟨v, h1, h2, h3, fun _ => h4⟩) (strong i _ _ hoi hit hnw a w H.base)
        · exact Oper.wp_mono (fun a' w' ⟨v, h1, h2, h3⟩ => ⟨v, h1, h2, h3, fun hh => absurd hh hnw⟩) hwp
      refine .inl (Oper.wp_mono (fun a' w' hx => ?_) hwp2)
      obtain ⟨v, rfl, hb, hF, hfr⟩ := hx
      have D2 : Dist plan nw (l.setIfInBounds i true) (a.put (some plan[i].d) v) := D.put hit hdd (by rw [H.base.size]; exact hdn) (fun hin j jt hj hne hjn hlj => by
        obtain ⟨ht, ho2⟩ := hold j jt hj hjn
        obtain ⟨u, hu1, hu2⟩ := H.vals j jt hj hlj (fun k hk => by rw [ht] at hk; cases hk)
        obtain ⟨g, rfl, hg1⟩ := ho2 u w hu2
        rw [hu1]
        intro e1
        injection e1 with e1
        have := hfr hin g e1.symm
        omega)
      rw [hdst]
      have stab : ∀ (j : Nat) (jt : Fct), plan[j]? = some jt → (∀ v w w', jt.F v w → R w w' → jt.F v w') ∧ (jt.til = none → jt.own = false → ∀ v w w', jt.F v w → R' w w' → jt.F v w') := fun j jt hj => by
        have hjl : j < ops.size := by have := (List.getElem?_eq_some_iff.1 hj).1; omega
        exact (ObsF1_get ho j ops[j] jt (by simp [hjl]) hj).2
      cases hown : plan[i].own with
      | false =>
        unfold Fct.rel at hb
        rw [hown] at hb
        exact ih _ _ _ hs2 hd2 hB2 hf2 (H.put hit hdn hen hdd (fun j jt hj _ _ _ v hv => (stab j jt hj).1 v w w' hv hb) (hR _ _ _ H.base hb) hF) D2
      | true =>
        unfold Fct.rel at hb
        rw [hown] at hb
        rw [hown] at hin2
        have hin2 : ownOk ms plan i = true := by simpa using hin2
        refine ih _ _ _ hs2 hd2 hB2 hf2 (H.put hit hdn hen hdd (fun j jt hj hne hl ht v hv => ?_) (hR' _ _ _ H.base hb) hF) D2
        cases htil : jt.til with
        | none =>
          cases hjo : jt.own with
          | false => exact (stab j jt hj).2 htil hjo v w w' hv hb
          | true => exact absurd (hone j i jt plan[i] hj hit hjo hown) hne
        | some k =>
          exfalso
          have hnk := ht k htil
          have hjp : j < plan.length := (List.getElem?_eq_some_iff.1 hj).1
          have hc := List.all_eq_true.1 hin2 j (List.mem_range.2 hjp)
          rw [hj] at hc
          simp only [htil, Bool.or_eq_true] at hc
          rcases hc with ((hc | hc) | hc) | hc
          · rw [Nat.eq_of_beq_eq_true hc] at hnk
            exact hnk (by simp [show i < l.size by omega])
          · exact hne (Nat.eq_of_beq_eq_true hc)
          · exact hnk (getD_set_true (close_listed hm hd hs i _ (ready_waits hm hr) k hc))
          · have hjo : j < ops.size := by omega
            have hgj := masks_get hm (Array.getElem?_eq_getElem hjo)
            have e3 : ms.getD j 0 = maskOf (waits ops[j]) := by simp [hgj]
            refine hu (close_listed hm hd hs j _ (fun m hm2 => ?_) i hc)
            rw [e3, maskOf_bit, mem_waits] at hm2
            obtain ⟨x, hx, hb3, rfl⟩ := hm2
            exact hd j _ (Array.getElem?_eq_getElem hjo) hl x hx hb3
theorem drawnN1 {id : Nat} (nw : List Nat) (R R' : Rel) (plan : List Fct) (ms js : List Nat) (hone : ∀ (i j : Nat) (it jt : Fct), plan[i]? = some it → plan[j]? = some jt → it.own = true → jt.own = true → i = j) (hR : ∀ a w w', St n w0 a w e h → R w w' → St n w0 a w' e h) (hR' : ∀ a w w', St n w0 a w e h → R' w w' → St n w0 a w' e h) (hf : P.follows .mixedOrders = true) (hm : masks ops = ms) (hk : planOkF ops n e plan ms = true) (H : St n w0 a w e h) (ho : ObsF1 P R R' ops Q n w0 e h plan ops.toList plan)
    (hl : js.all (fun j => match plan[j]? with | some jt => jt.til.isNone | none => true) = true)
    (hold : ∀ (j : Nat) (it : Fct), plan[j]? = some it → j ∈ nw → it.til = none ∧ ∀ v w, it.F v w → ∃ g, v = .pointer (some ⟨g, 0, none⟩) ∧ g < w.heap.size)
    (strong : ∀ (j : Nat) (o : Oper) (it : Fct), ops[j]? = some o → plan[j]? = some it → j ∈ nw → ∀ a w, St n w0 a w e h → o.wp P a w (fun a' w' => ∃ v, a' = a.put o.dst v ∧ it.rel R R' w w' ∧ it.F v w' ∧ FreshAt w v) Q)
    (tail : ∀ a w, Chain plan w (fun e' => DistAll plan nw a → St n w0 a w e' h → wpList P ops Q (ops.toList.drop plan.length) a w) js e) : (Code.region id ops true).wp P Q a w := by
  refine wp_region_any hf ?_
  have none_ : ∀ i, ¬ (Array.replicate ops.size false).getD i false = true := fun i hi => by
    by_cases h : i < ops.size
    · simp [h] at hi
    · simp [h] at hi
  refine any_plan1 hone hR hR' hm hk ho hold strong (fun a w hD hv hst => ?_) ops.size _ a w.drew (by simp) (fun i o _ hi => absurd hi (none_ i)) (fun i _ => none_ i) ?_ ⟨H.drew, fun j _ _ hj => absurd hj (none_ j)⟩ (fun i j _ _ _ _ _ _ _ hi => absurd hi (none_ i))
  · obtain ⟨e', h1, h2⟩ := Chain.get (fun j hjs it hj => hv j it hj (by
      have := List.all_eq_true.1 hl j hjs
      rw [hj] at this
      simpa using this)) (tail a w) hst
    exact h1 hD h2
  · have := left_le (Array.replicate ops.size false) plan.length
    unfold planOkF at hk
    simp only [Bool.and_eq_true] at hk
    have := Nat.le_of_ble_eq_true hk.1.1.1.1.1.1.1.1
    omega
theorem drawnR1 {id : Nat} (R R' : Rel) (plan : List Fct) (ms js : List Nat) (hone : ∀ (i j : Nat) (it jt : Fct), plan[i]? = some it → plan[j]? = some jt → it.own = true → jt.own = true → i = j) (hR : ∀ a w w', St n w0 a w e h → R w w' → St n w0 a w' e h) (hR' : ∀ a w w', St n w0 a w e h → R' w w' → St n w0 a w' e h) (hf : P.follows .mixedOrders = true) (hm : masks ops = ms) (hk : planOkF ops n e plan ms = true) (H : St n w0 a w e h) (ho : ObsF1 P R R' ops Q n w0 e h plan ops.toList plan)
    (hl : js.all (fun j => match plan[j]? with | some jt => jt.til.isNone | none => true) = true)
    (tail : ∀ a w, Chain plan w (fun e' => St n w0 a w e' h → wpList P ops Q (ops.toList.drop plan.length) a w) js e) : (Code.region id ops true).wp P Q a w :=
  drawnN1 [] R R' plan ms js hone hR hR' hf hm hk H ho hl (fun j it _ hj => by cases hj) (fun j o it _ _ hj => by cases hj) (fun a w => Chain.imp (fun e' h _ => h) (tail a w))
/-- One alone, by a test. -/
theorem one_own {plan : List Fct} {c : Nat} (h : ((List.range plan.length).all fun i => match plan[i]? with | some it => !it.own || Nat.beq i c | none => true) = true) : ∀ (i j : Nat) (it jt : Fct), plan[i]? = some it → plan[j]? = some jt → it.own = true → jt.own = true → i = j := by
  have key : ∀ (i : Nat) (it : Fct), plan[i]? = some it → it.own = true → i = c := fun i it hi ho => by
    have h1 := List.all_eq_true.1 h i (List.mem_range.2 (List.getElem?_eq_some_iff.1 hi).1)
    rw [hi] at h1
    simp only [ho, Bool.not_true, Bool.false_or] at h1
    exact Nat.eq_of_beq_eq_true h1
  intro i j it jt hi hj h1 h2
  rw [key i it hi h1, key j jt hj h2]
end
end Go.Proofs.Ytiebelmglchbdaa
