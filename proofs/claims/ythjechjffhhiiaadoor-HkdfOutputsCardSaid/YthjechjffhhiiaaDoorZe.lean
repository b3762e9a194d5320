/- A region that draws its order, of operations that leave what was there, of which one (f) may come behind the first one of the rest (d2L). No dump is imported. -/
import Derived.Test.YthjechjffhhiiaaDoorZb
namespace Go.Proofs.YthjechjffhhiiaaDoor
set_option linter.unusedVariables false
set_option linter.unusedSimpArgs false
open Go Go.RowKit

def headOkL (ms : List Nat) (m f : Nat) : List Nat → Bool
  | [] => true
  | [x] => (List.range m).all (fun j => Nat.beq j f || (closeM ms m x).testBit j)
  | x :: y :: _ => (List.range m).all (fun j => Nat.beq j f || (closeM ms m x).testBit j) && (closeM ms (m + 1) y).testBit f
def planOkL (ops : Array Oper) (n : Nat) (e : Env) (plan : List Fct) (ms : List Nat) (f : Nat) : Bool :=
  Nat.ble plan.length ops.size && downs 0 ms && psOkF ms plan && dstOkF ops.toList plan && distinct (plan.map (·.d)) && plan.all (fun it => Nat.blt it.d n && e.all (fun p => !Nat.beq p.1 it.d)) && lineUp ms plan.length plan.length (ms.drop plan.length) && headOkL ms plan.length f (ms.drop plan.length) && lastOk ms plan
/-- The rest, where f comes behind its first one. -/
def lateL (l : List Oper) (m f : Nat) : List Oper := match l.drop m with
  | [] => []
  | x :: r => match l[f]? with
    | some y => x :: y :: r
    | none => []
theorem left_pos {l : Array Bool} {i : Nat} : ∀ {m : Nat}, i < m → ¬ l.getD i false = true → 1 ≤ left l m := fun {m} hi hu => by
  have h := @left_zero l m
  apply Nat.succ_le_of_lt
  apply Nat.pos_of_ne_zero
  intro h0
  exact hu (h h0 i hi)
section
variable {P : Program} {n : Nat} {w0 w w' : World} {a : Act} {e : Env} {h : Hep} {Q : Exit → Act → World → Prop} {ops : Array Oper} {plan : List Fct} {ms : List Nat} {rest : List Oper} {o : Oper} {R R' : Rel}
theorem any_planL {J : World → Prop} {f : Nat} (hno : ∀ (j : Nat) (it : Fct), plan[j]? = some it → it.own = false ∧ it.til = none) (hJ : ∀ w w', J w → R w w' → J w') (hR : ∀ a w w', St n w0 a w e h → R w w' → St n w0 a w' e h) (hR' : ∀ a w w', St n w0 a w e h → R' w w' → St n w0 a w' e h) (hm : masks ops = ms) (hk : planOkL ops n e plan ms f = true) (ho : ObsJ P R R' J ms ops Q n w0 e h plan 0 ops.toList plan)
    (tail : ∀ a w, (∀ (j : Nat) (it : Fct), plan[j]? = some it → it.til = none → ∃ v, a.tmps[it.d]? = some v ∧ it.F v w) → St n w0 a w e h → ((∀ (j : Nat) (it : Fct), plan[j]? = some it → it.own = false) → J w) → wpList P ops Q (ops.toList.drop plan.length) a w)
    (late : ∀ a w, (∀ (j : Nat) (it : Fct), j ≠ f → plan[j]? = some it → ∃ v, a.tmps[it.d]? = some v ∧ it.F v w) → St n w0 a w e h → J w → wpList P ops Q (lateL ops.toList plan.length f) a w) :
    ∀ (fuel : Nat) (l : Array Bool) (a : Act) (w : World), l.size = ops.size → Down ops l → (∀ i, plan.length ≤ i → ¬ l.getD i false = true) → ops.size - plan.length + left l plan.length ≤ fuel → MidJ J plan n w0 e h l a w → wpAny P .any ops Q fuel l a w := by
  unfold planOkL at hk
  simp only [Bool.and_eq_true] at hk
  obtain ⟨⟨⟨⟨⟨⟨⟨⟨k1, k2⟩, k3⟩, k4⟩, k5⟩, k6⟩, k7⟩, k8⟩, k9⟩ := hk
  have hlen : plan.length ≤ ops.size := Nat.le_of_ble_eq_true k1
  have hmsl : ms.length = ops.size := by rw [← hm]; simp [masks]
  have after_all : ∀ (l : Array Bool) (i : Nat), l.size = ops.size → Down ops l → (∀ i, plan.length ≤ i → ¬ l.getD i false = true) → i ∈ Region.ready .any ops l → plan.length ≤ i → i = plan.length ∧ ∀ j, j < plan.length → j ≠ f → l.getD j false = true := by
    intro l i hs hd hB hr hge
    obtain ⟨_, o, hoo, _⟩ := mem_ready.1 hr
    have hilt : i < ops.size := (Array.getElem?_eq_some_iff.1 hoo).1
    have hg := masks_get hm hoo
    have e2 : ms.getD i 0 = maskOf (waits o) := by simp [hg]
    have hlist : ∀ j, (closeM ms i (maskOf (waits o))).testBit j = true → l.getD j false = true := fun j hc => close_listed hm hd hs i (maskOf (waits o)) (fun j hj => ready_waits hm hr j (by rw [e2]; exact hj)) j hc
    have hg2 : (ms.drop plan.length)[i - plan.length]? = some (maskOf (waits o)) := by
      rw [List.getElem?_drop, show plan.length + (i - plan.length) = i by omega]
      exact hg
    have him : i = plan.length := by
      apply Nat.le_antisymm _ hge
      apply Nat.le_of_not_lt
      intro hlt
      have hc := lineUp_get (Nat.le_refl _) k7 (i - plan.length) _ hg2 plan.length (Nat.le_refl _) (by omega)
      rw [show plan.length + (i - plan.length) = i by omega] at hc
      exact hB plan.length (Nat.le_refl _) (hlist _ hc)
    subst him
    have hdr : ms.drop plan.length = maskOf (waits o) :: ms.drop (plan.length + 1) := by
      have hlt2 : plan.length < ms.length := by omega
      rw [List.drop_eq_getElem_cons hlt2]
      congr 1
      rw [List.getElem?_eq_getElem hlt2] at hg
      exact Option.some.inj hg
    rw [hdr] at k8
    refine ⟨rfl, fun j hj hne => hlist j ?_⟩
    have k8a : (List.range plan.length).all (fun j => Nat.beq j f || (closeM ms plan.length (maskOf (waits o))).testBit j) = true := by
      unfold headOkL at k8
      cases hq : ms.drop (plan.length + 1) with
      | nil => rw [hq] at k8; exact k8
      | cons y r => rw [hq, Bool.and_eq_true] at k8; exact k8.1
    have h8 := List.all_eq_true.1 k8a j (List.mem_range.2 hj)
    rw [Bool.or_eq_true] at h8
    rcases h8 with h8 | h8
    · exact absurd (Nat.eq_of_beq_eq_true h8) hne
    · exact h8
  have fin : ∀ (fuel : Nat) (l : Array Bool) (a : Act) (w : World), l.size = ops.size → (∀ i, plan.length ≤ i → ¬ l.getD i false = true) → (∀ j, j < plan.length → l.getD j false = true) → ops.size - plan.length ≤ fuel → MidJ J plan n w0 e h l a w → wpAny P .any ops Q fuel l a w := by
    intro fuel l a w hs hB hall hf HJ
    have H := HJ.mid
    refine any_tail hm k2 k7 fuel plan.length l a w (Nat.le_refl _) hlen hf hs (fun i hi => ⟨fun h1 => ?_, fun h1 => hall i h1⟩) (tail a w (fun j it hj ht => H.vals j it hj (hall j (List.getElem?_eq_some_iff.1 hj).1) (fun k hk => by rw [ht] at hk; cases hk)) H.base (fun hno => HJ.jj fun j it hj hown => by rw [hno j it hj] at hown; cases hown))
    exact Classical.byContradiction fun hn => hB i (by omega) h1
  have late_ : ∀ (fuel : Nat) (l : Array Bool) (a : Act) (w : World), l.size = ops.size → Down ops l → (∀ i, plan.length ≤ i → ¬ l.getD i false = true) → plan.length ∈ Region.ready .any ops l → f < plan.length → (∀ j, j < plan.length → j ≠ f → l.getD j false = true) → ¬ l.getD f false = true → ops.size - plan.length ≤ fuel → MidJ J plan n w0 e h l a w → wpOp P ops Q plan.length (wpAny P .any ops Q fuel (l.setIfInBounds plan.length true)) a w := by
    intro fuel l a w hs hd hB hr hfl hoth hnf hfu HJ
    have H := HJ.mid
    obtain ⟨_, om, hom, _⟩ := mem_ready.1 hr
    have hmlt : plan.length < ops.size := (Array.getElem?_eq_some_iff.1 hom).1
    have hof : ops[f]? = some ops[f] := Array.getElem?_eq_getElem (by omega)
    have hl0 := late a w (fun j it hne hj => H.vals j it hj (hoth j (List.getElem?_eq_some_iff.1 hj).1 hne) (fun k hk => by rw [(hno j it hj).2] at hk; cases hk)) H.base (HJ.jj fun j it hj hown => by rw [(hno j it hj).1] at hown; cases hown)
    have hL : lateL ops.toList plan.length f = om :: ops[f] :: ops.toList.drop (plan.length + 1) := by
      unfold lateL
      have e1 : ops.toList.drop plan.length = om :: ops.toList.drop (plan.length + 1) := by
        rw [List.drop_eq_getElem_cons (by rw [Array.length_toList]; exact hmlt)]
        congr 1
        rw [Array.getElem?_eq_getElem hmlt] at hom
        rw [Array.getElem_toList]
        exact Option.some.inj hom
      rw [e1, Array.getElem?_toList, hof]
    rw [hL] at hl0
    have hd1 := down_set hd hr
    have hs1 : (l.setIfInBounds plan.length true).size = ops.size := by simpa using hs
    have hlm : plan.length < l.size := by omega
    -- behind the first one of the rest f alone is ready
    have next1 : ∀ a' w', wpList P ops Q (ops[f] :: ops.toList.drop (plan.length + 1)) a' w' → wpAny P .any ops Q fuel (l.setIfInBounds plan.length true) a' w' := by
      intro a' w' hl1
      obtain ⟨fuel, rfl⟩ : ∃ k, fuel = k + 1 := ⟨fuel - 1, by omega⟩
      have hnf1 : ¬ (l.setIfInBounds plan.length true).getD f false = true := fun hh => hnf (listed_set hh (by omega))
      have hfr : f ∈ Region.ready .any ops (l.setIfInBounds plan.length true) := by
        refine mem_ready.2 ⟨?_, ops[f], hof, fun x hx hb => ?_⟩
        · have hl2 : f < (l.setIfInBounds plan.length true).size := by omega
          simp [Array.getElem?_eq_getElem hl2] at hnf1 ⊢
          exact hnf1
        · have hg := masks_get hm hof
          have hx2 : (maskOf (waits ops[f])).testBit x.on = true := maskOf_bit.2 (mem_waits.2 ⟨x, hx, hb, rfl⟩)
          have := downs_get k2 f _ hg x.on hx2
          rw [set_other (by omega)]
          exact hoth _ (by omega) (by omega)
      refine ⟨fun hnil => (by rw [hnil] at hfr; cases hfr), fun i hr1 => ?_⟩
      have hu1 := not_listed hr1
      have hif : i = f := by
        apply Classical.byContradiction
        intro hne
        have hge : plan.length ≤ i := by
          apply Nat.le_of_not_lt
          intro hlt
          exact hu1 (getD_set_true (hoth i hlt hne))
        have hne2 : i ≠ plan.length := fun e1 => by
          subst e1
          exact hu1 (by simp [hlm])
        obtain ⟨_, o, hoo, _⟩ := mem_ready.1 hr1
        have hilt : i < ops.size := (Array.getElem?_eq_some_iff.1 hoo).1
        have hg := masks_get hm hoo
        have e2 : ms.getD i 0 = maskOf (waits o) := by simp [hg]
        have hlist : ∀ j, (closeM ms i (maskOf (waits o))).testBit j = true → (l.setIfInBounds plan.length true).getD j false = true := fun j hc => close_listed hm hd1 hs1 i (maskOf (waits o)) (fun j hj => ready_waits hm hr1 j (by rw [e2]; exact hj)) j hc
        by_cases him : i = plan.length + 1
        · subst him
          have hdr : ms.drop (plan.length + 1) = maskOf (waits o) :: ms.drop (plan.length + 1 + 1) := by
            have hlt2 : plan.length + 1 < ms.length := by omega
            rw [List.drop_eq_getElem_cons hlt2]
            congr 1
            rw [List.getElem?_eq_getElem hlt2] at hg
            exact Option.some.inj hg
          have hdr0 : ∃ x, ms.drop plan.length = x :: ms.drop (plan.length + 1) := ⟨_, List.drop_eq_getElem_cons (by omega)⟩
          obtain ⟨x, hdr0⟩ := hdr0
          rw [hdr0, hdr] at k8
          unfold headOkL at k8
          rw [Bool.and_eq_true] at k8
          exact hnf1 (hlist f k8.2)
        · have hg2 : (ms.drop plan.length)[i - plan.length]? = some (maskOf (waits o)) := by
            rw [List.getElem?_drop, show plan.length + (i - plan.length) = i by omega]
            exact hg
          have hc := lineUp_get (Nat.le_refl _) k7 (i - plan.length) _ hg2 (plan.length + 1) (by omega) (by omega)
          rw [show plan.length + (i - plan.length) = i by omega] at hc
          exact hB (plan.length + 1) (by omega) (listed_set (hlist _ hc) (by omega))
      subst hif
      have next2 : ∀ a' w', wpList P ops Q (ops.toList.drop (plan.length + 1)) a' w' → wpAny P .any ops Q fuel ((l.setIfInBounds plan.length true).setIfInBounds i true) a' w' := fun a' w' hl2 => by
        refine any_tail hm k2 k7 fuel (plan.length + 1) _ a' w' (by omega) (by omega) (by omega) (by simpa using hs) (fun j hj => ⟨fun h1 => ?_, fun h1 => ?_⟩) hl2
        · apply Nat.lt_of_not_le
          intro hge
          exact hB j (by omega) (listed_set (listed_set h1 (by omega)) (by omega))
        · by_cases e1 : j = i
          · subst e1
            have : j < (l.setIfInBounds plan.length true).size := by omega
            simp only [Array.getD_eq_getD_getElem?]
            rw [Array.getElem?_setIfInBounds_self_of_lt this]
            rfl
          · refine getD_set_true ?_
            by_cases e3 : j = plan.length
            · subst e3
              simp [hlm]
            · exact getD_set_true (hoth j (by omega) e1)
      unfold wpList at hl1
      unfold wpOp
      rw [hof]
      dsimp only
      split at hl1
      · rename_i hw
        rw [if_pos hw]
        exact hl1.imp (Oper.wp_mono next2) id
      · rename_i hw
        rw [if_neg hw]
        exact next2 _ _ hl1
    unfold wpList at hl0
    unfold wpOp
    rw [hom]
    dsimp only
    split at hl0
    · rename_i hw
      rw [if_pos hw]
      exact hl0.imp (Oper.wp_mono next1) id
    · rename_i hw
      rw [if_neg hw]
      exact next1 _ _ hl0
  intro fuel
  induction fuel with
  | zero =>
    intro l a w hs hd hB hf HJ
    exact fin 0 l a w hs hB (left_zero (by omega)) (by omega) HJ
  | succ fuel ih =>
    intro l a w hs hd hB hf HJ
    have H := HJ.mid
    by_cases hall : ∀ j, j < plan.length → l.getD j false = true
    · exact fin _ l a w hs hB hall (by omega) HJ
    have hex : ∃ i, i < plan.length ∧ ¬ l.getD i false = true := Classical.byContradiction fun hn => hall fun j hj => Classical.byContradiction fun hu => hn ⟨j, hj, hu⟩
    obtain ⟨i0, hi0, hu0, hlow⟩ := first_left _ hex
    refine ⟨fun hnil => ?_, fun i hr => ?_⟩
    · exfalso
      have hlt : i0 < ops.size := by omega
      have hin : i0 ∈ Region.ready .any ops l := by
        refine mem_ready.2 ⟨?_, ops[i0], Array.getElem?_eq_getElem hlt, fun x hx hb => hlow _ ?_⟩
        · have hl2 : i0 < l.size := by omega
          simp [Array.getElem?_eq_getElem hl2] at hu0 ⊢
          exact hu0
        · have hg := masks_get hm (Array.getElem?_eq_getElem hlt)
          have hx2 : (maskOf (waits ops[i0])).testBit x.on = true := maskOf_bit.2 (mem_waits.2 ⟨x, hx, hb, rfl⟩)
          have := downs_get k2 i0 _ hg x.on hx2
          omega
      rw [hnil] at hin
      cases hin
    · have hu := not_listed hr
      by_cases hge : plan.length ≤ i
      · obtain ⟨rfl, hoth⟩ := after_all l i hs hd hB hr hge
        have e0 : i0 = f := Classical.byContradiction fun hne => hu0 (hoth i0 hi0 hne)
        subst e0
        have hlf := left_pos hi0 hu0
        exact late_ fuel l a w hs hd hB hr hi0 hoth hu0 (by omega) HJ
      have hilt : i < plan.length := by omega
      have hios : i < ops.size := by omega
      have hit : plan[i]? = some plan[i] := List.getElem?_eq_getElem hilt
      have hoi : ops[i]? = some ops[i] := Array.getElem?_eq_getElem hios
      have hoi2 : ops.toList[i]? = some ops[i] := by simp [hios]
      have hob := ObsJ_get ho i _ _ hoi2 hit
      rw [Nat.zero_add] at hob
      have hdst := dstOkF_get k4 i _ _ hoi2 hit
      have hg := masks_get hm hoi
      have e2 : ms.getD i 0 = maskOf (waits ops[i]) := by simp [hg]
      have hps : ∀ j ∈ plan[i].ps, l.getD j false = true := fun j hj => ready_waits hm hr j (by rw [e2]; exact psOkF_get k3 i _ _ hg hit j hj)
      have h6 := List.all_eq_true.1 k6 _ (List.getElem_mem hilt)
      rw [Bool.and_eq_true] at h6
      have hdn : plan[i].d < n := by
        have := h6.1
        rw [Nat.blt_eq] at this
        exact this
      have hen : ∀ p ∈ e, p.1 ≠ plan[i].d := fun p hp e1 => by
        have := List.all_eq_true.1 h6.2 p hp
        rw [e1, Nat.beq_refl] at this
        cases this
      have hdd : ∀ j jt, plan[j]? = some jt → j ≠ i → jt.d ≠ plan[i].d := fun j jt hj hne =>
        distinct_get k5 j i jt.d plan[i].d (by rw [List.getElem?_map, hj]; rfl) (by rw [List.getElem?_map, hit]; rfl) hne
      have hs2 : (l.setIfInBounds i true).size = ops.size := by simpa using hs
      have hd2 := down_set hd hr
      have hB2 : ∀ j, plan.length ≤ j → ¬ (l.setIfInBounds i true).getD j false = true := fun j hj hl => hB j hj (listed_set hl (by omega))
      have hf2 : ops.size - plan.length + left (l.setIfInBounds i true) plan.length ≤ fuel := by
        have := left_set (l := l) (i := i) (by omega) hu plan.length hilt
        omega
      unfold wpOp
      rw [hoi]
      dsimp only
      have hin := List.all_eq_true.1 k9 i (List.mem_range.2 hilt)
      rw [hit] at hin
      simp only [Bool.and_eq_true] at hin
      obtain ⟨hin1, hin2⟩ := hin
      obtain ⟨e', hob2, hst⟩ := Chain.get (fun j hj it hjt => H.vals j it hjt (hps j hj) (fun k hk hl => by
        have := List.all_eq_true.1 hin1 j hj
        unfold tilOk at this
        rw [hjt] at this
        simp only [hk] at this
        rw [Nat.eq_of_beq_eq_true this] at hl
        exact hu hl)) (hob.1 a w) H.base
      have hob3 := hob2 hst (fun hoj => HJ.jj (fun j jt hj hown hl => by
        have hjp : j < plan.length := (List.getElem?_eq_some_iff.1 hj).1
        have hc := List.all_eq_true.1 hoj j (List.mem_range.2 hjp)
        rw [hj] at hc
        simp only [hown, Bool.not_true, Bool.false_or, Bool.or_eq_true] at hc
        rcases hc with hc | hc
        · rw [Nat.eq_of_beq_eq_true hc] at hl
          exact hu hl
        · have hjo : j < ops.size := by omega
          have hgj := masks_get hm (Array.getElem?_eq_getElem hjo)
          have e3 : ms.getD j 0 = maskOf (waits ops[j]) := by simp [hgj]
          refine hu (close_listed hm hd hs j _ (fun m hm2 => ?_) i hc)
          rw [e3, maskOf_bit, mem_waits] at hm2
          obtain ⟨x, hx, hb3, rfl⟩ := hm2
          exact hd j _ (Array.getElem?_eq_getElem hjo) hl x hx hb3))
      have fin : ∀ a' w', (∃ v, a' = a.put ops[i].dst v ∧ plan[i].rel R R' w w' ∧ plan[i].F v w') → wpAny P .any ops Q fuel (l.setIfInBounds i true) a' w' := ?_
      · rcases hob3 with ⟨hw, hwp2⟩ | ⟨hw, hp⟩
        · rw [hw, if_pos rfl]
          exact .inl (Oper.wp_mono fin hwp2)
        · rw [hw, if_neg (by decide)]
          exact fin _ _ hp
      intro a' w' hx
      obtain ⟨v, rfl, hb, hF⟩ := hx
      rw [hdst]
      have stab : ∀ (j : Nat) (jt : Fct), plan[j]? = some jt → (∀ v w w', jt.F v w → R w w' → jt.F v w') ∧ (jt.til = none → ∀ v w w', jt.F v w → R' w w' → jt.F v w') := fun j jt hj => by
        have hjl : j < ops.size := by have := (List.getElem?_eq_some_iff.1 hj).1; omega
        exact (ObsJ_get ho j ops[j] jt (by simp [hjl]) hj).2
      have hil : i < l.size := by omega
      cases hown : plan[i].own with
      | false =>
        unfold Fct.rel at hb
        rw [hown] at hb
        exact ih _ _ _ hs2 hd2 hB2 hf2 ⟨H.put hit hdn hen hdd (fun j jt hj _ _ _ v hv => (stab j jt hj).1 v w w' hv hb) (hR _ _ _ H.base hb) hF, fun hn => hJ _ _ (HJ.jj fun j jt hj hown hl => hn j jt hj hown (getD_set_true hl)) hb⟩
      | true =>
        unfold Fct.rel at hb
        rw [hown] at hb
        rw [hown] at hin2
        have hin2 : ownOk ms plan i = true := by simpa using hin2
        refine ih _ _ _ hs2 hd2 hB2 hf2 ⟨H.put hit hdn hen hdd (fun j jt hj hne hl ht v hv => ?_) (hR' _ _ _ H.base hb) hF, fun hn => ?_⟩
        rotate_left
        · exact absurd (by simp [hil]) (hn i _ hit hown)
        cases htil : jt.til with
        | none => exact (stab j jt hj).2 htil v w w' hv hb
        | some k =>
          exfalso
          have hnk := ht k htil
          have hjp : j < plan.length := (List.getElem?_eq_some_iff.1 hj).1
          have hc := List.all_eq_true.1 hin2 j (List.mem_range.2 hjp)
          rw [hj] at hc
          simp only [htil, Bool.or_eq_true] at hc
          rcases hc with ((hc | hc) | hc) | hc
          · rw [Nat.eq_of_beq_eq_true hc] at hnk
            exact hnk (by simp [show i < l.size by omega])
          · exact hne (Nat.eq_of_beq_eq_true hc)
          · exact hnk (getD_set_true (close_listed hm hd hs i _ (ready_waits hm hr) k hc))
          · have hjo : j < ops.size := by omega
            have hgj := masks_get hm (Array.getElem?_eq_getElem hjo)
            have e3 : ms.getD j 0 = maskOf (waits ops[j]) := by simp [hgj]
            refine hu (close_listed hm hd hs j _ (fun m hm2 => ?_) i hc)
            rw [e3, maskOf_bit, mem_waits] at hm2
            obtain ⟨x, hx, hb3, rfl⟩ := hm2
            exact hd j _ (Array.getElem?_eq_getElem hjo) hl x hx hb3
end
section
variable {P : Program} {n : Nat} {w0 w w' : World} {a : Act} {e e' : Env} {h h' : Hep} {G G' : List (World → Prop)} {Q : Exit → Act → World → Prop} {ops : Array Oper} {rest l : List Oper} {o : Oper} {plan : List It2}
/-- **The region.** -/
theorem d2L {id : Nat} (plan : List It2) (f : Nat) (hf : P.follows .mixedOrders = true) (hk : planOkL ops n e (plan.map It2.fct) (masks ops) f = true) (H : St n w0 a w e h) (g : GS G w) [hL : LastsL G] (ho : Obs2 P ops Q n w0 e h G plan ops.toList plan)
    (tail : nxt2 plan (fun e' G' => Rn P n w0 Q ops (ops.toList.drop plan.length) e' h G') e G)
    (late : nxt2 (plan.eraseIdx f) (fun e' G' => Rn P n w0 Q ops (lateL ops.toList plan.length f) e' h G') e G) : (Code.region id ops true).wp P Q a w := by
  refine wp_region_any hf ?_
  have none_ : ∀ i, ¬ (Array.replicate ops.size false).getD i false = true := fun i hi => by
    by_cases h : i < ops.size
    · simp [h] at hi
    · simp [h] at hi
  have hlen : (plan.map It2.fct).length = plan.length := List.length_map _
  refine any_planL (J := GS G) (fun j it hj => by
    rw [List.getElem?_map] at hj
    obtain ⟨x, _, rfl⟩ := Option.map_eq_some_iff.1 hj
    cases x <;> exact ⟨rfl, rfl⟩) (fun w w' h hb => hL.all _ _ h hb) (fun a w w' H hb => H.call hb) (fun a w w' H hb => H.call hb) rfl hk (Obs2.out 0 (no_own _ _) ho) (fun a w hv hst hg => ?_) (fun a w hv hst hg => ?_) ops.size _ a w.drew (by simp) (fun i o _ hi => absurd hi (none_ i)) (fun i _ => none_ i) ?_ ⟨⟨H.drew, fun j _ _ hj => absurd hj (none_ j)⟩, fun _ => hL.all _ _ g (Below.refl _ _).drew⟩
  · obtain ⟨e', G', h1, h2, h3⟩ := nxt2_of a w tail hst (hg fun j it hj => by
      rw [List.getElem?_map] at hj
      obtain ⟨x, _, rfl⟩ := Option.map_eq_some_iff.1 hj
      cases x <;> rfl) fun it hi => by
        obtain ⟨j, hj⟩ := List.mem_iff_getElem?.1 hi
        exact hv j it.fct (by rw [List.getElem?_map, hj]; rfl) (by cases it <;> rfl)
    rw [hlen]
    exact h1 a w h2 h3
  · obtain ⟨e', G', h1, h2, h3⟩ := nxt2_of a w late hst hg fun it hi => by
        obtain ⟨j, hj⟩ := List.mem_iff_getElem?.1 hi
        rw [List.getElem?_eraseIdx] at hj
        split at hj
        · exact hv j it.fct (by omega) (by rw [List.getElem?_map, hj]; rfl)
        · exact hv (j + 1) it.fct (by omega) (by rw [List.getElem?_map, hj]; rfl)
    rw [hlen]
    exact h1 a w h2 h3
  · have := left_le (Array.replicate ops.size false) (plan.map It2.fct).length
    unfold planOkL at hk
    simp only [Bool.and_eq_true] at hk
    have := Nat.le_of_ble_eq_true hk.1.1.1.1.1.1.1.1
    omega
theorem end_cells3 {fn : Func} {R : Ending → World → Prop} {p q r : Tmp} {t t' s s' u u' : TypeId} {g k g2 k2 g3 k3 : Nat} {cs ds es : Array Value} {d d2 d3 : TypeDesc} (hr : fn.results = #[.cell p t, .cell q s, .cell r u]) (hp : look e p = some (.pointer (some ⟨g, 0, none⟩))) (hk : h[k]? = some (g, t', cs))
    (hu : P.underlying t = some d) (hd : (match d with | .struct _ | .array _ _ => true | _ => false) = true) (hi : (P.info? t).map (·.size) = some cs.size) (hq : look e q = some (.pointer (some ⟨g2, 0, none⟩))) (hk2 : h[k2]? = some (g2, s', ds))
    (hu2 : P.underlying s = some d2) (hd2 : (match d2 with | .struct _ | .array _ _ => true | _ => false) = true) (hi2 : (P.info? s).map (·.size) = some ds.size) (hq3 : look e r = some (.pointer (some ⟨g3, 0, none⟩))) (hk3 : h[k3]? = some (g3, u', es))
    (hu3 : P.underlying u = some d3) (hd3 : (match d3 with | .struct _ | .array _ _ => true | _ => false) = true) (hi3 : (P.info? u).map (·.size) = some es.size) (H : St n w0 a w e h) (hR : Below w0.heap.size w0 w → R (.returned (.tuple #[.agg cs, .agg ds, .agg es])) w) : bodyPost P fn R .ret a w := by
  refine bodyPost_ret ?_ H.defers (hR H.below)
  obtain ⟨h1, h2⟩ := run_cell hp hk hu hd hi H
  obtain ⟨h3, h4⟩ := run_cell hq hk2 hu2 hd2 hi2 H
  obtain ⟨h5, h6⟩ := run_cell hq3 hk3 hu3 hd3 hi3 H
  simp [results, hr, h1, h3, h5, asAddr, h2, h4, h6]
end
end Go.Proofs.YthjechjffhhiiaaDoor
