/- A region that draws its order and sets a slot anew that it has read: what the slot held is known till it is set (drawnO). No dump is imported. -/
import Derived.Test.YtiebelmglchbdaaVk
namespace Go.Proofs.Ytiebelmglchbdaa
set_option linter.unusedVariables false
set_option linter.unusedSimpArgs false
open Go Go.RowKit

def oldOk (plan : List Fct) (x : Nat × Value × Nat) : Bool := match plan[x.2.2]? with
  | some it => Nat.beq it.d x.1
  | none => false
/-- The slots that are set anew, as operation i may read them: none that sets one comes ahead of it. -/
def oldEnv (olds : List (Nat × Value × Nat)) (ms : List Nat) (i : Nat) : Env := (olds.filter (fun x => Nat.beq x.2.2 i || Nat.testBit (ms.getD x.2.2 0) i)).map (fun x => (x.1, x.2.1))
def ObsO (P : Program) (R R' : Rel) (ops : Array Oper) (Q : Exit → Act → World → Prop) (n : Nat) (w0 : World) (e : Env) (h : Hep) (plan : List Fct) (olds : List (Nat × Value × Nat)) (ms : List Nat) : Nat → List Oper → List Fct → Prop
  | i, o :: os, it :: r => it.ob P R R' ops Q n w0 (oldEnv olds ms i ++ e) h plan o ∧ ObsO P R R' ops Q n w0 e h plan olds ms (i + 1) os r
  | _, _, _ => True
section
variable {P : Program} {n : Nat} {w0 w w' : World} {a : Act} {e : Env} {h : Hep} {Q : Exit → Act → World → Prop} {ops : Array Oper} {plan : List Fct} {ms : List Nat} {rest : List Oper} {o : Oper} {R R' : Rel}
structure MidO (olds : List (Nat × Value × Nat)) (plan : List Fct) (n : Nat) (w0 : World) (e : Env) (h : Hep) (l : Array Bool) (a : Act) (w : World) : Prop extends MidF plan n w0 e h l a w where
  old : ∀ x ∈ olds, ¬ l.getD x.2.2 false = true → a.tmps[x.1]? = some x.2.1
theorem MidO.ext_old {olds : List (Nat × Value × Nat)} {l : Array Bool} (H : MidO olds plan n w0 e h l a w) {i : Nat} (hx : ∀ x, x = i ∨ (ms.getD x 0).testBit i = true → ¬ l.getD x false = true) : St n w0 a w (oldEnv olds ms i ++ e) h := by
  refine ⟨H.base.size, H.base.defers, fun p hp => ?_, H.base.below, H.base.heap, H.base.own, H.base.apart⟩
  rcases List.mem_append.1 hp with hp | hp
  · unfold oldEnv at hp
    rw [List.mem_map] at hp
    obtain ⟨x, hx1, rfl⟩ := hp
    rw [List.mem_filter] at hx1
    refine H.old x hx1.1 (hx x.2.2 ?_)
    have := hx1.2
    rw [Bool.or_eq_true] at this
    exact this.imp Nat.eq_of_beq_eq_true id
  · exact H.base.env p hp
theorem MidO.put {olds : List (Nat × Value × Nat)} (hold : olds.all (oldOk plan) = true) {l : Array Bool} (H : MidO olds plan n w0 e h l a w) {i : Nat} {it : Fct} {v : Value} (hi : plan[i]? = some it) (hlt : it.d < n) (he : ∀ p ∈ e, p.1 ≠ it.d)
    (hd : ∀ (j : Nat) (jt : Fct), plan[j]? = some jt → j ≠ i → jt.d ≠ it.d) (hil : i < l.size)
    (hst : ∀ (j : Nat) (jt : Fct), plan[j]? = some jt → j ≠ i → l.getD j false = true → (∀ k, jt.til = some k → ¬ (l.setIfInBounds i true).getD k false = true) → ∀ (v : Value), jt.F v w → jt.F v w')
    (hb : St n w0 a w' e h) (hF : it.F v w') : MidO olds plan n w0 e h (l.setIfInBounds i true) (a.put (some it.d) v) w' := by
  refine ⟨H.toMidF.put hi hlt he hd hst hb hF, fun x hx hl => ?_⟩
  have h1 := List.all_eq_true.1 hold x hx
  have hne : x.2.2 ≠ i := fun e1 => hl (by rw [e1]; simp [hil])
  have h2 : ¬ l.getD x.2.2 false = true := fun h2 => hl (getD_set_true h2)
  have h3 : x.1 ≠ it.d := by
    unfold oldOk at h1
    cases hj : plan[x.2.2]? with
    | none => rw [hj] at h1; cases h1
    | some jt =>
      rw [hj] at h1
      rw [← Nat.eq_of_beq_eq_true h1]
      exact hd _ jt hj hne
  show (a.tmps.setIfInBounds it.d v)[x.1]? = _
  rw [Array.getElem?_setIfInBounds_ne (Ne.symm h3)]
  exact H.old x hx h2
theorem ObsO_get {olds : List (Nat × Value × Nat)} {os : List Oper} {r : List Fct} {k : Nat} (ho : ObsO P R R' ops Q n w0 e h plan olds ms k os r) : ∀ (j : Nat) (o : Oper) (it : Fct), os[j]? = some o → r[j]? = some it → it.ob P R R' ops Q n w0 (oldEnv olds ms (k + j) ++ e) h plan o := by
  induction os generalizing r k with
  | nil => intro j o it h1; cases h1
  | cons o0 os ih =>
    cases r with
    | nil => intro j o it _ h2; cases h2
    | cons it0 r =>
      intro j o it h1 h2
      obtain ⟨ho1, ho2⟩ := ho
      cases j with
      | zero =>
        injection h1 with h1
        injection h2 with h2
        subst h1 h2
        exact ho1
      | succ j =>
        have := ih ho2 j o it h1 h2
        rw [show k + 1 + j = k + (j + 1) by omega] at this
        exact this
theorem any_planO {olds : List (Nat × Value × Nat)} (hold : olds.all (oldOk plan) = true) (hR : ∀ a w w', St n w0 a w e h → R w w' → St n w0 a w' e h) (hR' : ∀ a w w', St n w0 a w e h → R' w w' → St n w0 a w' e h) (hm : masks ops = ms) (hk : planOkF ops n e plan ms = true) (ho : ObsO P R R' ops Q n w0 e h plan olds ms 0 ops.toList plan)
    (tail : ∀ a w, (∀ (j : Nat) (it : Fct), plan[j]? = some it → it.til = none → ∃ v, a.tmps[it.d]? = some v ∧ it.F v w) → St n w0 a w e h → wpList P ops Q (ops.toList.drop plan.length) a w) :
    ∀ (fuel : Nat) (l : Array Bool) (a : Act) (w : World), l.size = ops.size → Down ops l → (∀ i, plan.length ≤ i → ¬ l.getD i false = true) → ops.size - plan.length + left l plan.length ≤ fuel → MidO olds plan n w0 e h l a w → wpAny P .any ops Q fuel l a w := by
  unfold planOkF at hk
  simp only [Bool.and_eq_true] at hk
  obtain ⟨⟨⟨⟨⟨⟨⟨⟨k1, k2⟩, k3⟩, k4⟩, k5⟩, k6⟩, k7⟩, k8⟩, k9⟩ := hk
  have hlen : plan.length ≤ ops.size := Nat.le_of_ble_eq_true k1
  have hmsl : ms.length = ops.size := by rw [← hm]; simp [masks]
  have after_all : ∀ (l : Array Bool) (i : Nat), l.size = ops.size → Down ops l → (∀ i, plan.length ≤ i → ¬ l.getD i false = true) → i ∈ Region.ready .any ops l → plan.length ≤ i → ∀ j, j < plan.length → l.getD j false = true := by
    intro l i hs hd hB hr hge
    obtain ⟨_, o, hoo, _⟩ := mem_ready.1 hr
    have hilt : i < ops.size := (Array.getElem?_eq_some_iff.1 hoo).1
    have hg := masks_get hm hoo
    have e2 : ms.getD i 0 = maskOf (waits o) := by simp [hg]
    have hlist : ∀ j, (closeM ms i (maskOf (waits o))).testBit j = true → l.getD j false = true := fun j hc => close_listed hm hd hs i (maskOf (waits o)) (fun j hj => ready_waits hm hr j (by rw [e2]; exact hj)) j hc
    have hg2 : (ms.drop plan.length)[i - plan.length]? = some (maskOf (waits o)) := by
      rw [List.getElem?_drop, show plan.length + (i - plan.length) = i by omega]
      exact hg
    have him : i = plan.length := by
      apply Nat.le_antisymm _ hge
      apply Nat.le_of_not_lt
      intro hlt
      have hc := lineUp_get (Nat.le_refl _) k7 (i - plan.length) _ hg2 plan.length (Nat.le_refl _) (by omega)
      rw [show plan.length + (i - plan.length) = i by omega] at hc
      exact hB plan.length (Nat.le_refl _) (hlist _ hc)
    subst him
    have hdr : ms.drop plan.length = maskOf (waits o) :: ms.drop (plan.length + 1) := by
      have hlt2 : plan.length < ms.length := by omega
      rw [List.drop_eq_getElem_cons hlt2]
      congr 1
      rw [List.getElem?_eq_getElem hlt2] at hg
      exact Option.some.inj hg
    rw [hdr] at k8
    unfold headOkF at k8
    intro j hj
    have hbit : (Nat.shiftLeft 1 plan.length - 1).testBit j = true := by rw [low_bit]; exact decide_eq_true hj
    exact hlist j (sub2_get k8 hbit)
  have fin : ∀ (fuel : Nat) (l : Array Bool) (a : Act) (w : World), l.size = ops.size → (∀ i, plan.length ≤ i → ¬ l.getD i false = true) → (∀ j, j < plan.length → l.getD j false = true) → ops.size - plan.length ≤ fuel → MidO olds plan n w0 e h l a w → wpAny P .any ops Q fuel l a w := by
    intro fuel l a w hs hB hall hf H
    refine any_tail hm k2 k7 fuel plan.length l a w (Nat.le_refl _) hlen hf hs (fun i hi => ⟨fun h1 => ?_, fun h1 => hall i h1⟩) (tail a w (fun j it hj ht => H.vals j it hj (hall j (List.getElem?_eq_some_iff.1 hj).1) (fun k hk => by rw [ht] at hk; cases hk)) H.base)
    exact Classical.byContradiction fun hn => hB i (by omega) h1
  intro fuel
  induction fuel with
  | zero =>
    intro l a w hs hd hB hf H
    exact fin 0 l a w hs hB (left_zero (by omega)) (by omega) H
  | succ fuel ih =>
    intro l a w hs hd hB hf H
    by_cases hall : ∀ j, j < plan.length → l.getD j false = true
    · exact fin _ l a w hs hB hall (by omega) H
    have hex : ∃ i, i < plan.length ∧ ¬ l.getD i false = true := Classical.byContradiction fun hn => hall fun j hj => Classical.byContradiction fun hu => hn ⟨j, hj, hu⟩
    obtain ⟨i0, hi0, hu0, hlow⟩ := first_left _ hex
    refine ⟨fun hnil => ?_, fun i hr => ?_⟩
    · exfalso
      have hlt : i0 < ops.size := by omega
      have hin : i0 ∈ Region.ready .any ops l := by
        refine mem_ready.2 ⟨?_, ops[i0], Array.getElem?_eq_getElem hlt, fun x hx hb => hlow _ ?_⟩
        · have hl2 : i0 < l.size := by omega
          simp [Array.getElem?_eq_getElem hl2] at hu0 ⊢
          exact hu0
        · have hg := masks_get hm (Array.getElem?_eq_getElem hlt)
          have hx2 : (maskOf (waits ops[i0])).testBit x.on = true := maskOf_bit.2 (mem_waits.2 ⟨x, hx, hb, rfl⟩)
          have := downs_get k2 i0 _ hg x.on hx2
          omega
      rw [hnil] at hin
      cases hin
    · have hu := not_listed hr
      have hilt : i < plan.length := by
        apply Nat.lt_of_not_le
        intro hge
        exact hu0 (after_all l i hs hd hB hr hge i0 hi0)
      have hios : i < ops.size := by omega
      have hit : plan[i]? = some plan[i] := List.getElem?_eq_getElem hilt
      have hoi : ops[i]? = some ops[i] := Array.getElem?_eq_getElem hios
      have hoi2 : ops.toList[i]? = some ops[i] := by simp [hios]
      have hob := ObsO_get ho i _ _ hoi2 hit
      rw [Nat.zero_add] at hob
      have hdst := dstOkF_get k4 i _ _ hoi2 hit
      have hg := masks_get hm hoi
      have e2 : ms.getD i 0 = maskOf (waits ops[i]) := by simp [hg]
      have hps : ∀ j ∈ plan[i].ps, l.getD j false = true := fun j hj => ready_waits hm hr j (by rw [e2]; exact psOkF_get k3 i _ _ hg hit j hj)
      have h6 := List.all_eq_true.1 k6 _ (List.getElem_mem hilt)
      rw [Bool.and_eq_true] at h6
      have hdn : plan[i].d < n := by
        have := h6.1
        rw [Nat.blt_eq] at this
        exact this
      have hen : ∀ p ∈ e, p.1 ≠ plan[i].d := fun p hp e1 => by
        have := List.all_eq_true.1 h6.2 p hp
        rw [e1, Nat.beq_refl] at this
        cases this
      have hdd : ∀ j jt, plan[j]? = some jt → j ≠ i → jt.d ≠ plan[i].d := fun j jt hj hne =>
        distinct_get k5 j i jt.d plan[i].d (by rw [List.getElem?_map, hj]; rfl) (by rw [List.getElem?_map, hit]; rfl) hne
      have hs2 : (l.setIfInBounds i true).size = ops.size := by simpa using hs
      have hd2 := down_set hd hr
      have hB2 : ∀ j, plan.length ≤ j → ¬ (l.setIfInBounds i true).getD j false = true := fun j hj hl => hB j hj (listed_set hl (by omega))
      have hf2 : ops.size - plan.length + left (l.setIfInBounds i true) plan.length ≤ fuel := by
        have := left_set (l := l) (i := i) (by omega) hu plan.length hilt
        omega
      unfold wpOp
      rw [hoi]
      dsimp only
      have hin := List.all_eq_true.1 k9 i (List.mem_range.2 hilt)
      rw [hit] at hin
      simp only [Bool.and_eq_true] at hin
      obtain ⟨hin1, hin2⟩ := hin
      obtain ⟨e', hob2, hst⟩ := Chain.get (fun j hj it hjt => H.vals j it hjt (hps j hj) (fun k hk hl => by
        have := List.all_eq_true.1 hin1 j hj
        unfold tilOk at this
        rw [hjt] at this
        simp only [hk] at this
        rw [Nat.eq_of_beq_eq_true this] at hl
        exact hu hl)) (hob.1 a w) (H.ext_old (fun x hx => by
        rcases hx with rfl | hx
        · exact hu
        · intro hl
          have hxo : x < ops.size := Nat.lt_of_not_le fun hge => by rw [show ms.getD x 0 = 0 by rw [List.getD_eq_getElem?_getD, List.getElem?_eq_none (by omega)]; rfl] at hx; simp at hx
          have hgx := masks_get hm (Array.getElem?_eq_getElem hxo)
          rw [show ms.getD x 0 = maskOf (waits ops[x]) by simp [hgx], maskOf_bit, mem_waits] at hx
          obtain ⟨y, hy, hb3, rfl⟩ := hx
          exact hu (hd x _ (Array.getElem?_eq_getElem hxo) hl y hy hb3)))
      obtain ⟨hw, hwp⟩ := hob2 hst
      rw [hw, if_pos rfl]
      refine .inl (Oper.wp_mono (fun a' w' hx => ?_) hwp)
      obtain ⟨v, rfl, hb, hF⟩ := hx
      rw [hdst]
      have stab : ∀ (j : Nat) (jt : Fct), plan[j]? = some jt → (∀ v w w', jt.F v w → R w w' → jt.F v w') ∧ (jt.til = none → ∀ v w w', jt.F v w → R' w w' → jt.F v w') := fun j jt hj => by
        have hjl : j < ops.size := by have := (List.getElem?_eq_some_iff.1 hj).1; omega
        exact (ObsO_get ho j ops[j] jt (by simp [hjl]) hj).2
      cases hown : plan[i].own with
      | false =>
        unfold Fct.rel at hb
        rw [hown] at hb
        exact ih _ _ _ hs2 hd2 hB2 hf2 (H.put hold hit hdn hen hdd (by omega) (fun j jt hj _ _ _ v hv => (stab j jt hj).1 v w w' hv hb) (hR _ _ _ H.base hb) hF)
      | true =>
        unfold Fct.rel at hb
        rw [hown] at hb
        rw [hown] at hin2
        have hin2 : ownOk ms plan i = true := by simpa using hin2
        refine ih _ _ _ hs2 hd2 hB2 hf2 (H.put hold hit hdn hen hdd (by omega) (fun j jt hj hne hl ht v hv => ?_) (hR' _ _ _ H.base hb) hF)
        cases htil : jt.til with
        | none => exact (stab j jt hj).2 htil v w w' hv hb
        | some k =>
          exfalso
          have hnk := ht k htil
          have hjp : j < plan.length := (List.getElem?_eq_some_iff.1 hj).1
          have hc := List.all_eq_true.1 hin2 j (List.mem_range.2 hjp)
          rw [hj] at hc
          simp only [htil, Bool.or_eq_true] at hc
          rcases hc with ((hc | hc) | hc) | hc
          · rw [Nat.eq_of_beq_eq_true hc] at hnk
            exact hnk (by simp [show i < l.size by omega])
          · exact hne (Nat.eq_of_beq_eq_true hc)
          · exact hnk (getD_set_true (close_listed hm hd hs i _ (ready_waits hm hr) k hc))
          · have hjo : j < ops.size := by omega
            have hgj := masks_get hm (Array.getElem?_eq_getElem hjo)
            have e3 : ms.getD j 0 = maskOf (waits ops[j]) := by simp [hgj]
            refine hu (close_listed hm hd hs j _ (fun m hm2 => ?_) i hc)
            rw [e3, maskOf_bit, mem_waits] at hm2
            obtain ⟨x, hx, hb3, rfl⟩ := hm2
            exact hd j _ (Array.getElem?_eq_getElem hjo) hl x hx hb3
/-- **The region.** olds: a slot, what it held, which operation sets it. js: the operations whose values the rest asks for. -/
theorem drawnO {id : Nat} (R R' : Rel) (olds : List (Nat × Value × Nat)) (plan : List Fct) (ms js : List Nat) (hold : olds.all (oldOk plan) = true) (hR : ∀ a w w', St n w0 a w e h → R w w' → St n w0 a w' e h) (hR' : ∀ a w w', St n w0 a w e h → R' w w' → St n w0 a w' e h) (hf : P.follows .mixedOrders = true) (hm : masks ops = ms) (hk : planOkF ops n e plan ms = true)
    (H : St n w0 a w (olds.map (fun x => (x.1, x.2.1)) ++ e) h) (ho : ObsO P R R' ops Q n w0 e h plan olds ms 0 ops.toList plan)
    (hl : js.all (fun j => match plan[j]? with | some jt => jt.til.isNone | none => true) = true)
    (tail : ∀ a w, Chain plan w (fun e' => St n w0 a w e' h → wpList P ops Q (ops.toList.drop plan.length) a w) js e) : (Code.region id ops true).wp P Q a w := by
  refine wp_region_any hf ?_
  have none_ : ∀ i, ¬ (Array.replicate ops.size false).getD i false = true := fun i hi => by
    by_cases h : i < ops.size
    · simp [h] at hi
    · simp [h] at hi
  have He : St n w0 a w e h := ⟨H.size, H.defers, fun p hp => H.env p (List.mem_append_right _ hp), H.below, H.heap, H.own, H.apart⟩
  refine any_planO hold hR hR' hm hk ho (fun a w hv hst => ?_) ops.size _ a w.drew (by simp) (fun i o _ hi => absurd hi (none_ i)) (fun i _ => none_ i) ?_ ⟨⟨He.drew, fun j _ _ hj => absurd hj (none_ j)⟩, fun x hx _ => H.env (x.1, x.2.1) (List.mem_append_left _ (List.mem_map.2 ⟨x, hx, rfl⟩))⟩
  · obtain ⟨e', h1, h2⟩ := Chain.get (fun j hjs it hj => hv j it hj (by
      have := List.all_eq_true.1 hl j hjs
      rw [hj] at this
      simpa using this)) (tail a w) hst
    exact h1 h2
  · have := left_le (Array.replicate ops.size false) plan.length
    unfold planOkF at hk
    simp only [Bool.and_eq_true] at hk
    have := Nat.le_of_ble_eq_true hk.1.1.1.1.1.1.1.1
    omega
end
end Go.Proofs.Ytiebelmglchbdaa
