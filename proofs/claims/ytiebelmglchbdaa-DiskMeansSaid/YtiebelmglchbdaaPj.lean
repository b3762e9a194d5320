/- A region that draws its order, of which one plain operation (f), that hangs on nothing, may come behind any of the rest (d2P). No dump is imported. -/
import Derived.Test.YtiebelmglchbdaaZb
import Derived.Test.YtiebelmglchbdaaAj
namespace Go.Proofs.Ytiebelmglchbdaa
set_option linter.unusedVariables false
set_option linter.unusedSimpArgs false
open Go Go.RowKit

def headOkP (ms : List Nat) (m f : Nat) : List Nat → Bool
  | [] => true
  | x :: _ => (List.range m).all (fun j => Nat.beq j f || (closeM ms m x).testBit j)
def planOkP (ops : Array Oper) (n : Nat) (e : Env) (plan : List Fct) (ms : List Nat) (f : Nat) : Bool :=
  Nat.ble plan.length ops.size && downs 0 ms && psOkF ms plan && dstOkF ops.toList plan && distinct (plan.map (·.d)) && plan.all (fun it => Nat.blt it.d n && e.all (fun p => !Nat.beq p.1 it.d)) && lineUp ms plan.length plan.length (ms.drop plan.length) && headOkP ms plan.length f (ms.drop plan.length) && lastOk ms plan
/-- f may be run first. -/
def freeP (ops : Array Oper) (ms : List Nat) (f : Nat) : Bool := Nat.beq (ms.getD f 1) 0 && Region.free .any ops (maskArr ops.size 0) f && Region.noSelect ops
section
variable {P : Program} {n : Nat} {w0 w w' : World} {a : Act} {e : Env} {h : Hep} {Q : Exit → Act → World → Prop} {ops : Array Oper} {plan : List Fct} {ms : List Nat} {rest : List Oper} {o : Oper} {R R' : Rel}
theorem any_planP {f : Nat} {J : World → Prop} (hJ : ∀ w w', J w → R w w' → J w') (hR : ∀ a w w', St n w0 a w e h → R w w' → St n w0 a w' e h) (hR' : ∀ a w w', St n w0 a w e h → R' w w' → St n w0 a w' e h) (hm : masks ops = ms) (hk : planOkP ops n e plan ms f = true) (ho : ObsJ P R R' J ms ops Q n w0 e h plan 0 ops.toList plan)
    (tail : ∀ a w, (∀ (j : Nat) (it : Fct), plan[j]? = some it → it.til = none → ∃ v, a.tmps[it.d]? = some v ∧ it.F v w) → St n w0 a w e h → ((∀ (j : Nat) (it : Fct), plan[j]? = some it → it.own = false) → J w) → wpList P ops Q (ops.toList.drop plan.length) a w) :
    ∀ (fuel : Nat) (l : Array Bool) (a : Act) (w : World), l.size = ops.size → l.getD f false = true → Down ops l → (∀ i, plan.length ≤ i → ¬ l.getD i false = true) → ops.size - plan.length + left l plan.length ≤ fuel → MidJ J plan n w0 e h l a w → wpAny P .any ops Q fuel l a w := by
  unfold planOkP at hk
  simp only [Bool.and_eq_true] at hk
  obtain ⟨⟨⟨⟨⟨⟨⟨⟨k1, k2⟩, k3⟩, k4⟩, k5⟩, k6⟩, k7⟩, k8⟩, k9⟩ := hk
  have hlen : plan.length ≤ ops.size := Nat.le_of_ble_eq_true k1
  have hmsl : ms.length = ops.size := by rw [← hm]; simp [masks]
  have after_all : ∀ (l : Array Bool) (i : Nat), l.size = ops.size → l.getD f false = true → Down ops l → (∀ i, plan.length ≤ i → ¬ l.getD i false = true) → i ∈ Region.ready .any ops l → plan.length ≤ i → ∀ j, j < plan.length → l.getD j false = true := by
    intro l i hs hfl hd hB hr hge
    obtain ⟨_, o, hoo, _⟩ := mem_ready.1 hr
    have hilt : i < ops.size := (Array.getElem?_eq_some_iff.1 hoo).1
    have hg := masks_get hm hoo
    have e2 : ms.getD i 0 = maskOf (waits o) := by simp [hg]
    have hlist : ∀ j, (closeM ms i (maskOf (waits o))).testBit j = true → l.getD j false = true := fun j hc => close_listed hm hd hs i (maskOf (waits o)) (fun j hj => ready_waits hm hr j (by rw [e2]; exact hj)) j hc
    have hg2 : (ms.drop plan.length)[i - plan.length]? = some (maskOf (waits o)) := by
      rw [List.getElem?_drop, show plan.length + (i - plan.length) = i by omega]
      exact hg
    have him : i = plan.length := by
      apply Nat.le_antisymm _ hge
      apply Nat.le_of_not_lt
      intro hlt
      have hc := lineUp_get (Nat.le_refl _) k7 (i - plan.length) _ hg2 plan.length (Nat.le_refl _) (by omega)
      rw [show plan.length + (i - plan.length) = i by omega] at hc
      exact hB plan.length (Nat.le_refl _) (hlist _ hc)
    subst him
    have hdr : ms.drop plan.length = maskOf (waits o) :: ms.drop (plan.length + 1) := by
      have hlt2 : plan.length < ms.length := by omega
      rw [List.drop_eq_getElem_cons hlt2]
      congr 1
      rw [List.getElem?_eq_getElem hlt2] at hg
      exact Option.some.inj hg
    rw [hdr] at k8
    unfold headOkP at k8
    intro j hj
    have h8 := List.all_eq_true.1 k8 j (List.mem_range.2 hj)
    rw [Bool.or_eq_true] at h8
    rcases h8 with h8 | h8
    · rw [Nat.eq_of_beq_eq_true h8]
      exact hfl
    · exact hlist j h8
  have fin : ∀ (fuel : Nat) (l : Array Bool) (a : Act) (w : World), l.size = ops.size → (∀ i, plan.length ≤ i → ¬ l.getD i false = true) → (∀ j, j < plan.length → l.getD j false = true) → ops.size - plan.length ≤ fuel → MidJ J plan n w0 e h l a w → wpAny P .any ops Q fuel l a w := by
    intro fuel l a w hs hB hall hf HJ
    have H := HJ.mid
    refine any_tail hm k2 k7 fuel plan.length l a w (Nat.le_refl _) hlen hf hs (fun i hi => ⟨fun h1 => ?_, fun h1 => hall i h1⟩) (tail a w (fun j it hj ht => H.vals j it hj (hall j (List.getElem?_eq_some_iff.1 hj).1) (fun k hk => by rw [ht] at hk; cases hk)) H.base (fun hno => HJ.jj fun j it hj hown => by rw [hno j it hj] at hown; cases hown))
    exact Classical.byContradiction fun hn => hB i (by omega) h1
  intro fuel
  induction fuel with
  | zero =>
    intro l a w hs hfl hd hB hf HJ
    exact fin 0 l a w hs hB (left_zero (by omega)) (by omega) HJ
  | succ fuel ih =>
    intro l a w hs hfl hd hB hf HJ
    have H := HJ.mid
    by_cases hall : ∀ j, j < plan.length → l.getD j false = true
    · exact fin _ l a w hs hB hall (by omega) HJ
    have hex : ∃ i, i < plan.length ∧ ¬ l.getD i false = true := Classical.byContradiction fun hn => hall fun j hj => Classical.byContradiction fun hu => hn ⟨j, hj, hu⟩
    obtain ⟨i0, hi0, hu0, hlow⟩ := first_left _ hex
    refine ⟨fun hnil => ?_, fun i hr => ?_⟩
    · exfalso
      have hlt : i0 < ops.size := by omega
      have hin : i0 ∈ Region.ready .any ops l := by
        refine mem_ready.2 ⟨?_, ops[i0], Array.getElem?_eq_getElem hlt, fun x hx hb => hlow _ ?_⟩
        · have hl2 : i0 < l.size := by omega
          simp [Array.getElem?_eq_getElem hl2] at hu0 ⊢
          exact hu0
        · have hg := masks_get hm (Array.getElem?_eq_getElem hlt)
          have hx2 : (maskOf (waits ops[i0])).testBit x.on = true := maskOf_bit.2 (mem_waits.2 ⟨x, hx, hb, rfl⟩)
          have := downs_get k2 i0 _ hg x.on hx2
          omega
      rw [hnil] at hin
      cases hin
    · have hu := not_listed hr
      have hilt : i < plan.length := by
        apply Nat.lt_of_not_le
        intro hge
        exact hu0 (after_all l i hs hfl hd hB hr hge i0 hi0)
      have hios : i < ops.size := by omega
      have hit : plan[i]? = some plan[i] := List.getElem?_eq_getElem hilt
      have hoi : ops[i]? = some ops[i] := Array.getElem?_eq_getElem hios
      have hoi2 : ops.toList[i]? = some ops[i] := by simp [hios]
      have hob := ObsJ_get ho i _ _ hoi2 hit
      rw [Nat.zero_add] at hob
      have hdst := dstOkF_get k4 i _ _ hoi2 hit
      have hg := masks_get hm hoi
      have e2 : ms.getD i 0 = maskOf (waits ops[i]) := by simp [hg]
      have hps : ∀ j ∈ plan[i].ps, l.getD j false = true := fun j hj => ready_waits hm hr j (by rw [e2]; exact psOkF_get k3 i _ _ hg hit j hj)
      have h6 := List.all_eq_true.1 k6 _ (List.getElem_mem hilt)
      rw [Bool.and_eq_true] at h6
      have hdn : plan[i].d < n := by
        have := h6.1
        rw [Nat.blt_eq] at this
        exact this
      have hen : ∀ p ∈ e, p.1 ≠ plan[i].d := fun p hp e1 => by
        have := List.all_eq_true.1 h6.2 p hp
        rw [e1, Nat.beq_refl] at this
        cases this
      have hdd : ∀ j jt, plan[j]? = some jt → j ≠ i → jt.d ≠ plan[i].d := fun j jt hj hne =>
        distinct_get k5 j i jt.d plan[i].d (by rw [List.getElem?_map, hj]; rfl) (by rw [List.getElem?_map, hit]; rfl) hne
      have hs2 : (l.setIfInBounds i true).size = ops.size := by simpa using hs
      have hd2 := down_set hd hr
      have hfl2 : (l.setIfInBounds i true).getD f false = true := getD_set_true hfl
      have hB2 : ∀ j, plan.length ≤ j → ¬ (l.setIfInBounds i true).getD j false = true := fun j hj hl => hB j hj (listed_set hl (by omega))
      have hf2 : ops.size - plan.length + left (l.setIfInBounds i true) plan.length ≤ fuel := by
        have := left_set (l := l) (i := i) (by omega) hu plan.length hilt
        omega
      unfold wpOp
      rw [hoi]
      dsimp only
      have hin := List.all_eq_true.1 k9 i (List.mem_range.2 hilt)
      rw [hit] at hin
      simp only [Bool.and_eq_true] at hin
      obtain ⟨hin1, hin2⟩ := hin
      obtain ⟨e', hob2, hst⟩ := Chain.get (fun j hj it hjt => H.vals j it hjt (hps j hj) (fun k hk hl => by
        have := List.all_eq_true.1 hin1 j hj
        unfold tilOk at this
        rw [hjt] at this
        simp only [hk] at this
        rw [Nat.eq_of_beq_eq_true this] at hl
        exact hu hl)) (hob.1 a w) H.base
      have hob3 := hob2 hst (fun hoj => HJ.jj (fun j jt hj hown hl => by
        have hjp : j < plan.length := (List.getElem?_eq_some_iff.1 hj).1
        have hc := List.all_eq_true.1 hoj j (List.mem_range.2 hjp)
        rw [hj] at hc
        simp only [hown, Bool.not_true, Bool.false_or, Bool.or_eq_true] at hc
        rcases hc with hc | hc
        · rw [Nat.eq_of_beq_eq_true hc] at hl
          exact hu hl
        · have hjo : j < ops.size := by omega
          have hgj := masks_get hm (Array.getElem?_eq_getElem hjo)
          have e3 : ms.getD j 0 = maskOf (waits ops[j]) := by simp [hgj]
          refine hu (close_listed hm hd hs j _ (fun m hm2 => ?_) i hc)
          rw [e3, maskOf_bit, mem_waits] at hm2
          obtain ⟨x, hx, hb3, rfl⟩ := hm2
          exact hd j _ (Array.getElem?_eq_getElem hjo) hl x hx hb3))
      have fin : ∀ a' w', (∃ v, a' = a.put ops[i].dst v ∧ plan[i].rel R R' w w' ∧ plan[i].F v w') → wpAny P .any ops Q fuel (l.setIfInBounds i true) a' w' := ?_
      · rcases hob3 with ⟨hw, hwp2⟩ | ⟨hw, hp⟩
        · rw [hw, if_pos rfl]
          exact .inl (Oper.wp_mono fin hwp2)
        · rw [hw, if_neg (by decide)]
          exact fin _ _ hp
      intro a' w' hx
      obtain ⟨v, rfl, hb, hF⟩ := hx
      rw [hdst]
      have stab : ∀ (j : Nat) (jt : Fct), plan[j]? = some jt → (∀ v w w', jt.F v w → R w w' → jt.F v w') ∧ (jt.til = none → ∀ v w w', jt.F v w → R' w w' → jt.F v w') := fun j jt hj => by
        have hjl : j < ops.size := by have := (List.getElem?_eq_some_iff.1 hj).1; omega
        exact (ObsJ_get ho j ops[j] jt (by simp [hjl]) hj).2
      have hil : i < l.size := by omega
      cases hown : plan[i].own with
      | false =>
        unfold Fct.rel at hb
        rw [hown] at hb
        exact ih _ _ _ hs2 hfl2 hd2 hB2 hf2 ⟨H.put hit hdn hen hdd (fun j jt hj _ _ _ v hv => (stab j jt hj).1 v w w' hv hb) (hR _ _ _ H.base hb) hF, fun hn => hJ _ _ (HJ.jj fun j jt hj hown hl => hn j jt hj hown (getD_set_true hl)) hb⟩
      | true =>
        unfold Fct.rel at hb
        rw [hown] at hb
        rw [hown] at hin2
        have hin2 : ownOk ms plan i = true := by simpa using hin2
        refine ih _ _ _ hs2 hfl2 hd2 hB2 hf2 ⟨H.put hit hdn hen hdd (fun j jt hj hne hl ht v hv => ?_) (hR' _ _ _ H.base hb) hF, fun hn => ?_⟩
        rotate_left
        · exact absurd (by simp [hil]) (hn i _ hit hown)
        cases htil : jt.til with
        | none => exact (stab j jt hj).2 htil v w w' hv hb
        | some k =>
          exfalso
          have hnk := ht k htil
          have hjp : j < plan.length := (List.getElem?_eq_some_iff.1 hj).1
          have hc := List.all_eq_true.1 hin2 j (List.mem_range.2 hjp)
          rw [hj] at hc
          simp only [htil, Bool.or_eq_true] at hc
          rcases hc with ((hc | hc) | hc) | hc
          · rw [Nat.eq_of_beq_eq_true hc] at hnk
            exact hnk (by simp [show i < l.size by omega])
          · exact hne (Nat.eq_of_beq_eq_true hc)
          · exact hnk (getD_set_true (close_listed hm hd hs i _ (ready_waits hm hr) k hc))
          · have hjo : j < ops.size := by omega
            have hgj := masks_get hm (Array.getElem?_eq_getElem hjo)
            have e3 : ms.getD j 0 = maskOf (waits ops[j]) := by simp [hgj]
            refine hu (close_listed hm hd hs j _ (fun m hm2 => ?_) i hc)
            rw [e3, maskOf_bit, mem_waits] at hm2
            obtain ⟨x, hx, hb3, rfl⟩ := hm2
            exact hd j _ (Array.getElem?_eq_getElem hjo) hl x hx hb3
end
section
variable {P : Program} {n : Nat} {w0 w : World} {a : Act} {e : Env} {h : Hep} {G : List (World → Prop)} {Q : Exit → Act → World → Prop} {ops : Array Oper}
/-- **The region.** -/
theorem d2P {id : Nat} (plan : List It2) (f : Nat) {d : Nat} {V : Value} {o : Oper} (hof : ops[f]? = some o) (hpf : plan[f]? = some (.v d V [])) (hgd : o.guard = none) (hrun : ∀ W, (execOp a.eval o).run P W = .ok (.value V) W) (hfr : freeP ops (masks ops) f = true) (hQ : ∀ (d : Nat) (v : Value) c a w, Q (.panic c) (a.put (some d) v) w → Q (.panic c) a w)
    (hf : P.follows .mixedOrders = true) (hk : planOkP ops n e (plan.map It2.fct) (masks ops) f = true) (H : St n w0 a w e h) (g : GS G w) [hL : LastsL G] (ho : Obs2 P ops Q n w0 e h G plan ops.toList plan)
    (tail : nxt2 plan (fun e' G' => Rn P n w0 Q ops (ops.toList.drop plan.length) e' h G') e G) : (Code.region id ops true).wp P Q a w := by
  refine wp_region_any hf ?_
  have none_ : ∀ i, ¬ (Array.replicate ops.size false).getD i false = true := fun i hi => by
    by_cases h : i < ops.size
    · simp [h] at hi
    · simp [h] at hi
  have hlen : (plan.map It2.fct).length = plan.length := List.length_map _
  have hfo : f < ops.size := (Array.getElem?_eq_some_iff.1 hof).1
  have hfp : f < plan.length := (List.getElem?_eq_some_iff.1 hpf).1
  have hfct : (plan.map It2.fct)[f]? = some (It2.fct (.v d V [])) := by rw [List.getElem?_map, hpf]; rfl
  have hk0 := hk
  unfold planOkP at hk0
  simp only [Bool.and_eq_true] at hk0
  obtain ⟨⟨⟨⟨⟨⟨⟨⟨k1, k2⟩, k3⟩, k4⟩, k5⟩, k6⟩, k7⟩, k8⟩, k9⟩ := hk0
  unfold freeP at hfr
  simp only [Bool.and_eq_true] at hfr
  obtain ⟨⟨f1, f2⟩, f3⟩ := hfr
  have hg := masks_get rfl hof
  have hm0 : maskOf (waits o) = 0 := by
    have := Nat.eq_of_beq_eq_true f1
    simpa [hg] using this
  have hwait : ∀ x ∈ o.after, Region.binds .any x = true → False := fun x hx hb => by
    have hb2 : (maskOf (waits o)).testBit x.on = true := maskOf_bit.2 (mem_waits.2 ⟨x, hx, hb, rfl⟩)
    rw [hm0] at hb2
    simp at hb2
  have hof2 : ops.toList[f]? = some o := by simpa using hof
  have hdst : o.dst = some d := dstOkF_get k4 f _ _ hof2 hfct
  have h6 := List.all_eq_true.1 k6 _ (List.mem_iff_getElem?.2 ⟨f, hfct⟩)
  rw [Bool.and_eq_true] at h6
  have hdn : d < n := by
    have := h6.1
    rw [Nat.blt_eq] at this
    exact this
  have hen : ∀ p ∈ e, p.1 ≠ d := fun p hp e1 => by
    have := List.all_eq_true.1 h6.2 p hp
    rw [e1] at this
    simp [It2.fct] at this
  have hready : f ∈ Region.ready .any ops (Array.replicate ops.size false) := mem_ready.2 ⟨by simp [hfo], o, hof, fun x hx hb => (hwait x hx hb).elim⟩
  have hmid : MidF (plan.map It2.fct) n w0 e h (Array.replicate ops.size false) a w.drew := ⟨H.drew, fun j _ _ hj => absurd hj (none_ j)⟩
  have hmid2 := hmid.put (i := f) hfct hdn hen (fun j jt hj hne => distinct_get k5 j f jt.d d (by rw [List.getElem?_map, hj]; rfl) (by rw [List.getElem?_map, hfct]; rfl) hne) (w' := w.drew) (v := V) (fun j jt hj _ hl _ v hv => hv) hmid.base rfl
  have go : ∀ fuel, ops.size ≤ fuel + 1 → wpAny P .any ops Q (fuel + 1) (Array.replicate ops.size false) a w.drew := fun fuel hfu => by
    refine wpAny_first hof (Region.noSelect_spec f3) (v := V) (fun c a w hq => by rw [hdst] at hq; exact hQ d V c a w hq) fuel _ a w.drew (free_all (S := 0) hof f2 (fun j hj => by simp at hj)) hready (.inl ⟨by simp [Region.wanted, hgd], hrun⟩) ?_
    rw [hdst]
    refine any_planP (f := f) (J := GS G) (fun w w' h hb => hL.all _ _ h hb) (fun a w w' H hb => H.call hb) (fun a w w' H hb => H.call hb) rfl hk (Obs2.out 0 (no_own _ _) ho) (fun a w hv hst hg => ?_) fuel _ _ w.drew (by simp) (by simp [hfo]) ?_ ?_ ?_ ⟨hmid2, fun _ => hL.all _ _ g (Below.refl _ _).drew⟩
    · obtain ⟨e', G', h1, h2, h3⟩ := nxt2_of a w tail hst (hg fun j it hj => by
        rw [List.getElem?_map] at hj
        obtain ⟨x, _, rfl⟩ := Option.map_eq_some_iff.1 hj
        cases x <;> rfl) fun it hi => by
          obtain ⟨j, hj⟩ := List.mem_iff_getElem?.1 hi
          exact hv j it.fct (by rw [List.getElem?_map, hj]; rfl) (by cases it <;> rfl)
      rw [hlen]
      exact h1 a w h2 h3
    · exact down_set (fun i o _ hi => absurd hi (none_ i)) hready
    · intro i hi hl
      exact none_ i (listed_set hl (by rw [hlen] at hi; omega))
    · have h1 := left_set (l := Array.replicate ops.size false) (i := f) (by simpa using hfo) (none_ f) (plan.map It2.fct).length (by rw [hlen]; exact hfp)
      have h2 := left_le (Array.replicate ops.size false) (plan.map It2.fct).length
      have h3 := Nat.le_of_ble_eq_true k1
      omega
  obtain ⟨s, hs⟩ : ∃ s, ops.size = s + 1 := ⟨ops.size - 1, by omega⟩
  rw [show wpAny P .any ops Q ops.size = wpAny P .any ops Q (s + 1) by rw [hs]]
  exact go s (by omega)
end
end Go.Proofs.Ytiebelmglchbdaa
