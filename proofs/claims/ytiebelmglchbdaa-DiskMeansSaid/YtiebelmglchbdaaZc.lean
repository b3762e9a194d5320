/- A region that draws its order, stores and all, of which the last operations come in the text's order behind all the others (drawnT). No dump is imported. -/
import Derived.Test.YtiebelmglchbdaaZb
import Derived.Test.YtiebelmglchbdaaVh
namespace Go.Proofs.Ytiebelmglchbdaa
set_option linter.unusedVariables false
set_option linter.unusedSimpArgs false
open Go Go.RowKit

def planOkT (ops : Array Oper) (n : Nat) (e : Env) (plan : List It) (ms : List Nat) : Bool :=
  Nat.ble plan.length ops.size && downs 0 ms && psOkS ms plan && dstOkS ops.toList plan && distinct (ends plan) && (ends plan).all (fun d => Nat.blt d n && e.all (fun p => !Nat.beq p.1 d)) && distinct (tgtB plan) && distinct (tgtN plan) && readOk ms plan && (lineUp ms plan.length plan.length (ms.drop plan.length) && headOkF ms plan.length (ms.drop plan.length))
section
variable {P : Program} {n : Nat} {w0 w w' : World} {a : Act} {e : Env} {h : Hep} {Q : Exit → Act → World → Prop} {ops : Array Oper} {plan : List It} {ms : List Nat} {rest : List Oper} {o : Oper}
theorem St.pickF {t : Hep} (H : St n w0 a w e (h ++ t)) (es hs : List Nat) (hr : rises hs = true) : St n w0 a w (picks e es) (picks h hs ++ t) := by
  have hap := List.pairwise_append.1 H.apart
  refine H.sub (fun p hp => ?_) (fun p hp => ?_) (List.pairwise_append.2 ⟨picks_pw hap.1 hr, hap.2.1, fun p hp q hq => ?_⟩)
  · obtain ⟨k, _, hk⟩ := picks_get hp
    exact List.mem_iff_getElem?.2 ⟨k, hk⟩
  · rcases List.mem_append.1 hp with hp | hp
    · obtain ⟨k, _, hk⟩ := picks_get hp
      exact List.mem_append.2 (.inl (List.mem_iff_getElem?.2 ⟨k, hk⟩))
    · exact List.mem_append.2 (.inr hp)
  · obtain ⟨k, _, hk⟩ := picks_get hp
    exact hap.2.2 p (List.mem_iff_getElem?.2 ⟨k, hk⟩) q hq
theorem any_planT (hm : masks ops = ms) (hk : planOkT ops n e plan ms = true) (ho : ObsS P ops Q n w0 e h plan ops.toList plan)
    (tail : ∀ (G : Nat → Nat) a w, St n w0 a w (outS G 0 plan ++ e) (newS plan G 0 plan ++ heapS plan 0 h) → wpList P ops Q (ops.toList.drop plan.length) a w) :
    ∀ (fuel : Nat) (l : Array Bool) (a : Act) (w : World) (G : Nat → Nat), l.size = ops.size → Down ops l → (∀ i, plan.length ≤ i → ¬ l.getD i false = true) → ops.size - plan.length + left l plan.length ≤ fuel → MidS plan n w0 e h l G a w → wpAny P .any ops Q fuel l a w := by
  unfold planOkT at hk
  simp only [Bool.and_eq_true] at hk
  obtain ⟨⟨⟨⟨⟨⟨⟨⟨⟨k1, k2⟩, k3⟩, k4⟩, k5⟩, k6⟩, q7⟩, q8⟩, q9⟩, ⟨k7, k8⟩⟩ := hk
  have hlen : plan.length ≤ ops.size := Nat.le_of_ble_eq_true k1
  have hmsl : ms.length = ops.size := by rw [← hm]; simp [masks]
  have after_all : ∀ (l : Array Bool) (i : Nat), l.size = ops.size → Down ops l → (∀ i, plan.length ≤ i → ¬ l.getD i false = true) → i ∈ Region.ready .any ops l → plan.length ≤ i → ∀ j, j < plan.length → l.getD j false = true := by
    intro l i hs hd hB hr hge
    obtain ⟨_, o, hoo, _⟩ := mem_ready.1 hr
    have hilt : i < ops.size := (Array.getElem?_eq_some_iff.1 hoo).1
    have hg := masks_get hm hoo
    have e2 : ms.getD i 0 = maskOf (waits o) := by simp [hg]
    have hlist : ∀ j, (closeM ms i (maskOf (waits o))).testBit j = true → l.getD j false = true := fun j hc => close_listed hm hd hs i (maskOf (waits o)) (fun j hj => ready_waits hm hr j (by rw [e2]; exact hj)) j hc
    have hg2 : (ms.drop plan.length)[i - plan.length]? = some (maskOf (waits o)) := by
      rw [List.getElem?_drop, show plan.length + (i - plan.length) = i by omega]
      exact hg
    have him : i = plan.length := by
      apply Nat.le_antisymm _ hge
      apply Nat.le_of_not_lt
      intro hlt
      have hc := lineUp_get (Nat.le_refl _) k7 (i - plan.length) _ hg2 plan.length (Nat.le_refl _) (by omega)
      rw [show plan.length + (i - plan.length) = i by omega] at hc
      exact hB plan.length (Nat.le_refl _) (hlist _ hc)
    subst him
    have hdr : ms.drop plan.length = maskOf (waits o) :: ms.drop (plan.length + 1) := by
      have hlt2 : plan.length < ms.length := by omega
      rw [List.drop_eq_getElem_cons hlt2]
      congr 1
      rw [List.getElem?_eq_getElem hlt2] at hg
      exact Option.some.inj hg
    rw [hdr] at k8
    unfold headOkF at k8
    intro j hj
    have hbit : (Nat.shiftLeft 1 plan.length - 1).testBit j = true := by rw [low_bit]; exact decide_eq_true hj
    exact hlist j (sub2_get k8 hbit)
  have fin : ∀ (fuel : Nat) (l : Array Bool) (a : Act) (w : World) (G : Nat → Nat), l.size = ops.size → (∀ i, plan.length ≤ i → ¬ l.getD i false = true) → (∀ j, j < plan.length → l.getD j false = true) → ops.size - plan.length ≤ fuel → MidS plan n w0 e h l G a w → wpAny P .any ops Q fuel l a w := by
    intro fuel l a w G hs hB hall hf H
    refine any_tail hm k2 k7 fuel plan.length l a w (Nat.le_refl _) hlen hf hs (fun i hi => ⟨fun h1 => ?_, fun h1 => hall i h1⟩) (tail G a w (H.all hall))
    exact Classical.byContradiction fun hn => hB i (by omega) h1
  intro fuel
  induction fuel with
  | zero =>
    intro l a w G hs hd hB hf H
    exact fin 0 l a w G hs hB (left_zero (by omega)) (by omega) H
  | succ fuel ih =>
    intro l a w G hs hd hB hf H
    by_cases hall : ∀ j, j < plan.length → l.getD j false = true
    · exact fin _ l a w G hs hB hall (by omega) H
    · have hex : ∃ i, i < plan.length ∧ ¬ l.getD i false = true := Classical.byContradiction fun hn => hall fun j hj => Classical.byContradiction fun hu => hn ⟨j, hj, hu⟩
      obtain ⟨i0, hi0, hu0, hlow⟩ := first_left _ hex
      refine ⟨fun hnil => ?_, fun i hr => ?_⟩
      · exfalso
        have hlt : i0 < ops.size := by omega
        have hin : i0 ∈ Region.ready .any ops l := by
          refine mem_ready.2 ⟨?_, ops[i0], Array.getElem?_eq_getElem hlt, fun x hx hb => hlow _ ?_⟩
          · have hl2 : i0 < l.size := by omega
            simp [Array.getElem?_eq_getElem hl2] at hu0 ⊢
            exact hu0
          · have hg := masks_get hm (Array.getElem?_eq_getElem hlt)
            have hx2 : (maskOf (waits ops[i0])).testBit x.on = true := maskOf_bit.2 (mem_waits.2 ⟨x, hx, hb, rfl⟩)
            have := downs_get k2 i0 _ hg x.on hx2
            omega
        rw [hnil] at hin
        cases hin
      · have hu := not_listed hr
        have hios : i < ops.size := by
          obtain ⟨_, o, hoo, _⟩ := mem_ready.1 hr
          exact (Array.getElem?_eq_some_iff.1 hoo).1
        have hilt : i < plan.length := by
          apply Nat.lt_of_not_le
          intro hge
          exact hu0 (after_all l i hs hd hB hr hge i0 hi0)
        have hil : i < l.size := by omega
        have hit : plan[i]? = some plan[i] := List.getElem?_eq_getElem hilt
        have hoi : ops[i]? = some ops[i] := Array.getElem?_eq_getElem hios
        have hoi2 : ops.toList[i]? = some ops[i] := by simp [hios]
        have hob := obS_get ho i _ _ hoi2 hit
        have hdst := dstS_get k4 i _ _ hoi2 hit
        have hg := masks_get hm hoi
        have e2 : ms.getD i 0 = maskOf (waits ops[i]) := by simp [hg]
        have rw_ := ready_waits hm hr
        rw [e2] at rw_
        obtain ⟨p1, p2, p3⟩ := psS_get k3 i _ _ hg hit
        have hps : ∀ j ∈ plan[i].ps, l.getD j false = true := fun j hj => rw_ j (p1 j hj)
        have hend : ∀ d, plan[i].dst = some d → d < n ∧ ∀ p ∈ e, p.1 ≠ d := fun d hdd => by
          have h6 := List.all_eq_true.1 k6 d (ends_has hit hdd)
          rw [Bool.and_eq_true] at h6
          refine ⟨by have := h6.1; rw [Nat.blt_eq] at this; exact this, fun p hp e1 => ?_⟩
          have := List.all_eq_true.1 h6.2 p hp
          rw [e1, Nat.beq_refl] at this
          cases this
        have hdd : ∀ d, plan[i].dst = some d → ∀ (j : Nat) (jt : It) (x : Nat), plan[j]? = some jt → j ≠ i → jt.dst = some x → x ≠ d := fun d hd0 j jt x hj hne hx => ends_inj k5 j i jt plan[i] x d hj hit hne hx hd0
        have hs2 : (l.setIfInBounds i true).size = ops.size := by simpa using hs
        have hd2 := down_set hd hr
        have hB2 : ∀ j, plan.length ≤ j → ¬ (l.setIfInBounds i true).getD j false = true := fun j hj hl => hB j hj (listed_set hl (by omega))
        have hf2 : ops.size - plan.length + left (l.setIfInBounds i true) plan.length ≤ fuel := by
          have := left_set (l := l) (i := i) (by omega) hu plan.length hilt
          omega
        unfold wpOp
        rw [hoi]
        dsimp only
        generalize hI : plan[i] = it at *
        cases it with
        | val d v ps hs0 =>
          obtain ⟨hdo, hw⟩ := hob
          have hno : ∀ k ∈ hs0, ∀ j g t cs c qs, plan[j]? = some (.sto k g t cs c qs) → ¬ l.getD j false = true := fun k hk0 j g t cs c qs hj hl => by
            have hjo : j < ops.size := by have := (List.getElem?_eq_some_iff.1 hj).1; omega
            have hc := readOk_get q9 hj hit hk0
            refine hu (close_listed hm hd hs j _ (fun x hx => ?_) i hc)
            have hgj := masks_get hm (Array.getElem?_eq_getElem hjo)
            have e3 : ms.getD j 0 = maskOf (waits ops[j]) := by simp [hgj]
            rw [e3, maskOf_bit, mem_waits] at hx
            obtain ⟨y, hy, hb, rfl⟩ := hx
            exact hd j _ (Array.getElem?_eq_getElem hjo) hl y hy hb
          have hst := H.part hps p2 hno
          have hst0 := H.part (hs := []) hps rfl (fun k hk0 => by cases hk0)
          rw [hw _ _ hst0, if_pos rfl]
          refine .inl (Oper.wp_mono (fun a' w' hx => ?_) (hdo _ _ hst))
          obtain ⟨rfl, hb⟩ := hx
          rw [hdst]
          exact ih _ _ _ G hs2 hd2 hB2 hf2 (H.put hit rfl (fun _ => rfl) (fun _ _ _ hc => by cases hc) (hend d rfl).1 (hend d rfl).2 (hdd d rfl) hb)
        | off d ps =>
          have hst0 := H.part (hs := []) hps rfl (fun k hk0 => by cases hk0)
          rw [hob _ _ hst0]
          rw [hdst]
          exact ih _ _ _ G hs2 hd2 hB2 hf2 (H.put hit rfl (fun _ => rfl) (fun _ _ _ hc => by cases hc) (hend d rfl).1 (hend d rfl).2 (hdd d rfl) (Below.refl _ _))
        | new d t z =>
          obtain ⟨hn, hgd⟩ := hob
          have hw : Region.wanted ops[i] (yielded ops a.tmps) = true := by simp [Region.wanted, hgd]
          rw [hw, if_pos rfl]
          left
          unfold Oper.wp
          rw [hn a w]
          show wpAny P .any ops Q fuel (l.setIfInBounds i true) (a.put ops[i].dst _) (w.alloc (.cells z t))
          rw [hdst]
          refine ih _ _ _ _ hs2 hd2 hB2 hf2 (H.more hit (fun i' d' t' z' c ps hi' hl' => ?_) (hend d rfl).1 (hend d rfl).2 (hdd d rfl))
          -- who writes it waits for it
          have hjo : i' < ops.size := by have := (List.getElem?_eq_some_iff.1 hi').1; omega
          have hgj := masks_get hm (Array.getElem?_eq_getElem hjo)
          have hb := (psS_get k3 i' _ _ hgj hi').2.2 _ _ _ _ _ _ rfl
          rw [maskOf_bit, mem_waits] at hb
          obtain ⟨y, hy, hbb, e4⟩ := hb
          have := hd i' _ (Array.getElem?_eq_getElem hjo) hl' y hy hbb
          rw [e4] at this
          exact hu this
        | sto k g t cs c ps =>
          obtain ⟨h1, hgd, hsto⟩ := hob
          have hw : Region.wanted ops[i] (yielded ops a.tmps) = true := by simp [Region.wanted, hgd]
          rw [hw, if_pos rfl]
          have hm1 : (g, t, cs) ∈ h := List.mem_iff_getElem?.2 ⟨k, h1⟩
          have hB := H.baseA k _ h1 fun j g' t' cs' c' ps' hj hl => by
            have := tgtB_inj q7 i j k g g' t t' cs cs' c c' ps ps' hit hj
            subst this
            exact hu hl
          have hst : St n w0 a w (depS plan ps ++ e) [(g, t, cs)] := by
            have h0 := H.part (hs := []) hps rfl (fun k hk0 => by cases hk0)
            refine ⟨h0.size, h0.defers, h0.env, h0.below, fun p hp => ?_, fun p hp => ?_, List.pairwise_singleton _ _⟩
            · rw [List.mem_singleton.1 hp]
              exact hB
            · rw [List.mem_singleton.1 hp]
              exact (H.own _ hm1).1
          refine .inl (Oper.wp_mono (fun a' w' hx => ?_) (hsto _ _ hst))
          obtain ⟨rfl, hss⟩ := hx
          rw [hdst]
          exact ih _ _ _ G hs2 hd2 hB2 hf2 (H.sto hit h1 (fun j g' t' cs' c' ps' hj => tgtB_inj q7 i j k g g' t t' cs cs' c c' ps ps' hit hj) hil hss)
        | ston j0 d0 t z c ps =>
          obtain ⟨h1, hgd, hsto⟩ := hob
          have hw : Region.wanted ops[i] (yielded ops a.tmps) = true := by simp [Region.wanted, hgd]
          rw [hw, if_pos rfl]
          have hl0 : l.getD j0 false = true := rw_ j0 (p3 _ _ _ _ _ _ rfl)
          have hB := H.newA j0 d0 t z h1 hl0 fun i' d' t' z' c' ps' hi' hl' => by
            have := tgtN_inj q8 i i' j0 d0 d' t t' z z' c c' ps ps' hit hi'
            subst this
            exact hu hl'
          have hst : St n w0 a w ((d0, .pointer (some ⟨G j0, 0, none⟩)) :: (depS plan ps ++ e)) [(G j0, t, z)] := by
            have h0 := H.part (hs := []) hps rfl (fun k hk0 => by cases hk0)
            refine ⟨h0.size, h0.defers, fun p hp => ?_, h0.below, fun p hp => ?_, fun p hp => ?_, List.pairwise_singleton _ _⟩
            · rcases List.mem_cons.1 hp with rfl | hp
              · exact H.vals j0 _ d0 h1 rfl hl0
              · exact h0.env p hp
            · rw [List.mem_singleton.1 hp]
              exact hB
            · rw [List.mem_singleton.1 hp]
              exact (H.news j0 d0 t z h1 hl0).1
          refine .inl (Oper.wp_mono (fun a' w' hx => ?_) (hsto (G j0) _ _ hst))
          obtain ⟨rfl, hss⟩ := hx
          rw [hdst]
          exact ih _ _ _ G hs2 hd2 hB2 hf2 (H.ston hit h1 hl0 (fun j d' t' z' c' ps' hj => tgtN_inj q8 i j j0 d0 d' t t' z z' c c' ps ps' hit hj) hil hss)
/-- **The region.** -/
theorem drawnT {id : Nat} (plan : List It) (ms : List Nat) (hf : P.follows .mixedOrders = true) (hm : masks ops = ms) (hk : planOkT ops n e plan ms = true) (H : St n w0 a w e h) (ho : ObsS P ops Q n w0 e h plan ops.toList plan)
    (tail : ∀ (G : Nat → Nat) a w, St n w0 a w (outS G 0 plan ++ e) (newS plan G 0 plan ++ heapS plan 0 h) → wpList P ops Q (ops.toList.drop plan.length) a w) : (Code.region id ops true).wp P Q a w := by
  refine wp_region_any hf ?_
  have none_ : ∀ i, ¬ (Array.replicate ops.size false).getD i false = true := fun i hi => by
    by_cases h : i < ops.size
    · simp [h] at hi
    · simp [h] at hi
  have hlen : plan.length ≤ ops.size := by
    unfold planOkT at hk
    simp only [Bool.and_eq_true] at hk
    exact Nat.le_of_ble_eq_true hk.1.1.1.1.1.1.1.1.1
  refine any_planT hm hk ho tail ops.size _ a w.drew (fun _ => 0) (by simp) (fun i o _ hi => absurd hi (none_ i)) (fun i _ => none_ i) ?_
    ⟨H.size, H.defers, H.below.drew, H.env, fun j _ _ _ _ hj => absurd hj (none_ j), fun x hx => ⟨H.own x hx, (H.heap x hx).lt⟩, H.apart, fun k x hx _ => H.heap x (List.mem_iff_getElem?.2 ⟨k, hx⟩), fun k x j _ _ _ _ _ _ _ hl => absurd hl (none_ j), fun j _ _ _ _ hl => absurd hl (none_ j), fun j _ _ _ _ hl => absurd hl (none_ j), fun j _ _ _ _ _ _ _ _ _ _ hl => absurd hl (none_ j), fun j _ _ _ _ _ _ _ _ _ hl => absurd hl (none_ j)⟩
  have := left_le (Array.replicate ops.size false) plan.length
  omega
theorem endB_none : ∀ {r : List It} {k : Nat} {cs : Array Value}, (tgtB r).all (fun j => Nat.blt j k) = true → endB r k cs = cs
  | [], _, _, _ => rfl
  | it :: r, k, cs, h => by
    cases it with
    | sto k' g t cs' c ps =>
      unfold tgtB at h
      rw [List.all_cons, Bool.and_eq_true] at h
      have e : Nat.beq k' k = false := by
        cases e : Nat.beq k' k with
        | false => rfl
        | true =>
          have h2 : k' + 1 ≤ k := Nat.le_of_ble_eq_true h.1
          have := Nat.eq_of_beq_eq_true e
          omega
      show (bif Nat.beq k' k then c else endB r k cs) = cs
      rw [e, cond_false]
      exact endB_none h.2
    | val d v ps hs => exact endB_none (r := r) h
    | off d ps => exact endB_none (r := r) h
    | new d t z => exact endB_none (r := r) h
    | ston j d t z c ps => exact endB_none (r := r) h
theorem blt_up {j k : Nat} (h : Nat.blt j k = true) : Nat.blt j (k + 1) = true := by
  have h2 : j + 1 ≤ k := Nat.le_of_ble_eq_true h
  exact Nat.ble_eq_true_of_le (show j + 1 ≤ k + 1 by omega)
theorem heapS_fix : ∀ {t : Hep} {k : Nat}, (tgtB plan).all (fun j => Nat.blt j k) = true → heapS plan k t = t
  | [], _, _ => rfl
  | x :: r, k, h => by
    show (x.1, x.2.1, endB plan k x.2.2) :: heapS plan (k + 1) r = x :: r
    rw [endB_none h, heapS_fix (t := r) (List.all_eq_true.2 fun j hj => blt_up (List.all_eq_true.1 h j hj))]
theorem heapS_tail {t : Hep} : ∀ {x : Hep} {k : Nat}, (tgtB plan).all (fun j => Nat.blt j (k + x.length)) = true → heapS plan k (x ++ t) = heapS plan k x ++ t
  | [], k, h => heapS_fix h
  | y :: r, k, h => by
    show _ :: heapS plan (k + 1) (r ++ t) = _ :: (heapS plan (k + 1) r ++ t)
    rw [heapS_tail (x := r) (k := k + 1) (by rw [show k + 1 + r.length = k + (y :: r).length by simp; omega]; exact h)]
/-- .. where blocks stand behind, of which none is written. -/
theorem drawnTF {id : Nat} {t : Hep} (plan : List It) (ms : List Nat) (hf : P.follows .mixedOrders = true) (hm : masks ops = ms) (hk : planOkT ops n e plan ms = true) (H : St n w0 a w e (h ++ t)) (hw : (tgtB plan).all (fun j => Nat.blt j (0 + h.length)) = true) (ho : ObsS P ops Q n w0 e (h ++ t) plan ops.toList plan)
    (tail : ∀ (G : Nat → Nat) a w, St n w0 a w (outS G 0 plan ++ e) (newS plan G 0 plan ++ (heapS plan 0 h ++ t)) → wpList P ops Q (ops.toList.drop plan.length) a w) : (Code.region id ops true).wp P Q a w :=
  drawnT plan ms hf hm hk H ho fun G a w H2 => tail G a w (by rw [← heapS_tail hw]; exact H2)
end
end Go.Proofs.Ytiebelmglchbdaa
