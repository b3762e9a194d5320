/- A region that draws its order, where some that hang on no block come whenever they come (drawnX: they are taken first), the others in any order ahead of the region's last ones, which keep the text's order. No dump is imported. -/
import Derived.Test.YtiebelmglchbdaaZc
namespace Go.Proofs.Ytiebelmglchbdaa
set_option linter.unusedVariables false
set_option linter.unusedSimpArgs false
open Go Go.RowKit

def headOkX (F : List Nat) (ms : List Nat) (m : Nat) : List Nat → Bool
  | [] => true
  | x :: _ => (List.range m).all (fun j => F.contains j || (closeM ms m x).testBit j)
def planOkX (ops : Array Oper) (n : Nat) (e : Env) (plan : List It) (ms : List Nat) (F : List Nat) : Bool :=
  Nat.ble plan.length ops.size && downs 0 ms && psOkS ms plan && dstOkS ops.toList plan && distinct (ends plan) && (ends plan).all (fun d => Nat.blt d n && e.all (fun p => !Nat.beq p.1 d)) && distinct (tgtB plan) && distinct (tgtN plan) && readOk ms plan && (lineUp ms plan.length plan.length (ms.drop plan.length) && headOkX F ms plan.length (ms.drop plan.length))
def setF (l : Array Bool) : List Nat → Array Bool
  | [] => l
  | i :: r => setF (l.setIfInBounds i true) r
def floatsOk (ops : Array Oper) (m : Nat) : List Nat → Array Bool → Bool
  | [], _ => true
  | i :: r, l => Nat.blt i m && Region.free .any ops l i && (Region.ready .any ops l).contains i && floatsOk ops m r (l.setIfInBounds i true)
def fuelOk (ops : Array Oper) (m : Nat) (F : List Nat) : Bool := Nat.ble F.length ops.size && Nat.ble (ops.size - m + left (setF (Array.replicate ops.size false) F) m) (ops.size - F.length)
section
variable {P : Program} {n : Nat} {w0 w w' : World} {a : Act} {e : Env} {h : Hep} {Q : Exit → Act → World → Prop} {ops : Array Oper} {plan : List It} {ms F : List Nat} {rest : List Oper} {o : Oper}
theorem listed_more {l : Array Bool} {i j : Nat} (h : l.getD j false = true) : (l.setIfInBounds i true).getD j false = true := by
  by_cases e : j = i
  · subst e
    have hl : j < l.size := by
      rcases Nat.lt_or_ge j l.size with h2 | h2
      · exact h2
      · simp [Array.getElem?_eq_none h2] at h
    simp [hl]
  · rw [set_other e]
    exact h
theorem any_planX (hm : masks ops = ms) (hk : planOkX ops n e plan ms F = true) (ho : ObsS P ops Q n w0 e h plan ops.toList plan)
    (tail : ∀ (G : Nat → Nat) a w, St n w0 a w (outS G 0 plan ++ e) (newS plan G 0 plan ++ heapS plan 0 h) → wpList P ops Q (ops.toList.drop plan.length) a w) :
    ∀ (fuel : Nat) (l : Array Bool) (a : Act) (w : World) (G : Nat → Nat), l.size = ops.size → Down ops l → (∀ j ∈ F, l.getD j false = true) → (∀ i, plan.length ≤ i → ¬ l.getD i false = true) → ops.size - plan.length + left l plan.length ≤ fuel → MidS plan n w0 e h l G a w → wpAny P .any ops Q fuel l a w := by
  unfold planOkX at hk
  simp only [Bool.and_eq_true] at hk
  obtain ⟨⟨⟨⟨⟨⟨⟨⟨⟨k1, k2⟩, k3⟩, k4⟩, k5⟩, k6⟩, q7⟩, q8⟩, q9⟩, ⟨k7, k8⟩⟩ := hk
  have hlen : plan.length ≤ ops.size := Nat.le_of_ble_eq_true k1
  have hmsl : ms.length = ops.size := by rw [← hm]; simp [masks]
  have after_all : ∀ (l : Array Bool) (i : Nat), l.size = ops.size → Down ops l → (∀ j ∈ F, l.getD j false = true) → (∀ i, plan.length ≤ i → ¬ l.getD i false = true) → i ∈ Region.ready .any ops l → plan.length ≤ i → ∀ j, j < plan.length → l.getD j false = true := by
    intro l i hs hd hF hB hr hge
    obtain ⟨_, o, hoo, _⟩ := mem_ready.1 hr
    have hilt : i < ops.size := (Array.getElem?_eq_some_iff.1 hoo).1
    have hg := masks_get hm hoo
    have e2 : ms.getD i 0 = maskOf (waits o) := by simp [hg]
    have hlist : ∀ j, (closeM ms i (maskOf (waits o))).testBit j = true → l.getD j false = true := fun j hc => close_listed hm hd hs i (maskOf (waits o)) (fun j hj => ready_waits hm hr j (by rw [e2]; exact hj)) j hc
    have hg2 : (ms.drop plan.length)[i - plan.length]? = some (maskOf (waits o)) := by
      rw [List.getElem?_drop, show plan.length + (i - plan.length) = i by omega]
      exact hg
    have him : i = plan.length := by
      apply Nat.le_antisymm _ hge
      apply Nat.le_of_not_lt
      intro hlt
      have hc := lineUp_get (Nat.le_refl _) k7 (i - plan.length) _ hg2 plan.length (Nat.le_refl _) (by omega)
      rw [show plan.length + (i - plan.length) = i by omega] at hc
      exact hB plan.length (Nat.le_refl _) (hlist _ hc)
    subst him
    have hdr : ms.drop plan.length = maskOf (waits o) :: ms.drop (plan.length + 1) := by
      have hlt2 : plan.length < ms.length := by omega
      rw [List.drop_eq_getElem_cons hlt2]
      congr 1
      rw [List.getElem?_eq_getElem hlt2] at hg
      exact Option.some.inj hg
    rw [hdr] at k8
    unfold headOkX at k8
    intro j hj
    have h8 := List.all_eq_true.1 k8 j (List.mem_range.2 hj)
    rw [Bool.or_eq_true] at h8
    rcases h8 with h8 | h8
    · exact hF j (by simpa using h8)
    · exact hlist j h8
  have fin : ∀ (fuel : Nat) (l : Array Bool) (a : Act) (w : World) (G : Nat → Nat), l.size = ops.size → (∀ i, plan.length ≤ i → ¬ l.getD i false = true) → (∀ j, j < plan.length → l.getD j false = true) → ops.size - plan.length ≤ fuel → MidS plan n w0 e h l G a w → wpAny P .any ops Q fuel l a w := by
    intro fuel l a w G hs hB hall hf H
    refine any_tail hm k2 k7 fuel plan.length l a w (Nat.le_refl _) hlen hf hs (fun i hi => ⟨fun h1 => ?_, fun h1 => hall i h1⟩) (tail G a w (H.all hall))
    exact Classical.byContradiction fun hn => hB i (by omega) h1
  intro fuel
  induction fuel with
  | zero =>
    intro l a w G hs hd hF hB hf H
    exact fin 0 l a w G hs hB (left_zero (by omega)) (by omega) H
  | succ fuel ih =>
    intro l a w G hs hd hF hB hf H
    by_cases hall : ∀ j, j < plan.length → l.getD j false = true
    · exact fin _ l a w G hs hB hall (by omega) H
    · have hex : ∃ i, i < plan.length ∧ ¬ l.getD i false = true := Classical.byContradiction fun hn => hall fun j hj => Classical.byContradiction fun hu => hn ⟨j, hj, hu⟩
      obtain ⟨i0, hi0, hu0, hlow⟩ := first_left _ hex
      refine ⟨fun hnil => ?_, fun i hr => ?_⟩
      · exfalso
        have hlt : i0 < ops.size := by omega
        have hin : i0 ∈ Region.ready .any ops l := by
          refine mem_ready.2 ⟨?_, ops[i0], Array.getElem?_eq_getElem hlt, fun x hx hb => hlow _ ?_⟩
          · have hl2 : i0 < l.size := by omega
            simp [Array.getElem?_eq_getElem hl2] at hu0 ⊢
            exact hu0
          · have hg := masks_get hm (Array.getElem?_eq_getElem hlt)
            have hx2 : (maskOf (waits ops[i0])).testBit x.on = true := maskOf_bit.2 (mem_waits.2 ⟨x, hx, hb, rfl⟩)
            have := downs_get k2 i0 _ hg x.on hx2
            omega
        rw [hnil] at hin
        cases hin
      · have hu := not_listed hr
        have hios : i < ops.size := by
          obtain ⟨_, o, hoo, _⟩ := mem_ready.1 hr
          exact (Array.getElem?_eq_some_iff.1 hoo).1
        have hilt : i < plan.length := by
          apply Nat.lt_of_not_le
          intro hge
          exact hu0 (after_all l i hs hd hF hB hr hge i0 hi0)
        have hil : i < l.size := by omega
        have hit : plan[i]? = some plan[i] := List.getElem?_eq_getElem hilt
        have hoi : ops[i]? = some ops[i] := Array.getElem?_eq_getElem hios
        have hoi2 : ops.toList[i]? = some ops[i] := by simp [hios]
        have hob := obS_get ho i _ _ hoi2 hit
        have hdst := dstS_get k4 i _ _ hoi2 hit
        have hg := masks_get hm hoi
        have e2 : ms.getD i 0 = maskOf (waits ops[i]) := by simp [hg]
        have rw_ := ready_waits hm hr
        rw [e2] at rw_
        obtain ⟨p1, p2, p3⟩ := psS_get k3 i _ _ hg hit
        have hps : ∀ j ∈ plan[i].ps, l.getD j false = true := fun j hj => rw_ j (p1 j hj)
        have hend : ∀ d, plan[i].dst = some d → d < n ∧ ∀ p ∈ e, p.1 ≠ d := fun d hdd => by
          have h6 := List.all_eq_true.1 k6 d (ends_has hit hdd)
          rw [Bool.and_eq_true] at h6
          refine ⟨by have := h6.1; rw [Nat.blt_eq] at this; exact this, fun p hp e1 => ?_⟩
          have := List.all_eq_true.1 h6.2 p hp
          rw [e1, Nat.beq_refl] at this
          cases this
        have hdd : ∀ d, plan[i].dst = some d → ∀ (j : Nat) (jt : It) (x : Nat), plan[j]? = some jt → j ≠ i → jt.dst = some x → x ≠ d := fun d hd0 j jt x hj hne hx => ends_inj k5 j i jt plan[i] x d hj hit hne hx hd0
        have hs2 : (l.setIfInBounds i true).size = ops.size := by simpa using hs
        have hd2 := down_set hd hr
        have hF2 : ∀ j ∈ F, (l.setIfInBounds i true).getD j false = true := fun j hj => listed_more (hF j hj)
        have hB2 : ∀ j, plan.length ≤ j → ¬ (l.setIfInBounds i true).getD j false = true := fun j hj hl => hB j hj (listed_set hl (by omega))
        have hf2 : ops.size - plan.length + left (l.setIfInBounds i true) plan.length ≤ fuel := by
          have := left_set (l := l) (i := i) (by omega) hu plan.length hilt
          omega
        unfold wpOp
        rw [hoi]
        dsimp only
        generalize hI : plan[i] = it at *
        cases it with
        | val d v ps hs0 =>
          obtain ⟨hdo, hw⟩ := hob
          have hno : ∀ k ∈ hs0, ∀ j g t cs c qs, plan[j]? = some (.sto k g t cs c qs) → ¬ l.getD j false = true := fun k hk0 j g t cs c qs hj hl => by
            have hjo : j < ops.size := by have := (List.getElem?_eq_some_iff.1 hj).1; omega
            have hc := readOk_get q9 hj hit hk0
            refine hu (close_listed hm hd hs j _ (fun x hx => ?_) i hc)
            have hgj := masks_get hm (Array.getElem?_eq_getElem hjo)
            have e3 : ms.getD j 0 = maskOf (waits ops[j]) := by simp [hgj]
            rw [e3, maskOf_bit, mem_waits] at hx
            obtain ⟨y, hy, hb, rfl⟩ := hx
            exact hd j _ (Array.getElem?_eq_getElem hjo) hl y hy hb
          have hst := H.part hps p2 hno
          have hst0 := H.part (hs := []) hps rfl (fun k hk0 => by cases hk0)
          rw [hw _ _ hst0, if_pos rfl]
          refine .inl (Oper.wp_mono (fun a' w' hx => ?_) (hdo _ _ hst))
          obtain ⟨rfl, hb⟩ := hx
          rw [hdst]
          exact ih _ _ _ G hs2 hd2 hF2 hB2 hf2 (H.put hit rfl (fun _ => rfl) (fun _ _ _ hc => by cases hc) (hend d rfl).1 (hend d rfl).2 (hdd d rfl) hb)
        | off d ps =>
          have hst0 := H.part (hs := []) hps rfl (fun k hk0 => by cases hk0)
          rw [hob _ _ hst0]
          rw [hdst]
          exact ih _ _ _ G hs2 hd2 hF2 hB2 hf2 (H.put hit rfl (fun _ => rfl) (fun _ _ _ hc => by cases hc) (hend d rfl).1 (hend d rfl).2 (hdd d rfl) (Below.refl _ _))
        | new d t z =>
          obtain ⟨hn, hgd⟩ := hob
          have hw : Region.wanted ops[i] (yielded ops a.tmps) = true := by simp [Region.wanted, hgd]
          rw [hw, if_pos rfl]
          left
          unfold Oper.wp
          rw [hn a w]
          show wpAny P .any ops Q fuel (l.setIfInBounds i true) (a.put ops[i].dst _) (w.alloc (.cells z t))
          rw [hdst]
          refine ih _ _ _ _ hs2 hd2 hF2 hB2 hf2 (H.more hit (fun i' d' t' z' c ps hi' hl' => ?_) (hend d rfl).1 (hend d rfl).2 (hdd d rfl))
          -- who writes it waits for it
          have hjo : i' < ops.size := by have := (List.getElem?_eq_some_iff.1 hi').1; omega
          have hgj := masks_get hm (Array.getElem?_eq_getElem hjo)
          have hb := (psS_get k3 i' _ _ hgj hi').2.2 _ _ _ _ _ _ rfl
          rw [maskOf_bit, mem_waits] at hb
          obtain ⟨y, hy, hbb, e4⟩ := hb
          have := hd i' _ (Array.getElem?_eq_getElem hjo) hl' y hy hbb
          rw [e4] at this
          exact hu this
        | sto k g t cs c ps =>
          obtain ⟨h1, hgd, hsto⟩ := hob
          have hw : Region.wanted ops[i] (yielded ops a.tmps) = true := by simp [Region.wanted, hgd]
          rw [hw, if_pos rfl]
          have hm1 : (g, t, cs) ∈ h := List.mem_iff_getElem?.2 ⟨k, h1⟩
          have hB := H.baseA k _ h1 fun j g' t' cs' c' ps' hj hl => by
            have := tgtB_inj q7 i j k g g' t t' cs cs' c c' ps ps' hit hj
            subst this
            exact hu hl
          have hst : St n w0 a w (depS plan ps ++ e) [(g, t, cs)] := by
            have h0 := H.part (hs := []) hps rfl (fun k hk0 => by cases hk0)
            refine ⟨h0.size, h0.defers, h0.env, h0.below, fun p hp => ?_, fun p hp => ?_, List.pairwise_singleton _ _⟩
            · rw [List.mem_singleton.1 hp]
              exact hB
            · rw [List.mem_singleton.1 hp]
              exact (H.own _ hm1).1
          refine .inl (Oper.wp_mono (fun a' w' hx => ?_) (hsto _ _ hst))
          obtain ⟨rfl, hss⟩ := hx
          rw [hdst]
          exact ih _ _ _ G hs2 hd2 hF2 hB2 hf2 (H.sto hit h1 (fun j g' t' cs' c' ps' hj => tgtB_inj q7 i j k g g' t t' cs cs' c c' ps ps' hit hj) hil hss)
        | ston j0 d0 t z c ps =>
          obtain ⟨h1, hgd, hsto⟩ := hob
          have hw : Region.wanted ops[i] (yielded ops a.tmps) = true := by simp [Region.wanted, hgd]
          rw [hw, if_pos rfl]
          have hl0 : l.getD j0 false = true := rw_ j0 (p3 _ _ _ _ _ _ rfl)
          have hB := H.newA j0 d0 t z h1 hl0 fun i' d' t' z' c' ps' hi' hl' => by
            have := tgtN_inj q8 i i' j0 d0 d' t t' z z' c c' ps ps' hit hi'
            subst this
            exact hu hl'
          have hst : St n w0 a w ((d0, .pointer (some ⟨G j0, 0, none⟩)) :: (depS plan ps ++ e)) [(G j0, t, z)] := by
            have h0 := H.part (hs := []) hps rfl (fun k hk0 => by cases hk0)
            refine ⟨h0.size, h0.defers, fun p hp => ?_, h0.below, fun p hp => ?_, fun p hp => ?_, List.pairwise_singleton _ _⟩
            · rcases List.mem_cons.1 hp with rfl | hp
              · exact H.vals j0 _ d0 h1 rfl hl0
              · exact h0.env p hp
            · rw [List.mem_singleton.1 hp]
              exact hB
            · rw [List.mem_singleton.1 hp]
              exact (H.news j0 d0 t z h1 hl0).1
          refine .inl (Oper.wp_mono (fun a' w' hx => ?_) (hsto (G j0) _ _ hst))
          obtain ⟨rfl, hss⟩ := hx
          rw [hdst]
          exact ih _ _ _ G hs2 hd2 hF2 hB2 hf2 (H.ston hit h1 hl0 (fun j d' t' z' c' ps' hj => tgtN_inj q8 i j j0 d0 d' t t' z z' c c' ps ps' hit hj) hil hss)
/-- What a value that hangs on no block comes to. -/
def FloatObs (P : Program) (ops : Array Oper) (plan : List It) (n : Nat) (e : Env) : List Nat → Prop
  | [] => True
  | i :: r => (∃ o d v ps, ops[i]? = some o ∧ plan[i]? = some (.val d v ps []) ∧ o.guard = none ∧ Runs P n (depS plan ps ++ e) [] o v) ∧ FloatObs P ops plan n e r
theorem floats (hm : masks ops = ms) (hk : planOkX ops n e plan ms F = true) (hsel : Region.noSelect ops = true) (hQ : ∀ (a : Act) (d : Nat) (v : Value) c w, Q (.panic c) (a.put (some d) v) w → Q (.panic c) a w) :
    ∀ (F' : List Nat) (fuel : Nat) (l : Array Bool) (a : Act) (w : World) (G : Nat → Nat), floatsOk ops plan.length F' l = true → FloatObs P ops plan n e F' → l.size = ops.size → Down ops l → MidS plan n w0 e h l G a w →
      (∀ a', (setF l F').size = ops.size → Down ops (setF l F') → MidS plan n w0 e h (setF l F') G a' w → wpAny P .any ops Q fuel (setF l F') a' w) → wpAny P .any ops Q (fuel + F'.length) l a w
  | [], fuel, l, a, w, G, _, _, hs, hd, H, next => next a hs hd H
  | i :: r, fuel, l, a, w, G, hf, ho, hs, hd, H, next => by
    unfold floatsOk at hf
    simp only [Bool.and_eq_true] at hf
    obtain ⟨⟨⟨f1, f2⟩, f3⟩, f4⟩ := hf
    obtain ⟨⟨o, d, v, ps, h1, h2, h3, h4⟩, ho'⟩ := ho
    have hk0 := hk
    unfold planOkX at hk
    simp only [Bool.and_eq_true] at hk
    obtain ⟨⟨⟨⟨⟨⟨⟨⟨⟨k1, k2⟩, k3⟩, k4⟩, k5⟩, k6⟩, q7⟩, q8⟩, q9⟩, ⟨k7, k8⟩⟩ := hk
    have hr : i ∈ Region.ready .any ops l := by simpa using f3
    have hoi2 : ops.toList[i]? = some o := by rw [Array.getElem?_toList]; exact h1
    have hdst := dstS_get k4 i _ _ hoi2 h2
    have hg := masks_get hm h1
    have e2 : ms.getD i 0 = maskOf (waits o) := by simp [hg]
    have rw_ := ready_waits hm hr
    rw [e2] at rw_
    obtain ⟨p1, p2, p3⟩ := psS_get k3 i _ _ hg h2
    have hps : ∀ j ∈ ps, l.getD j false = true := fun j hj => rw_ j (p1 j hj)
    have h6 := List.all_eq_true.1 k6 d (ends_has h2 rfl)
    rw [Bool.and_eq_true] at h6
    have hlt : d < n := by have := h6.1; rw [Nat.blt_eq] at this; exact this
    have he : ∀ p ∈ e, p.1 ≠ d := fun p hp e1 => by
      have := List.all_eq_true.1 h6.2 p hp
      rw [e1, Nat.beq_refl] at this
      cases this
    have hst := H.part (hs := []) hps rfl (fun k hk0 => by cases hk0)
    have hy : Yields P ops o v a := .inl ⟨by simp [Region.wanted, h3], fun w2 => h4 w2 a w2 ⟨hst.size, hst.defers, hst.env, Below.refl _ _, (fun p hp => by cases hp), (fun p hp => by cases hp), List.Pairwise.nil⟩⟩
    show wpAny P .any ops Q (fuel + r.length + 1) l a w
    refine wpAny_take h1 hsel f2 f3 (fun c a w => by rw [hdst]; exact hQ a d _ c w) hy ?_
    rw [hdst]
    exact floats hm hk0 hsel hQ r fuel _ _ w G f4 ho' (by simpa using hs) (down_set hd hr) (H.put h2 rfl (fun _ => rfl) (fun _ _ _ hc => by cases hc) hlt he (fun j jt x hj hne hx => ends_inj k5 j i jt _ x d hj h2 hne hx rfl) (Below.refl _ _)) next
theorem setF_done : ∀ {F : List Nat} {l : Array Bool} {j : Nat}, l.getD j false = true → (setF l F).getD j false = true
  | [], _, _, h => h
  | i :: r, l, j, h => setF_done (F := r) (listed_more h)
theorem setF_has : ∀ {F : List Nat} {l : Array Bool} {m : Nat}, floatsOk ops m F l = true → l.size = ops.size → m ≤ ops.size → ∀ j ∈ F, (setF l F).getD j false = true
  | i :: r, l, m, hf, hs, hm, j, hj => by
    unfold floatsOk at hf
    simp only [Bool.and_eq_true] at hf
    obtain ⟨⟨⟨f1, f2⟩, f3⟩, f4⟩ := hf
    have hi : i < m := by rw [Nat.blt_eq] at f1; exact f1
    rcases List.mem_cons.1 hj with rfl | hj
    · refine setF_done (F := r) ?_
      have : j < l.size := by omega
      simp [this]
    · exact setF_has (F := r) f4 (by simpa using hs) hm j hj
theorem setF_none : ∀ {F : List Nat} {l : Array Bool} {m : Nat}, floatsOk ops m F l = true → ∀ j, m ≤ j → ¬ l.getD j false = true → ¬ (setF l F).getD j false = true
  | [], _, _, _, _, _, h => h
  | i :: r, l, m, hf, j, hj, h => by
    unfold floatsOk at hf
    simp only [Bool.and_eq_true] at hf
    obtain ⟨⟨⟨f1, f2⟩, f3⟩, f4⟩ := hf
    have hi : i < m := by rw [Nat.blt_eq] at f1; exact f1
    refine setF_none (F := r) f4 j hj ?_
    rw [set_other (show j ≠ i by omega)]
    exact h
/-- **The region.** -/
theorem drawnX {id : Nat} (plan : List It) (ms F : List Nat) (hf : P.follows .mixedOrders = true) (hm : masks ops = ms) (hk : planOkX ops n e plan ms F = true) (hsel : Region.noSelect ops = true) (hfl : floatsOk ops plan.length F (Array.replicate ops.size false) = true) (hfu : fuelOk ops plan.length F = true)
    (hQ : ∀ (a : Act) (d : Nat) (v : Value) c w, Q (.panic c) (a.put (some d) v) w → Q (.panic c) a w) (H : St n w0 a w e h) (ho : ObsS P ops Q n w0 e h plan ops.toList plan) (hfo : FloatObs P ops plan n e F)
    (tail : ∀ (G : Nat → Nat) a w, St n w0 a w (outS G 0 plan ++ e) (newS plan G 0 plan ++ heapS plan 0 h) → wpList P ops Q (ops.toList.drop plan.length) a w) : (Code.region id ops true).wp P Q a w := by
  refine wp_region_any hf ?_
  have none_ : ∀ i, ¬ (Array.replicate ops.size false).getD i false = true := fun i hi => by
    by_cases h : i < ops.size
    · simp [h] at hi
    · simp [h] at hi
  have hlen : plan.length ≤ ops.size := by
    have h0 := hk
    unfold planOkX at h0
    simp only [Bool.and_eq_true] at h0
    exact Nat.le_of_ble_eq_true h0.1.1.1.1.1.1.1.1.1
  unfold fuelOk at hfu
  rw [Bool.and_eq_true] at hfu
  have u1 := Nat.le_of_ble_eq_true hfu.1
  have u2 := Nat.le_of_ble_eq_true hfu.2
  have hM : MidS plan n w0 e h (Array.replicate ops.size false) (fun _ => 0) a w.drew :=
    ⟨H.size, H.defers, H.below.drew, H.env, fun j _ _ _ _ hj => absurd hj (none_ j), fun x hx => ⟨H.own x hx, (H.heap x hx).lt⟩, H.apart, fun k x hx _ => H.heap x (List.mem_iff_getElem?.2 ⟨k, hx⟩), fun k x j _ _ _ _ _ _ _ hl => absurd hl (none_ j), fun j _ _ _ _ hl => absurd hl (none_ j), fun j _ _ _ _ hl => absurd hl (none_ j), fun j _ _ _ _ _ _ _ _ _ _ hl => absurd hl (none_ j), fun j _ _ _ _ _ _ _ _ _ hl => absurd hl (none_ j)⟩
  have hgo := floats (Q := Q) hm hk hsel hQ F (ops.size - F.length) (Array.replicate ops.size false) a w.drew (fun _ => 0) hfl hfo (by simp) (fun i o _ hi => absurd hi (none_ i)) hM
    (fun a' hs hd H' => any_planX hm hk ho tail (ops.size - F.length) _ a' w.drew _ hs hd (setF_has hfl (by simp) hlen) (fun i hi => setF_none hfl i hi (none_ i)) u2 H')
  rw [show ops.size - F.length + F.length = ops.size by omega] at hgo
  exact hgo
theorem runs_slice {t : TypeId} {x : Operand} {lo hi : Option Operand} {u v : Value} {vl vh : Option Value} (ho : o.op = .slice t x lo hi none) (hx : sev e x = some u) (hl : lo.map (sev e) = vl.map some) (hh : hi.map (sev e) = vh.map some)
    (hv : ∀ W, (Instr.sliceAt t u vl vh none).run P W = .ok v W) : Runs P n e h o v := fun w0 a w H => by
  unfold execOp
  have el : lo.map a.eval = vl := by
    cases lo with
    | none => cases vl with
      | none => rfl
      | some _ => cases hl
    | some x => cases vl with
      | none => cases hl
      | some y => injection hl with hl; exact congrArg some (H.ev hl)
  have eh : hi.map a.eval = vh := by
    cases hi with
    | none => cases vh with
      | none => rfl
      | some _ => cases hh
    | some x => cases vh with
      | none => cases hh
      | some y => injection hh with hh; exact congrArg some (H.ev hh)
  simp only [ho, H.ev hx, el, eh, Option.map_none, Sem.run_bind, hv, Result.andThen_ok, Sem.run_pure]
end
end Go.Proofs.Ytiebelmglchbdaa
