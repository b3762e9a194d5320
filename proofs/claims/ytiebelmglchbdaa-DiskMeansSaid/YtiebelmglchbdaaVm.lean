/- A region that draws its order, stores, and sets a slot anew that it has read: what the slot held is known till it is set (drawnSO). No dump is imported. -/
import Derived.Test.YtiebelmglchbdaaVl
namespace Go.Proofs.Ytiebelmglchbdaa
set_option linter.unusedVariables false
set_option linter.unusedSimpArgs false
open Go Go.RowKit

def oldOkS (plan : List It) (x : Nat × Value × Nat) : Bool := match plan[x.2.2]? with
  | some it => (match it.dst with | some d => Nat.beq d x.1 | none => false)
  | none => false
def ObsSO (P : Program) (ops : Array Oper) (Q : Exit → Act → World → Prop) (n : Nat) (w0 : World) (e : Env) (h : Hep) (plan : List It) : List Env → List Oper → List It → Prop
  | oe :: oes, o :: os, it :: r => it.ob P ops Q n w0 (oe ++ e) h plan o ∧ ObsSO P ops Q n w0 e h plan oes os r
  | _, _, _ => True
section
variable {P : Program} {n : Nat} {w0 w w' : World} {a : Act} {e : Env} {h : Hep} {Q : Exit → Act → World → Prop} {ops : Array Oper} {plan : List It} {ms : List Nat} {rest : List Oper} {o : Oper}
structure MidSO (olds : List (Nat × Value × Nat)) (plan : List It) (n : Nat) (w0 : World) (e : Env) (h : Hep) (l : Array Bool) (G : Nat → Nat) (a : Act) (w : World) : Prop extends MidS plan n w0 e h l G a w where
  old : ∀ x ∈ olds, ¬ l.getD x.2.2 false = true → a.tmps[x.1]? = some x.2.1
theorem St.olds {d oe : Env} (H : St n w0 a w (d ++ e) h) (ho : ∀ p ∈ oe, a.tmps[p.1]? = some p.2) : St n w0 a w (d ++ (oe ++ e)) h := by
  refine ⟨H.size, H.defers, fun p hp => ?_, H.below, H.heap, H.own, H.apart⟩
  rcases List.mem_append.1 hp with hp | hp
  · exact H.env p (List.mem_append_left _ hp)
  · rcases List.mem_append.1 hp with hp | hp
    · exact ho p hp
    · exact H.env p (List.mem_append_right _ hp)
theorem MidSO.ext_old {olds : List (Nat × Value × Nat)} {l : Array Bool} {G : Nat → Nat} (H : MidSO olds plan n w0 e h l G a w) {i : Nat} (hx : ∀ x, x = i ∨ (ms.getD x 0).testBit i = true → ¬ l.getD x false = true) : ∀ p ∈ oldEnv olds ms i, a.tmps[p.1]? = some p.2 := by
  intro p hp
  unfold oldEnv at hp
  rw [List.mem_map] at hp
  obtain ⟨x, hx1, rfl⟩ := hp
  rw [List.mem_filter] at hx1
  refine H.old x hx1.1 (hx x.2.2 ?_)
  have := hx1.2
  rw [Bool.or_eq_true] at this
  exact this.imp Nat.eq_of_beq_eq_true id
theorem MidSO.keep_old {olds : List (Nat × Value × Nat)} (hold : olds.all (oldOkS plan) = true) {l : Array Bool} {G : Nat → Nat} (H : MidSO olds plan n w0 e h l G a w) {i : Nat} {it : It} {v : Value} (hi : plan[i]? = some it)
    (hd : ∀ d, it.dst = some d → ∀ (j : Nat) (jt : It) (x : Nat), plan[j]? = some jt → j ≠ i → jt.dst = some x → x ≠ d) (hil : i < l.size) : ∀ x ∈ olds, ¬ (l.setIfInBounds i true).getD x.2.2 false = true → (a.put it.dst v).tmps[x.1]? = some x.2.1 := fun x hx hl => by
  have h1 := List.all_eq_true.1 hold x hx
  have hne : x.2.2 ≠ i := fun e1 => hl (by rw [e1]; simp [hil])
  have h2 : ¬ l.getD x.2.2 false = true := fun h2 => hl (getD_set_true h2)
  have h0 := H.old x hx h2
  cases hdst : it.dst with
  | none => exact h0
  | some d =>
    have h3 : x.1 ≠ d := by
      unfold oldOkS at h1
      cases hj : plan[x.2.2]? with
      | none => rw [hj] at h1; cases h1
      | some jt =>
        rw [hj] at h1
        cases hjd : jt.dst with
        | none => simp only [hjd] at h1; cases h1
        | some y =>
          simp only [hjd] at h1
          rw [← Nat.eq_of_beq_eq_true h1]
          exact hd d hdst _ jt y hj hne hjd
    show (a.tmps.setIfInBounds d v)[x.1]? = _
    rw [Array.getElem?_setIfInBounds_ne (Ne.symm h3)]
    exact h0
theorem obSO_get {oes : List Env} {os : List Oper} {r : List It} (ho : ObsSO P ops Q n w0 e h plan oes os r) : ∀ (j : Nat) (o : Oper) (it : It) (oe : Env), os[j]? = some o → r[j]? = some it → oes[j]? = some oe → it.ob P ops Q n w0 (oe ++ e) h plan o := by
  induction os generalizing r oes with
  | nil => intro j o it oe h1; cases h1
  | cons o0 os ih =>
    cases r with
    | nil => intro j o it oe _ h2; cases h2
    | cons it0 r =>
      cases oes with
      | nil => intro j o it oe _ _ h3; cases h3
      | cons oe0 oes =>
        intro j o it oe h1 h2 h3
        obtain ⟨ho1, ho2⟩ := ho
        cases j with
        | zero =>
          injection h1 with h1
          injection h2 with h2
          injection h3 with h3
          subst h1 h2 h3
          exact ho1
        | succ j => exact ih ho2 j o it oe h1 h2 h3
theorem any_planSO {olds : List (Nat × Value × Nat)} {oes : List Env} (hold : olds.all (oldOkS plan) = true) (hoes : (List.range plan.length).map (oldEnv olds ms) = oes) (hm : masks ops = ms) (hk : planOkS ops n e plan ms = true) (ho : ObsSO P ops Q n w0 e h plan oes ops.toList plan)
    (fin : ∀ (G : Nat → Nat) a w, St n w0 a w (outS G 0 plan ++ e) (newS plan G 0 plan ++ heapS plan 0 h) → Q .normal a w) :
    ∀ (fuel : Nat) (l : Array Bool) (a : Act) (w : World) (G : Nat → Nat), l.size = ops.size → Down ops l → left l plan.length ≤ fuel → MidSO olds plan n w0 e h l G a w → wpAny P .any ops Q fuel l a w := by
  unfold planOkS at hk
  simp only [Bool.and_eq_true] at hk
  obtain ⟨⟨⟨⟨⟨⟨⟨⟨k1, k2⟩, k3⟩, k4⟩, k5⟩, k6⟩, k7⟩, k8⟩, k9⟩ := hk
  have hlen : plan.length = ops.size := Nat.eq_of_beq_eq_true k1
  have nothing : ∀ l : Array Bool, l.size = ops.size → (∀ j, j < plan.length → l.getD j false = true) → Region.ready .any ops l = [] := fun l hs hall => by
    apply List.eq_nil_iff_forall_not_mem.2
    intro i hi
    obtain ⟨_, o, hoo, _⟩ := mem_ready.1 hi
    exact not_listed hi (hall i (by have := (Array.getElem?_eq_some_iff.1 hoo).1; omega))
  intro fuel
  induction fuel with
  | zero =>
    intro l a w G hs hd hf H
    have hall := left_zero (l := l) (m := plan.length) (by omega)
    exact ⟨nothing l hs hall, fin G a w (H.all hall)⟩
  | succ fuel ih =>
    intro l a w G hs hd hf H
    by_cases hall : ∀ j, j < plan.length → l.getD j false = true
    · exact ⟨fun _ => fin G a w (H.all hall), fun i hi => by rw [nothing l hs hall] at hi; cases hi⟩
    · have hex : ∃ i, i < plan.length ∧ ¬ l.getD i false = true := Classical.byContradiction fun hn => hall fun j hj => Classical.byContradiction fun hu => hn ⟨j, hj, hu⟩
      obtain ⟨i0, hi0, hu0, hlow⟩ := first_left _ hex
      refine ⟨fun hnil => ?_, fun i hr => ?_⟩
      · exfalso
        have hlt : i0 < ops.size := by omega
        have hin : i0 ∈ Region.ready .any ops l := by
          refine mem_ready.2 ⟨?_, ops[i0], Array.getElem?_eq_getElem hlt, fun x hx hb => hlow _ ?_⟩
          · have hl2 : i0 < l.size := by omega
            simp [Array.getElem?_eq_getElem hl2] at hu0 ⊢
            exact hu0
          · have hg := masks_get hm (Array.getElem?_eq_getElem hlt)
            have hx2 : (maskOf (waits ops[i0])).testBit x.on = true := maskOf_bit.2 (mem_waits.2 ⟨x, hx, hb, rfl⟩)
            have := downs_get k2 i0 _ hg x.on hx2
            omega
        rw [hnil] at hin
        cases hin
      · have hu := not_listed hr
        have hios : i < ops.size := by
          obtain ⟨_, o, hoo, _⟩ := mem_ready.1 hr
          exact (Array.getElem?_eq_some_iff.1 hoo).1
        have hilt : i < plan.length := by omega
        have hil : i < l.size := by omega
        have hit : plan[i]? = some plan[i] := List.getElem?_eq_getElem hilt
        have hoi : ops[i]? = some ops[i] := Array.getElem?_eq_getElem hios
        have hoi2 : ops.toList[i]? = some ops[i] := by simp [hios]
        have hob := obSO_get ho i _ _ (oldEnv olds ms i) hoi2 hit (by rw [← hoes, List.getElem?_map, List.getElem?_range hilt]; rfl)
        have hdst := dstS_get k4 i _ _ hoi2 hit
        have hg := masks_get hm hoi
        have e2 : ms.getD i 0 = maskOf (waits ops[i]) := by simp [hg]
        have rw_ := ready_waits hm hr
        rw [e2] at rw_
        obtain ⟨p1, p2, p3⟩ := psS_get k3 i _ _ hg hit
        have hps : ∀ j ∈ plan[i].ps, l.getD j false = true := fun j hj => rw_ j (p1 j hj)
        have hend : ∀ d, plan[i].dst = some d → d < n ∧ ∀ p ∈ e, p.1 ≠ d := fun d hdd => by
          have h6 := List.all_eq_true.1 k6 d (ends_has hit hdd)
          rw [Bool.and_eq_true] at h6
          refine ⟨by have := h6.1; rw [Nat.blt_eq] at this; exact this, fun p hp e1 => ?_⟩
          have := List.all_eq_true.1 h6.2 p hp
          rw [e1, Nat.beq_refl] at this
          cases this
        have hdd : ∀ d, plan[i].dst = some d → ∀ (j : Nat) (jt : It) (x : Nat), plan[j]? = some jt → j ≠ i → jt.dst = some x → x ≠ d := fun d hd0 j jt x hj hne hx => ends_inj k5 j i jt plan[i] x d hj hit hne hx hd0
        have hs2 : (l.setIfInBounds i true).size = ops.size := by simpa using hs
        have hd2 := down_set hd hr
        have hf2 : left (l.setIfInBounds i true) plan.length ≤ fuel := by
          have := left_set (l := l) (i := i) (by omega) hu plan.length hilt
          omega
        have hoe : ∀ p ∈ oldEnv olds ms i, a.tmps[p.1]? = some p.2 := H.ext_old (fun x hx => by
          rcases hx with rfl | hx
          · exact hu
          · intro hl
            have hxo : x < ops.size := Nat.lt_of_not_le fun hge => by
              have hmsl : ms.length = ops.size := by rw [← hm]; simp [masks]
              rw [show ms.getD x 0 = 0 by rw [List.getD_eq_getElem?_getD, List.getElem?_eq_none (by omega)]; rfl] at hx
              simp at hx
            have hgx := masks_get hm (Array.getElem?_eq_getElem hxo)
            rw [show ms.getD x 0 = maskOf (waits ops[x]) by simp [hgx], maskOf_bit, mem_waits] at hx
            obtain ⟨y, hy, hb3, rfl⟩ := hx
            exact hu (hd x _ (Array.getElem?_eq_getElem hxo) hl y hy hb3))
        have oldk : ∀ v : Value, ∀ x ∈ olds, ¬ (l.setIfInBounds i true).getD x.2.2 false = true → (a.put plan[i].dst v).tmps[x.1]? = some x.2.1 := fun v => H.keep_old hold hit hdd hil
        unfold wpOp
        rw [hoi]
        dsimp only
        generalize hI : plan[i] = it at *
        cases it with
        | val d v ps hs0 =>
          obtain ⟨hdo, hw⟩ := hob
          have hno : ∀ k ∈ hs0, ∀ j g t cs c qs, plan[j]? = some (.sto k g t cs c qs) → ¬ l.getD j false = true := fun k hk0 j g t cs c qs hj hl => by
            have hjo : j < ops.size := by have := (List.getElem?_eq_some_iff.1 hj).1; omega
            have hc := readOk_get k9 hj hit hk0
            refine hu (close_listed hm hd hs j _ (fun x hx => ?_) i hc)
            have hgj := masks_get hm (Array.getElem?_eq_getElem hjo)
            have e3 : ms.getD j 0 = maskOf (waits ops[j]) := by simp [hgj]
            rw [e3, maskOf_bit, mem_waits] at hx
            obtain ⟨y, hy, hb, rfl⟩ := hx
            exact hd j _ (Array.getElem?_eq_getElem hjo) hl y hy hb
          have hst := (H.part hps p2 hno).olds hoe
          have hst0 := (H.part (hs := []) hps rfl (fun k hk0 => by cases hk0)).olds hoe
          rw [hw _ _ hst0, if_pos rfl]
          refine .inl (Oper.wp_mono (fun a' w' hx => ?_) (hdo _ _ hst))
          obtain ⟨rfl, hb⟩ := hx
          rw [hdst]
          exact ih _ _ _ G hs2 hd2 hf2 ⟨H.put hit rfl (fun _ => rfl) (fun _ _ _ hc => by cases hc) (hend d rfl).1 (hend d rfl).2 (hdd d rfl) hb, oldk _⟩
        | off d ps =>
          have hst0 := (H.part (hs := []) hps rfl (fun k hk0 => by cases hk0)).olds hoe
          rw [hob _ _ hst0]
          rw [hdst]
          exact ih _ _ _ G hs2 hd2 hf2 ⟨H.put hit rfl (fun _ => rfl) (fun _ _ _ hc => by cases hc) (hend d rfl).1 (hend d rfl).2 (hdd d rfl) (Below.refl _ _), oldk _⟩
        | new d t z =>
          obtain ⟨hn, hgd⟩ := hob
          have hw : Region.wanted ops[i] (yielded ops a.tmps) = true := by simp [Region.wanted, hgd]
          rw [hw, if_pos rfl]
          left
          unfold Oper.wp
          rw [hn a w]
          show wpAny P .any ops Q fuel (l.setIfInBounds i true) (a.put ops[i].dst _) (w.alloc (.cells z t))
          rw [hdst]
          refine ih _ _ _ _ hs2 hd2 hf2 ⟨H.more hit (fun i' d' t' z' c ps hi' hl' => ?_) (hend d rfl).1 (hend d rfl).2 (hdd d rfl), oldk _⟩
          -- who writes it waits for it
          have hjo : i' < ops.size := by have := (List.getElem?_eq_some_iff.1 hi').1; omega
          have hgj := masks_get hm (Array.getElem?_eq_getElem hjo)
          have hb := (psS_get k3 i' _ _ hgj hi').2.2 _ _ _ _ _ _ rfl
          rw [maskOf_bit, mem_waits] at hb
          obtain ⟨y, hy, hbb, e4⟩ := hb
          have := hd i' _ (Array.getElem?_eq_getElem hjo) hl' y hy hbb
          rw [e4] at this
          exact hu this
        | sto k g t cs c ps =>
          obtain ⟨h1, hgd, hsto⟩ := hob
          have hw : Region.wanted ops[i] (yielded ops a.tmps) = true := by simp [Region.wanted, hgd]
          rw [hw, if_pos rfl]
          have hm1 : (g, t, cs) ∈ h := List.mem_iff_getElem?.2 ⟨k, h1⟩
          have hB := H.baseA k _ h1 fun j g' t' cs' c' ps' hj hl => by
            have := tgtB_inj k7 i j k g g' t t' cs cs' c c' ps ps' hit hj
            subst this
            exact hu hl
          have hst : St n w0 a w (depS plan ps ++ (oldEnv olds ms i ++ e)) [(g, t, cs)] := by
            have h0 := (H.part (hs := []) hps rfl (fun k hk0 => by cases hk0)).olds hoe
            refine ⟨h0.size, h0.defers, h0.env, h0.below, fun p hp => ?_, fun p hp => ?_, List.pairwise_singleton _ _⟩
            · rw [List.mem_singleton.1 hp]
              exact hB
            · rw [List.mem_singleton.1 hp]
              exact (H.own _ hm1).1
          refine .inl (Oper.wp_mono (fun a' w' hx => ?_) (hsto _ _ hst))
          obtain ⟨rfl, hss⟩ := hx
          rw [hdst]
          exact ih _ _ _ G hs2 hd2 hf2 ⟨H.sto hit h1 (fun j g' t' cs' c' ps' hj => tgtB_inj k7 i j k g g' t t' cs cs' c c' ps ps' hit hj) hil hss, oldk undef⟩
        | ston j0 d0 t z c ps =>
          obtain ⟨h1, hgd, hsto⟩ := hob
          have hw : Region.wanted ops[i] (yielded ops a.tmps) = true := by simp [Region.wanted, hgd]
          rw [hw, if_pos rfl]
          have hl0 : l.getD j0 false = true := rw_ j0 (p3 _ _ _ _ _ _ rfl)
          have hB := H.newA j0 d0 t z h1 hl0 fun i' d' t' z' c' ps' hi' hl' => by
            have := tgtN_inj k8 i i' j0 d0 d' t t' z z' c c' ps ps' hit hi'
            subst this
            exact hu hl'
          have hst : St n w0 a w ((d0, .pointer (some ⟨G j0, 0, none⟩)) :: (depS plan ps ++ (oldEnv olds ms i ++ e))) [(G j0, t, z)] := by
            have h0 := (H.part (hs := []) hps rfl (fun k hk0 => by cases hk0)).olds hoe
            refine ⟨h0.size, h0.defers, fun p hp => ?_, h0.below, fun p hp => ?_, fun p hp => ?_, List.pairwise_singleton _ _⟩
            · rcases List.mem_cons.1 hp with rfl | hp
              · exact H.vals j0 _ d0 h1 rfl hl0
              · exact h0.env p hp
            · rw [List.mem_singleton.1 hp]
              exact hB
            · rw [List.mem_singleton.1 hp]
              exact (H.news j0 d0 t z h1 hl0).1
          refine .inl (Oper.wp_mono (fun a' w' hx => ?_) (hsto (G j0) _ _ hst))
          obtain ⟨rfl, hss⟩ := hx
          rw [hdst]
          exact ih _ _ _ G hs2 hd2 hf2 ⟨H.ston hit h1 hl0 (fun j d' t' z' c' ps' hj => tgtN_inj k8 i j j0 d0 d' t t' z z' c c' ps ps' hit hj) hil hss, oldk undef⟩
/-- **The region.** olds: a slot, what it held, which operation sets it. -/
theorem drawnSO {id : Nat} (olds : List (Nat × Value × Nat)) (oes : List Env) (plan : List It) (ms : List Nat) (hold : olds.all (oldOkS plan) = true) (hoes : (List.range plan.length).map (oldEnv olds ms) = oes) (hf : P.follows .mixedOrders = true) (hm : masks ops = ms) (hk : planOkS ops n e plan ms = true) (H0 : St n w0 a w (olds.map (fun x => (x.1, x.2.1)) ++ e) h) (ho : ObsSO P ops Q n w0 e h plan oes ops.toList plan)
    (fin : ∀ (G : Nat → Nat) a w, St n w0 a w (outS G 0 plan ++ e) (newS plan G 0 plan ++ heapS plan 0 h) → Q .normal a w) : (Code.region id ops true).wp P Q a w := by
  refine wp_region_any hf ?_
  have H : St n w0 a w e h := ⟨H0.size, H0.defers, fun p hp => H0.env p (List.mem_append_right _ hp), H0.below, H0.heap, H0.own, H0.apart⟩
  have none_ : ∀ i, ¬ (Array.replicate ops.size false).getD i false = true := fun i hi => by
    by_cases h : i < ops.size
    · simp [h] at hi
    · simp [h] at hi
  have hlen : plan.length = ops.size := by
    unfold planOkS at hk
    simp only [Bool.and_eq_true] at hk
    exact Nat.eq_of_beq_eq_true hk.1.1.1.1.1.1.1.1
  refine any_planSO hold hoes hm hk ho fin ops.size _ a w.drew (fun _ => 0) (by simp) (fun i o _ hi => absurd hi (none_ i)) ?_
    ⟨⟨H.size, H.defers, H.below.drew, H.env, fun j _ _ _ _ hj => absurd hj (none_ j), fun x hx => ⟨H.own x hx, (H.heap x hx).lt⟩, H.apart, fun k x hx _ => H.heap x (List.mem_iff_getElem?.2 ⟨k, hx⟩), fun k x j _ _ _ _ _ _ _ hl => absurd hl (none_ j), fun j _ _ _ _ hl => absurd hl (none_ j), fun j _ _ _ _ hl => absurd hl (none_ j), fun j _ _ _ _ _ _ _ _ _ _ hl => absurd hl (none_ j), fun j _ _ _ _ _ _ _ _ _ hl => absurd hl (none_ j)⟩, fun x hx _ => H0.env (x.1, x.2.1) (List.mem_append_left _ (List.mem_map.2 ⟨x, hx, rfl⟩))⟩
  have := left_le (Array.replicate ops.size false) plan.length
  omega
end
end Go.Proofs.Ytiebelmglchbdaa
