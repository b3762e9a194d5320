/- Package disk (layer 14): Copy. -/
import Derived.Test.YtiebelmglchbdaaPr
import Derived.Test.YtiebelmglchbdaaPh
namespace Go.Proofs.Ytiebelmglchbdaa
set_option linter.unusedVariables false
set_option linter.unusedSimpArgs false
set_option maxRecDepth 100000
open Go Go.RowKit

def TrF (_ : Value) (_ : World) : Prop := True
instance {v : Value} : Lasts (TrF v) := ⟨fun _ _ _ _ => trivial⟩
section
variable {n : Nat} {w0 w w' : World} {a : Act} {e : Env} {h t : Hep} {Q : Exit → Act → World → Prop} {ops : Array Oper} {o : Oper} {es ls : List EntI} {c cq b : Nat} {L : List (Nat × List UInt8)}
theorem cc_0 {args : List Operand} {tys : Array TypeId} (hg : o.guard = none) (hd : o.dst = some 13) (ho : o.op = .call { callee := .value (.func 43), args := args.toArray, argTypes := tys }) (hx : sevs e args = some [.map (some b)]) (hm : (b, .map (entsI es) c, #[]) ∈ h) (hn : 13 < n) (H : St n w0 a w e h) : ObJ Try.prog ops Q o a w (fun a' w' => ∃ v, a' = a.put o.dst v ∧ Below w.heap.size w w' ∧ TrF v w' ∧ CC w0 h es c ls cq L 1 a' w') := by
  have hB : Blk w b (.map (entsI es) c) #[] := H.heap _ hm
  have hs : 13 < a.tmps.size := by rw [H.size]; exact hn
  have hcall := ObJ.call (Q := Q) (ops := ops) hg ho ⟨_, Try.func43, by kernel_rfl⟩ hx H (Post := fun v W' => Below w.heap.size w W' ∧ TrF v W' ∧ CC w0 h es c ls cq L 1 (a.put (some 13) v) W') ((clone_K (fun w hb => cloneB_any w hb) hB H.kn).mono (by
    rintro r w' ⟨g, e, hb, K⟩
    exact ⟨_, e, hb, trivial, g, put_eq hs, K⟩))
  rw [hd] at hcall ⊢
  refine hcall.imp (fun h => ⟨h.1, Oper.wp_mono (fun a' w' ⟨v, e, h1, h2, h3⟩ => ⟨v, e, h1, h2, by rw [e]; exact h3⟩) h.2⟩) (fun h => ⟨h.1, ?_⟩)
  obtain ⟨v, e, h1, h2, h3⟩ := h.2
  exact ⟨v, e, h1, h2, by rw [e]; exact h3⟩
theorem cc_1 {args : List Operand} {tys : Array TypeId} {A : Option Addr} {cap : Nat} (hg : o.guard = none) (hd : o.dst = some 18) (ho : o.op = .call { callee := .value (.func 44), args := args.toArray, argTypes := tys }) (hx : sevs e args = some [.slice A L.length cap]) (hod : OutD 82 513 t (.slice A L.length cap) L.length (dwcs L)) (ht : ∀ p ∈ t, p ∈ h) (hL : ∀ p ∈ L, p.2.length = 512) (hl : L.length ≤ 10000) (hn : 18 < n) (H : St n w0 a w e h) (hC : CC w0 h es c ls cq L 1 a w) : ObJ Try.prog ops Q o a w (fun a' w' => ∃ v, a' = a.put o.dst v ∧ Below w.heap.size w w' ∧ TrF v w' ∧ CC w0 h es c ls cq L 2 a' w') := by
  obtain ⟨g4, q1, K⟩ := hC
  have hs : 18 < a.tmps.size := by rw [H.size]; exact hn
  have hcall := ObJ.call (Q := Q) (ops := ops) hg ho ⟨_, Try.func44, by kernel_rfl⟩ hx H (Post := fun v W' => Below w.heap.size w W' ∧ TrF v W' ∧ CC w0 h es c ls cq L 2 (a.put (some 18) v) W') ((cloneW_K hod hL hl w (fun p hp => H.heap p (ht p hp))).mono (by
    rintro r w' ⟨⟨A9, c9, t9⟩, e, h9, K9⟩
    exact ⟨_, e, K9.below, trivial, g4, A9, c9, t9, put_ne (by decide) q1, put_eq hs, h9, K.join2 K9⟩))
  rw [hd] at hcall ⊢
  refine hcall.imp (fun h => ⟨h.1, Oper.wp_mono (fun a' w' ⟨v, e, h1, h2, h3⟩ => ⟨v, e, h1, h2, by rw [e]; exact h3⟩) h.2⟩) (fun h => ⟨h.1, ?_⟩)
  obtain ⟨v, e, h1, h2, h3⟩ := h.2
  exact ⟨v, e, h1, h2, by rw [e]; exact h3⟩
theorem cc_2 {args : List Operand} {tys : Array TypeId} (hg : o.guard = none) (hd : o.dst = some 23) (ho : o.op = .call { callee := .value (.func 45), args := args.toArray, argTypes := tys }) (hx : sevs e args = some [.map (some b)]) (hm : (b, .map (entsI ls) cq, #[]) ∈ h) (hn : 23 < n) (H : St n w0 a w e h) (hC : CC w0 h es c ls cq L 2 a w) : ObJ Try.prog ops Q o a w (fun a' w' => ∃ v, a' = a.put o.dst v ∧ Below w.heap.size w w' ∧ TrF v w' ∧ CC w0 h es c ls cq L 3 a' w') := by
  obtain ⟨g4, A9, c9, t9, q1, q2, h9, K⟩ := hC
  have hB : Blk w b (.map (entsI ls) cq) #[] := H.heap _ hm
  have hs : 23 < a.tmps.size := by rw [H.size]; exact hn
  have hcall := ObJ.call (Q := Q) (ops := ops) hg ho ⟨_, Try.func45, by kernel_rfl⟩ hx H (Post := fun v W' => Below w.heap.size w W' ∧ TrF v W' ∧ CC w0 h es c ls cq L 3 (a.put (some 23) v) W') ((clone_K (fun w hb => cloneI_any w hb) hB K).mono (by
    rintro r w' ⟨g, e, hb, K2⟩
    exact ⟨_, e, hb, trivial, g4, A9, c9, t9, g, put_ne (by decide) q1, put_ne (by decide) q2, put_eq hs, h9, K2⟩))
  rw [hd] at hcall ⊢
  refine hcall.imp (fun h => ⟨h.1, Oper.wp_mono (fun a' w' ⟨v, e, h1, h2, h3⟩ => ⟨v, e, h1, h2, by rw [e]; exact h3⟩) h.2⟩) (fun h => ⟨h.1, ?_⟩)
  obtain ⟨v, e, h1, h2, h3⟩ := h.2
  exact ⟨v, e, h1, h2, by rw [e]; exact h3⟩
theorem clone_T {F : FuncId} {w : World} {b c : Nat} {es : List EntI} (hc : ∀ w : World, w.heap[b]? = some (.map (entsI es) c) → Calls Try.prog F #[.map (some b)] w fun r w' => r = .returned (.map (some w.heap.size)) ∧ w' = w.alloc (.map (entsI es) c)) (hb : Blk w b (.map (entsI es) c) #[]) : Calls Try.prog F #[.map (some b)] w (fun r W' => ∃ v, r = .returned v ∧ Below w.heap.size w W' ∧ TrF v W') := by
  refine (hc w hb.2).mono ?_
  rintro r w' ⟨e, rfl⟩
  exact ⟨_, e, (Below.refl _ _).alloc (Nat.le_refl _) _, trivial⟩
theorem cloneW_T {t : Hep} {A : Option Addr} {cap : Nat} {L : List (Nat × List UInt8)} (hod : OutD 82 513 t (.slice A L.length cap) L.length (dwcs L)) (hL : ∀ p ∈ L, p.2.length = 512) (hn : L.length ≤ 10000) (w : World) (ht : ∀ p ∈ t, Blk w p.1 p.2.1 p.2.2) : Calls Try.prog 44 #[.slice A L.length cap] w (fun r W' => ∃ v, r = .returned v ∧ Below w.heap.size w W' ∧ TrF v W') := by
  refine (cloneW_K hod hL hn w ht).mono ?_
  rintro r w' ⟨i, e, _, K⟩
  exact ⟨_, e, K.below, trivial⟩
end
attribute [local irreducible] bvs dwa entsI zeroB lastsB stepP lastN
set_option maxHeartbeats 4000000 in
theorem copy_x {X : DX} {p : Nat} {D : Dk} {hh : Hep}  (hX : X.ok D) (w0 w : World) (K : Kn w0 w (X.rows p D ++ hh)) : Calls Try.prog 19 #[.pointer (some ⟨p, 0, none⟩)] w (fun rr w' => ∃ i : Nat × Hep, rr = .returned (.pointer (some ⟨i.1, 0, none⟩)) ∧ PO i.1 D i.2 ∧ Kn w0 w' (i.2 ++ (X.rows p D ++ hh))) := by
  have hnb := hX.nb
  have hlf := hX.lf
  have hnl := hX.nl
  refine calls_kn (vs := [.pointer (some ⟨p, 0, none⟩)]) 27 Try.func19 rfl Try.ntmps19 rfl K (fun a W H => ?_)
  replace H : St 27 w0 a W [(0, .pointer (some ⟨p, 0, none⟩))] ((p, 58, (dkC ((D.B.length : Nat) : Int) (.map (some X.m)) (.slice X.A D.L.length X.cap) (.map (some X.q)) (decide (0 ≤ D.fuse)) X.lf D.dead)) :: (X.m, .map (entsI X.es) X.c, #[]) :: (X.q, .map (entsI X.ls) X.cq, #[]) :: (X.t ++ hh)) := H
  refine sqR H gs0 fun Z_ z_ => rS 1 rfl <| rN0 z_ ?_
  try clear H a W
  intro a W H
  refine wp_seq_k (fun K2 hK2 => ?_)
  refine wp_seq_k (fun K3 hK3 => ?_)
  refine rgP H gs0 (rS 1 rfl <| rI0 ?_)
  try clear H a W
  intro a W H
  refine pl_callV rfl rfl ⟨_, Try.func40, by kernel_rfl⟩ rfl (fun K_ => isNone_live (hh := ([(X.m, .map (entsI X.es) X.c, #[]), (X.q, .map (entsI X.ls) X.cq, #[])] ++ (X.t ++ hh))) (by omega) w0 _ K_) H ?_
  try clear H a W
  intro a W H
  replace H : St 27 w0 a W [(5, .bool false), (4, .pointer (some ⟨p, 0, none⟩)), (2, .pointer none), (0, .pointer (some ⟨p, 0, none⟩))] ((p, 58, (dkC ((D.B.length : Nat) : Int) (.map (some X.m)) (.slice X.A D.L.length X.cap) (.map (some X.q)) (decide (0 ≤ D.fuse)) X.lf D.dead)) :: (X.m, .map (entsI X.es) X.c, #[]) :: (X.q, .map (entsI X.ls) X.cq, #[]) :: (X.t ++ hh)) := H
  refine rgO H gs0 (rK [1, 0] [] [] <| rZ0 ?_)
  try clear H a W
  intro a W H
  refine hK3 _ _ ?_
  clear hK3
  refine wp_cond_false (H.ev rfl) ?_
  refine wp_skip ?_
  refine hK2 _ _ ?_
  clear hK2
  refine sqR H gs0 fun Z_ z_ => rS 1 rfl <| rV rfl (does_nilCheckQ rfl rfl) <| rV rfl (does_load rfl rfl (k := 0) rfl Try.underlying58 rfl (info_disk _ _ _ _ _ _ _)) <| rA rfl rfl al_disk fun g1 => rW [1] ⟨rfl, rfl⟩ rfl rfl rfl (info_disk _ _ _ _ _ _ _) dk_size dk_one <| rK [1, 0, 0, 0, 0] [] [] <| rN0 z_ ?_
  try clear H a W
  intro a W H
  refine wp_seq_k (fun K5 hK5 => ?_)
  refine d2K (nc := 3) (cp := fun j => 4 + 5 * j) (C := CC w0 ((g1, 58, (dkC ((D.B.length : Nat) : Int) (.map (some X.m)) (.slice X.A D.L.length X.cap) (.map (some X.q)) (decide (0 ≤ D.fuse)) X.lf D.dead)) :: (p, 58, (dkC ((D.B.length : Nat) : Int) (.map (some X.m)) (.slice X.A D.L.length X.cap) (.map (some X.q)) (decide (0 ≤ D.fuse)) X.lf D.dead)) :: (X.m, .map (entsI X.es) X.c, #[]) :: (X.q, .map (entsI X.ls) X.cq, #[]) :: (X.t ++ hh)) X.es X.c X.ls X.cq D.L) [.v 9 (.pointer (some ⟨p, 0, none⟩)) [], .v 10 (.pointer (some ⟨p, 0, none⟩)) [0], .v 11 (.pointer (some ⟨p, 1, none⟩)) [1], .v 12 (.map (some X.m)) [2], .f 13 TrF [3], .v 14 (.pointer (some ⟨p, 0, none⟩)) [], .v 15 (.pointer (some ⟨p, 0, none⟩)) [5], .v 16 (.pointer (some ⟨p, 2, none⟩)) [6], .v 17 (.slice X.A D.L.length X.cap) [7], .f 18 TrF [8], .v 19 (.pointer (some ⟨p, 0, none⟩)) [], .v 20 (.pointer (some ⟨p, 0, none⟩)) [10], .v 21 (.pointer (some ⟨p, 3, none⟩)) [11], .v 22 (.map (some X.q)) [12], .f 23 TrF [13]] (fun _ _ _ => trivial) (fun j a w w' d v hc hb hd => CC.put (hd 0 _ (by decide) rfl) (hd 1 _ (by decide) rfl) (hd 2 _ (by decide) rfl) j hc hb) (fun j hj => by show 4 + 5 * j < 15; omega) (fun j hj => by
    rcases j with _ | _ | j
    · kernel_rfl
    · kernel_rfl
    · omega) (fun i j _ _ h => by have h_ : 4 + 5 * i = 4 + 5 * j := h; omega) (fun j hj o it ho hi a w => by
    rcases j with _ | _ | _ | j
    · obtain rfl := Option.some.inj ho
      obtain rfl := Option.some.inj hi
      exact Chain2.out (plan := [.v 9 (.pointer (some ⟨p, 0, none⟩)) [], .v 10 (.pointer (some ⟨p, 0, none⟩)) [0], .v 11 (.pointer (some ⟨p, 1, none⟩)) [1], .v 12 (.map (some X.m)) [2], .f 13 TrF [3], .v 14 (.pointer (some ⟨p, 0, none⟩)) [], .v 15 (.pointer (some ⟨p, 0, none⟩)) [5], .v 16 (.pointer (some ⟨p, 2, none⟩)) [6], .v 17 (.slice X.A D.L.length X.cap) [7], .f 18 TrF [8], .v 19 (.pointer (some ⟨p, 0, none⟩)) [], .v 20 (.pointer (some ⟨p, 0, none⟩)) [10], .v 21 (.pointer (some ⟨p, 3, none⟩)) [11], .v 22 (.map (some X.q)) [12], .f 23 TrF [13]]) (fun H _ => cc_0 rfl rfl rfl rfl (List.mem_iff_getElem?.2 ⟨2, rfl⟩) (by decide) H)
    · obtain rfl := Option.some.inj ho
      obtain rfl := Option.some.inj hi
      exact Chain2.out (plan := [.v 9 (.pointer (some ⟨p, 0, none⟩)) [], .v 10 (.pointer (some ⟨p, 0, none⟩)) [0], .v 11 (.pointer (some ⟨p, 1, none⟩)) [1], .v 12 (.map (some X.m)) [2], .f 13 TrF [3], .v 14 (.pointer (some ⟨p, 0, none⟩)) [], .v 15 (.pointer (some ⟨p, 0, none⟩)) [5], .v 16 (.pointer (some ⟨p, 2, none⟩)) [6], .v 17 (.slice X.A D.L.length X.cap) [7], .f 18 TrF [8], .v 19 (.pointer (some ⟨p, 0, none⟩)) [], .v 20 (.pointer (some ⟨p, 0, none⟩)) [10], .v 21 (.pointer (some ⟨p, 3, none⟩)) [11], .v 22 (.map (some X.q)) [12], .f 23 TrF [13]]) (fun H hc => cc_1 rfl rfl rfl rfl hX.od (fun p hp => List.mem_cons_of_mem _ (List.mem_cons_of_mem _ (List.mem_cons_of_mem _ (List.mem_cons_of_mem _ (List.mem_append_left _ hp))))) hX.l512 hX.nl (by decide) H hc)
    · obtain rfl := Option.some.inj ho
      obtain rfl := Option.some.inj hi
      exact Chain2.out (plan := [.v 9 (.pointer (some ⟨p, 0, none⟩)) [], .v 10 (.pointer (some ⟨p, 0, none⟩)) [0], .v 11 (.pointer (some ⟨p, 1, none⟩)) [1], .v 12 (.map (some X.m)) [2], .f 13 TrF [3], .v 14 (.pointer (some ⟨p, 0, none⟩)) [], .v 15 (.pointer (some ⟨p, 0, none⟩)) [5], .v 16 (.pointer (some ⟨p, 2, none⟩)) [6], .v 17 (.slice X.A D.L.length X.cap) [7], .f 18 TrF [8], .v 19 (.pointer (some ⟨p, 0, none⟩)) [], .v 20 (.pointer (some ⟨p, 0, none⟩)) [10], .v 21 (.pointer (some ⟨p, 3, none⟩)) [11], .v 22 (.map (some X.q)) [12], .f 23 TrF [13]]) (fun H hc => cc_2 rfl rfl rfl rfl (List.mem_iff_getElem?.2 ⟨3, rfl⟩) (by decide) H hc)
    · exact absurd hj (by omega)) (by kernel_rfl) (by kernel_rfl) H ⟨oS rfl rfl, oV rfl (does_nilCheckQ rfl rfl), oV rfl (does_fieldAddr rfl rfl (fa_dk 1 (by decide))), oV rfl (does_loadAt (v := .map (some X.m)) rfl rfl (k := 1) rfl ld_dk1), ⟨fun a W  H _ => ob_callS H (wanted_none rfl) rfl ⟨_, Try.func43, by kernel_rfl⟩ rfl (clone_T (fun w hb => cloneB_any w hb) (H.heap _ (List.mem_iff_getElem?.2 ⟨2, rfl⟩))), fun _ => inferInstance⟩, oS rfl rfl, oV rfl (does_nilCheckQ rfl rfl), oV rfl (does_fieldAddr rfl rfl (fa_dk 2 (by decide))), oV rfl (does_loadAt (v := .slice X.A D.L.length X.cap) rfl rfl (k := 1) rfl ld_dk2), ⟨fun a W  H _ => ob_callS H (wanted_none rfl) rfl ⟨_, Try.func44, by kernel_rfl⟩ rfl (cloneW_T hX.od hX.l512 hX.nl _ (fun p hp => H.heap p (List.mem_cons_of_mem _ (List.mem_cons_of_mem _ (List.mem_cons_of_mem _ (List.mem_cons_of_mem _ (List.mem_append_left _ hp))))))), fun _ => inferInstance⟩, oS rfl rfl, oV rfl (does_nilCheckQ rfl rfl), oV rfl (does_fieldAddr rfl rfl (fa_dk 3 (by decide))), oV rfl (does_loadAt (v := .map (some X.q)) rfl rfl (k := 1) rfl ld_dk3), ⟨fun a W  H _ => ob_callS H (wanted_none rfl) rfl ⟨_, Try.func45, by kernel_rfl⟩ rfl (clone_T (fun w hb => cloneI_any w hb) (H.heap _ (List.mem_iff_getElem?.2 ⟨3, rfl⟩))), fun _ => inferInstance⟩, trivial⟩ (fun v13 v18 v23 a W H _ HC => ?_)
  replace H : St 27 w0 a W [(23, v23), (22, .map (some X.q)), (21, .pointer (some ⟨p, 3, none⟩)), (20, .pointer (some ⟨p, 0, none⟩)), (19, .pointer (some ⟨p, 0, none⟩)), (18, v18), (17, .slice X.A D.L.length X.cap), (16, .pointer (some ⟨p, 2, none⟩)), (15, .pointer (some ⟨p, 0, none⟩)), (14, .pointer (some ⟨p, 0, none⟩)), (13, v13), (12, .map (some X.m)), (11, .pointer (some ⟨p, 1, none⟩)), (10, .pointer (some ⟨p, 0, none⟩)), (9, .pointer (some ⟨p, 0, none⟩)), (3, .pointer (some ⟨g1, 0, none⟩)), (2, .pointer none), (0, .pointer (some ⟨p, 0, none⟩))] ((g1, 58, (dkC ((D.B.length : Nat) : Int) (.map (some X.m)) (.slice X.A D.L.length X.cap) (.map (some X.q)) (decide (0 ≤ D.fuse)) X.lf D.dead)) :: (p, 58, (dkC ((D.B.length : Nat) : Int) (.map (some X.m)) (.slice X.A D.L.length X.cap) (.map (some X.q)) (decide (0 ≤ D.fuse)) X.lf D.dead)) :: (X.m, .map (entsI X.es) X.c, #[]) :: (X.q, .map (entsI X.ls) X.cq, #[]) :: (X.t ++ hh)) := H
  obtain ⟨g4, A9, c9, t9, g14, q1, q2, q4, hod9, K9⟩ := HC
  obtain rfl : v13 = .map (some g4) := Option.some.inj ((H.env (13, v13) (List.mem_iff_getElem?.2 ⟨10, rfl⟩)).symm.trans q1)
  obtain rfl : v18 = .slice A9 D.L.length c9 := Option.some.inj ((H.env (18, v18) (List.mem_iff_getElem?.2 ⟨5, rfl⟩)).symm.trans q2)
  obtain rfl : v23 = .map (some g14) := Option.some.inj ((H.env (23, v23) (List.mem_iff_getElem?.2 ⟨0, rfl⟩)).symm.trans q4)
  replace H := (H.again K9).perm' ((List.perm_append_comm_assoc t9 ([(g4, .map (entsI X.es) X.c, #[]), (g1, .ty 58, (dkC ((D.B.length : Nat) : Int) (.map (some X.m)) (.slice X.A D.L.length X.cap) (.map (some X.q)) (decide (0 ≤ D.fuse)) X.lf D.dead)), (p, .ty 58, (dkC ((D.B.length : Nat) : Int) (.map (some X.m)) (.slice X.A D.L.length X.cap) (.map (some X.q)) (decide (0 ≤ D.fuse)) X.lf D.dead)), (X.m, .map (entsI X.es) X.c, #[]), (X.q, .map (entsI X.ls) X.cq, #[])] : Hep) (X.t ++ hh)).cons (g14, .map (entsI X.ls) X.cq, #[]))
  replace H : St 27 w0 a W [(23, .map (some g14)), (22, .map (some X.q)), (21, .pointer (some ⟨p, 3, none⟩)), (20, .pointer (some ⟨p, 0, none⟩)), (19, .pointer (some ⟨p, 0, none⟩)), (18, .slice A9 D.L.length c9), (17, .slice X.A D.L.length X.cap), (16, .pointer (some ⟨p, 2, none⟩)), (15, .pointer (some ⟨p, 0, none⟩)), (14, .pointer (some ⟨p, 0, none⟩)), (13, .map (some g4)), (12, .map (some X.m)), (11, .pointer (some ⟨p, 1, none⟩)), (10, .pointer (some ⟨p, 0, none⟩)), (9, .pointer (some ⟨p, 0, none⟩)), (3, .pointer (some ⟨g1, 0, none⟩)), (2, .pointer none), (0, .pointer (some ⟨p, 0, none⟩))] ((g14, .map (entsI X.ls) X.cq, #[]) :: (g4, .map (entsI X.es) X.c, #[]) :: (g1, 58, (dkC ((D.B.length : Nat) : Int) (.map (some X.m)) (.slice X.A D.L.length X.cap) (.map (some X.q)) (decide (0 ≤ D.fuse)) X.lf D.dead)) :: (p, 58, (dkC ((D.B.length : Nat) : Int) (.map (some X.m)) (.slice X.A D.L.length X.cap) (.map (some X.q)) (decide (0 ≤ D.fuse)) X.lf D.dead)) :: (X.m, .map (entsI X.es) X.c, #[]) :: (X.q, .map (entsI X.ls) X.cq, #[]) :: (t9 ++ (X.t ++ hh))) := H
  refine rgO H gs0 (rV rfl (does_fieldAddr rfl rfl (fa_dk 1 (by decide))) <| rX [0, 0, 1] (c := (dkC ((D.B.length : Nat) : Int) (.map (some g4)) (.slice X.A D.L.length X.cap) (.map (some X.q)) (decide (0 ≤ D.fuse)) X.lf D.dead)) ⟨rfl, rfl⟩ rfl rfl rfl (st_dk1) rfl <| rV rfl (does_fieldAddr rfl rfl (fa_dk 2 (by decide))) <| rX [0, 0, 1] (c := (dkC ((D.B.length : Nat) : Int) (.map (some g4)) (.slice A9 D.L.length c9) (.map (some X.q)) (decide (0 ≤ D.fuse)) X.lf D.dead)) ⟨rfl, rfl⟩ rfl rfl rfl (st_dk2) rfl <| rV rfl (does_fieldAddr rfl rfl (fa_dk 3 (by decide))) <| rX [0, 0, 1] (c := (dkC ((D.B.length : Nat) : Int) (.map (some g4)) (.slice A9 D.L.length c9) (.map (some g14)) (decide (0 ≤ D.fuse)) X.lf D.dead)) ⟨rfl, rfl⟩ rfl rfl rfl (st_dk3) rfl <| rK [0, 0, 0, 0, 0, 0, 0, 0, 0, 0, 0, 0, 0, 0, 0, 0, 0, 0, 1, 1, 0] [] [] <| rZ0 ?_)
  try clear H a W
  intro a W H
  refine hK5 _ _ ?_
  clear hK5
  refine sqR H gs0 fun Z_ z_ => rK [1, 0] [] [] <| rS 1 rfl <| rK [1, 0] [] [] <| rN0 z_ ?_
  try clear H a W
  intro a W H
  refine wp_ret ?_
  repeat (first | (with_reducible refine then_ret ?_) | (with_reducible refine blk_ret ?_))
  refine end_tmp (p := 2) rfl rfl H (fun hb => ?_)
  replace H : St 27 w0 a W [(2, .pointer (some ⟨g1, 0, none⟩))] ((X.q, .map (entsI X.ls) X.cq, #[]) :: (g14, .map (entsI X.ls) X.cq, #[]) :: (g4, .map (entsI X.es) X.c, #[]) :: (g1, 58, (dkC ((D.B.length : Nat) : Int) (.map (some g4)) (.slice A9 D.L.length c9) (.map (some g14)) (decide (0 ≤ D.fuse)) X.lf D.dead)) :: (p, 58, (dkC ((D.B.length : Nat) : Int) (.map (some X.m)) (.slice X.A D.L.length X.cap) (.map (some X.q)) (decide (0 ≤ D.fuse)) X.lf D.dead)) :: (X.m, .map (entsI X.es) X.c, #[]) :: (t9 ++ (X.t ++ hh))) := H.perm' (@List.perm_middle (Nat × Tid × Array Value) (X.q, .map (entsI X.ls) X.cq, #[]) [(g14, .map (entsI X.ls) X.cq, #[]), (g4, .map (entsI X.es) X.c, #[]), (g1, .ty 58, (dkC ((D.B.length : Nat) : Int) (.map (some g4)) (.slice A9 D.L.length c9) (.map (some g14)) (decide (0 ≤ D.fuse)) X.lf D.dead)), (p, .ty 58, (dkC ((D.B.length : Nat) : Int) (.map (some X.m)) (.slice X.A D.L.length X.cap) (.map (some X.q)) (decide (0 ≤ D.fuse)) X.lf D.dead)), (X.m, .map (entsI X.es) X.c, #[])] (t9 ++ (X.t ++ hh)))
  replace H : St 27 w0 a W [(2, .pointer (some ⟨g1, 0, none⟩))] ((X.m, .map (entsI X.es) X.c, #[]) :: (X.q, .map (entsI X.ls) X.cq, #[]) :: (g14, .map (entsI X.ls) X.cq, #[]) :: (g4, .map (entsI X.es) X.c, #[]) :: (g1, 58, (dkC ((D.B.length : Nat) : Int) (.map (some g4)) (.slice A9 D.L.length c9) (.map (some g14)) (decide (0 ≤ D.fuse)) X.lf D.dead)) :: (p, 58, (dkC ((D.B.length : Nat) : Int) (.map (some X.m)) (.slice X.A D.L.length X.cap) (.map (some X.q)) (decide (0 ≤ D.fuse)) X.lf D.dead)) :: (t9 ++ (X.t ++ hh))) := H.perm' (@List.perm_middle (Nat × Tid × Array Value) (X.m, .map (entsI X.es) X.c, #[]) [(X.q, .map (entsI X.ls) X.cq, #[]), (g14, .map (entsI X.ls) X.cq, #[]), (g4, .map (entsI X.es) X.c, #[]), (g1, .ty 58, (dkC ((D.B.length : Nat) : Int) (.map (some g4)) (.slice A9 D.L.length c9) (.map (some g14)) (decide (0 ≤ D.fuse)) X.lf D.dead)), (p, .ty 58, (dkC ((D.B.length : Nat) : Int) (.map (some X.m)) (.slice X.A D.L.length X.cap) (.map (some X.q)) (decide (0 ≤ D.fuse)) X.lf D.dead))] (t9 ++ (X.t ++ hh)))
  replace H : St 27 w0 a W [(2, .pointer (some ⟨g1, 0, none⟩))] ((p, 58, (dkC ((D.B.length : Nat) : Int) (.map (some X.m)) (.slice X.A D.L.length X.cap) (.map (some X.q)) (decide (0 ≤ D.fuse)) X.lf D.dead)) :: (X.m, .map (entsI X.es) X.c, #[]) :: (X.q, .map (entsI X.ls) X.cq, #[]) :: (g14, .map (entsI X.ls) X.cq, #[]) :: (g4, .map (entsI X.es) X.c, #[]) :: (g1, 58, (dkC ((D.B.length : Nat) : Int) (.map (some g4)) (.slice A9 D.L.length c9) (.map (some g14)) (decide (0 ≤ D.fuse)) X.lf D.dead)) :: (t9 ++ (X.t ++ hh))) := H.perm' (@List.perm_middle (Nat × Tid × Array Value) (p, .ty 58, (dkC ((D.B.length : Nat) : Int) (.map (some X.m)) (.slice X.A D.L.length X.cap) (.map (some X.q)) (decide (0 ≤ D.fuse)) X.lf D.dead)) [(X.m, .map (entsI X.es) X.c, #[]), (X.q, .map (entsI X.ls) X.cq, #[]), (g14, .map (entsI X.ls) X.cq, #[]), (g4, .map (entsI X.es) X.c, #[]), (g1, .ty 58, (dkC ((D.B.length : Nat) : Int) (.map (some g4)) (.slice A9 D.L.length c9) (.map (some g14)) (decide (0 ≤ D.fuse)) X.lf D.dead))] (t9 ++ (X.t ++ hh)))
  replace H : St 27 w0 a W [(2, .pointer (some ⟨g1, 0, none⟩))] ((g14, .map (entsI X.ls) X.cq, #[]) :: (p, 58, (dkC ((D.B.length : Nat) : Int) (.map (some X.m)) (.slice X.A D.L.length X.cap) (.map (some X.q)) (decide (0 ≤ D.fuse)) X.lf D.dead)) :: (X.m, .map (entsI X.es) X.c, #[]) :: (X.q, .map (entsI X.ls) X.cq, #[]) :: (g4, .map (entsI X.es) X.c, #[]) :: (g1, 58, (dkC ((D.B.length : Nat) : Int) (.map (some g4)) (.slice A9 D.L.length c9) (.map (some g14)) (decide (0 ≤ D.fuse)) X.lf D.dead)) :: (t9 ++ (X.t ++ hh))) := H.perm' (@List.perm_middle (Nat × Tid × Array Value) (g14, .map (entsI X.ls) X.cq, #[]) [(p, .ty 58, (dkC ((D.B.length : Nat) : Int) (.map (some X.m)) (.slice X.A D.L.length X.cap) (.map (some X.q)) (decide (0 ≤ D.fuse)) X.lf D.dead)), (X.m, .map (entsI X.es) X.c, #[]), (X.q, .map (entsI X.ls) X.cq, #[])] (([(g4, .map (entsI X.es) X.c, #[]), (g1, .ty 58, (dkC ((D.B.length : Nat) : Int) (.map (some g4)) (.slice A9 D.L.length c9) (.map (some g14)) (decide (0 ≤ D.fuse)) X.lf D.dead))] : Hep) ++ (t9 ++ (X.t ++ hh))))
  replace H : St 27 w0 a W [(2, .pointer (some ⟨g1, 0, none⟩))] ((g4, .map (entsI X.es) X.c, #[]) :: (g14, .map (entsI X.ls) X.cq, #[]) :: (p, 58, (dkC ((D.B.length : Nat) : Int) (.map (some X.m)) (.slice X.A D.L.length X.cap) (.map (some X.q)) (decide (0 ≤ D.fuse)) X.lf D.dead)) :: (X.m, .map (entsI X.es) X.c, #[]) :: (X.q, .map (entsI X.ls) X.cq, #[]) :: (g1, 58, (dkC ((D.B.length : Nat) : Int) (.map (some g4)) (.slice A9 D.L.length c9) (.map (some g14)) (decide (0 ≤ D.fuse)) X.lf D.dead)) :: (t9 ++ (X.t ++ hh))) := H.perm' (@List.perm_middle (Nat × Tid × Array Value) (g4, .map (entsI X.es) X.c, #[]) [(g14, .map (entsI X.ls) X.cq, #[]), (p, .ty 58, (dkC ((D.B.length : Nat) : Int) (.map (some X.m)) (.slice X.A D.L.length X.cap) (.map (some X.q)) (decide (0 ≤ D.fuse)) X.lf D.dead)), (X.m, .map (entsI X.es) X.c, #[]), (X.q, .map (entsI X.ls) X.cq, #[])] (([(g1, .ty 58, (dkC ((D.B.length : Nat) : Int) (.map (some g4)) (.slice A9 D.L.length c9) (.map (some g14)) (decide (0 ≤ D.fuse)) X.lf D.dead))] : Hep) ++ (t9 ++ (X.t ++ hh))))
  replace H : St 27 w0 a W [(2, .pointer (some ⟨g1, 0, none⟩))] ((g1, 58, (dkC ((D.B.length : Nat) : Int) (.map (some g4)) (.slice A9 D.L.length c9) (.map (some g14)) (decide (0 ≤ D.fuse)) X.lf D.dead)) :: (g4, .map (entsI X.es) X.c, #[]) :: (g14, .map (entsI X.ls) X.cq, #[]) :: (p, 58, (dkC ((D.B.length : Nat) : Int) (.map (some X.m)) (.slice X.A D.L.length X.cap) (.map (some X.q)) (decide (0 ≤ D.fuse)) X.lf D.dead)) :: (X.m, .map (entsI X.es) X.c, #[]) :: (X.q, .map (entsI X.ls) X.cq, #[]) :: (t9 ++ (X.t ++ hh))) := H.perm' (@List.perm_middle (Nat × Tid × Array Value) (g1, .ty 58, (dkC ((D.B.length : Nat) : Int) (.map (some g4)) (.slice A9 D.L.length c9) (.map (some g14)) (decide (0 ≤ D.fuse)) X.lf D.dead)) [(g4, .map (entsI X.es) X.c, #[]), (g14, .map (entsI X.ls) X.cq, #[]), (p, .ty 58, (dkC ((D.B.length : Nat) : Int) (.map (some X.m)) (.slice X.A D.L.length X.cap) (.map (some X.q)) (decide (0 ≤ D.fuse)) X.lf D.dead)), (X.m, .map (entsI X.es) X.c, #[]), (X.q, .map (entsI X.ls) X.cq, #[])] (t9 ++ (X.t ++ hh)))
  replace H := H.perm' ((List.perm_append_comm_assoc ([(p, .ty 58, (dkC ((D.B.length : Nat) : Int) (.map (some X.m)) (.slice X.A D.L.length X.cap) (.map (some X.q)) (decide (0 ≤ D.fuse)) X.lf D.dead)), (X.m, .map (entsI X.es) X.c, #[]), (X.q, .map (entsI X.ls) X.cq, #[])] : Hep) t9 (X.t ++ hh)).append_left ([(g1, .ty 58, (dkC ((D.B.length : Nat) : Int) (.map (some g4)) (.slice A9 D.L.length c9) (.map (some g14)) (decide (0 ≤ D.fuse)) X.lf D.dead)), (g4, .map (entsI X.es) X.c, #[]), (g14, .map (entsI X.ls) X.cq, #[])] : Hep))
  refine ⟨(g1, DX.rows (DX.mk g4 g14 X.c X.cq c9 A9 X.es X.ls X.lf t9) g1 D), rfl, ⟨(DX.mk g4 g14 X.c X.cq c9 A9 X.es X.ls X.lf t9), rfl, ⟨hod9, hX.sb, hX.lt, hX.lf, hX.dk, hX.nb, hX.nl⟩⟩, H.kn⟩
theorem po_copy {p : Nat} {D : Dk} {r hh : Hep} (h : PO p D r) (w0 w : World) (K : Kn w0 w (r ++ hh)) : Calls Try.prog 19 #[.pointer (some ⟨p, 0, none⟩)] w (fun rr w' => ∃ i : Nat × Hep, rr = .returned (.pointer (some ⟨i.1, 0, none⟩)) ∧ PO i.1 D i.2 ∧ Kn w0 w' (i.2 ++ (r ++ hh))) := by
  obtain ⟨X, rfl, hX⟩ := h
  exact copy_x hX w0 w K
end Go.Proofs.Ytiebelmglchbdaa
