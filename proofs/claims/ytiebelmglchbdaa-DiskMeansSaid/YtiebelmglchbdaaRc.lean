/- The document's disk (layer 14): new ones; syncs. -/
import Derived.Test.YtiebelmglchbdaaRb
namespace Go.Proofs.Ytiebelmglchbdaa
set_option linter.unusedVariables false
set_option linter.unusedSimpArgs false
set_option maxRecDepth 100000
open Go Go.RowKit

attribute [local irreducible] bvs dwa entsI zeroB lastsB stepP lastN xorB rb dWrite dSync dFuse dCrash dEdit readK
set_option maxHeartbeats 4000000 in
theorem ro_new {hh : Hep} (n : Nat) (hn : 1 ≤ n ∧ n ≤ 8192) (w0 w : World) (K : Kn w0 w hh) : Calls Try.prog 14 #[.int .i64 ((n : Nat) : Int)] w (fun rr w' => ∃ i : Nat × Hep, rr = .returned (.pointer (some ⟨i.1, 0, none⟩)) ∧ RO i.1 (dNew n) i.2 ∧ Kn w0 w' (i.2 ++ hh)) := by
  refine calls_kn (vs := [.int .i64 ((n : Nat) : Int)]) 23 Try.func14 rfl Try.ntmps14 rfl K (fun a W H => ?_)
  replace H : St 23 w0 a W [(0, .int .i64 ((n : Nat) : Int))] (hh) := H
  refine sqR H gs0 fun Z_ z_ => rS 1 rfl <| rN0 z_ ?_
  try clear H a W
  intro a W H
  refine sqR H gs0 fun Z_ z_ => rV rfl (does_build rfl rfl bd_rdisk) <| rB rfl rfl rfl (bx_rdisk _) fun g1 => rS 1 rfl <| rK [1, 0, 0] [] [] <| rN0 z_ ?_
  try clear H a W
  intro a W H
  refine wp_seq_k (fun K3 hK3 => ?_)
  refine sqR H gs0 fun Z_ z_ => rS 1 rfl <| rN0 z_ ?_
  try clear H a W
  intro a W H
  refine wp_block ?_
  replace H : St 23 w0 a W [(4, .int .i64 0), (3, .pointer (some ⟨g1, 0, none⟩)), (0, .int .i64 ((n : Nat) : Int))] ((g1, 67, rdC (.slice none 0 0) (.slice none 0 0) (-1) false) :: hh) := H.pickF (h := [(g1, 67, rdC (.slice none 0 0) (.slice none 0 0) (-1) false)]) (t := hh) [0, 1, 3] [0] rfl
  refine wp_rounds n (fun k a W => ∃ tB A c us r gu, (OutD 39 1 tB (.slice A k c) k us ∧ NK us r gu ∧ us.length = k) ∧ St 23 w0 a W [(4, .int .i64 ((k : Nat) : Int)), (3, .pointer (some ⟨g1, 0, none⟩)), (0, .int .i64 ((n : Nat) : Int))] ((g1, 67, (rdC (.slice A k c) (.slice none 0 0) (-1) false)) :: (tB ++ (r ++ hh)))) (k0 := 0) ⟨[], none, 0, [], [], fun _ => (0, 0), ⟨OutD.nil _ _, NK.nil, rfl⟩, H⟩ (by omega) ?_
  try clear H a W
  rintro k a W hk ⟨tB, A, c, us, r, gu, hJ, H⟩
  by_cases hk2 : k < n
  · refine wp_seq_k (fun K5 hK5 => ?_)
    refine sqR H gs0 fun Z_ z_ => rS 2 rfl <| rV rfl (does_binOp rfl rfl rfl (zd_lss_int (k := ((k : Nat) : Int)) (m := ((n : Nat) : Int)) (decide_eq_true (by omega)) _ _)) <| rN0 z_ ?_
    try clear H a W
    intro a W H
    refine wp_cond_true (H.ev rfl) ?_
    refine wp_skip ?_
    refine hK5 _ _ ?_
    clear hK5
    refine wp_seq_k (fun K7 hK7 => ?_)
    refine wp_block ?_
    refine d2P [.v 12 _ [], .v 13 _ [], .v 14 _ [1], .v 15 _ [2], .v 16 _ [3], .f 17 _ [], .f 18 _ [5]] 0 rfl rfl rfl (runP H rfl) (by kernel_rfl) (fun _ _ _ _ _ h => h) (by kernel_rfl) (by kernel_rfl) H gs0 ⟨oS rfl rfl, oS rfl rfl, oV rfl (does_nilCheckQ rfl rfl), oV rfl (does_fieldAddr rfl rfl (fa_rd 0 (by decide))), oV rfl (does_loadAt (v := .slice A k c) rfl rfl (k := 0) rfl ld_rd0), ⟨fun a W  H _ => ob_made512 H (wanted_none rfl) rfl rfl rfl, fun _ => inferInstance⟩, ⟨fun a W v17 hv17 H _ => ob_boxR H (wanted_none rfl) rfl rfl hv17, fun _ => inferInstance⟩, trivial⟩ (fun v17 v18 => rI ?_)
    try clear H a W
    rintro a W H ⟨hv18, hv17, -⟩
    obtain ⟨gz, gx, rfl, hnz, H⟩ := boxR_told hv18 H
    replace H : St 23 w0 a W [(18, .slice (some ⟨gx, 0, none⟩) 1 1), (17, v17), (16, .slice A k c), (15, .pointer (some ⟨g1, 0, none⟩)), (14, .pointer (some ⟨g1, 0, none⟩)), (13, .pointer (some ⟨g1, 0, none⟩)), (12, .pointer (some ⟨g1, 0, none⟩)), (9, .bool true), (8, .int .i64 ((n : Nat) : Int)), (7, .int .i64 ((k : Nat) : Int)), (4, .int .i64 ((k : Nat) : Int)), (3, .pointer (some ⟨g1, 0, none⟩)), (0, .int .i64 ((n : Nat) : Int))] ((gx, 39, #[.slice (some ⟨gz, 0, none⟩) 512 512]) :: (gz, 5, (bvs (rb 512 b0s))) :: (g1, 67, (rdC (.slice A k c) (.slice none 0 0) (-1) false)) :: (tB ++ (r ++ hh))) := H
    refine pl_appE (h := [(gx, .ty 39, #[.slice (some ⟨gz, 0, none⟩) 512 512]), (gz, .ty 5, (bvs (rb 512 b0s))), (g1, .ty 67, (rdC (.slice A k c) (.slice none 0 0) (-1) false))]) (t := tB) (hh := (r ++ hh)) (k := 0) (news := [.slice (some ⟨gz, 0, none⟩) 512 512]) Try.underlying64 info_rowA rfl (by decide) (by decide) rfl rfl (by simp [Value.oneCell']) rfl rfl rfl hJ.1 (by omega) rfl rfl rfl rfl H ?_
    try clear H a W
    intro A2 c2 t2 a W hod2 H
    replace H : St 23 w0 a W [(19, .slice A2 (k + 1) c2), (18, .slice (some ⟨gx, 0, none⟩) 1 1), (17, v17), (16, .slice A k c), (15, .pointer (some ⟨g1, 0, none⟩)), (14, .pointer (some ⟨g1, 0, none⟩)), (13, .pointer (some ⟨g1, 0, none⟩)), (12, .pointer (some ⟨g1, 0, none⟩)), (9, .bool true), (8, .int .i64 ((n : Nat) : Int)), (7, .int .i64 ((k : Nat) : Int)), (4, .int .i64 ((k : Nat) : Int)), (3, .pointer (some ⟨g1, 0, none⟩)), (0, .int .i64 ((n : Nat) : Int))] ((gx, 39, #[.slice (some ⟨gz, 0, none⟩) 512 512]) :: (gz, 5, (bvs (rb 512 b0s))) :: (g1, 67, (rdC (.slice A k c) (.slice none 0 0) (-1) false)) :: (t2 ++ (r ++ hh))) := H
    refine rgO H gs0 (rV rfl (does_nilCheckQ rfl rfl) <| rV rfl (does_fieldAddr rfl rfl (fa_rd 0 (by decide))) <| rX [0, 0, 1] (c := (rdC (.slice A2 (k + 1) c2) (.slice none 0 0) (-1) false)) ⟨rfl, rfl⟩ rfl rfl rfl st_rd0 rfl <| rK [] [0] [] <| rZ0 ?_)
    try clear H a W
    intro a W H
    refine blk_normal ?_
    refine hK7 _ _ ?_
    clear hK7
    refine rgP H gs0 (rS 1 rfl <| rV rfl (does_binOp rfl rfl rfl (zd_add_int (k := ((k : Nat) : Int)) (m := 1) (c := ((k + 1 : Nat) : Int)) (by omega) (by omega) _ _)) <| rK [1, 1, 1, 1, 1, 1, 1, 1, 1, 1, 1, 1, 1, 1, 1, 0] [] [] <| rS 1 rfl <| rZ0 ?_)
    try clear H a W
    intro a W H
    replace H : St 23 w0 a W [(4, .int .i64 ((k + 1 : Nat) : Int)), (11, .int .i64 ((k + 1 : Nat) : Int)), (10, .int .i64 ((k : Nat) : Int)), (21, .pointer (some ⟨g1, 0, none⟩)), (20, .pointer (some ⟨g1, 0, none⟩)), (19, .slice A2 (k + 1) c2), (18, .slice (some ⟨gx, 0, none⟩) 1 1), (17, v17), (16, .slice A k c), (15, .pointer (some ⟨g1, 0, none⟩)), (14, .pointer (some ⟨g1, 0, none⟩)), (13, .pointer (some ⟨g1, 0, none⟩)), (12, .pointer (some ⟨g1, 0, none⟩)), (9, .bool true), (8, .int .i64 ((n : Nat) : Int)), (7, .int .i64 ((k : Nat) : Int)), (3, .pointer (some ⟨g1, 0, none⟩)), (0, .int .i64 ((n : Nat) : Int))] ((gz, .ty 5, (bvs (rb 512 b0s))) :: ([(g1, .ty 67, (rdC (.slice A2 (k + 1) c2) (.slice none 0 0) (-1) false))] ++ (t2 ++ (r ++ hh)))) := H.pickF (h := [(gz, 5, (bvs (rb 512 b0s))), (g1, 67, (rdC (.slice A2 (k + 1) c2) (.slice none 0 0) (-1) false))]) (t := (t2 ++ (r ++ hh))) [0, 1, 2, 3, 4, 5, 6, 7, 8, 9, 10, 11, 12, 13, 14, 15, 16, 17] [0, 1] rfl
    replace H := H.store1
    replace H : St 23 w0 a W [(4, .int .i64 ((k + 1 : Nat) : Int)), (11, .int .i64 ((k + 1 : Nat) : Int)), (10, .int .i64 ((k : Nat) : Int)), (21, .pointer (some ⟨g1, 0, none⟩)), (20, .pointer (some ⟨g1, 0, none⟩)), (19, .slice A2 (k + 1) c2), (18, .slice (some ⟨gx, 0, none⟩) 1 1), (17, v17), (16, .slice A k c), (15, .pointer (some ⟨g1, 0, none⟩)), (14, .pointer (some ⟨g1, 0, none⟩)), (13, .pointer (some ⟨g1, 0, none⟩)), (12, .pointer (some ⟨g1, 0, none⟩)), (9, .bool true), (8, .int .i64 ((n : Nat) : Int)), (7, .int .i64 ((k : Nat) : Int)), (3, .pointer (some ⟨g1, 0, none⟩)), (0, .int .i64 ((n : Nat) : Int))] ((g1, 67, (rdC (.slice A2 (k + 1) c2) (.slice none 0 0) (-1) false)) :: (t2 ++ (((gz, .ty 5, (bvs (rb 512 b0s))) :: r) ++ hh))) := H
    refine ⟨k + 1, by omega, by omega, t2, A2, c2, us ++ [.slice (some ⟨gz, 0, none⟩) 512 512], (gz, .ty 5, (bvs (rb 512 b0s))) :: r, (fun i => if i = us.length then (gz, 512) else gu i), ⟨hod2, by have h_ := hJ.2.1.snoc (fun q_ hq_ => hnz q_ (List.mem_cons_of_mem _ (List.mem_append_right _ (List.mem_append_left _ hq_)))); rw [zeroB_rb] at h_; exact h_, by rw [List.length_append, hJ.2.2]; rfl⟩, ?_⟩
    exact H.pickF (h := [(g1, 67, (rdC (.slice A2 (k + 1) c2) (.slice none 0 0) (-1) false))]) (t := (t2 ++ (((gz, .ty 5, (bvs (rb 512 b0s))) :: r) ++ hh))) [0, 16, 17] [0] rfl
  · obtain rfl : n = k := by omega
    refine wp_seq_k (fun K8 hK8 => ?_)
    refine sqR H gs0 fun Z_ z_ => rS 2 rfl <| rV rfl (does_binOp rfl rfl rfl (zd_lss_int (k := ((n : Nat) : Int)) (m := ((n : Nat) : Int)) (decide_eq_false (by omega)) _ _)) <| rK [1, 0, 0, 1, 1, 0] [] [] <| rN0 z_ ?_
    try clear H a W
    intro a W H
    refine wp_cond_false (H.ev rfl) ?_
    refine wp_exit ?_
    repeat (first | (with_reducible refine then_exit ?_) | (with_reducible refine blk_pass (by decide) ?_))
    refine blk_exit ?_
    refine hK3 _ _ ?_
    clear hK3
    refine sqR H gs0 fun Z_ z_ => rS 2 rfl <| rK [1, 0, 0, 0, 0] [] [] <| rN0 z_ ?_
    try clear H a W
    intro a W H
    refine wp_ret ?_
    repeat (first | (with_reducible refine then_ret ?_) | (with_reducible refine blk_ret ?_))
    refine end_tmp (p := 2) rfl rfl H (fun hb => ?_)
    obtain ⟨gB, cB, rfl, rfl, hcB⟩ := hJ.1.at_ (by omega)
    have eR : RX.row (RX.mk gB cB c none 0 [] [] r gu gu) (dNew n) = rdC (.slice (some ⟨gB, 0, none⟩) n c) (.slice none 0 0) (-1) false := by
      unfold RX.row dNew
      dsimp only
      rw [List.length_replicate]
      rfl
    refine ⟨(g1, RX.rows (RX.mk gB cB c none 0 [] [] r gu gu) g1 (dNew n)), rfl, ⟨(RX.mk gB cB c none 0 [] [] r gu gu), rfl, ⟨OutD.nil _ _, hJ.2.1.rk hJ.2.2 hcB, new_ok n, by show 0 < (List.replicate n zeroB).length ∧ (List.replicate n zeroB).length ≤ 8192; rw [List.length_replicate]; omega, Nat.zero_le _, ⟨Int.le_refl _, (by decide : (-1 : Int) < 9223372036854775808)⟩⟩⟩, ?_⟩
    show Kn w0 W (RX.rows (RX.mk gB cB c none 0 [] [] r gu gu) g1 (dNew n) ++ hh)
    rw [RX.rows_hh, eR]
    exact H.kn
set_option maxHeartbeats 4000000 in
theorem rsync_err {X : RX} {p : Nat} {D : Dk} {hh : Hep} (hse : (dStep D).2 ≠ 0) (hX : X.ok D) (w0 w : World) (K : Kn w0 w (X.rows p D ++ hh)) : Calls Try.prog 35 #[.pointer (some ⟨p, 0, none⟩)] w (fun rr w' => ∃ r', rr = .returned (.int .i64 (dSync D).2) ∧ RO p (dSync D).1 r' ∧ Kn w0 w' (r' ++ hh)) := by
  have hnb := hX.nb
  have hfu := hX.fu
  have hnl := hX.nl
  rw [RX.rows_hh] at K
  unfold RX.row at K
  have hse0 : decide (((dStep D).2) = 0) = false := decide_eq_false hse
  refine calls_kn (vs := [.pointer (some ⟨p, 0, none⟩)]) 48 Try.func35 rfl Try.ntmps35 rfl K (fun a W H => ?_)
  replace H : St 48 w0 a W [(0, .pointer (some ⟨p, 0, none⟩))] ((p, 67, (rdC (.slice (some ⟨X.gB, 0, none⟩) D.B.length X.capB) (.slice X.A D.L.length X.capL) D.fuse D.dead)) :: (X.gB, 39, X.cB) :: (X.tL ++ (X.rest ++ hh))) := H
  refine sqR H gs0 fun Z_ z_ => rS 1 rfl <| rN0 z_ ?_
  try clear H a W
  intro a W H
  refine wp_seq_k (fun K2 hK2 => ?_)
  refine rgP H gs0 (rS 1 rfl <| rI0 ?_)
  try clear H a W
  intro a W H
  refine pl_callV rfl rfl ⟨_, Try.func50, by kernel_rfl⟩ rfl (fun K_ => step_r (hh := ([(X.gB, .ty 39, X.cB)] ++ (X.tL ++ (X.rest ++ hh)))) D hfu w0 _ K_) H ?_
  try clear H a W
  intro a W H
  replace H : St 48 w0 a W [(6, .int .i64 ((dStep D).2)), (5, .pointer (some ⟨p, 0, none⟩)), (2, .int .i64 0), (0, .pointer (some ⟨p, 0, none⟩))] ((p, 67, (rdC (.slice (some ⟨X.gB, 0, none⟩) D.B.length X.capB) (.slice X.A D.L.length X.capL) ((dStep D).1.fuse) ((dStep D).1.dead))) :: (X.gB, 39, X.cB) :: (X.tL ++ (X.rest ++ hh))) := H
  refine rgO H gs0 (rS 1 rfl <| rK [1, 0, 0] [] [] <| rZ0 ?_)
  try clear H a W
  intro a W H
  refine hK2 _ _ ?_
  clear hK2
  refine wp_seq_k (fun K3 hK3 => ?_)
  refine sqR H gs0 fun Z_ z_ => rS 1 rfl <| rN0 z_ ?_
  try clear H a W
  intro a W H
  refine wp_block ?_
  replace H : St 48 w0 a W [(4, .int .i64 ((0 : Nat) : Int)), (3, .int .i64 ((dStep D).2)), (2, .int .i64 0), (0, .pointer (some ⟨p, 0, none⟩))] ((p, 67, (rdC (.slice (some ⟨X.gB, 0, none⟩) D.B.length X.capB) (.slice X.A D.L.length X.capL) ((dStep D).1.fuse) ((dStep D).1.dead))) :: (X.gB, 39, X.cB) :: (X.tL ++ (X.rest ++ hh))) := H.pickF (h := [(p, 67, (rdC (.slice (some ⟨X.gB, 0, none⟩) D.B.length X.capB) (.slice X.A D.L.length X.capL) ((dStep D).1.fuse) ((dStep D).1.dead))), (X.gB, 39, X.cB)]) (t := (X.tL ++ (X.rest ++ hh))) [0, 1, 2, 3] [0, 1] rfl
  refine wp_rounds 0 (fun k a W => St 48 w0 a W [(4, .int .i64 ((k : Nat) : Int)), (3, .int .i64 ((dStep D).2)), (2, .int .i64 0), (0, .pointer (some ⟨p, 0, none⟩))] ((p, 67, (rdC (.slice (some ⟨X.gB, 0, none⟩) D.B.length X.capB) (.slice X.A D.L.length X.capL) ((dStep D).1.fuse) ((dStep D).1.dead))) :: (X.gB, 39, X.cB) :: (X.tL ++ (X.rest ++ hh)))) (k0 := 0) H (by omega) ?_
  try clear H a W
  intro k a W hk H
  obtain rfl : k = 0 := by omega
  refine wp_seq_k (fun K5 hK5 => ?_)
  refine wp_seq_k (fun K6 hK6 => ?_)
  cases hq1 : decide (((0 : Nat) : Int) < ((D.L.length : Nat) : Int)) with
  | true =>
    have hq1p := of_decide_eq_true hq1
    refine rgP H gs0 (rS 2 rfl <| rV rfl (does_nilCheckQ rfl rfl) <| rV rfl (does_fieldAddr rfl rfl (fa_rd 1 (by decide))) <| rV rfl (does_loadAt (v := .slice X.A D.L.length X.capL) rfl rfl (k := 0) rfl ld_rd1) <| rV rfl (does_len Try.underlying65 rfl rfl) <| rV rfl (does_binOp rfl rfl rfl (zd_lss_int (k := ((0 : Nat) : Int)) (m := ((D.L.length : Nat) : Int)) hq1 _ _)) <| rS 2 rfl <| rV rfl (does_binOp rfl rfl rfl (zd_eql_int (k := ((dStep D).2)) (m := 0) hse0 _ _)) <| rS 1 rfl <| rK [1, 0, 0, 0, 0, 0, 0, 0, 0, 0, 0] [] [] <| rZ0 ?_)
    try clear H a W
    intro a W H
    refine hK6 _ _ ?_
    clear hK6
    refine wp_cond_false (H.ev rfl) ?_
    refine wp_exit ?_
    repeat (first | (with_reducible refine then_exit ?_) | (with_reducible refine blk_pass (by decide) ?_))
    refine blk_exit ?_
    refine hK3 _ _ ?_
    clear hK3
    refine wp_seq_k (fun K7 hK7 => ?_)
    refine sqR H gs0 fun Z_ z_ => rS 1 rfl <| rV rfl (does_binOp rfl rfl rfl (zd_eql_int (k := ((dStep D).2)) (m := 0) hse0 _ _)) <| rK [1, 0, 0, 0] [] [] <| rN0 z_ ?_
    try clear H a W
    intro a W H
    refine wp_cond_false (H.ev rfl) ?_
    refine wp_skip ?_
    refine hK7 _ _ ?_
    clear hK7
    refine sqR H gs0 fun Z_ z_ => rS 1 rfl <| rK [1, 1, 1, 0] [] [] <| rS 1 rfl <| rK [1, 0, 0, 0, 0] [] [] <| rN0 z_ ?_
    try clear H a W
    intro a W H
    refine wp_ret ?_
    repeat (first | (with_reducible refine then_ret ?_) | (with_reducible refine blk_ret ?_))
    refine end_tmp (p := 2) rfl rfl H (fun hb => ?_)
    rw [sync_err hse]
    have eR : RX.row X (Dk.mk D.B D.L (dStep D).1.fuse (dStep D).1.dead) = rdC (.slice (some ⟨X.gB, 0, none⟩) D.B.length X.capB) (.slice X.A D.L.length X.capL) ((dStep D).1.fuse) ((dStep D).1.dead) := by rfl
    refine ⟨RX.rows X p (Dk.mk D.B D.L (dStep D).1.fuse (dStep D).1.dead), rfl, ⟨X, rfl, ⟨hX.od, hX.rk, ⟨hX.dk.B, hX.dk.L⟩, hX.nb, hX.nl, step_fu hfu⟩⟩, ?_⟩
    rw [RX.rows_hh, eR]
    try dsimp only
    show Kn w0 W ((p, .ty 67, (rdC (.slice (some ⟨X.gB, 0, none⟩) D.B.length X.capB) (.slice X.A D.L.length X.capL) ((dStep D).1.fuse) ((dStep D).1.dead))) :: (X.gB, .ty 39, X.cB) :: (X.tL ++ (X.rest ++ hh)))
    have H_ := H.pickF (h := [(p, .ty 67, (rdC (.slice (some ⟨X.gB, 0, none⟩) D.B.length X.capB) (.slice X.A D.L.length X.capL) ((dStep D).1.fuse) ((dStep D).1.dead))), (X.gB, .ty 39, X.cB)]) (t := (X.tL ++ (X.rest ++ hh))) [] [0, 1] rfl
    exact H_.kn
  | false =>
    have hq1p := of_decide_eq_false hq1
    refine rgP H gs0 (rS 2 rfl <| rV rfl (does_nilCheckQ rfl rfl) <| rV rfl (does_fieldAddr rfl rfl (fa_rd 1 (by decide))) <| rV rfl (does_loadAt (v := .slice X.A D.L.length X.capL) rfl rfl (k := 0) rfl ld_rd1) <| rV rfl (does_len Try.underlying65 rfl rfl) <| rV rfl (does_binOp rfl rfl rfl (zd_lss_int (k := ((0 : Nat) : Int)) (m := ((D.L.length : Nat) : Int)) hq1 _ _)) <| rS 4 rfl <| rK [1, 0, 0, 0, 0, 0, 0, 0, 0, 0, 0] [] [] <| rZ0 ?_)
    try clear H a W
    intro a W H
    refine hK6 _ _ ?_
    clear hK6
    refine wp_cond_false (H.ev rfl) ?_
    refine wp_exit ?_
    repeat (first | (with_reducible refine then_exit ?_) | (with_reducible refine blk_pass (by decide) ?_))
    refine blk_exit ?_
    refine hK3 _ _ ?_
    clear hK3
    refine wp_seq_k (fun K10 hK10 => ?_)
    refine sqR H gs0 fun Z_ z_ => rS 1 rfl <| rV rfl (does_binOp rfl rfl rfl (zd_eql_int (k := ((dStep D).2)) (m := 0) hse0 _ _)) <| rK [1, 0, 0, 0] [] [] <| rN0 z_ ?_
    try clear H a W
    intro a W H
    refine wp_cond_false (H.ev rfl) ?_
    refine wp_skip ?_
    refine hK10 _ _ ?_
    clear hK10
    refine sqR H gs0 fun Z_ z_ => rS 1 rfl <| rK [1, 1, 1, 0] [] [] <| rS 1 rfl <| rK [1, 0, 0, 0, 0] [] [] <| rN0 z_ ?_
    try clear H a W
    intro a W H
    refine wp_ret ?_
    repeat (first | (with_reducible refine then_ret ?_) | (with_reducible refine blk_ret ?_))
    refine end_tmp (p := 2) rfl rfl H (fun hb => ?_)
    rw [sync_err hse]
    have eR : RX.row X (Dk.mk D.B D.L (dStep D).1.fuse (dStep D).1.dead) = rdC (.slice (some ⟨X.gB, 0, none⟩) D.B.length X.capB) (.slice X.A D.L.length X.capL) ((dStep D).1.fuse) ((dStep D).1.dead) := by rfl
    refine ⟨RX.rows X p (Dk.mk D.B D.L (dStep D).1.fuse (dStep D).1.dead), rfl, ⟨X, rfl, ⟨hX.od, hX.rk, ⟨hX.dk.B, hX.dk.L⟩, hX.nb, hX.nl, step_fu hfu⟩⟩, ?_⟩
    rw [RX.rows_hh, eR]
    try dsimp only
    show Kn w0 W ((p, .ty 67, (rdC (.slice (some ⟨X.gB, 0, none⟩) D.B.length X.capB) (.slice X.A D.L.length X.capL) ((dStep D).1.fuse) ((dStep D).1.dead))) :: (X.gB, .ty 39, X.cB) :: (X.tL ++ (X.rest ++ hh)))
    have H_ := H.pickF (h := [(p, .ty 67, (rdC (.slice (some ⟨X.gB, 0, none⟩) D.B.length X.capB) (.slice X.A D.L.length X.capL) ((dStep D).1.fuse) ((dStep D).1.dead))), (X.gB, .ty 39, X.cB)]) (t := (X.tL ++ (X.rest ++ hh))) [] [0, 1] rfl
    exact H_.kn
set_option maxHeartbeats 4000000 in
theorem rsync_ok {X : RX} {p : Nat} {D : Dk} {hh : Hep} (hse : (dStep D).2 = 0) (hX : X.ok D) (w0 w : World) (K : Kn w0 w (X.rows p D ++ hh)) : Calls Try.prog 35 #[.pointer (some ⟨p, 0, none⟩)] w (fun rr w' => ∃ r', rr = .returned (.int .i64 (dSync D).2) ∧ RO p (dSync D).1 r' ∧ Kn w0 w' (r' ++ hh)) := by
  have hnb := hX.nb
  have hfu := hX.fu
  have hnl := hX.nl
  rw [RX.rows_hh] at K
  unfold RX.row at K
  have hse0 : decide (((dStep D).2) = 0) = true := decide_eq_true hse
  obtain ⟨gL, cL, hat⟩ := hX.at_
  refine calls_kn (vs := [.pointer (some ⟨p, 0, none⟩)]) 48 Try.func35 rfl Try.ntmps35 rfl K (fun a W H => ?_)
  replace H : St 48 w0 a W [(0, .pointer (some ⟨p, 0, none⟩))] ((p, 67, (rdC (.slice (some ⟨X.gB, 0, none⟩) D.B.length X.capB) (.slice X.A D.L.length X.capL) D.fuse D.dead)) :: (X.gB, 39, X.cB) :: (X.tL ++ (X.rest ++ hh))) := H
  refine sqR H gs0 fun Z_ z_ => rS 1 rfl <| rN0 z_ ?_
  try clear H a W
  intro a W H
  refine wp_seq_k (fun K2 hK2 => ?_)
  refine rgP H gs0 (rS 1 rfl <| rI0 ?_)
  try clear H a W
  intro a W H
  refine pl_callV rfl rfl ⟨_, Try.func50, by kernel_rfl⟩ rfl (fun K_ => step_r (hh := ([(X.gB, .ty 39, X.cB)] ++ (X.tL ++ (X.rest ++ hh)))) D hfu w0 _ K_) H ?_
  try clear H a W
  intro a W H
  replace H : St 48 w0 a W [(6, .int .i64 ((dStep D).2)), (5, .pointer (some ⟨p, 0, none⟩)), (2, .int .i64 0), (0, .pointer (some ⟨p, 0, none⟩))] ((p, 67, (rdC (.slice (some ⟨X.gB, 0, none⟩) D.B.length X.capB) (.slice X.A D.L.length X.capL) ((dStep D).1.fuse) ((dStep D).1.dead))) :: (X.gB, 39, X.cB) :: (X.tL ++ (X.rest ++ hh))) := H
  refine rgO H gs0 (rS 1 rfl <| rK [1, 0, 0] [] [] <| rZ0 ?_)
  try clear H a W
  intro a W H
  refine hK2 _ _ ?_
  clear hK2
  refine wp_seq_k (fun K3 hK3 => ?_)
  refine sqR H gs0 fun Z_ z_ => rS 1 rfl <| rN0 z_ ?_
  try clear H a W
  intro a W H
  refine wp_block ?_
  replace H : St 48 w0 a W [(4, .int .i64 0), (3, .int .i64 ((dStep D).2)), (2, .int .i64 0), (0, .pointer (some ⟨p, 0, none⟩))] ((p, 67, (rdC (.slice (some ⟨X.gB, 0, none⟩) D.B.length X.capB) (.slice X.A D.L.length X.capL) ((dStep D).1.fuse) ((dStep D).1.dead))) :: (X.gB, 39, X.cB) :: (X.tL ++ (X.rest ++ hh))) := H.pickF (h := [(p, 67, (rdC (.slice (some ⟨X.gB, 0, none⟩) D.B.length X.capB) (.slice X.A D.L.length X.capL) ((dStep D).1.fuse) ((dStep D).1.dead))), (X.gB, 39, X.cB)]) (t := (X.tL ++ (X.rest ++ hh))) [0, 1, 2, 3] [0, 1] rfl
  refine wp_rounds D.L.length (fun k a W => ∃ cB r gu, (RK cB X.xs r gu X.gl (BK D.L (fun _ => 512) D.B k) D.L ∧ True) ∧ St 48 w0 a W [(4, .int .i64 ((k : Nat) : Int)), (3, .int .i64 ((dStep D).2)), (2, .int .i64 0), (0, .pointer (some ⟨p, 0, none⟩))] ((p, 67, (rdC (.slice (some ⟨X.gB, 0, none⟩) D.B.length X.capB) (.slice X.A D.L.length X.capL) ((dStep D).1.fuse) ((dStep D).1.dead))) :: (X.gB, 39, cB) :: (X.tL ++ (r ++ hh)))) (k0 := 0) ⟨X.cB, X.rest, X.gu, ⟨hX.rk, trivial⟩, H⟩ (by omega) ?_
  try clear H a W
  rintro k a W hk ⟨cB, r, gu, hJ, H⟩
  by_cases hk2 : k < D.L.length
  · obtain ⟨⟨nk, bk⟩, hLk⟩ : ∃ q, D.L[k]? = some q := ⟨_, List.getElem?_eq_getElem hk2⟩
    have hdk := hX.dk.L _ (List.mem_iff_getElem?.2 ⟨k, hLk⟩)
    have hnk : nk < D.B.length := hdk.1
    have hl_bk : bk.length = 512 := hdk.2
    have hl_old : ((BK D.L (fun _ => 512) D.B k).getD nk []).length = 512 := getD_len (BK_all hX.dk.B hX.dk.L (fun _ => Nat.le_refl _) k (by omega)) (by rw [BK_len]; exact hnk)
    refine wp_seq_k (fun K5 hK5 => ?_)
    refine sqR H gs0 fun Z_ z_ => rS 2 rfl <| rV rfl (does_nilCheckQ rfl rfl) <| rV rfl (does_fieldAddr rfl rfl (fa_rd 1 (by decide))) <| rV rfl (does_loadAt (v := .slice X.A D.L.length X.capL) rfl rfl (k := 0) rfl ld_rd1) <| rV rfl (does_len Try.underlying65 rfl rfl) <| rV rfl (does_binOp rfl rfl rfl (zd_lss_int (k := ((k : Nat) : Int)) (m := ((D.L.length : Nat) : Int)) (decide_eq_true (by omega)) _ _)) <| rS 2 rfl <| rV rfl (does_binOp rfl rfl rfl (zd_eql_int (k := ((dStep D).2)) (m := 0) hse0 _ _)) <| rS 1 rfl <| rN0 z_ ?_
    try clear H a W
    intro a W H
    refine wp_cond_true (H.ev rfl) ?_
    refine wp_skip ?_
    refine hK5 _ _ ?_
    clear hK5
    refine wp_seq_k (fun K7 hK7 => ?_)
    refine wp_block ?_
    refine d2 (.v 20 _ [] :: .v 21 _ [0] :: .v 22 _ [1] :: .v 23 _ [2] :: .v 24 _ [] :: .v 25 _ [4] :: .v 26 _ [5] :: .v 27 _ [6] :: .v 28 _ [] :: .v 29 _ [7, 8] :: .v 30 _ [9] :: .v 31 _ [10] :: .v 32 _ [] :: .v 33 _ [12] :: .v 34 _ [13] :: .v 35 _ [14] :: .v 36 _ [] :: .v 37 _ [15, 16] :: .v 38 _ [17] :: .v 39 _ [18] :: .f 40 _ [19] :: .v 41 _ [3, 11] :: []) (by kernel_rfl) (by kernel_rfl) H gs0 ⟨oS rfl rfl, oV rfl (does_nilCheckQ rfl rfl), oV rfl (does_fieldAddr rfl rfl (fa_rd 0 (by decide))), oV rfl (does_loadAt (v := .slice (some ⟨X.gB, 0, none⟩) D.B.length X.capB) rfl rfl (k := 0) rfl ld_rd0), oS rfl rfl, oV rfl (does_nilCheckQ rfl rfl), oV rfl (does_fieldAddr rfl rfl (fa_rd 1 (by decide))), oV rfl (does_loadAt (v := .slice X.A D.L.length X.capL) rfl rfl (k := 0) rfl ld_rd1), oS rfl rfl, oV rfl (does_indexAddr rfl rfl rfl (ia_lates (j := k) (hat (by omega)).1 (by omega))), oV rfl (does_fieldAddr rfl rfl fa_late0), oV rfl (does_loadMem (v := .int .i64 ((nk : Nat) : Int)) rfl rfl (List.mem_cons_of_mem _ (List.mem_cons_of_mem _ (List.mem_append_left _ (hat (by omega)).2.1))) (fun W hW => ld_numC ((hat (by omega)).2.2 _ _ (hJ.1.lo k _ hLk).1) W hW)), oS rfl rfl, oV rfl (does_nilCheckQ rfl rfl), oV rfl (does_fieldAddr rfl rfl (fa_rd 1 (by decide))), oV rfl (does_loadAt (v := .slice X.A D.L.length X.capL) rfl rfl (k := 0) rfl ld_rd1), oS rfl rfl, oV rfl (does_indexAddr rfl rfl rfl (ia_lates (j := k) (hat (by omega)).1 (by omega))), oV rfl (does_fieldAddr rfl rfl fa_late1), oV rfl (does_loadMem (v := .slice (some ⟨(X.gl k).1, 0, none⟩) 512 (X.gl k).2) rfl rfl (List.mem_cons_of_mem _ (List.mem_cons_of_mem _ (List.mem_append_left _ (hat (by omega)).2.1))) (fun W hW => ld_slB ((hat (by omega)).2.2 _ _ (hJ.1.lo k _ hLk).2.1) W hW)), ⟨fun a W  H _ => ob_app0S H (wanted_none rfl) rfl rfl (RowB.bf (hJ.1.lo k _ hLk).2.2 H (fun q_ hq_ => (List.mem_cons_of_mem _ (List.mem_cons_of_mem _ (List.mem_append_right _ (List.mem_append_left _ hq_)))))) (by first | omega | (simp only [List.length_take, List.length_drop]; omega)), fun _ => inferInstance⟩, oV rfl (does_indexAddr rfl rfl rfl (ia_rows0 (j := nk) (by omega))), trivial⟩ (fun v40 => rI ?_)
    try clear H a W
    rintro a W H ⟨hv40, -⟩
    obtain ⟨gn1, capgn1, curgn1, rfl, hugn1, hngn1, H⟩ := ofs_told hv40 hl_bk H
    replace H : St 48 w0 a W [(41, .pointer (some ⟨X.gB, nk, none⟩)), (40, .slice (some ⟨gn1, 0, none⟩) 512 capgn1), (39, .slice (some ⟨(X.gl k).1, 0, none⟩) 512 (X.gl k).2), (38, .pointer (some ⟨gL, k * 2 + 1, none⟩)), (37, .pointer (some ⟨gL, k * 2, none⟩)), (36, .int .i64 ((k : Nat) : Int)), (35, .slice X.A D.L.length X.capL), (34, .pointer (some ⟨p, 1, none⟩)), (33, .pointer (some ⟨p, 0, none⟩)), (32, .pointer (some ⟨p, 0, none⟩)), (31, .int .i64 ((nk : Nat) : Int)), (30, .pointer (some ⟨gL, k * 2, none⟩)), (29, .pointer (some ⟨gL, k * 2, none⟩)), (28, .int .i64 ((k : Nat) : Int)), (27, .slice X.A D.L.length X.capL), (26, .pointer (some ⟨p, 1, none⟩)), (25, .pointer (some ⟨p, 0, none⟩)), (24, .pointer (some ⟨p, 0, none⟩)), (23, .slice (some ⟨X.gB, 0, none⟩) D.B.length X.capB), (22, .pointer (some ⟨p, 0, none⟩)), (21, .pointer (some ⟨p, 0, none⟩)), (20, .pointer (some ⟨p, 0, none⟩)), (17, .bool true), (16, .bool true), (15, .int .i64 ((dStep D).2)), (14, .bool true), (13, .bool true), (12, .int .i64 ((D.L.length : Nat) : Int)), (11, .slice X.A D.L.length X.capL), (10, .pointer (some ⟨p, 1, none⟩)), (9, .pointer (some ⟨p, 0, none⟩)), (8, .pointer (some ⟨p, 0, none⟩)), (7, .int .i64 ((k : Nat) : Int)), (4, .int .i64 ((k : Nat) : Int)), (3, .int .i64 ((dStep D).2)), (2, .int .i64 0), (0, .pointer (some ⟨p, 0, none⟩))] ((gn1, 5, curgn1) :: (p, 67, (rdC (.slice (some ⟨X.gB, 0, none⟩) D.B.length X.capB) (.slice X.A D.L.length X.capL) ((dStep D).1.fuse) ((dStep D).1.dead))) :: (X.gB, 39, cB) :: (X.tL ++ (r ++ hh))) := H
    refine rgO H gs0 (rX [0, 0, 1] (c := (setV cB nk [.slice (some ⟨gn1, 0, none⟩) 512 capgn1])) ⟨rfl, rfl⟩ rfl rfl rfl (st_slB (hJ.1.bo nk _ (getB (by rw [BK_len]; omega))).1) rfl <| rZ0 ?_)
    try clear H a W
    intro a W H
    refine blk_normal ?_
    refine hK7 _ _ ?_
    clear hK7
    refine rgP H gs0 (rS 1 rfl <| rV rfl (does_binOp rfl rfl rfl (zd_add_int (k := ((k : Nat) : Int)) (m := 1) (c := ((k + 1 : Nat) : Int)) (by omega) (by omega) _ _)) <| rK [1, 1, 1, 1, 1, 1, 1, 1, 1, 1, 1, 1, 1, 1, 1, 1, 1, 1, 1, 1, 1, 1, 1, 1, 1, 1, 1, 1, 1, 1, 1, 1, 1, 1, 1, 0] [] [] <| rS 1 rfl <| rZ0 ?_)
    try clear H a W
    intro a W H
    replace H : St 48 w0 a W [(4, .int .i64 ((k + 1 : Nat) : Int)), (19, .int .i64 ((k + 1 : Nat) : Int)), (18, .int .i64 ((k : Nat) : Int)), (41, .pointer (some ⟨X.gB, nk, none⟩)), (40, .slice (some ⟨gn1, 0, none⟩) 512 capgn1), (39, .slice (some ⟨(X.gl k).1, 0, none⟩) 512 (X.gl k).2), (38, .pointer (some ⟨gL, k * 2 + 1, none⟩)), (37, .pointer (some ⟨gL, k * 2, none⟩)), (36, .int .i64 ((k : Nat) : Int)), (35, .slice X.A D.L.length X.capL), (34, .pointer (some ⟨p, 1, none⟩)), (33, .pointer (some ⟨p, 0, none⟩)), (32, .pointer (some ⟨p, 0, none⟩)), (31, .int .i64 ((nk : Nat) : Int)), (30, .pointer (some ⟨gL, k * 2, none⟩)), (29, .pointer (some ⟨gL, k * 2, none⟩)), (28, .int .i64 ((k : Nat) : Int)), (27, .slice X.A D.L.length X.capL), (26, .pointer (some ⟨p, 1, none⟩)), (25, .pointer (some ⟨p, 0, none⟩)), (24, .pointer (some ⟨p, 0, none⟩)), (23, .slice (some ⟨X.gB, 0, none⟩) D.B.length X.capB), (22, .pointer (some ⟨p, 0, none⟩)), (21, .pointer (some ⟨p, 0, none⟩)), (20, .pointer (some ⟨p, 0, none⟩)), (17, .bool true), (16, .bool true), (15, .int .i64 ((dStep D).2)), (14, .bool true), (13, .bool true), (12, .int .i64 ((D.L.length : Nat) : Int)), (11, .slice X.A D.L.length X.capL), (10, .pointer (some ⟨p, 1, none⟩)), (9, .pointer (some ⟨p, 0, none⟩)), (8, .pointer (some ⟨p, 0, none⟩)), (7, .int .i64 ((k : Nat) : Int)), (3, .int .i64 ((dStep D).2)), (2, .int .i64 0), (0, .pointer (some ⟨p, 0, none⟩))] ((gn1, .ty 5, curgn1) :: ([(p, .ty 67, (rdC (.slice (some ⟨X.gB, 0, none⟩) D.B.length X.capB) (.slice X.A D.L.length X.capL) ((dStep D).1.fuse) ((dStep D).1.dead))), (X.gB, .ty 39, (setV cB nk [.slice (some ⟨gn1, 0, none⟩) 512 capgn1]))] ++ (X.tL ++ (r ++ hh)))) := H.pickF (h := [(gn1, 5, curgn1), (p, 67, (rdC (.slice (some ⟨X.gB, 0, none⟩) D.B.length X.capB) (.slice X.A D.L.length X.capL) ((dStep D).1.fuse) ((dStep D).1.dead))), (X.gB, 39, (setV cB nk [.slice (some ⟨gn1, 0, none⟩) 512 capgn1]))]) (t := (X.tL ++ (r ++ hh))) [0, 1, 2, 3, 4, 5, 6, 7, 8, 9, 10, 11, 12, 13, 14, 15, 16, 17, 18, 19, 20, 21, 22, 23, 24, 25, 26, 27, 28, 29, 30, 31, 32, 33, 34, 35, 36, 37, 38] [0, 1, 2] rfl
    replace H := H.store1
    replace H : St 48 w0 a W [(4, .int .i64 ((k + 1 : Nat) : Int)), (19, .int .i64 ((k + 1 : Nat) : Int)), (18, .int .i64 ((k : Nat) : Int)), (41, .pointer (some ⟨X.gB, nk, none⟩)), (40, .slice (some ⟨gn1, 0, none⟩) 512 capgn1), (39, .slice (some ⟨(X.gl k).1, 0, none⟩) 512 (X.gl k).2), (38, .pointer (some ⟨gL, k * 2 + 1, none⟩)), (37, .pointer (some ⟨gL, k * 2, none⟩)), (36, .int .i64 ((k : Nat) : Int)), (35, .slice X.A D.L.length X.capL), (34, .pointer (some ⟨p, 1, none⟩)), (33, .pointer (some ⟨p, 0, none⟩)), (32, .pointer (some ⟨p, 0, none⟩)), (31, .int .i64 ((nk : Nat) : Int)), (30, .pointer (some ⟨gL, k * 2, none⟩)), (29, .pointer (some ⟨gL, k * 2, none⟩)), (28, .int .i64 ((k : Nat) : Int)), (27, .slice X.A D.L.length X.capL), (26, .pointer (some ⟨p, 1, none⟩)), (25, .pointer (some ⟨p, 0, none⟩)), (24, .pointer (some ⟨p, 0, none⟩)), (23, .slice (some ⟨X.gB, 0, none⟩) D.B.length X.capB), (22, .pointer (some ⟨p, 0, none⟩)), (21, .pointer (some ⟨p, 0, none⟩)), (20, .pointer (some ⟨p, 0, none⟩)), (17, .bool true), (16, .bool true), (15, .int .i64 ((dStep D).2)), (14, .bool true), (13, .bool true), (12, .int .i64 ((D.L.length : Nat) : Int)), (11, .slice X.A D.L.length X.capL), (10, .pointer (some ⟨p, 1, none⟩)), (9, .pointer (some ⟨p, 0, none⟩)), (8, .pointer (some ⟨p, 0, none⟩)), (7, .int .i64 ((k : Nat) : Int)), (3, .int .i64 ((dStep D).2)), (2, .int .i64 0), (0, .pointer (some ⟨p, 0, none⟩))] ((p, 67, (rdC (.slice (some ⟨X.gB, 0, none⟩) D.B.length X.capB) (.slice X.A D.L.length X.capL) ((dStep D).1.fuse) ((dStep D).1.dead))) :: (X.gB, 39, (setV cB nk [.slice (some ⟨gn1, 0, none⟩) 512 capgn1])) :: (X.tL ++ (((gn1, .ty 5, curgn1) :: r) ++ hh))) := H
    refine ⟨k + 1, by omega, by omega, setV cB nk [.slice (some ⟨gn1, 0, none⟩) 512 capgn1], (gn1, .ty 5, curgn1) :: r, (fun i => if i = nk then (gn1, capgn1) else gu i), ⟨by rw [BK_succ, get_of hLk]; show RK _ _ _ _ _ (List.set _ nk (tornB 512 bk _)) _; rw [torn_all hl_bk (Nat.le_of_eq hl_old)]; exact hJ.1.setB (by rw [BK_len]; exact hnk) hugn1 (fun q_ hq_ => hngn1 q_ (List.mem_cons_of_mem _ (List.mem_cons_of_mem _ (List.mem_append_right _ (List.mem_append_left _ hq_))))), trivial⟩, ?_⟩
    exact H.pickF (h := [(p, 67, (rdC (.slice (some ⟨X.gB, 0, none⟩) D.B.length X.capB) (.slice X.A D.L.length X.capL) ((dStep D).1.fuse) ((dStep D).1.dead))), (X.gB, 39, (setV cB nk [.slice (some ⟨gn1, 0, none⟩) 512 capgn1]))]) (t := (X.tL ++ (((gn1, .ty 5, curgn1) :: r) ++ hh))) [0, 36, 37, 38] [0, 1] rfl
  · obtain rfl : D.L.length = k := by omega
    refine wp_seq_k (fun K8 hK8 => ?_)
    refine sqR H gs0 fun Z_ z_ => rS 2 rfl <| rV rfl (does_nilCheckQ rfl rfl) <| rV rfl (does_fieldAddr rfl rfl (fa_rd 1 (by decide))) <| rV rfl (does_loadAt (v := .slice X.A D.L.length X.capL) rfl rfl (k := 0) rfl ld_rd1) <| rV rfl (does_len Try.underlying65 rfl rfl) <| rV rfl (does_binOp rfl rfl rfl (zd_lss_int (k := ((D.L.length : Nat) : Int)) (m := ((D.L.length : Nat) : Int)) (decide_eq_false (by omega)) _ _)) <| rS 4 rfl <| rK [1, 0, 0, 0, 0, 0, 0, 0, 0, 0, 0] [] [] <| rN0 z_ ?_
    try clear H a W
    intro a W H
    refine wp_cond_false (H.ev rfl) ?_
    refine wp_exit ?_
    repeat (first | (with_reducible refine then_exit ?_) | (with_reducible refine blk_pass (by decide) ?_))
    refine blk_exit ?_
    refine hK3 _ _ ?_
    clear hK3
    refine wp_seq_k (fun K10 hK10 => ?_)
    refine sqR H gs0 fun Z_ z_ => rS 1 rfl <| rV rfl (does_binOp rfl rfl rfl (zd_eql_int (k := ((dStep D).2)) (m := 0) hse0 _ _)) <| rK [1, 0, 0, 0] [] [] <| rN0 z_ ?_
    try clear H a W
    intro a W H
    refine wp_cond_true (H.ev rfl) ?_
    refine rgP H gs0 (rS 1 rfl <| rV rfl (does_nilCheckQ rfl rfl) <| rV rfl (does_fieldAddr rfl rfl (fa_rd 1 (by decide))) <| rX [1] (c := (rdC (.slice (some ⟨X.gB, 0, none⟩) D.B.length X.capB) (.slice none 0 0) ((dStep D).1.fuse) ((dStep D).1.dead))) ⟨rfl, rfl⟩ rfl rfl rfl st_rd1 rfl <| rK [0, 0, 0, 0, 1, 1, 0] [] [] <| rZ0 ?_)
    try clear H a W
    intro a W H
    refine hK10 _ _ ?_
    clear hK10
    refine sqR H gs0 fun Z_ z_ => rS 1 rfl <| rK [1, 1, 0] [] [] <| rS 1 rfl <| rK [1, 0, 0] [] [] <| rN0 z_ ?_
    try clear H a W
    intro a W H
    refine wp_ret ?_
    repeat (first | (with_reducible refine then_ret ?_) | (with_reducible refine blk_ret ?_))
    refine end_tmp (p := 2) rfl rfl H (fun hb => ?_)
    have hBN : settle D.L D.B = (BK D.L (fun _ => 512) D.B D.L.length) := BK_settle hX.dk.B hX.dk.L 0 (Nat.zero_le _)
    have hok2 := sync_ok hX.dk
    rw [sync_ok2 hse] at hok2
    rw [sync_ok2 hse]
    have hrk2 := (hJ.1.noL).mono (r' := X.tL ++ r) (fun q_ hq_ => List.mem_append_right _ hq_)
    rw [← hBN] at hrk2
    have eR : RX.row (RX.mk X.gB cB X.capB none 0 [] [] (X.tL ++ r) gu X.gl) (Dk.mk (settle D.L D.B) [] (dStep D).1.fuse (dStep D).1.dead) = rdC (.slice (some ⟨X.gB, 0, none⟩) D.B.length X.capB) (.slice none 0 0) ((dStep D).1.fuse) ((dStep D).1.dead) := by unfold RX.row; dsimp only; rw [settle_len]; rfl
    refine ⟨RX.rows (RX.mk X.gB cB X.capB none 0 [] [] (X.tL ++ r) gu X.gl) p (Dk.mk (settle D.L D.B) [] (dStep D).1.fuse (dStep D).1.dead), by rw [hse], ⟨(RX.mk X.gB cB X.capB none 0 [] [] (X.tL ++ r) gu X.gl), rfl, ⟨OutD.nil _ _, hrk2, hok2, by show 0 < (settle D.L D.B).length ∧ (settle D.L D.B).length ≤ 8192; rw [settle_len]; exact hX.nb, Nat.zero_le _, step_fu hfu⟩⟩, ?_⟩
    rw [RX.rows_hh, eR]
    try dsimp only
    rw [List.nil_append, List.append_assoc]
    show Kn w0 W ((p, .ty 67, (rdC (.slice (some ⟨X.gB, 0, none⟩) D.B.length X.capB) (.slice none 0 0) ((dStep D).1.fuse) ((dStep D).1.dead))) :: (X.gB, .ty 39, cB) :: (X.tL ++ (r ++ hh)))
    have H_ := H.pickF (h := [(p, .ty 67, (rdC (.slice (some ⟨X.gB, 0, none⟩) D.B.length X.capB) (.slice none 0 0) ((dStep D).1.fuse) ((dStep D).1.dead))), (X.gB, .ty 39, cB)]) (t := (X.tL ++ (r ++ hh))) [] [0, 1] rfl
    exact H_.kn
end Go.Proofs.Ytiebelmglchbdaa
