/- Words, contracts and walks (Pw, Po, Gc, Cm), laid together. No condition. -/
import Derived.Test.YtpagiffbjofihaaDoorZd
import Derived.Test.YtpagiffbjofihaaDoorRows
import Derived.ProofKit
import Derived.LaidMore
import Derived.OpenShut
import Derived.Stop.Joined
import Derived.ChangeOld
import Derived.Below
import Derived.Deep.SlicePairs
import Derived.ChangeArms
namespace Go.Proofs.YtpagiffbjofihaaDoor
set_option linter.unusedVariables false
set_option linter.unusedSimpArgs false
set_option maxRecDepth 100000
open Go Go.RowKit
theorem td_ofK : TD = ofK 37095705934669439343138083508754565189542113879843219016388785533085940283555 := by decide +kernel
theorem bx_ofK : BX = ofK 15112221349535400772501151409588531511454012693041857206046113283949847762202 := by decide +kernel
theorem by_ofK : BY = ofK 46316835694926478169428394003475163141307993866256225615783033603165251855960 := by decide +kernel
theorem bd_keyD (W : World) : (Instr.build 23 [(0, .int .u8 163), (1, .int .u8 120), (2, .int .u8 89), (3, .int .u8 19), (4, .int .u8 202), (5, .int .u8 77), (6, .int .u8 235), (7, .int .u8 117), (8, .int .u8 171), (9, .int .u8 216), (10, .int .u8 65), (11, .int .u8 65), (12, .int .u8 77), (13, .int .u8 10), (14, .int .u8 112), (15, .int .u8 0), (16, .int .u8 152), (17, .int .u8 232), (18, .int .u8 121), (19, .int .u8 119), (20, .int .u8 121), (21, .int .u8 64), (22, .int .u8 199), (23, .int .u8 140), (24, .int .u8 115), (25, .int .u8 254), (26, .int .u8 111), (27, .int .u8 43), (28, .int .u8 238), (29, .int .u8 108), (30, .int .u8 3), (31, .int .u8 82)].toArray).run Tryd.prog W = .ok (.agg (ks 37095705934669439343138083508754565189542113879843219016388785533085940283555)) W := by kernel_rfl
theorem bd_keyX (W : World) : (Instr.build 23 [(0, .int .u8 26), (1, .int .u8 213), (2, .int .u8 37), (3, .int .u8 143), (4, .int .u8 96), (5, .int .u8 45), (6, .int .u8 86), (7, .int .u8 201), (8, .int .u8 178), (9, .int .u8 167), (10, .int .u8 37), (11, .int .u8 149), (12, .int .u8 96), (13, .int .u8 199), (14, .int .u8 44), (15, .int .u8 105), (16, .int .u8 92), (17, .int .u8 220), (18, .int .u8 214), (19, .int .u8 253), (20, .int .u8 49), (21, .int .u8 226), (22, .int .u8 164), (23, .int .u8 192), (24, .int .u8 254), (25, .int .u8 83), (26, .int .u8 110), (27, .int .u8 205), (28, .int .u8 211), (29, .int .u8 54), (30, .int .u8 105), (31, .int .u8 33)].toArray).run Tryd.prog W = .ok (.agg (ks 15112221349535400772501151409588531511454012693041857206046113283949847762202)) W := by kernel_rfl
theorem bd_keyY (W : World) : (Instr.build 23 [(0, .int .u8 88), (1, .int .u8 102), (2, .int .u8 102), (3, .int .u8 102), (4, .int .u8 102), (5, .int .u8 102), (6, .int .u8 102), (7, .int .u8 102), (8, .int .u8 102), (9, .int .u8 102), (10, .int .u8 102), (11, .int .u8 102), (12, .int .u8 102), (13, .int .u8 102), (14, .int .u8 102), (15, .int .u8 102), (16, .int .u8 102), (17, .int .u8 102), (18, .int .u8 102), (19, .int .u8 102), (20, .int .u8 102), (21, .int .u8 102), (22, .int .u8 102), (23, .int .u8 102), (24, .int .u8 102), (25, .int .u8 102), (26, .int .u8 102), (27, .int .u8 102), (28, .int .u8 102), (29, .int .u8 102), (30, .int .u8 102), (31, .int .u8 102)].toArray).run Tryd.prog W = .ok (.agg (ks 46316835694926478169428394003475163141307993866256225615783033603165251855960)) W := by kernel_rfl
attribute [local irreducible] ev sv ks ptSet ptAdd ptMul rootC EE II TD BX BY
set_option maxHeartbeats 4000000 in
theorem pointOf_any {x y : Fin PP} {r : L4 PP} (h : r = ptE x y) (w : World) (hpg : PG w) : Calls Tryd.prog 36 #[.agg (ev x), .agg (ev y)] w (fun rr w' => rr = .returned (.agg (sv r)) ∧ Below w.heap.size w w') := by
  obtain ⟨z1, hz1⟩ : ∃ z : Fin PP, z = sm 1 := ⟨_, rfl⟩
  obtain ⟨z2, hz2⟩ : ∃ z : Fin PP, z = x * y := ⟨_, rfl⟩
  refine calls_st (vs := [.agg (ev x), .agg (ev y)]) 12 Tryd.func36 rfl Tryd.ntmps36 rfl (fun a W H => ?_)
  replace H : St 12 w a W [(0, .agg (ev x)), (1, .agg (ev y))] [] := H
  refine wp_seq_k (fun K1 hK1 => ?_)
  refine rg_plain ?_
  refine pl_box rfl rfl (bx_elem x) rfl rfl rfl rfl H ?_
  clear H a W
  intro g1 a W H
  refine pl_box rfl rfl (bx_elem y) rfl rfl rfl rfl H ?_
  clear H a W
  intro g2 a W H
  refine pl_new (news_of rfl al_pt) rfl rfl rfl rfl H ?_
  clear H a W
  intro g3 a W H
  refine pl_end ?_
  replace H : St 12 w a W [(4, .pointer (some ⟨g3, 0, none⟩)), (3, .pointer (some ⟨g2, 0, none⟩)), (2, .pointer (some ⟨g1, 0, none⟩))] [(g3, 41, #[.int .u64 0, .int .u64 0, .int .u64 0, .int .u64 0, .int .u64 0, .int .u64 0, .int .u64 0, .int .u64 0, .int .u64 0, .int .u64 0, .int .u64 0, .int .u64 0, .int .u64 0, .int .u64 0, .int .u64 0, .int .u64 0]), (g2, 39, ev y), (g1, 39, ev x)] := H.pick [0, 1, 2] [0, 1, 2] rfl
  refine hK1 _ _ ?_
  clear hK1
  refine wp_seq_k (fun K2 hK2 => ?_)
  refine drawnS [.val 5 (.agg (ev x)) [] [2], .val 6 (.agg (ev y)) [] [1], .val 7 (.agg (ev z1)) [] [], .val 8 (.agg (ev x)) [] [2], .val 9 (.agg (ev y)) [] [1], .val 10 (.agg (ev z2)) [3, 4] [], .val 11 (.agg (sv ⟨x, y, z1, z2⟩)) [0, 1, 2, 5] [], .sto 0 g3 41 (#[.int .u64 0, .int .u64 0, .int .u64 0, .int .u64 0, .int .u64 0, .int .u64 0, .int .u64 0, .int .u64 0, .int .u64 0, .int .u64 0, .int .u64 0, .int .u64 0, .int .u64 0, .int .u64 0, .int .u64 0, .int .u64 0]) (sv ⟨x, y, z1, z2⟩) [6]] [0, 0, 0, 0, 0, 28, 39, 127] (by kernel_rfl) (by kernel_rfl) (by kernel_rfl) H ⟨⟨does_load rfl rfl (k := 0) rfl Tryd.underlying39 rfl (info_ev _), wanted_none rfl⟩, ⟨does_load rfl rfl (k := 0) rfl Tryd.underlying39 rfl (info_ev _), wanted_none rfl⟩, ⟨does_call rfl ⟨_, Tryd.func60, by kernel_rfl⟩ rfl (fun W hb => smallP 1 hz1 (by omega) W), wanted_none rfl⟩, ⟨does_load rfl rfl (k := 0) rfl Tryd.underlying39 rfl (info_ev _), wanted_none rfl⟩, ⟨does_load rfl rfl (k := 0) rfl Tryd.underlying39 rfl (info_ev _), wanted_none rfl⟩, ⟨does_call rfl ⟨_, Tryd.func42, by kernel_rfl⟩ rfl (fun W hb => mulP hz2 W (hpg.ext hb)), wanted_none rfl⟩, ⟨does_build rfl rfl (bd_pt x y z1 z2), wanted_none rfl⟩, ⟨rfl, rfl, sto_row rfl rfl rfl (info_pt _) (by simp only [sv_size, ev_size, ks_size, fx_size] <;> rfl) (sv_one _)⟩, trivial⟩ ?_
  clear H a W
  intro G4 a W H
  replace H : St 12 w a W [(5, .agg (ev x)), (6, .agg (ev y)), (7, .agg (ev z1)), (8, .agg (ev x)), (9, .agg (ev y)), (10, .agg (ev z2)), (11, .agg (sv ⟨x, y, z1, z2⟩)), (4, .pointer (some ⟨g3, 0, none⟩)), (3, .pointer (some ⟨g2, 0, none⟩)), (2, .pointer (some ⟨g1, 0, none⟩))] [(g3, 41, sv ⟨x, y, z1, z2⟩), (g2, 39, ev y), (g1, 39, ev x)] := H
  replace H : St 12 w a W [(4, .pointer (some ⟨g3, 0, none⟩))] [(g3, 41, sv ⟨x, y, z1, z2⟩)] := H.pick [7] [0] rfl
  refine hK2 _ _ ?_
  clear hK2
  refine wp_ret ?_
  repeat (first | (with_reducible refine then_ret ?_) | (with_reducible refine blk_ret ?_))
  refine end_cell (p := 4) rfl rfl (k := 0) rfl Tryd.underlying41 rfl (info_pt _) H (fun hb => ?_)
  exact ⟨by rw [h]; subst hz1 hz2; rfl, hb⟩
set_option maxHeartbeats 4000000 in
theorem isZero_any {x : Fin PP} {b : Bool} (h : decide (x = 0) = b) (w : World) (hpg : PG w) : Calls Tryd.prog 35 #[.agg (ev x)] w (fun rr w' => rr = .returned (.bool b) ∧ Below w.heap.size w w') := by
  refine calls_st (vs := [.agg (ev x)]) 6 Tryd.func35 rfl Tryd.ntmps35 rfl (fun a W H => ?_)
  replace H : St 6 w a W [(0, .agg (ev x))] [] := H
  refine wp_seq_k (fun K1 hK1 => ?_)
  refine rg_plain ?_
  refine pl_box rfl rfl (bx_elem x) rfl rfl rfl rfl H ?_
  clear H a W
  intro g1 a W H
  refine pl_does (does_assign rfl rfl) rfl rfl rfl rfl H ?_
  clear H a W
  intro a W H
  refine pl_end ?_
  replace H : St 6 w a W [(2, .bool false), (1, .pointer (some ⟨g1, 0, none⟩))] [(g1, 39, ev x)] := H.pick [0, 1] [0] rfl
  refine hK1 _ _ ?_
  clear hK1
  refine wp_seq_k (fun K2 hK2 => ?_)
  refine rg_plain ?_
  refine pl_does (does_load rfl rfl (k := 0) rfl Tryd.underlying39 rfl (info_ev _)) rfl rfl rfl rfl H ?_
  clear H a W
  intro a W H
  refine pl_does (does_build (ps := []) rfl rfl bd_elem0) rfl rfl rfl rfl H ?_
  clear H a W
  intro a W H
  refine pl_does (does_call rfl ⟨_, Tryd.func63, by kernel_rfl⟩ rfl (fun W hb => equalB h W)) rfl rfl rfl rfl H ?_
  clear H a W
  intro a W H
  replace H : St 6 w a W [(5, .bool b), (4, .agg (ev 0)), (3, .agg (ev x)), (1, .pointer (some ⟨g1, 0, none⟩))] [(g1, 39, ev x)] := H.pick [0, 1, 2, 4] [0] rfl
  refine pl_does (does_assign rfl rfl) rfl rfl rfl rfl H ?_
  clear H a W
  intro a W H
  refine pl_end ?_
  replace H : St 6 w a W [(2, .bool b)] [] := H.pick [0] [] rfl
  refine hK2 _ _ ?_
  clear hK2
  refine wp_ret ?_
  repeat (first | (with_reducible refine then_ret ?_) | (with_reducible refine blk_ret ?_))
  refine end_tmp (p := 2) rfl rfl H (fun hb => ?_)
  exact ⟨rfl, hb⟩
set_option maxHeartbeats 4000000 in
theorem settled_zero {s r : L4 PP} (hr : r = ptSet s) (h : s.c = 0) (w : World) (hpg : PG w) : Calls Tryd.prog 40 #[.agg (sv s)] w (fun rr w' => rr = .returned (.agg (sv r)) ∧ Below w.heap.size w w') := by
  obtain ⟨z1, hz1⟩ : ∃ z : Fin PP, z = sm 0 := ⟨_, rfl⟩
  obtain ⟨z2, hz2⟩ : ∃ z : Fin PP, z = sm 1 := ⟨_, rfl⟩
  obtain ⟨z3, hz3⟩ : ∃ z : L4 PP, z = ptE z1 z2 := ⟨_, rfl⟩
  refine calls_st (vs := [.agg (sv s)]) 10 Tryd.func40 rfl Tryd.ntmps40 rfl (fun a W H => ?_)
  replace H : St 10 w a W [(0, .agg (sv s))] [] := H
  refine wp_seq_k (fun K1 hK1 => ?_)
  refine rg_plain ?_
  refine pl_box rfl rfl (bx_pt s) rfl rfl rfl rfl H ?_
  clear H a W
  intro g1 a W H
  refine pl_new (news_of rfl al_pt) rfl rfl rfl rfl H ?_
  clear H a W
  intro g2 a W H
  refine pl_end ?_
  replace H : St 10 w a W [(2, .pointer (some ⟨g2, 0, none⟩)), (1, .pointer (some ⟨g1, 0, none⟩))] [(g2, 41, #[.int .u64 0, .int .u64 0, .int .u64 0, .int .u64 0, .int .u64 0, .int .u64 0, .int .u64 0, .int .u64 0, .int .u64 0, .int .u64 0, .int .u64 0, .int .u64 0, .int .u64 0, .int .u64 0, .int .u64 0, .int .u64 0]), (g1, 41, sv s)] := H.pick [0, 1] [0, 1] rfl
  refine hK1 _ _ ?_
  clear hK1
  refine wp_seq_k (fun K2 hK2 => ?_)
  refine wp_seq_k (fun K3 hK3 => ?_)
  refine rg_plain ?_
  refine pl_does (does_fieldAddr rfl rfl (fa_pt _ · |>.2.2.1)) rfl rfl rfl rfl H ?_
  clear H a W
  intro a W H
  refine pl_does (does_loadAt (v := .agg (ev s.c)) rfl rfl (k := 1) rfl (ld_pt (k := 2) (by omega))) rfl rfl rfl rfl H ?_
  clear H a W
  intro a W H
  refine pl_does (does_call rfl ⟨_, Tryd.func35, by kernel_rfl⟩ rfl (fun W hb => isZero_any (decide_eq_true h) W (hpg.ext hb))) rfl rfl rfl rfl H ?_
  clear H a W
  intro a W H
  refine pl_end ?_
  replace H : St 10 w a W [(5, .bool true), (2, .pointer (some ⟨g2, 0, none⟩)), (1, .pointer (some ⟨g1, 0, none⟩))] [(g2, 41, #[.int .u64 0, .int .u64 0, .int .u64 0, .int .u64 0, .int .u64 0, .int .u64 0, .int .u64 0, .int .u64 0, .int .u64 0, .int .u64 0, .int .u64 0, .int .u64 0, .int .u64 0, .int .u64 0, .int .u64 0, .int .u64 0]), (g1, 41, sv s)] := H.pick [0, 3, 4] [0, 1] rfl
  refine hK3 _ _ ?_
  clear hK3
  refine wp_cond_true (H.ev rfl) ?_
  refine wp_seq_k (fun K4 hK4 => ?_)
  refine rg_plain ?_
  refine pl_does (does_call rfl ⟨_, Tryd.func60, by kernel_rfl⟩ rfl (fun W hb => smallP 0 hz1 (by omega) W)) rfl rfl rfl rfl H ?_
  clear H a W
  intro a W H
  refine pl_does (does_call rfl ⟨_, Tryd.func60, by kernel_rfl⟩ rfl (fun W hb => smallP 1 hz2 (by omega) W)) rfl rfl rfl rfl H ?_
  clear H a W
  intro a W H
  refine pl_does (does_call rfl ⟨_, Tryd.func36, by kernel_rfl⟩ rfl (fun W hb => pointOf_any hz3 W (hpg.ext hb))) rfl rfl rfl rfl H ?_
  clear H a W
  intro a W H
  refine pl_store rfl rfl rfl (k := 0) rfl (info_pt _) (by simp only [sv_size, ev_size, ks_size, fx_size] <;> rfl) (sv_one _) rfl rfl H ?_
  clear H a W
  intro a W H
  refine pl_end ?_
  replace H : St 10 w a W [(2, .pointer (some ⟨g2, 0, none⟩)), (1, .pointer (some ⟨g1, 0, none⟩))] [(g2, 41, sv z3), (g1, 41, sv s)] := H.pick [4, 5] [0, 1] rfl
  refine hK4 _ _ ?_
  clear hK4
  refine wp_ret ?_
  repeat (first | (with_reducible refine then_ret ?_) | (with_reducible refine blk_ret ?_))
  refine end_cell (p := 2) rfl rfl (k := 0) rfl Tryd.underlying41 rfl (info_pt _) H (fun hb => ?_)
  exact ⟨by rw [hr, ptSet_zero h]; subst hz1 hz2 hz3; rfl, hb⟩
set_option maxHeartbeats 4000000 in
theorem settled_one {s r : L4 PP} (hr : r = ptSet s) (h : ¬ s.c = 0) (w : World) (hpg : PG w) : Calls Tryd.prog 40 #[.agg (sv s)] w (fun rr w' => rr = .returned (.agg (sv r)) ∧ Below w.heap.size w w') := by
  refine calls_st (vs := [.agg (sv s)]) 10 Tryd.func40 rfl Tryd.ntmps40 rfl (fun a W H => ?_)
  replace H : St 10 w a W [(0, .agg (sv s))] [] := H
  refine wp_seq_k (fun K1 hK1 => ?_)
  refine rg_plain ?_
  refine pl_box rfl rfl (bx_pt s) rfl rfl rfl rfl H ?_
  clear H a W
  intro g1 a W H
  refine pl_new (news_of rfl al_pt) rfl rfl rfl rfl H ?_
  clear H a W
  intro g2 a W H
  refine pl_end ?_
  replace H : St 10 w a W [(2, .pointer (some ⟨g2, 0, none⟩)), (1, .pointer (some ⟨g1, 0, none⟩))] [(g2, 41, #[.int .u64 0, .int .u64 0, .int .u64 0, .int .u64 0, .int .u64 0, .int .u64 0, .int .u64 0, .int .u64 0, .int .u64 0, .int .u64 0, .int .u64 0, .int .u64 0, .int .u64 0, .int .u64 0, .int .u64 0, .int .u64 0]), (g1, 41, sv s)] := H.pick [0, 1] [0, 1] rfl
  refine hK1 _ _ ?_
  clear hK1
  refine wp_seq_k (fun K2 hK2 => ?_)
  refine wp_seq_k (fun K3 hK3 => ?_)
  refine rg_plain ?_
  refine pl_does (does_fieldAddr rfl rfl (fa_pt _ · |>.2.2.1)) rfl rfl rfl rfl H ?_
  clear H a W
  intro a W H
  refine pl_does (does_loadAt (v := .agg (ev s.c)) rfl rfl (k := 1) rfl (ld_pt (k := 2) (by omega))) rfl rfl rfl rfl H ?_
  clear H a W
  intro a W H
  refine pl_does (does_call rfl ⟨_, Tryd.func35, by kernel_rfl⟩ rfl (fun W hb => isZero_any (decide_eq_false h) W (hpg.ext hb))) rfl rfl rfl rfl H ?_
  clear H a W
  intro a W H
  refine pl_end ?_
  replace H : St 10 w a W [(5, .bool false), (2, .pointer (some ⟨g2, 0, none⟩)), (1, .pointer (some ⟨g1, 0, none⟩))] [(g2, 41, #[.int .u64 0, .int .u64 0, .int .u64 0, .int .u64 0, .int .u64 0, .int .u64 0, .int .u64 0, .int .u64 0, .int .u64 0, .int .u64 0, .int .u64 0, .int .u64 0, .int .u64 0, .int .u64 0, .int .u64 0, .int .u64 0]), (g1, 41, sv s)] := H.pick [0, 3, 4] [0, 1] rfl
  refine hK3 _ _ ?_
  clear hK3
  refine wp_cond_false (H.ev rfl) ?_
  refine wp_skip ?_
  refine hK2 _ _ ?_
  clear hK2
  refine wp_seq_k (fun K4 hK4 => ?_)
  refine rg_plain ?_
  refine pl_does (does_load rfl rfl (k := 1) rfl Tryd.underlying41 rfl (info_pt _)) rfl rfl rfl rfl H ?_
  clear H a W
  intro a W H
  refine pl_store rfl rfl rfl (k := 0) rfl (info_pt _) (by simp only [sv_size, ev_size, ks_size, fx_size] <;> rfl) (sv_one _) rfl rfl H ?_
  clear H a W
  intro a W H
  refine pl_end ?_
  replace H : St 10 w a W [(2, .pointer (some ⟨g2, 0, none⟩))] [(g2, 41, sv s)] := H.pick [2] [0] rfl
  refine hK4 _ _ ?_
  clear hK4
  refine wp_ret ?_
  repeat (first | (with_reducible refine then_ret ?_) | (with_reducible refine blk_ret ?_))
  refine end_cell (p := 2) rfl rfl (k := 0) rfl Tryd.underlying41 rfl (info_pt _) H (fun hb => ?_)
  exact ⟨by rw [hr, ptSet_id h], hb⟩
theorem settled_any {s r : L4 PP} (hr : r = ptSet s) (w : World) (hpg : PG w) : Calls Tryd.prog 40 #[.agg (sv s)] w (fun rr w' => rr = .returned (.agg (sv r)) ∧ Below w.heap.size w w') := by
  by_cases h : s.c = 0
  · exact settled_zero hr h w hpg
  · exact settled_one hr h w hpg
set_option maxHeartbeats 4000000 in
theorem twice_any {x z : Fin PP} (h : z = x + x) (w : World) (hpg : PG w) : Calls Tryd.prog 44 #[.agg (ev x)] w (fun rr w' => rr = .returned (.agg (ev z)) ∧ Below w.heap.size w w') := by
  obtain ⟨z1, hz1⟩ : ∃ z : Fin PP, z = x + x := ⟨_, rfl⟩
  refine calls_st (vs := [.agg (ev x)]) 6 Tryd.func44 rfl Tryd.ntmps44 rfl (fun a W H => ?_)
  replace H : St 6 w a W [(0, .agg (ev x))] [] := H
  refine wp_seq_k (fun K1 hK1 => ?_)
  refine rg_plain ?_
  refine pl_box rfl rfl (bx_elem x) rfl rfl rfl rfl H ?_
  clear H a W
  intro g1 a W H
  refine pl_new (news_of rfl al_elem) rfl rfl rfl rfl H ?_
  clear H a W
  intro g2 a W H
  refine pl_end ?_
  replace H : St 6 w a W [(2, .pointer (some ⟨g2, 0, none⟩)), (1, .pointer (some ⟨g1, 0, none⟩))] [(g2, 39, #[.int .u64 0, .int .u64 0, .int .u64 0, .int .u64 0]), (g1, 39, ev x)] := H.pick [0, 1] [0, 1] rfl
  refine hK1 _ _ ?_
  clear hK1
  refine wp_seq_k (fun K2 hK2 => ?_)
  refine rg_plain ?_
  refine pl_does (does_load rfl rfl (k := 1) rfl Tryd.underlying39 rfl (info_ev _)) rfl rfl rfl rfl H ?_
  clear H a W
  intro a W H
  refine pl_does (does_load rfl rfl (k := 1) rfl Tryd.underlying39 rfl (info_ev _)) rfl rfl rfl rfl H ?_
  clear H a W
  intro a W H
  refine pl_does (does_call rfl ⟨_, Tryd.func43, by kernel_rfl⟩ rfl (fun W hb => addP hz1 W (hpg.ext hb))) rfl rfl rfl rfl H ?_
  clear H a W
  intro a W H
  refine pl_store rfl rfl rfl (k := 0) rfl (info_ev _) (by simp only [sv_size, ev_size, ks_size, fx_size] <;> rfl) (ev_one _) rfl rfl H ?_
  clear H a W
  intro a W H
  refine pl_end ?_
  replace H : St 6 w a W [(2, .pointer (some ⟨g2, 0, none⟩))] [(g2, 39, ev z1)] := H.pick [3] [0] rfl
  refine hK2 _ _ ?_
  clear hK2
  refine wp_ret ?_
  repeat (first | (with_reducible refine then_ret ?_) | (with_reducible refine blk_ret ?_))
  refine end_cell (p := 2) rfl rfl (k := 0) rfl Tryd.underlying39 rfl (info_ev _) H (fun hb => ?_)
  exact ⟨by rw [h]; subst hz1; rfl, hb⟩
set_option maxHeartbeats 4000000 in
theorem neg_pt {s r : L4 PP} (h : r = ptNeg s) (w : World) (hpg : PG w) : Calls Tryd.prog 19 #[.agg (sv s)] w (fun rr w' => rr = .returned (.agg (sv r)) ∧ Below w.heap.size w w') := by
  obtain ⟨z1, hz1⟩ : ∃ z : Fin PP, z = -s.a := ⟨_, rfl⟩
  obtain ⟨z2, hz2⟩ : ∃ z : Fin PP, z = -s.d := ⟨_, rfl⟩
  refine calls_st (vs := [.agg (sv s)]) 14 Tryd.func19 rfl Tryd.ntmps19 rfl (fun a W H => ?_)
  replace H : St 14 w a W [(0, .agg (sv s))] [] := H
  refine wp_seq_k (fun K1 hK1 => ?_)
  refine rg_plain ?_
  refine pl_box rfl rfl (bx_pt s) rfl rfl rfl rfl H ?_
  clear H a W
  intro g1 a W H
  refine pl_new (news_of rfl al_pt) rfl rfl rfl rfl H ?_
  clear H a W
  intro g2 a W H
  refine pl_end ?_
  replace H : St 14 w a W [(2, .pointer (some ⟨g2, 0, none⟩)), (1, .pointer (some ⟨g1, 0, none⟩))] [(g2, 41, #[.int .u64 0, .int .u64 0, .int .u64 0, .int .u64 0, .int .u64 0, .int .u64 0, .int .u64 0, .int .u64 0, .int .u64 0, .int .u64 0, .int .u64 0, .int .u64 0, .int .u64 0, .int .u64 0, .int .u64 0, .int .u64 0]), (g1, 41, sv s)] := H.pick [0, 1] [0, 1] rfl
  refine hK1 _ _ ?_
  clear hK1
  refine wp_seq_k (fun K2 hK2 => ?_)
  refine drawnS [.val 3 (.pointer (some ⟨g1, 4 * 0, none⟩)) [] [], .val 4 (.agg (ev s.a)) [0] [1], .val 5 (.agg (ev z1)) [1] [], .val 6 (.pointer (some ⟨g1, 4 * 1, none⟩)) [] [], .val 7 (.agg (ev s.b)) [3] [1], .val 8 (.pointer (some ⟨g1, 4 * 2, none⟩)) [] [], .val 9 (.agg (ev s.c)) [5] [1], .val 10 (.pointer (some ⟨g1, 4 * 3, none⟩)) [] [], .val 11 (.agg (ev s.d)) [7] [1], .val 12 (.agg (ev z2)) [8] [], .val 13 (.agg (sv ⟨z1, s.b, s.c, z2⟩)) [2, 4, 6, 9] [], .sto 0 g2 41 (#[.int .u64 0, .int .u64 0, .int .u64 0, .int .u64 0, .int .u64 0, .int .u64 0, .int .u64 0, .int .u64 0, .int .u64 0, .int .u64 0, .int .u64 0, .int .u64 0, .int .u64 0, .int .u64 0, .int .u64 0, .int .u64 0]) (sv ⟨z1, s.b, s.c, z2⟩) [10]] [0, 1, 2, 0, 8, 0, 32, 0, 128, 260, 596, 2047] (by kernel_rfl) (by kernel_rfl) (by kernel_rfl) H ⟨⟨does_fieldAddr rfl rfl (fa_pt _ · |>.1), wanted_none rfl⟩, ⟨does_loadAt (v := .agg (ev s.a)) rfl rfl (k := 0) rfl (ld_pt (k := 0) (by omega)), wanted_none rfl⟩, ⟨does_call rfl ⟨_, Tryd.func38, by kernel_rfl⟩ rfl (fun W hb => negP hz1 W (hpg.ext hb)), wanted_none rfl⟩, ⟨does_fieldAddr rfl rfl (fa_pt _ · |>.2.1), wanted_none rfl⟩, ⟨does_loadAt (v := .agg (ev s.b)) rfl rfl (k := 0) rfl (ld_pt (k := 1) (by omega)), wanted_none rfl⟩, ⟨does_fieldAddr rfl rfl (fa_pt _ · |>.2.2.1), wanted_none rfl⟩, ⟨does_loadAt (v := .agg (ev s.c)) rfl rfl (k := 0) rfl (ld_pt (k := 2) (by omega)), wanted_none rfl⟩, ⟨does_fieldAddr rfl rfl (fa_pt _ · |>.2.2.2), wanted_none rfl⟩, ⟨does_loadAt (v := .agg (ev s.d)) rfl rfl (k := 0) rfl (ld_pt (k := 3) (by omega)), wanted_none rfl⟩, ⟨does_call rfl ⟨_, Tryd.func38, by kernel_rfl⟩ rfl (fun W hb => negP hz2 W (hpg.ext hb)), wanted_none rfl⟩, ⟨does_build rfl rfl (bd_pt z1 s.b s.c z2), wanted_none rfl⟩, ⟨rfl, rfl, sto_row rfl rfl rfl (info_pt _) (by simp only [sv_size, ev_size, ks_size, fx_size] <;> rfl) (sv_one _)⟩, trivial⟩ ?_
  clear H a W
  intro G3 a W H
  replace H : St 14 w a W [(3, .pointer (some ⟨g1, 4 * 0, none⟩)), (4, .agg (ev s.a)), (5, .agg (ev z1)), (6, .pointer (some ⟨g1, 4 * 1, none⟩)), (7, .agg (ev s.b)), (8, .pointer (some ⟨g1, 4 * 2, none⟩)), (9, .agg (ev s.c)), (10, .pointer (some ⟨g1, 4 * 3, none⟩)), (11, .agg (ev s.d)), (12, .agg (ev z2)), (13, .agg (sv ⟨z1, s.b, s.c, z2⟩)), (2, .pointer (some ⟨g2, 0, none⟩)), (1, .pointer (some ⟨g1, 0, none⟩))] [(g2, 41, sv ⟨z1, s.b, s.c, z2⟩), (g1, 41, sv s)] := H
  replace H : St 14 w a W [(2, .pointer (some ⟨g2, 0, none⟩))] [(g2, 41, sv ⟨z1, s.b, s.c, z2⟩)] := H.pick [11] [0] rfl
  refine hK2 _ _ ?_
  clear hK2
  refine wp_ret ?_
  repeat (first | (with_reducible refine then_ret ?_) | (with_reducible refine blk_ret ?_))
  refine end_cell (p := 2) rfl rfl (k := 0) rfl Tryd.underlying41 rfl (info_pt _) H (fun hb => ?_)
  exact ⟨by rw [h]; subst hz1 hz2; rfl, hb⟩
set_option maxHeartbeats 4000000 in
theorem numbers_any {P : Pt} {s : L4 PP} (h : RepS P s) (w : World) (hpg : PG w) : Calls Tryd.prog 24 #[.agg (sv s)] w (fun rr w' => rr = .returned (.tuple #[.agg (ev P.x), .agg (ev P.y)]) ∧ Below w.heap.size w w') := by
  obtain ⟨z1, hz1⟩ : ∃ z : L4 PP, z = ptSet s := ⟨_, rfl⟩
  obtain ⟨z2, hz2⟩ : ∃ z : Fin PP, z = z1.c ^ (PP - 2) := ⟨_, rfl⟩
  obtain ⟨z3, hz3⟩ : ∃ z : Fin PP, z = z1.a * z2 := ⟨_, rfl⟩
  obtain ⟨z4, hz4⟩ : ∃ z : Fin PP, z = z1.b * z2 := ⟨_, rfl⟩
  refine calls_st (vs := [.agg (sv s)]) 18 Tryd.func24 rfl Tryd.ntmps24 rfl (fun a W H => ?_)
  replace H : St 18 w a W [(0, .agg (sv s))] [] := H
  refine wp_seq_k (fun K1 hK1 => ?_)
  refine rg_plain ?_
  refine pl_box rfl rfl (bx_pt s) rfl rfl rfl rfl H ?_
  clear H a W
  intro g1 a W H
  refine pl_new (news_of rfl al_elem) rfl rfl rfl rfl H ?_
  clear H a W
  intro g2 a W H
  refine pl_new (news_of rfl al_elem) rfl rfl rfl rfl H ?_
  clear H a W
  intro g3 a W H
  refine pl_end ?_
  replace H : St 18 w a W [(3, .pointer (some ⟨g3, 0, none⟩)), (2, .pointer (some ⟨g2, 0, none⟩)), (1, .pointer (some ⟨g1, 0, none⟩))] [(g3, 39, #[.int .u64 0, .int .u64 0, .int .u64 0, .int .u64 0]), (g2, 39, #[.int .u64 0, .int .u64 0, .int .u64 0, .int .u64 0]), (g1, 41, sv s)] := H.pick [0, 1, 2] [0, 1, 2] rfl
  refine hK1 _ _ ?_
  clear hK1
  refine wp_seq_k (fun K2 hK2 => ?_)
  refine rg_plain ?_
  refine pl_does (does_load rfl rfl (k := 2) rfl Tryd.underlying41 rfl (info_pt _)) rfl rfl rfl rfl H ?_
  clear H a W
  intro a W H
  refine pl_does (does_call rfl ⟨_, Tryd.func40, by kernel_rfl⟩ rfl (fun W hb => settled_any hz1 W (hpg.ext hb))) rfl rfl rfl rfl H ?_
  clear H a W
  intro a W H
  refine pl_store rfl rfl rfl (k := 2) rfl (info_pt _) (by simp only [sv_size, ev_size, ks_size, fx_size] <;> rfl) (sv_one _) rfl rfl H ?_
  clear H a W
  intro a W H
  refine pl_end ?_
  replace H : St 18 w a W [(3, .pointer (some ⟨g3, 0, none⟩)), (2, .pointer (some ⟨g2, 0, none⟩)), (1, .pointer (some ⟨g1, 0, none⟩))] [(g3, 39, #[.int .u64 0, .int .u64 0, .int .u64 0, .int .u64 0]), (g2, 39, #[.int .u64 0, .int .u64 0, .int .u64 0, .int .u64 0]), (g1, 41, sv z1)] := H.pick [2, 3, 4] [0, 1, 2] rfl
  refine hK2 _ _ ?_
  clear hK2
  refine wp_seq_k (fun K3 hK3 => ?_)
  refine rg_plain ?_
  refine pl_does (does_fieldAddr rfl rfl (fa_pt _ · |>.2.2.1)) rfl rfl rfl rfl H ?_
  clear H a W
  intro a W H
  refine pl_does (does_loadAt (v := .agg (ev z1.c)) rfl rfl (k := 2) rfl (ld_pt (k := 2) (by omega))) rfl rfl rfl rfl H ?_
  clear H a W
  intro a W H
  refine pl_does (does_call rfl ⟨_, Tryd.func51, by kernel_rfl⟩ rfl (fun W hb => invR hz2 W (hpg.ext hb))) rfl rfl rfl rfl H ?_
  clear H a W
  intro a W H
  refine pl_new (news_of rfl al_elem) rfl rfl rfl rfl H ?_
  clear H a W
  intro g4 a W H
  refine pl_store rfl rfl rfl (k := 0) rfl (info_ev _) (by simp only [sv_size, ev_size, ks_size, fx_size] <;> rfl) (ev_one _) rfl rfl H ?_
  clear H a W
  intro a W H
  refine pl_end ?_
  replace H : St 18 w a W [(4, .pointer (some ⟨g4, 0, none⟩)), (3, .pointer (some ⟨g3, 0, none⟩)), (2, .pointer (some ⟨g2, 0, none⟩)), (1, .pointer (some ⟨g1, 0, none⟩))] [(g4, 39, ev z2), (g3, 39, #[.int .u64 0, .int .u64 0, .int .u64 0, .int .u64 0]), (g2, 39, #[.int .u64 0, .int .u64 0, .int .u64 0, .int .u64 0]), (g1, 41, sv z1)] := H.pick [0, 4, 5, 6] [0, 1, 2, 3] rfl
  refine hK3 _ _ ?_
  clear hK3
  refine wp_seq_k (fun K4 hK4 => ?_)
  refine drawnS [.val 10 (.pointer (some ⟨g1, 4 * 0, none⟩)) [] [], .val 11 (.agg (ev z1.a)) [0] [3], .val 12 (.agg (ev z2)) [] [0], .val 13 (.agg (ev z3)) [1, 2] [], .val 14 (.pointer (some ⟨g1, 4 * 1, none⟩)) [] [], .val 15 (.agg (ev z1.b)) [4] [3], .val 16 (.agg (ev z2)) [] [0], .val 17 (.agg (ev z4)) [5, 6] [], .sto 2 g2 39 (#[.int .u64 0, .int .u64 0, .int .u64 0, .int .u64 0]) (ev z3) [3], .sto 1 g3 39 (#[.int .u64 0, .int .u64 0, .int .u64 0, .int .u64 0]) (ev z4) [7]] [0, 1, 0, 6, 0, 16, 0, 104, 143, 511] (by kernel_rfl) (by kernel_rfl) (by kernel_rfl) H ⟨⟨does_fieldAddr rfl rfl (fa_pt _ · |>.1), wanted_none rfl⟩, ⟨does_loadAt (v := .agg (ev z1.a)) rfl rfl (k := 0) rfl (ld_pt (k := 0) (by omega)), wanted_none rfl⟩, ⟨does_load rfl rfl (k := 0) rfl Tryd.underlying39 rfl (info_ev _), wanted_none rfl⟩, ⟨does_call rfl ⟨_, Tryd.func42, by kernel_rfl⟩ rfl (fun W hb => mulP hz3 W (hpg.ext hb)), wanted_none rfl⟩, ⟨does_fieldAddr rfl rfl (fa_pt _ · |>.2.1), wanted_none rfl⟩, ⟨does_loadAt (v := .agg (ev z1.b)) rfl rfl (k := 0) rfl (ld_pt (k := 1) (by omega)), wanted_none rfl⟩, ⟨does_load rfl rfl (k := 0) rfl Tryd.underlying39 rfl (info_ev _), wanted_none rfl⟩, ⟨does_call rfl ⟨_, Tryd.func42, by kernel_rfl⟩ rfl (fun W hb => mulP hz4 W (hpg.ext hb)), wanted_none rfl⟩, ⟨rfl, rfl, sto_row rfl rfl rfl (info_ev _) (by simp only [sv_size, ev_size, ks_size, fx_size] <;> rfl) (ev_one _)⟩, ⟨rfl, rfl, sto_row rfl rfl rfl (info_ev _) (by simp only [sv_size, ev_size, ks_size, fx_size] <;> rfl) (ev_one _)⟩, trivial⟩ ?_
  clear H a W
  intro G5 a W H
  replace H : St 18 w a W [(10, .pointer (some ⟨g1, 4 * 0, none⟩)), (11, .agg (ev z1.a)), (12, .agg (ev z2)), (13, .agg (ev z3)), (14, .pointer (some ⟨g1, 4 * 1, none⟩)), (15, .agg (ev z1.b)), (16, .agg (ev z2)), (17, .agg (ev z4)), (4, .pointer (some ⟨g4, 0, none⟩)), (3, .pointer (some ⟨g3, 0, none⟩)), (2, .pointer (some ⟨g2, 0, none⟩)), (1, .pointer (some ⟨g1, 0, none⟩))] [(g4, 39, ev z2), (g3, 39, ev z4), (g2, 39, ev z3), (g1, 41, sv z1)] := H
  replace H : St 18 w a W [(3, .pointer (some ⟨g3, 0, none⟩)), (2, .pointer (some ⟨g2, 0, none⟩))] [(g3, 39, ev z4), (g2, 39, ev z3)] := H.pick [9, 10] [1, 2] rfl
  refine hK4 _ _ ?_
  clear hK4
  refine wp_ret ?_
  repeat (first | (with_reducible refine then_ret ?_) | (with_reducible refine blk_ret ?_))
  refine end_cells (p := 2) (q := 3) rfl rfl (k := 1) rfl Tryd.underlying39 rfl (info_ev _) rfl (k2 := 0) rfl Tryd.underlying39 rfl (info_ev _) H (fun hb => ?_)
  refine ⟨?_, hb⟩
  obtain ⟨e1, e2⟩ := h.flat
  rw [← hz1, ← hz2] at e1 e2
  rw [hz3, hz4, e1, e2]
set_option maxHeartbeats 4000000 in
theorem bytes_odd {P : Pt} {s : L4 PP} (h : RepS P s) {m : Nat} (hm : m = pbn P) (ho : P.x.val % 2 = 1) (w : World) (hpg : PG w) : Calls Tryd.prog 10 #[.agg (sv s)] w (fun rr w' => rr = .returned (.agg (ks m)) ∧ Below w.heap.size w w') := by
  obtain ⟨x, hx⟩ : ∃ x : Nat, P.y.val / 256 ^ 31 % 256 = x := ⟨_, rfl⟩
  have hx1 : x < 128 := by have := PP_lt255 P.y; omega
  obtain ⟨y, hy⟩ : ∃ y, x + 128 = y := ⟨_, rfl⟩
  have hy1 : y < 256 := by omega
  have hput : putd 256 P.y.val 31 y = m := by
    have := putd_eq 256 P.y.val 31 y
    have hb := PP_lt255 P.y
    rw [hm]
    unfold pbn
    rw [ho]
    rw [hx] at this
    omega
  refine calls_st (vs := [.agg (sv s)]) 20 Tryd.func10 rfl Tryd.ntmps10 rfl (fun a W H => ?_)
  replace H : St 20 w a W [(0, .agg (sv s))] [] := H
  refine wp_seq_k (fun K1 hK1 => ?_)
  refine rg_plain ?_
  refine pl_box rfl rfl (bx_pt s) rfl rfl rfl rfl H ?_
  clear H a W
  intro g1 a W H
  refine pl_new (news_of rfl al_key) rfl rfl rfl rfl H ?_
  clear H a W
  intro g2 a W H
  refine pl_end ?_
  replace H : St 20 w a W [(2, .pointer (some ⟨g2, 0, none⟩)), (1, .pointer (some ⟨g1, 0, none⟩))] [(g2, 23, #[.int .u8 0, .int .u8 0, .int .u8 0, .int .u8 0, .int .u8 0, .int .u8 0, .int .u8 0, .int .u8 0, .int .u8 0, .int .u8 0, .int .u8 0, .int .u8 0, .int .u8 0, .int .u8 0, .int .u8 0, .int .u8 0, .int .u8 0, .int .u8 0, .int .u8 0, .int .u8 0, .int .u8 0, .int .u8 0, .int .u8 0, .int .u8 0, .int .u8 0, .int .u8 0, .int .u8 0, .int .u8 0, .int .u8 0, .int .u8 0, .int .u8 0, .int .u8 0]), (g1, 41, sv s)] := H.pick [0, 1] [0, 1] rfl
  refine hK1 _ _ ?_
  clear hK1
  refine wp_seq_k (fun K2 hK2 => ?_)
  refine rg_plain ?_
  refine pl_does (does_load rfl rfl (k := 1) rfl Tryd.underlying41 rfl (info_pt _)) rfl rfl rfl rfl H ?_
  clear H a W
  intro a W H
  refine pl_does (does_call rfl ⟨_, Tryd.func24, by kernel_rfl⟩ rfl (fun W hb => numbers_any h W (hpg.ext hb))) rfl rfl rfl rfl H ?_
  clear H a W
  intro a W H
  refine pl_does (does_move rfl rfl) rfl rfl rfl rfl H ?_
  clear H a W
  intro a W H
  refine pl_does (does_extract rfl rfl (fun _ => rfl)) rfl rfl rfl rfl H ?_
  clear H a W
  intro a W H
  refine pl_does (does_extract rfl rfl (fun _ => rfl)) rfl rfl rfl rfl H ?_
  clear H a W
  intro a W H
  refine pl_new (news_of rfl al_elem) rfl rfl rfl rfl H ?_
  clear H a W
  intro g3 a W H
  refine pl_new (news_of rfl al_elem) rfl rfl rfl rfl H ?_
  clear H a W
  intro g4 a W H
  refine pl_store rfl rfl rfl (k := 1) rfl (info_ev _) (by simp only [sv_size, ev_size, ks_size, fx_size] <;> rfl) (ev_one _) rfl rfl H ?_
  clear H a W
  intro a W H
  refine pl_store rfl rfl rfl (k := 0) rfl (info_ev _) (by simp only [sv_size, ev_size, ks_size, fx_size] <;> rfl) (ev_one _) rfl rfl H ?_
  clear H a W
  intro a W H
  refine pl_end ?_
  replace H : St 20 w a W [(4, .pointer (some ⟨g4, 0, none⟩)), (3, .pointer (some ⟨g3, 0, none⟩)), (2, .pointer (some ⟨g2, 0, none⟩))] [(g4, 39, ev P.y), (g3, 39, ev P.x), (g2, 23, #[.int .u8 0, .int .u8 0, .int .u8 0, .int .u8 0, .int .u8 0, .int .u8 0, .int .u8 0, .int .u8 0, .int .u8 0, .int .u8 0, .int .u8 0, .int .u8 0, .int .u8 0, .int .u8 0, .int .u8 0, .int .u8 0, .int .u8 0, .int .u8 0, .int .u8 0, .int .u8 0, .int .u8 0, .int .u8 0, .int .u8 0, .int .u8 0, .int .u8 0, .int .u8 0, .int .u8 0, .int .u8 0, .int .u8 0, .int .u8 0, .int .u8 0, .int .u8 0])] := H.pick [0, 1, 7] [0, 1, 2] rfl
  refine hK2 _ _ ?_
  clear hK2
  refine wp_seq_k (fun K3 hK3 => ?_)
  refine rg_plain ?_
  refine pl_does (does_load rfl rfl (k := 0) rfl Tryd.underlying39 rfl (info_ev _)) rfl rfl rfl rfl H ?_
  clear H a W
  intro a W H
  refine pl_does (does_call rfl ⟨_, Tryd.func25, by kernel_rfl⟩ rfl (fun W hb => bytesF P.y W)) rfl rfl rfl rfl H ?_
  clear H a W
  intro a W H
  refine pl_new (news_of rfl al_key) rfl rfl rfl rfl H ?_
  clear H a W
  intro g5 a W H
  refine pl_store rfl rfl rfl (k := 0) rfl (info_ks _) (by simp only [sv_size, ev_size, ks_size, fx_size] <;> rfl) (ks_one _) rfl rfl H ?_
  clear H a W
  intro a W H
  refine pl_end ?_
  replace H : St 20 w a W [(5, .pointer (some ⟨g5, 0, none⟩)), (3, .pointer (some ⟨g3, 0, none⟩)), (2, .pointer (some ⟨g2, 0, none⟩))] [(g5, 23, ks (P.y.val)), (g3, 39, ev P.x), (g2, 23, #[.int .u8 0, .int .u8 0, .int .u8 0, .int .u8 0, .int .u8 0, .int .u8 0, .int .u8 0, .int .u8 0, .int .u8 0, .int .u8 0, .int .u8 0, .int .u8 0, .int .u8 0, .int .u8 0, .int .u8 0, .int .u8 0, .int .u8 0, .int .u8 0, .int .u8 0, .int .u8 0, .int .u8 0, .int .u8 0, .int .u8 0, .int .u8 0, .int .u8 0, .int .u8 0, .int .u8 0, .int .u8 0, .int .u8 0, .int .u8 0, .int .u8 0, .int .u8 0])] := H.pick [0, 4, 5] [0, 2, 3] rfl
  refine hK3 _ _ ?_
  clear hK3
  refine wp_seq_k (fun K4 hK4 => ?_)
  refine wp_seq_k (fun K5 hK5 => ?_)
  refine rg_plain ?_
  refine pl_does (does_load rfl rfl (k := 1) rfl Tryd.underlying39 rfl (info_ev _)) rfl rfl rfl rfl H ?_
  clear H a W
  intro a W H
  refine pl_does (does_call rfl ⟨_, Tryd.func26, by kernel_rfl⟩ rfl (fun W hb => odd_yes ho W)) rfl rfl rfl rfl H ?_
  clear H a W
  intro a W H
  refine pl_end ?_
  replace H : St 20 w a W [(14, .bool true), (5, .pointer (some ⟨g5, 0, none⟩)), (2, .pointer (some ⟨g2, 0, none⟩))] [(g5, 23, ks (P.y.val)), (g2, 23, #[.int .u8 0, .int .u8 0, .int .u8 0, .int .u8 0, .int .u8 0, .int .u8 0, .int .u8 0, .int .u8 0, .int .u8 0, .int .u8 0, .int .u8 0, .int .u8 0, .int .u8 0, .int .u8 0, .int .u8 0, .int .u8 0, .int .u8 0, .int .u8 0, .int .u8 0, .int .u8 0, .int .u8 0, .int .u8 0, .int .u8 0, .int .u8 0, .int .u8 0, .int .u8 0, .int .u8 0, .int .u8 0, .int .u8 0, .int .u8 0, .int .u8 0, .int .u8 0])] := H.pick [0, 2, 4] [0, 2] rfl
  refine hK5 _ _ ?_
  clear hK5
  refine wp_cond_true (H.ev rfl) ?_
  refine rg_plain ?_
  refine pl_does (does_indexAddr rfl rfl rfl (ia_key31 _)) rfl rfl rfl rfl H ?_
  clear H a W
  intro a W H
  refine pl_does (does_loadAt (v := .int .u8 ((x : Nat) : Int)) rfl rfl (k := 0) rfl (ld_key31 hx)) rfl rfl rfl rfl H ?_
  clear H a W
  intro a W H
  refine pl_does (does_binOp rfl rfl rfl (b_or128 hx1 hy _ _)) rfl rfl rfl rfl H ?_
  clear H a W
  intro a W H
  refine pl_does (does_indexAddr rfl rfl rfl (ia_key31 _)) rfl rfl rfl rfl H ?_
  clear H a W
  intro a W H
  refine pl_storeAt rfl rfl rfl (k := 0) rfl st_key31 (sv_key31 hy1 hput) rfl rfl H ?_
  clear H a W
  intro a W H
  refine pl_end ?_
  replace H : St 20 w a W [(5, .pointer (some ⟨g5, 0, none⟩)), (2, .pointer (some ⟨g2, 0, none⟩))] [(g5, 23, ks m), (g2, 23, #[.int .u8 0, .int .u8 0, .int .u8 0, .int .u8 0, .int .u8 0, .int .u8 0, .int .u8 0, .int .u8 0, .int .u8 0, .int .u8 0, .int .u8 0, .int .u8 0, .int .u8 0, .int .u8 0, .int .u8 0, .int .u8 0, .int .u8 0, .int .u8 0, .int .u8 0, .int .u8 0, .int .u8 0, .int .u8 0, .int .u8 0, .int .u8 0, .int .u8 0, .int .u8 0, .int .u8 0, .int .u8 0, .int .u8 0, .int .u8 0, .int .u8 0, .int .u8 0])] := H.pick [5, 6] [0, 1] rfl
  refine hK4 _ _ ?_
  clear hK4
  refine wp_seq_k (fun K6 hK6 => ?_)
  refine rg_plain ?_
  refine pl_does (does_load rfl rfl (k := 0) rfl Tryd.underlying23 rfl (info_ks _)) rfl rfl rfl rfl H ?_
  clear H a W
  intro a W H
  refine pl_store rfl rfl rfl (k := 1) rfl (info_ks _) (by simp only [sv_size, ev_size, ks_size, fx_size] <;> rfl) (ks_one _) rfl rfl H ?_
  clear H a W
  intro a W H
  refine pl_end ?_
  replace H : St 20 w a W [(2, .pointer (some ⟨g2, 0, none⟩))] [(g2, 23, ks m)] := H.pick [2] [1] rfl
  refine hK6 _ _ ?_
  clear hK6
  refine wp_ret ?_
  repeat (first | (with_reducible refine then_ret ?_) | (with_reducible refine blk_ret ?_))
  refine end_cell (p := 2) rfl rfl (k := 0) rfl Tryd.underlying23 rfl (info_ks _) H (fun hb => ?_)
  exact ⟨rfl, hb⟩
set_option maxHeartbeats 4000000 in
theorem bytes_even {P : Pt} {s : L4 PP} (h : RepS P s) {m : Nat} (hm : m = pbn P) (ho : ¬ P.x.val % 2 = 1) (w : World) (hpg : PG w) : Calls Tryd.prog 10 #[.agg (sv s)] w (fun rr w' => rr = .returned (.agg (ks m)) ∧ Below w.heap.size w w') := by
  refine calls_st (vs := [.agg (sv s)]) 20 Tryd.func10 rfl Tryd.ntmps10 rfl (fun a W H => ?_)
  replace H : St 20 w a W [(0, .agg (sv s))] [] := H
  refine wp_seq_k (fun K1 hK1 => ?_)
  refine rg_plain ?_
  refine pl_box rfl rfl (bx_pt s) rfl rfl rfl rfl H ?_
  clear H a W
  intro g1 a W H
  refine pl_new (news_of rfl al_key) rfl rfl rfl rfl H ?_
  clear H a W
  intro g2 a W H
  refine pl_end ?_
  replace H : St 20 w a W [(2, .pointer (some ⟨g2, 0, none⟩)), (1, .pointer (some ⟨g1, 0, none⟩))] [(g2, 23, #[.int .u8 0, .int .u8 0, .int .u8 0, .int .u8 0, .int .u8 0, .int .u8 0, .int .u8 0, .int .u8 0, .int .u8 0, .int .u8 0, .int .u8 0, .int .u8 0, .int .u8 0, .int .u8 0, .int .u8 0, .int .u8 0, .int .u8 0, .int .u8 0, .int .u8 0, .int .u8 0, .int .u8 0, .int .u8 0, .int .u8 0, .int .u8 0, .int .u8 0, .int .u8 0, .int .u8 0, .int .u8 0, .int .u8 0, .int .u8 0, .int .u8 0, .int .u8 0]), (g1, 41, sv s)] := H.pick [0, 1] [0, 1] rfl
  refine hK1 _ _ ?_
  clear hK1
  refine wp_seq_k (fun K2 hK2 => ?_)
  refine rg_plain ?_
  refine pl_does (does_load rfl rfl (k := 1) rfl Tryd.underlying41 rfl (info_pt _)) rfl rfl rfl rfl H ?_
  clear H a W
  intro a W H
  refine pl_does (does_call rfl ⟨_, Tryd.func24, by kernel_rfl⟩ rfl (fun W hb => numbers_any h W (hpg.ext hb))) rfl rfl rfl rfl H ?_
  clear H a W
  intro a W H
  refine pl_does (does_move rfl rfl) rfl rfl rfl rfl H ?_
  clear H a W
  intro a W H
  refine pl_does (does_extract rfl rfl (fun _ => rfl)) rfl rfl rfl rfl H ?_
  clear H a W
  intro a W H
  refine pl_does (does_extract rfl rfl (fun _ => rfl)) rfl rfl rfl rfl H ?_
  clear H a W
  intro a W H
  refine pl_new (news_of rfl al_elem) rfl rfl rfl rfl H ?_
  clear H a W
  intro g3 a W H
  refine pl_new (news_of rfl al_elem) rfl rfl rfl rfl H ?_
  clear H a W
  intro g4 a W H
  refine pl_store rfl rfl rfl (k := 1) rfl (info_ev _) (by simp only [sv_size, ev_size, ks_size, fx_size] <;> rfl) (ev_one _) rfl rfl H ?_
  clear H a W
  intro a W H
  refine pl_store rfl rfl rfl (k := 0) rfl (info_ev _) (by simp only [sv_size, ev_size, ks_size, fx_size] <;> rfl) (ev_one _) rfl rfl H ?_
  clear H a W
  intro a W H
  refine pl_end ?_
  replace H : St 20 w a W [(4, .pointer (some ⟨g4, 0, none⟩)), (3, .pointer (some ⟨g3, 0, none⟩)), (2, .pointer (some ⟨g2, 0, none⟩))] [(g4, 39, ev P.y), (g3, 39, ev P.x), (g2, 23, #[.int .u8 0, .int .u8 0, .int .u8 0, .int .u8 0, .int .u8 0, .int .u8 0, .int .u8 0, .int .u8 0, .int .u8 0, .int .u8 0, .int .u8 0, .int .u8 0, .int .u8 0, .int .u8 0, .int .u8 0, .int .u8 0, .int .u8 0, .int .u8 0, .int .u8 0, .int .u8 0, .int .u8 0, .int .u8 0, .int .u8 0, .int .u8 0, .int .u8 0, .int .u8 0, .int .u8 0, .int .u8 0, .int .u8 0, .int .u8 0, .int .u8 0, .int .u8 0])] := H.pick [0, 1, 7] [0, 1, 2] rfl
  refine hK2 _ _ ?_
  clear hK2
  refine wp_seq_k (fun K3 hK3 => ?_)
  refine rg_plain ?_
  refine pl_does (does_load rfl rfl (k := 0) rfl Tryd.underlying39 rfl (info_ev _)) rfl rfl rfl rfl H ?_
  clear H a W
  intro a W H
  refine pl_does (does_call rfl ⟨_, Tryd.func25, by kernel_rfl⟩ rfl (fun W hb => bytesF P.y W)) rfl rfl rfl rfl H ?_
  clear H a W
  intro a W H
  refine pl_new (news_of rfl al_key) rfl rfl rfl rfl H ?_
  clear H a W
  intro g5 a W H
  refine pl_store rfl rfl rfl (k := 0) rfl (info_ks _) (by simp only [sv_size, ev_size, ks_size, fx_size] <;> rfl) (ks_one _) rfl rfl H ?_
  clear H a W
  intro a W H
  refine pl_end ?_
  replace H : St 20 w a W [(5, .pointer (some ⟨g5, 0, none⟩)), (3, .pointer (some ⟨g3, 0, none⟩)), (2, .pointer (some ⟨g2, 0, none⟩))] [(g5, 23, ks (P.y.val)), (g3, 39, ev P.x), (g2, 23, #[.int .u8 0, .int .u8 0, .int .u8 0, .int .u8 0, .int .u8 0, .int .u8 0, .int .u8 0, .int .u8 0, .int .u8 0, .int .u8 0, .int .u8 0, .int .u8 0, .int .u8 0, .int .u8 0, .int .u8 0, .int .u8 0, .int .u8 0, .int .u8 0, .int .u8 0, .int .u8 0, .int .u8 0, .int .u8 0, .int .u8 0, .int .u8 0, .int .u8 0, .int .u8 0, .int .u8 0, .int .u8 0, .int .u8 0, .int .u8 0, .int .u8 0, .int .u8 0])] := H.pick [0, 4, 5] [0, 2, 3] rfl
  refine hK3 _ _ ?_
  clear hK3
  refine wp_seq_k (fun K4 hK4 => ?_)
  refine wp_seq_k (fun K5 hK5 => ?_)
  refine rg_plain ?_
  refine pl_does (does_load rfl rfl (k := 1) rfl Tryd.underlying39 rfl (info_ev _)) rfl rfl rfl rfl H ?_
  clear H a W
  intro a W H
  refine pl_does (does_call rfl ⟨_, Tryd.func26, by kernel_rfl⟩ rfl (fun W hb => odd_no ho W)) rfl rfl rfl rfl H ?_
  clear H a W
  intro a W H
  refine pl_end ?_
  replace H : St 20 w a W [(14, .bool false), (5, .pointer (some ⟨g5, 0, none⟩)), (2, .pointer (some ⟨g2, 0, none⟩))] [(g5, 23, ks (P.y.val)), (g2, 23, #[.int .u8 0, .int .u8 0, .int .u8 0, .int .u8 0, .int .u8 0, .int .u8 0, .int .u8 0, .int .u8 0, .int .u8 0, .int .u8 0, .int .u8 0, .int .u8 0, .int .u8 0, .int .u8 0, .int .u8 0, .int .u8 0, .int .u8 0, .int .u8 0, .int .u8 0, .int .u8 0, .int .u8 0, .int .u8 0, .int .u8 0, .int .u8 0, .int .u8 0, .int .u8 0, .int .u8 0, .int .u8 0, .int .u8 0, .int .u8 0, .int .u8 0, .int .u8 0])] := H.pick [0, 2, 4] [0, 2] rfl
  refine hK5 _ _ ?_
  clear hK5
  refine wp_cond_false (H.ev rfl) ?_
  refine wp_skip ?_
  refine hK4 _ _ ?_
  clear hK4
  refine wp_seq_k (fun K6 hK6 => ?_)
  refine rg_plain ?_
  refine pl_does (does_load rfl rfl (k := 0) rfl Tryd.underlying23 rfl (info_ks _)) rfl rfl rfl rfl H ?_
  clear H a W
  intro a W H
  refine pl_store rfl rfl rfl (k := 1) rfl (info_ks _) (by simp only [sv_size, ev_size, ks_size, fx_size] <;> rfl) (ks_one _) rfl rfl H ?_
  clear H a W
  intro a W H
  refine pl_end ?_
  replace H : St 20 w a W [(2, .pointer (some ⟨g2, 0, none⟩))] [(g2, 23, ks (P.y.val))] := H.pick [3] [1] rfl
  refine hK6 _ _ ?_
  clear hK6
  refine wp_ret ?_
  repeat (first | (with_reducible refine then_ret ?_) | (with_reducible refine blk_ret ?_))
  refine end_cell (p := 2) rfl rfl (k := 0) rfl Tryd.underlying23 rfl (info_ks _) H (fun hb => ?_)
  refine ⟨?_, hb⟩
  have e : m = P.y.val := by
    rw [hm]
    unfold pbn
    have : P.x.val % 2 = 0 := by omega
    rw [this]
    omega
  rw [e]
theorem bytes_pt {P : Pt} {s : L4 PP} (h : RepS P s) {m : Nat} (hm : m = pbn P) (w : World) (hpg : PG w) : Calls Tryd.prog 10 #[.agg (sv s)] w (fun rr w' => rr = .returned (.agg (ks m)) ∧ Below w.heap.size w w') := by
  by_cases ho : P.x.val % 2 = 1
  · exact bytes_odd h hm ho w hpg
  · exact bytes_even h hm ho w hpg
set_option maxHeartbeats 4000000 in
theorem evenX_any {y d r : Fin PP} {b : Bool} (h : (r, b) = rootC EE II (y * y - 1) (1 + d * (y * y))) (w : World) (hpg : PG w) : Calls Tryd.prog 33 #[.agg (ev y), .agg (ev d)] w (fun rr w' => rr = .returned (.tuple #[.agg (ev r), .bool b]) ∧ Below w.heap.size w w') := by
  obtain ⟨z1, hz1⟩ : ∃ z : Fin PP, z = sm 1 := ⟨_, rfl⟩
  obtain ⟨z2, hz2⟩ : ∃ z : Fin PP, z = y * y := ⟨_, rfl⟩
  obtain ⟨z3, hz3⟩ : ∃ z : Fin PP, z = z2 - z1 := ⟨_, rfl⟩
  obtain ⟨z4, hz4⟩ : ∃ z : Fin PP, z = d * z2 := ⟨_, rfl⟩
  obtain ⟨z5, hz5⟩ : ∃ z : Fin PP, z = z1 + z4 := ⟨_, rfl⟩
  refine calls_st (vs := [.agg (ev y), .agg (ev d)]) 22 Tryd.func33 rfl Tryd.ntmps33 rfl (fun a W H => ?_)
  replace H : St 22 w a W [(0, .agg (ev y)), (1, .agg (ev d))] [] := H
  refine wp_seq_k (fun K1 hK1 => ?_)
  refine rg_plain ?_
  refine pl_box rfl rfl (bx_elem y) rfl rfl rfl rfl H ?_
  clear H a W
  intro g1 a W H
  refine pl_box rfl rfl (bx_elem d) rfl rfl rfl rfl H ?_
  clear H a W
  intro g2 a W H
  refine pl_new (news_of rfl al_elem) rfl rfl rfl rfl H ?_
  clear H a W
  intro g3 a W H
  refine pl_does (does_assign rfl rfl) rfl rfl rfl rfl H ?_
  clear H a W
  intro a W H
  refine pl_end ?_
  replace H : St 22 w a W [(5, .bool false), (4, .pointer (some ⟨g3, 0, none⟩)), (3, .pointer (some ⟨g2, 0, none⟩)), (2, .pointer (some ⟨g1, 0, none⟩))] [(g3, 39, #[.int .u64 0, .int .u64 0, .int .u64 0, .int .u64 0]), (g2, 39, ev d), (g1, 39, ev y)] := H.pick [0, 1, 2, 3] [0, 1, 2] rfl
  refine hK1 _ _ ?_
  clear hK1
  refine wp_seq_k (fun K2 hK2 => ?_)
  refine drawnS [.val 8 (.agg (ev z1)) [] [], .val 9 (.agg (ev y)) [] [2], .val 10 (.agg (ev z2)) [1] [], .new 6 39 (#[.int .u64 0, .int .u64 0, .int .u64 0, .int .u64 0]), .new 7 39 (#[.int .u64 0, .int .u64 0, .int .u64 0, .int .u64 0]), .ston 3 6 39 (#[.int .u64 0, .int .u64 0, .int .u64 0, .int .u64 0]) (ev z1) [0], .ston 4 7 39 (#[.int .u64 0, .int .u64 0, .int .u64 0, .int .u64 0]) (ev z2) [2]] [0, 0, 3, 0, 0, 29, 63] (by kernel_rfl) (by kernel_rfl) (by kernel_rfl) H ⟨⟨does_call rfl ⟨_, Tryd.func60, by kernel_rfl⟩ rfl (fun W hb => smallP 1 hz1 (by omega) W), wanted_none rfl⟩, ⟨does_load rfl rfl (k := 0) rfl Tryd.underlying39 rfl (info_ev _), wanted_none rfl⟩, ⟨does_call rfl ⟨_, Tryd.func61, by kernel_rfl⟩ rfl (fun W hb => squareP hz2 W (hpg.ext hb)), wanted_none rfl⟩, ⟨news_of rfl al_elem, rfl⟩, ⟨news_of rfl al_elem, rfl⟩, ⟨rfl, rfl, fun g => sto_row rfl rfl rfl (info_ev _) (by simp only [sv_size, ev_size, ks_size, fx_size] <;> rfl) (ev_one _)⟩, ⟨rfl, rfl, fun g => sto_row rfl rfl rfl (info_ev _) (by simp only [sv_size, ev_size, ks_size, fx_size] <;> rfl) (ev_one _)⟩, trivial⟩ ?_
  clear H a W
  intro G4 a W H
  replace H : St 22 w a W [(8, .agg (ev z1)), (9, .agg (ev y)), (10, .agg (ev z2)), (6, .pointer (some ⟨(G4 3), 0, none⟩)), (7, .pointer (some ⟨(G4 4), 0, none⟩)), (5, .bool false), (4, .pointer (some ⟨g3, 0, none⟩)), (3, .pointer (some ⟨g2, 0, none⟩)), (2, .pointer (some ⟨g1, 0, none⟩))] [((G4 3), 39, ev z1), ((G4 4), 39, ev z2), (g3, 39, #[.int .u64 0, .int .u64 0, .int .u64 0, .int .u64 0]), (g2, 39, ev d), (g1, 39, ev y)] := H
  replace H : St 22 w a W [(6, .pointer (some ⟨(G4 3), 0, none⟩)), (7, .pointer (some ⟨(G4 4), 0, none⟩)), (5, .bool false), (4, .pointer (some ⟨g3, 0, none⟩)), (3, .pointer (some ⟨g2, 0, none⟩))] [((G4 3), 39, ev z1), ((G4 4), 39, ev z2), (g3, 39, #[.int .u64 0, .int .u64 0, .int .u64 0, .int .u64 0]), (g2, 39, ev d)] := H.pick [3, 4, 5, 6, 7] [0, 1, 2, 3] rfl
  refine hK2 _ _ ?_
  clear hK2
  refine wp_seq_k (fun K3 hK3 => ?_)
  replace H : St 22 w a W [(6, .pointer (some ⟨(G4 3), 0, none⟩)), (7, .pointer (some ⟨(G4 4), 0, none⟩)), (4, .pointer (some ⟨g3, 0, none⟩)), (3, .pointer (some ⟨g2, 0, none⟩))] [((G4 3), 39, ev z1), ((G4 4), 39, ev z2), (g3, 39, #[.int .u64 0, .int .u64 0, .int .u64 0, .int .u64 0]), (g2, 39, ev d)] := H.pick [0, 1, 3, 4] [0, 1, 2, 3] rfl
  refine drawnS [.val 11 (.agg (ev z2)) [] [1], .val 12 (.agg (ev z1)) [] [0], .val 13 (.agg (ev z3)) [0, 1] [], .val 14 (.agg (ev z1)) [] [0], .val 15 (.agg (ev d)) [] [3], .val 16 (.agg (ev z2)) [] [1], .val 17 (.agg (ev z4)) [4, 5] [], .val 18 (.agg (ev z5)) [3, 6] [], .val 19 (.tuple #[.agg (ev r), .bool b]) [2, 7] [], .val 20 (.agg (ev r)) [8] [], .val 21 (.bool b) [8] [], .sto 2 g3 39 (#[.int .u64 0, .int .u64 0, .int .u64 0, .int .u64 0]) (ev r) [9], .val 5 (.bool b) [10] []] [0, 0, 3, 0, 0, 0, 52, 72, 132, 256, 256, 2047, 4095] (by kernel_rfl) (by kernel_rfl) (by kernel_rfl) H ⟨⟨does_load rfl rfl (k := 0) rfl Tryd.underlying39 rfl (info_ev _), wanted_none rfl⟩, ⟨does_load rfl rfl (k := 0) rfl Tryd.underlying39 rfl (info_ev _), wanted_none rfl⟩, ⟨does_call rfl ⟨_, Tryd.func41, by kernel_rfl⟩ rfl (fun W hb => subP hz3 W (hpg.ext hb)), wanted_none rfl⟩, ⟨does_load rfl rfl (k := 0) rfl Tryd.underlying39 rfl (info_ev _), wanted_none rfl⟩, ⟨does_load rfl rfl (k := 0) rfl Tryd.underlying39 rfl (info_ev _), wanted_none rfl⟩, ⟨does_load rfl rfl (k := 0) rfl Tryd.underlying39 rfl (info_ev _), wanted_none rfl⟩, ⟨does_call rfl ⟨_, Tryd.func42, by kernel_rfl⟩ rfl (fun W hb => mulP hz4 W (hpg.ext hb)), wanted_none rfl⟩, ⟨does_call rfl ⟨_, Tryd.func43, by kernel_rfl⟩ rfl (fun W hb => addP hz5 W (hpg.ext hb)), wanted_none rfl⟩, ⟨does_call rfl ⟨_, Tryd.func62, by kernel_rfl⟩ rfl (fun W hb => rootB (by rw [h, hz3, hz5, hz4, hz2, hz1, sm_one]) W (hpg.ext hb)), wanted_none rfl⟩, ⟨does_extract rfl rfl (fun _ => rfl), wanted_none rfl⟩, ⟨does_extract rfl rfl (fun _ => rfl), wanted_none rfl⟩, ⟨rfl, rfl, sto_row rfl rfl rfl (info_ev _) (by simp only [sv_size, ev_size, ks_size, fx_size] <;> rfl) (ev_one _)⟩, ⟨does_assign rfl rfl, wanted_none rfl⟩, trivial⟩ ?_
  clear H a W
  intro G5 a W H
  replace H : St 22 w a W [(11, .agg (ev z2)), (12, .agg (ev z1)), (13, .agg (ev z3)), (14, .agg (ev z1)), (15, .agg (ev d)), (16, .agg (ev z2)), (17, .agg (ev z4)), (18, .agg (ev z5)), (19, .tuple #[.agg (ev r), .bool b]), (20, .agg (ev r)), (21, .bool b), (5, .bool b), (6, .pointer (some ⟨(G4 3), 0, none⟩)), (7, .pointer (some ⟨(G4 4), 0, none⟩)), (4, .pointer (some ⟨g3, 0, none⟩)), (3, .pointer (some ⟨g2, 0, none⟩))] [((G4 3), 39, ev z1), ((G4 4), 39, ev z2), (g3, 39, ev r), (g2, 39, ev d)] := H
  replace H : St 22 w a W [(5, .bool b), (4, .pointer (some ⟨g3, 0, none⟩))] [(g3, 39, ev r)] := H.pick [11, 14] [2] rfl
  refine hK3 _ _ ?_
  clear hK3
  refine wp_ret ?_
  repeat (first | (with_reducible refine then_ret ?_) | (with_reducible refine blk_ret ?_))
  refine end_cell_tmp (p := 4) (q := 5) rfl rfl rfl (k := 0) rfl Tryd.underlying39 rfl (info_ev _) H (fun hb => ?_)
  exact ⟨rfl, hb⟩
set_option maxHeartbeats 4000000 in
theorem writtenD_any  (w : World) (hpg : PG w) : Calls Tryd.prog 34 #[] w (fun rr w' => rr = .returned (.agg (ev TD)) ∧ Below w.heap.size w w') := by
  refine calls_st (vs := []) 3 Tryd.func34 rfl Tryd.ntmps34 rfl (fun a W H => ?_)
  replace H : St 3 w a W [] [] := H
  refine wp_seq_k (fun K1 hK1 => ?_)
  refine rg_plain ?_
  refine pl_new (news_of rfl al_elem) rfl rfl rfl rfl H ?_
  clear H a W
  intro g1 a W H
  refine pl_end ?_
  refine hK1 _ _ ?_
  clear hK1
  refine wp_seq_k (fun K2 hK2 => ?_)
  refine rg_plain ?_
  refine pl_does (does_build rfl rfl (bd_keyD)) rfl rfl rfl rfl H ?_
  clear H a W
  intro a W H
  refine pl_does (does_call rfl ⟨_, Tryd.func32, by kernel_rfl⟩ rfl (fun W hb => ofR td_ofK W (hpg.ext hb) (by decide))) rfl rfl rfl rfl H ?_
  clear H a W
  intro a W H
  refine pl_store rfl rfl rfl (k := 0) rfl (info_ev _) (by simp only [sv_size, ev_size, ks_size, fx_size] <;> rfl) (ev_one _) rfl rfl H ?_
  clear H a W
  intro a W H
  refine pl_end ?_
  replace H : St 3 w a W [(0, .pointer (some ⟨g1, 0, none⟩))] [(g1, 39, ev TD)] := H.pick [2] [0] rfl
  refine hK2 _ _ ?_
  clear hK2
  refine wp_ret ?_
  repeat (first | (with_reducible refine then_ret ?_) | (with_reducible refine blk_ret ?_))
  refine end_cell (p := 0) rfl rfl (k := 0) rfl Tryd.underlying39 rfl (info_ev _) H (fun hb => ?_)
  exact ⟨rfl, hb⟩
set_option maxHeartbeats 4000000 in
theorem writtenBase_any  (w : World) (hpg : PG w) : Calls Tryd.prog 23 #[] w (fun rr w' => rr = .returned (.agg (sv BE)) ∧ Below w.heap.size w w') := by
  refine calls_st (vs := []) 10 Tryd.func23 rfl Tryd.ntmps23 rfl (fun a W H => ?_)
  replace H : St 10 w a W [] [] := H
  refine wp_seq_k (fun K1 hK1 => ?_)
  refine rg_plain ?_
  refine pl_new (news_of rfl al_pt) rfl rfl rfl rfl H ?_
  clear H a W
  intro g1 a W H
  refine pl_end ?_
  refine hK1 _ _ ?_
  clear hK1
  refine wp_seq_k (fun K2 hK2 => ?_)
  refine rg_plain ?_
  refine pl_does (does_build rfl rfl (bd_keyX)) rfl rfl rfl rfl H ?_
  clear H a W
  intro a W H
  refine pl_new (news_of rfl al_key) rfl rfl rfl rfl H ?_
  clear H a W
  intro g2 a W H
  refine pl_store rfl rfl rfl (k := 0) rfl (info_ks _) (by simp only [sv_size, ev_size, ks_size, fx_size] <;> rfl) (ks_one _) rfl rfl H ?_
  clear H a W
  intro a W H
  refine pl_end ?_
  replace H : St 10 w a W [(1, .pointer (some ⟨g2, 0, none⟩)), (0, .pointer (some ⟨g1, 0, none⟩))] [(g2, 23, ks 15112221349535400772501151409588531511454012693041857206046113283949847762202), (g1, 41, #[.int .u64 0, .int .u64 0, .int .u64 0, .int .u64 0, .int .u64 0, .int .u64 0, .int .u64 0, .int .u64 0, .int .u64 0, .int .u64 0, .int .u64 0, .int .u64 0, .int .u64 0, .int .u64 0, .int .u64 0, .int .u64 0])] := H.pick [0, 2] [0, 1] rfl
  refine hK2 _ _ ?_
  clear hK2
  refine wp_seq_k (fun K3 hK3 => ?_)
  refine rg_plain ?_
  refine pl_does (does_build rfl rfl (bd_keyY)) rfl rfl rfl rfl H ?_
  clear H a W
  intro a W H
  refine pl_new (news_of rfl al_key) rfl rfl rfl rfl H ?_
  clear H a W
  intro g3 a W H
  refine pl_store rfl rfl rfl (k := 0) rfl (info_ks _) (by simp only [sv_size, ev_size, ks_size, fx_size] <;> rfl) (ks_one _) rfl rfl H ?_
  clear H a W
  intro a W H
  refine pl_end ?_
  replace H : St 10 w a W [(2, .pointer (some ⟨g3, 0, none⟩)), (1, .pointer (some ⟨g2, 0, none⟩)), (0, .pointer (some ⟨g1, 0, none⟩))] [(g3, 23, ks 46316835694926478169428394003475163141307993866256225615783033603165251855960), (g2, 23, ks 15112221349535400772501151409588531511454012693041857206046113283949847762202), (g1, 41, #[.int .u64 0, .int .u64 0, .int .u64 0, .int .u64 0, .int .u64 0, .int .u64 0, .int .u64 0, .int .u64 0, .int .u64 0, .int .u64 0, .int .u64 0, .int .u64 0, .int .u64 0, .int .u64 0, .int .u64 0, .int .u64 0])] := H.pick [0, 2, 3] [0, 1, 2] rfl
  refine hK3 _ _ ?_
  clear hK3
  refine wp_seq_k (fun K4 hK4 => ?_)
  refine drawnS [.val 5 (.agg (ks 15112221349535400772501151409588531511454012693041857206046113283949847762202)) [] [1], .val 6 (.agg (ev BX)) [0] [], .val 7 (.agg (ks 46316835694926478169428394003475163141307993866256225615783033603165251855960)) [] [0], .val 8 (.agg (ev BY)) [2] [], .val 9 (.agg (sv BE)) [1, 3] [], .sto 2 g1 41 (#[.int .u64 0, .int .u64 0, .int .u64 0, .int .u64 0, .int .u64 0, .int .u64 0, .int .u64 0, .int .u64 0, .int .u64 0, .int .u64 0, .int .u64 0, .int .u64 0, .int .u64 0, .int .u64 0, .int .u64 0, .int .u64 0]) (sv BE) [4]] [0, 1, 0, 6, 10, 31] (by kernel_rfl) (by kernel_rfl) (by kernel_rfl) H ⟨⟨does_load rfl rfl (k := 0) rfl Tryd.underlying23 rfl (info_ks _), wanted_none rfl⟩, ⟨does_call rfl ⟨_, Tryd.func32, by kernel_rfl⟩ rfl (fun W hb => ofR bx_ofK W (hpg.ext hb) (by decide)), wanted_none rfl⟩, ⟨does_load rfl rfl (k := 0) rfl Tryd.underlying23 rfl (info_ks _), wanted_none rfl⟩, ⟨does_call rfl ⟨_, Tryd.func32, by kernel_rfl⟩ rfl (fun W hb => ofR by_ofK W (hpg.ext hb) (by decide)), wanted_none rfl⟩, ⟨does_call rfl ⟨_, Tryd.func36, by kernel_rfl⟩ rfl (fun W hb => pointOf_any (show BE = ptE BX BY from rfl) W (hpg.ext hb)), wanted_none rfl⟩, ⟨rfl, rfl, sto_row rfl rfl rfl (info_pt _) (by simp only [sv_size, ev_size, ks_size, fx_size] <;> rfl) (sv_one _)⟩, trivial⟩ ?_
  clear H a W
  intro G4 a W H
  replace H : St 10 w a W [(5, .agg (ks 15112221349535400772501151409588531511454012693041857206046113283949847762202)), (6, .agg (ev BX)), (7, .agg (ks 46316835694926478169428394003475163141307993866256225615783033603165251855960)), (8, .agg (ev BY)), (9, .agg (sv BE)), (2, .pointer (some ⟨g3, 0, none⟩)), (1, .pointer (some ⟨g2, 0, none⟩)), (0, .pointer (some ⟨g1, 0, none⟩))] [(g3, 23, ks 46316835694926478169428394003475163141307993866256225615783033603165251855960), (g2, 23, ks 15112221349535400772501151409588531511454012693041857206046113283949847762202), (g1, 41, sv BE)] := H
  replace H : St 10 w a W [(0, .pointer (some ⟨g1, 0, none⟩))] [(g1, 41, sv BE)] := H.pick [7] [2] rfl
  refine hK4 _ _ ?_
  clear hK4
  refine wp_ret ?_
  repeat (first | (with_reducible refine then_ret ?_) | (with_reducible refine blk_ret ?_))
  refine end_cell (p := 0) rfl rfl (k := 0) rfl Tryd.underlying41 rfl (info_pt _) H (fun hb => ?_)
  exact ⟨rfl, hb⟩
set_option maxHeartbeats 4000000 in
theorem add_pt {s t r : L4 PP} (h : r = ptAdd s t) (w : World) (hpg : PG w) : Calls Tryd.prog 18 #[.agg (sv s), .agg (sv t)] w (fun rr w' => rr = .returned (.agg (sv r)) ∧ Below w.heap.size w w') := by
  obtain ⟨z1, hz1⟩ : ∃ z : L4 PP, z = ptSet s := ⟨_, rfl⟩
  obtain ⟨z2, hz2⟩ : ∃ z : L4 PP, z = ptSet t := ⟨_, rfl⟩
  obtain ⟨z3, hz3⟩ : ∃ z : Fin PP, z = z1.b - z1.a := ⟨_, rfl⟩
  obtain ⟨z4, hz4⟩ : ∃ z : Fin PP, z = z2.b - z2.a := ⟨_, rfl⟩
  obtain ⟨z5, hz5⟩ : ∃ z : Fin PP, z = z3 * z4 := ⟨_, rfl⟩
  obtain ⟨z6, hz6⟩ : ∃ z : Fin PP, z = z1.b + z1.a := ⟨_, rfl⟩
  obtain ⟨z7, hz7⟩ : ∃ z : Fin PP, z = z2.b + z2.a := ⟨_, rfl⟩
  obtain ⟨z8, hz8⟩ : ∃ z : Fin PP, z = z6 * z7 := ⟨_, rfl⟩
  obtain ⟨z9, hz9⟩ : ∃ z : Fin PP, z = z1.c * z2.c := ⟨_, rfl⟩
  obtain ⟨z10, hz10⟩ : ∃ z : Fin PP, z = z1.d * z2.d := ⟨_, rfl⟩
  obtain ⟨z11, hz11⟩ : ∃ z : Fin PP, z = z10 * TD := ⟨_, rfl⟩
  obtain ⟨z12, hz12⟩ : ∃ z : Fin PP, z = z8 - z5 := ⟨_, rfl⟩
  obtain ⟨z13, hz13⟩ : ∃ z : Fin PP, z = z8 + z5 := ⟨_, rfl⟩
  obtain ⟨z14, hz14⟩ : ∃ z : Fin PP, z = z9 + z11 := ⟨_, rfl⟩
  obtain ⟨z15, hz15⟩ : ∃ z : Fin PP, z = z14 + z14 := ⟨_, rfl⟩
  obtain ⟨z16, hz16⟩ : ∃ z : Fin PP, z = z9 - z11 := ⟨_, rfl⟩
  obtain ⟨z17, hz17⟩ : ∃ z : Fin PP, z = z16 + z16 := ⟨_, rfl⟩
  obtain ⟨z18, hz18⟩ : ∃ z : Fin PP, z = z12 * z17 := ⟨_, rfl⟩
  obtain ⟨z19, hz19⟩ : ∃ z : Fin PP, z = z13 * z15 := ⟨_, rfl⟩
  obtain ⟨z20, hz20⟩ : ∃ z : Fin PP, z = z15 * z17 := ⟨_, rfl⟩
  obtain ⟨z21, hz21⟩ : ∃ z : Fin PP, z = z12 * z13 := ⟨_, rfl⟩
  refine calls_st (vs := [.agg (sv s), .agg (sv t)]) 78 Tryd.func18 rfl Tryd.ntmps18 rfl (fun a W H => ?_)
  replace H : St 78 w a W [(0, .agg (sv s)), (1, .agg (sv t))] [] := H
  refine wp_seq_k (fun K1 hK1 => ?_)
  refine rg_plain ?_
  refine pl_box rfl rfl (bx_pt s) rfl rfl rfl rfl H ?_
  clear H a W
  intro g1 a W H
  refine pl_box rfl rfl (bx_pt t) rfl rfl rfl rfl H ?_
  clear H a W
  intro g2 a W H
  refine pl_new (news_of rfl al_pt) rfl rfl rfl rfl H ?_
  clear H a W
  intro g3 a W H
  refine pl_end ?_
  replace H : St 78 w a W [(4, .pointer (some ⟨g3, 0, none⟩)), (3, .pointer (some ⟨g2, 0, none⟩)), (2, .pointer (some ⟨g1, 0, none⟩))] [(g3, 41, #[.int .u64 0, .int .u64 0, .int .u64 0, .int .u64 0, .int .u64 0, .int .u64 0, .int .u64 0, .int .u64 0, .int .u64 0, .int .u64 0, .int .u64 0, .int .u64 0, .int .u64 0, .int .u64 0, .int .u64 0, .int .u64 0]), (g2, 41, sv t), (g1, 41, sv s)] := H.pick [0, 1, 2] [0, 1, 2] rfl
  refine hK1 _ _ ?_
  clear hK1
  refine wp_seq_k (fun K2 hK2 => ?_)
  refine drawnS [.val 13 (.agg (sv s)) [] [2], .val 14 (.agg (sv z1)) [0] [], .val 15 (.agg (sv t)) [] [1], .val 16 (.agg (sv z2)) [2] [], .sto 2 g1 41 (sv s) (sv z1) [1], .sto 1 g2 41 (sv t) (sv z2) [3]] [0, 1, 0, 6, 11, 31] (by kernel_rfl) (by kernel_rfl) (by kernel_rfl) H ⟨⟨does_load rfl rfl (k := 0) rfl Tryd.underlying41 rfl (info_pt _), wanted_none rfl⟩, ⟨does_call rfl ⟨_, Tryd.func40, by kernel_rfl⟩ rfl (fun W hb => settled_any hz1 W (hpg.ext hb)), wanted_none rfl⟩, ⟨does_load rfl rfl (k := 0) rfl Tryd.underlying41 rfl (info_pt _), wanted_none rfl⟩, ⟨does_call rfl ⟨_, Tryd.func40, by kernel_rfl⟩ rfl (fun W hb => settled_any hz2 W (hpg.ext hb)), wanted_none rfl⟩, ⟨rfl, rfl, sto_row rfl rfl rfl (info_pt _) (by simp only [sv_size, ev_size, ks_size, fx_size] <;> rfl) (sv_one _)⟩, ⟨rfl, rfl, sto_row rfl rfl rfl (info_pt _) (by simp only [sv_size, ev_size, ks_size, fx_size] <;> rfl) (sv_one _)⟩, trivial⟩ ?_
  clear H a W
  intro G4 a W H
  replace H : St 78 w a W [(13, .agg (sv s)), (14, .agg (sv z1)), (15, .agg (sv t)), (16, .agg (sv z2)), (4, .pointer (some ⟨g3, 0, none⟩)), (3, .pointer (some ⟨g2, 0, none⟩)), (2, .pointer (some ⟨g1, 0, none⟩))] [(g3, 41, #[.int .u64 0, .int .u64 0, .int .u64 0, .int .u64 0, .int .u64 0, .int .u64 0, .int .u64 0, .int .u64 0, .int .u64 0, .int .u64 0, .int .u64 0, .int .u64 0, .int .u64 0, .int .u64 0, .int .u64 0, .int .u64 0]), (g2, 41, sv z2), (g1, 41, sv z1)] := H
  replace H : St 78 w a W [(4, .pointer (some ⟨g3, 0, none⟩)), (3, .pointer (some ⟨g2, 0, none⟩)), (2, .pointer (some ⟨g1, 0, none⟩))] [(g3, 41, #[.int .u64 0, .int .u64 0, .int .u64 0, .int .u64 0, .int .u64 0, .int .u64 0, .int .u64 0, .int .u64 0, .int .u64 0, .int .u64 0, .int .u64 0, .int .u64 0, .int .u64 0, .int .u64 0, .int .u64 0, .int .u64 0]), (g2, 41, sv z2), (g1, 41, sv z1)] := H.pick [4, 5, 6] [0, 1, 2] rfl
  refine hK2 _ _ ?_
  clear hK2
  refine wp_seq_k (fun K3 hK3 => ?_)
  refine drawnS [.val 17 (.pointer (some ⟨g1, 4 * 1, none⟩)) [] [], .val 18 (.agg (ev z1.b)) [0] [2], .val 19 (.pointer (some ⟨g1, 4 * 0, none⟩)) [] [], .val 20 (.agg (ev z1.a)) [2] [2], .val 21 (.agg (ev z3)) [1, 3] [], .val 22 (.pointer (some ⟨g2, 4 * 1, none⟩)) [] [], .val 23 (.agg (ev z2.b)) [5] [1], .val 24 (.pointer (some ⟨g2, 4 * 0, none⟩)) [] [], .val 25 (.agg (ev z2.a)) [7] [1], .val 26 (.agg (ev z4)) [6, 8] [], .val 27 (.agg (ev z5)) [4, 9] [], .new 5 39 (#[.int .u64 0, .int .u64 0, .int .u64 0, .int .u64 0]), .ston 11 5 39 (#[.int .u64 0, .int .u64 0, .int .u64 0, .int .u64 0]) (ev z5) [10]] [0, 1, 0, 4, 10, 0, 32, 0, 128, 336, 528, 0, 4095] (by kernel_rfl) (by kernel_rfl) (by kernel_rfl) H ⟨⟨does_fieldAddr rfl rfl (fa_pt _ · |>.2.1), wanted_none rfl⟩, ⟨does_loadAt (v := .agg (ev z1.b)) rfl rfl (k := 0) rfl (ld_pt (k := 1) (by omega)), wanted_none rfl⟩, ⟨does_fieldAddr rfl rfl (fa_pt _ · |>.1), wanted_none rfl⟩, ⟨does_loadAt (v := .agg (ev z1.a)) rfl rfl (k := 0) rfl (ld_pt (k := 0) (by omega)), wanted_none rfl⟩, ⟨does_call rfl ⟨_, Tryd.func41, by kernel_rfl⟩ rfl (fun W hb => subP hz3 W (hpg.ext hb)), wanted_none rfl⟩, ⟨does_fieldAddr rfl rfl (fa_pt _ · |>.2.1), wanted_none rfl⟩, ⟨does_loadAt (v := .agg (ev z2.b)) rfl rfl (k := 0) rfl (ld_pt (k := 1) (by omega)), wanted_none rfl⟩, ⟨does_fieldAddr rfl rfl (fa_pt _ · |>.1), wanted_none rfl⟩, ⟨does_loadAt (v := .agg (ev z2.a)) rfl rfl (k := 0) rfl (ld_pt (k := 0) (by omega)), wanted_none rfl⟩, ⟨does_call rfl ⟨_, Tryd.func41, by kernel_rfl⟩ rfl (fun W hb => subP hz4 W (hpg.ext hb)), wanted_none rfl⟩, ⟨does_call rfl ⟨_, Tryd.func42, by kernel_rfl⟩ rfl (fun W hb => mulP hz5 W (hpg.ext hb)), wanted_none rfl⟩, ⟨news_of rfl al_elem, rfl⟩, ⟨rfl, rfl, fun g => sto_row rfl rfl rfl (info_ev _) (by simp only [sv_size, ev_size, ks_size, fx_size] <;> rfl) (ev_one _)⟩, trivial⟩ ?_
  clear H a W
  intro G5 a W H
  replace H : St 78 w a W [(17, .pointer (some ⟨g1, 4 * 1, none⟩)), (18, .agg (ev z1.b)), (19, .pointer (some ⟨g1, 4 * 0, none⟩)), (20, .agg (ev z1.a)), (21, .agg (ev z3)), (22, .pointer (some ⟨g2, 4 * 1, none⟩)), (23, .agg (ev z2.b)), (24, .pointer (some ⟨g2, 4 * 0, none⟩)), (25, .agg (ev z2.a)), (26, .agg (ev z4)), (27, .agg (ev z5)), (5, .pointer (some ⟨(G5 11), 0, none⟩)), (4, .pointer (some ⟨g3, 0, none⟩)), (3, .pointer (some ⟨g2, 0, none⟩)), (2, .pointer (some ⟨g1, 0, none⟩))] [((G5 11), 39, ev z5), (g3, 41, #[.int .u64 0, .int .u64 0, .int .u64 0, .int .u64 0, .int .u64 0, .int .u64 0, .int .u64 0, .int .u64 0, .int .u64 0, .int .u64 0, .int .u64 0, .int .u64 0, .int .u64 0, .int .u64 0, .int .u64 0, .int .u64 0]), (g2, 41, sv z2), (g1, 41, sv z1)] := H
  replace H : St 78 w a W [(5, .pointer (some ⟨(G5 11), 0, none⟩)), (4, .pointer (some ⟨g3, 0, none⟩)), (3, .pointer (some ⟨g2, 0, none⟩)), (2, .pointer (some ⟨g1, 0, none⟩))] [((G5 11), 39, ev z5), (g3, 41, #[.int .u64 0, .int .u64 0, .int .u64 0, .int .u64 0, .int .u64 0, .int .u64 0, .int .u64 0, .int .u64 0, .int .u64 0, .int .u64 0, .int .u64 0, .int .u64 0, .int .u64 0, .int .u64 0, .int .u64 0, .int .u64 0]), (g2, 41, sv z2), (g1, 41, sv z1)] := H.pick [11, 12, 13, 14] [0, 1, 2, 3] rfl
  refine hK3 _ _ ?_
  clear hK3
  refine wp_seq_k (fun K4 hK4 => ?_)
  refine drawnS [.val 28 (.pointer (some ⟨g1, 4 * 1, none⟩)) [] [], .val 29 (.agg (ev z1.b)) [0] [3], .val 30 (.pointer (some ⟨g1, 4 * 0, none⟩)) [] [], .val 31 (.agg (ev z1.a)) [2] [3], .val 32 (.agg (ev z6)) [1, 3] [], .val 33 (.pointer (some ⟨g2, 4 * 1, none⟩)) [] [], .val 34 (.agg (ev z2.b)) [5] [2], .val 35 (.pointer (some ⟨g2, 4 * 0, none⟩)) [] [], .val 36 (.agg (ev z2.a)) [7] [2], .val 37 (.agg (ev z7)) [6, 8] [], .val 38 (.agg (ev z8)) [4, 9] [], .new 6 39 (#[.int .u64 0, .int .u64 0, .int .u64 0, .int .u64 0]), .ston 11 6 39 (#[.int .u64 0, .int .u64 0, .int .u64 0, .int .u64 0]) (ev z8) [10]] [0, 1, 0, 4, 10, 0, 32, 0, 128, 336, 528, 0, 4095] (by kernel_rfl) (by kernel_rfl) (by kernel_rfl) H ⟨⟨does_fieldAddr rfl rfl (fa_pt _ · |>.2.1), wanted_none rfl⟩, ⟨does_loadAt (v := .agg (ev z1.b)) rfl rfl (k := 0) rfl (ld_pt (k := 1) (by omega)), wanted_none rfl⟩, ⟨does_fieldAddr rfl rfl (fa_pt _ · |>.1), wanted_none rfl⟩, ⟨does_loadAt (v := .agg (ev z1.a)) rfl rfl (k := 0) rfl (ld_pt (k := 0) (by omega)), wanted_none rfl⟩, ⟨does_call rfl ⟨_, Tryd.func43, by kernel_rfl⟩ rfl (fun W hb => addP hz6 W (hpg.ext hb)), wanted_none rfl⟩, ⟨does_fieldAddr rfl rfl (fa_pt _ · |>.2.1), wanted_none rfl⟩, ⟨does_loadAt (v := .agg (ev z2.b)) rfl rfl (k := 0) rfl (ld_pt (k := 1) (by omega)), wanted_none rfl⟩, ⟨does_fieldAddr rfl rfl (fa_pt _ · |>.1), wanted_none rfl⟩, ⟨does_loadAt (v := .agg (ev z2.a)) rfl rfl (k := 0) rfl (ld_pt (k := 0) (by omega)), wanted_none rfl⟩, ⟨does_call rfl ⟨_, Tryd.func43, by kernel_rfl⟩ rfl (fun W hb => addP hz7 W (hpg.ext hb)), wanted_none rfl⟩, ⟨does_call rfl ⟨_, Tryd.func42, by kernel_rfl⟩ rfl (fun W hb => mulP hz8 W (hpg.ext hb)), wanted_none rfl⟩, ⟨news_of rfl al_elem, rfl⟩, ⟨rfl, rfl, fun g => sto_row rfl rfl rfl (info_ev _) (by simp only [sv_size, ev_size, ks_size, fx_size] <;> rfl) (ev_one _)⟩, trivial⟩ ?_
  clear H a W
  intro G6 a W H
  replace H : St 78 w a W [(28, .pointer (some ⟨g1, 4 * 1, none⟩)), (29, .agg (ev z1.b)), (30, .pointer (some ⟨g1, 4 * 0, none⟩)), (31, .agg (ev z1.a)), (32, .agg (ev z6)), (33, .pointer (some ⟨g2, 4 * 1, none⟩)), (34, .agg (ev z2.b)), (35, .pointer (some ⟨g2, 4 * 0, none⟩)), (36, .agg (ev z2.a)), (37, .agg (ev z7)), (38, .agg (ev z8)), (6, .pointer (some ⟨(G6 11), 0, none⟩)), (5, .pointer (some ⟨(G5 11), 0, none⟩)), (4, .pointer (some ⟨g3, 0, none⟩)), (3, .pointer (some ⟨g2, 0, none⟩)), (2, .pointer (some ⟨g1, 0, none⟩))] [((G6 11), 39, ev z8), ((G5 11), 39, ev z5), (g3, 41, #[.int .u64 0, .int .u64 0, .int .u64 0, .int .u64 0, .int .u64 0, .int .u64 0, .int .u64 0, .int .u64 0, .int .u64 0, .int .u64 0, .int .u64 0, .int .u64 0, .int .u64 0, .int .u64 0, .int .u64 0, .int .u64 0]), (g2, 41, sv z2), (g1, 41, sv z1)] := H
  replace H : St 78 w a W [(6, .pointer (some ⟨(G6 11), 0, none⟩)), (5, .pointer (some ⟨(G5 11), 0, none⟩)), (4, .pointer (some ⟨g3, 0, none⟩)), (3, .pointer (some ⟨g2, 0, none⟩)), (2, .pointer (some ⟨g1, 0, none⟩))] [((G6 11), 39, ev z8), ((G5 11), 39, ev z5), (g3, 41, #[.int .u64 0, .int .u64 0, .int .u64 0, .int .u64 0, .int .u64 0, .int .u64 0, .int .u64 0, .int .u64 0, .int .u64 0, .int .u64 0, .int .u64 0, .int .u64 0, .int .u64 0, .int .u64 0, .int .u64 0, .int .u64 0]), (g2, 41, sv z2), (g1, 41, sv z1)] := H.pick [11, 12, 13, 14, 15] [0, 1, 2, 3, 4] rfl
  refine hK4 _ _ ?_
  clear hK4
  refine wp_seq_k (fun K5 hK5 => ?_)
  refine rg_plain ?_
  refine pl_does (does_fieldAddr rfl rfl (fa_pt _ · |>.2.2.1)) rfl rfl rfl rfl H ?_
  clear H a W
  intro a W H
  refine pl_does (does_loadAt (v := .agg (ev z1.c)) rfl rfl (k := 4) rfl (ld_pt (k := 2) (by omega))) rfl rfl rfl rfl H ?_
  clear H a W
  intro a W H
  refine pl_does (does_fieldAddr rfl rfl (fa_pt _ · |>.2.2.1)) rfl rfl rfl rfl H ?_
  clear H a W
  intro a W H
  refine pl_does (does_loadAt (v := .agg (ev z2.c)) rfl rfl (k := 3) rfl (ld_pt (k := 2) (by omega))) rfl rfl rfl rfl H ?_
  clear H a W
  intro a W H
  refine pl_does (does_call rfl ⟨_, Tryd.func42, by kernel_rfl⟩ rfl (fun W hb => mulP hz9 W (hpg.ext hb))) rfl rfl rfl rfl H ?_
  clear H a W
  intro a W H
  refine pl_new (news_of rfl al_elem) rfl rfl rfl rfl H ?_
  clear H a W
  intro g7 a W H
  refine pl_store rfl rfl rfl (k := 0) rfl (info_ev _) (by simp only [sv_size, ev_size, ks_size, fx_size] <;> rfl) (ev_one _) rfl rfl H ?_
  clear H a W
  intro a W H
  refine pl_end ?_
  replace H : St 78 w a W [(7, .pointer (some ⟨g7, 0, none⟩)), (6, .pointer (some ⟨(G6 11), 0, none⟩)), (5, .pointer (some ⟨(G5 11), 0, none⟩)), (4, .pointer (some ⟨g3, 0, none⟩)), (3, .pointer (some ⟨g2, 0, none⟩)), (2, .pointer (some ⟨g1, 0, none⟩))] [(g7, 39, ev z9), ((G6 11), 39, ev z8), ((G5 11), 39, ev z5), (g3, 41, #[.int .u64 0, .int .u64 0, .int .u64 0, .int .u64 0, .int .u64 0, .int .u64 0, .int .u64 0, .int .u64 0, .int .u64 0, .int .u64 0, .int .u64 0, .int .u64 0, .int .u64 0, .int .u64 0, .int .u64 0, .int .u64 0]), (g2, 41, sv z2), (g1, 41, sv z1)] := H.pick [0, 6, 7, 8, 9, 10] [0, 1, 2, 3, 4, 5] rfl
  refine hK5 _ _ ?_
  clear hK5
  refine wp_seq_k (fun K6 hK6 => ?_)
  refine rg_plain ?_
  refine pl_does (does_fieldAddr rfl rfl (fa_pt _ · |>.2.2.2)) rfl rfl rfl rfl H ?_
  clear H a W
  intro a W H
  refine pl_does (does_loadAt (v := .agg (ev z1.d)) rfl rfl (k := 5) rfl (ld_pt (k := 3) (by omega))) rfl rfl rfl rfl H ?_
  clear H a W
  intro a W H
  refine pl_does (does_fieldAddr rfl rfl (fa_pt _ · |>.2.2.2)) rfl rfl rfl rfl H ?_
  clear H a W
  intro a W H
  refine pl_does (does_loadAt (v := .agg (ev z2.d)) rfl rfl (k := 4) rfl (ld_pt (k := 3) (by omega))) rfl rfl rfl rfl H ?_
  clear H a W
  intro a W H
  refine pl_does (does_call rfl ⟨_, Tryd.func42, by kernel_rfl⟩ rfl (fun W hb => mulP hz10 W (hpg.ext hb))) rfl rfl rfl rfl H ?_
  clear H a W
  intro a W H
  refine pl_does (does_call rfl ⟨_, Tryd.func34, by kernel_rfl⟩ rfl (fun W hb => writtenD_any W (hpg.ext hb))) rfl rfl rfl rfl H ?_
  clear H a W
  intro a W H
  refine pl_does (does_call rfl ⟨_, Tryd.func42, by kernel_rfl⟩ rfl (fun W hb => mulP hz11 W (hpg.ext hb))) rfl rfl rfl rfl H ?_
  clear H a W
  intro a W H
  refine pl_new (news_of rfl al_elem) rfl rfl rfl rfl H ?_
  clear H a W
  intro g8 a W H
  refine pl_store rfl rfl rfl (k := 0) rfl (info_ev _) (by simp only [sv_size, ev_size, ks_size, fx_size] <;> rfl) (ev_one _) rfl rfl H ?_
  clear H a W
  intro a W H
  refine pl_end ?_
  replace H : St 78 w a W [(8, .pointer (some ⟨g8, 0, none⟩)), (7, .pointer (some ⟨g7, 0, none⟩)), (6, .pointer (some ⟨(G6 11), 0, none⟩)), (5, .pointer (some ⟨(G5 11), 0, none⟩)), (4, .pointer (some ⟨g3, 0, none⟩))] [(g8, 39, ev z11), (g7, 39, ev z9), ((G6 11), 39, ev z8), ((G5 11), 39, ev z5), (g3, 41, #[.int .u64 0, .int .u64 0, .int .u64 0, .int .u64 0, .int .u64 0, .int .u64 0, .int .u64 0, .int .u64 0, .int .u64 0, .int .u64 0, .int .u64 0, .int .u64 0, .int .u64 0, .int .u64 0, .int .u64 0, .int .u64 0])] := H.pick [0, 8, 9, 10, 11] [0, 1, 2, 3, 4] rfl
  refine hK6 _ _ ?_
  clear hK6
  refine wp_seq_k (fun K7 hK7 => ?_)
  refine drawnS [.val 51 (.agg (ev z8)) [] [2], .val 52 (.agg (ev z5)) [] [3], .val 53 (.agg (ev z12)) [0, 1] [], .val 54 (.agg (ev z8)) [] [2], .val 55 (.agg (ev z5)) [] [3], .val 56 (.agg (ev z13)) [3, 4] [], .new 9 39 (#[.int .u64 0, .int .u64 0, .int .u64 0, .int .u64 0]), .new 10 39 (#[.int .u64 0, .int .u64 0, .int .u64 0, .int .u64 0]), .ston 6 9 39 (#[.int .u64 0, .int .u64 0, .int .u64 0, .int .u64 0]) (ev z12) [2], .ston 7 10 39 (#[.int .u64 0, .int .u64 0, .int .u64 0, .int .u64 0]) (ev z13) [5]] [0, 0, 3, 0, 0, 28, 0, 0, 231, 511] (by kernel_rfl) (by kernel_rfl) (by kernel_rfl) H ⟨⟨does_load rfl rfl (k := 0) rfl Tryd.underlying39 rfl (info_ev _), wanted_none rfl⟩, ⟨does_load rfl rfl (k := 0) rfl Tryd.underlying39 rfl (info_ev _), wanted_none rfl⟩, ⟨does_call rfl ⟨_, Tryd.func41, by kernel_rfl⟩ rfl (fun W hb => subP hz12 W (hpg.ext hb)), wanted_none rfl⟩, ⟨does_load rfl rfl (k := 0) rfl Tryd.underlying39 rfl (info_ev _), wanted_none rfl⟩, ⟨does_load rfl rfl (k := 0) rfl Tryd.underlying39 rfl (info_ev _), wanted_none rfl⟩, ⟨does_call rfl ⟨_, Tryd.func43, by kernel_rfl⟩ rfl (fun W hb => addP hz13 W (hpg.ext hb)), wanted_none rfl⟩, ⟨news_of rfl al_elem, rfl⟩, ⟨news_of rfl al_elem, rfl⟩, ⟨rfl, rfl, fun g => sto_row rfl rfl rfl (info_ev _) (by simp only [sv_size, ev_size, ks_size, fx_size] <;> rfl) (ev_one _)⟩, ⟨rfl, rfl, fun g => sto_row rfl rfl rfl (info_ev _) (by simp only [sv_size, ev_size, ks_size, fx_size] <;> rfl) (ev_one _)⟩, trivial⟩ ?_
  clear H a W
  intro G9 a W H
  replace H : St 78 w a W [(51, .agg (ev z8)), (52, .agg (ev z5)), (53, .agg (ev z12)), (54, .agg (ev z8)), (55, .agg (ev z5)), (56, .agg (ev z13)), (9, .pointer (some ⟨(G9 6), 0, none⟩)), (10, .pointer (some ⟨(G9 7), 0, none⟩)), (8, .pointer (some ⟨g8, 0, none⟩)), (7, .pointer (some ⟨g7, 0, none⟩)), (6, .pointer (some ⟨(G6 11), 0, none⟩)), (5, .pointer (some ⟨(G5 11), 0, none⟩)), (4, .pointer (some ⟨g3, 0, none⟩))] [((G9 6), 39, ev z12), ((G9 7), 39, ev z13), (g8, 39, ev z11), (g7, 39, ev z9), ((G6 11), 39, ev z8), ((G5 11), 39, ev z5), (g3, 41, #[.int .u64 0, .int .u64 0, .int .u64 0, .int .u64 0, .int .u64 0, .int .u64 0, .int .u64 0, .int .u64 0, .int .u64 0, .int .u64 0, .int .u64 0, .int .u64 0, .int .u64 0, .int .u64 0, .int .u64 0, .int .u64 0])] := H
  replace H : St 78 w a W [(9, .pointer (some ⟨(G9 6), 0, none⟩)), (10, .pointer (some ⟨(G9 7), 0, none⟩)), (8, .pointer (some ⟨g8, 0, none⟩)), (7, .pointer (some ⟨g7, 0, none⟩)), (4, .pointer (some ⟨g3, 0, none⟩))] [((G9 6), 39, ev z12), ((G9 7), 39, ev z13), (g8, 39, ev z11), (g7, 39, ev z9), (g3, 41, #[.int .u64 0, .int .u64 0, .int .u64 0, .int .u64 0, .int .u64 0, .int .u64 0, .int .u64 0, .int .u64 0, .int .u64 0, .int .u64 0, .int .u64 0, .int .u64 0, .int .u64 0, .int .u64 0, .int .u64 0, .int .u64 0])] := H.pick [6, 7, 8, 9, 12] [0, 1, 2, 3, 6] rfl
  refine hK7 _ _ ?_
  clear hK7
  refine wp_seq_k (fun K8 hK8 => ?_)
  refine drawnS [.val 57 (.agg (ev z9)) [] [3], .val 58 (.agg (ev z11)) [] [2], .val 59 (.agg (ev z14)) [0, 1] [], .val 60 (.agg (ev z15)) [2] [], .val 61 (.agg (ev z9)) [] [3], .val 62 (.agg (ev z11)) [] [2], .val 63 (.agg (ev z16)) [4, 5] [], .val 64 (.agg (ev z17)) [6] [], .new 11 39 (#[.int .u64 0, .int .u64 0, .int .u64 0, .int .u64 0]), .new 12 39 (#[.int .u64 0, .int .u64 0, .int .u64 0, .int .u64 0]), .ston 8 11 39 (#[.int .u64 0, .int .u64 0, .int .u64 0, .int .u64 0]) (ev z15) [3], .ston 9 12 39 (#[.int .u64 0, .int .u64 0, .int .u64 0, .int .u64 0]) (ev z17) [7]] [0, 0, 3, 4, 0, 0, 56, 64, 0, 0, 911, 2047] (by kernel_rfl) (by kernel_rfl) (by kernel_rfl) H ⟨⟨does_load rfl rfl (k := 0) rfl Tryd.underlying39 rfl (info_ev _), wanted_none rfl⟩, ⟨does_load rfl rfl (k := 0) rfl Tryd.underlying39 rfl (info_ev _), wanted_none rfl⟩, ⟨does_call rfl ⟨_, Tryd.func43, by kernel_rfl⟩ rfl (fun W hb => addP hz14 W (hpg.ext hb)), wanted_none rfl⟩, ⟨does_call rfl ⟨_, Tryd.func44, by kernel_rfl⟩ rfl (fun W hb => twice_any hz15 W (hpg.ext hb)), wanted_none rfl⟩, ⟨does_load rfl rfl (k := 0) rfl Tryd.underlying39 rfl (info_ev _), wanted_none rfl⟩, ⟨does_load rfl rfl (k := 0) rfl Tryd.underlying39 rfl (info_ev _), wanted_none rfl⟩, ⟨does_call rfl ⟨_, Tryd.func41, by kernel_rfl⟩ rfl (fun W hb => subP hz16 W (hpg.ext hb)), wanted_none rfl⟩, ⟨does_call rfl ⟨_, Tryd.func44, by kernel_rfl⟩ rfl (fun W hb => twice_any hz17 W (hpg.ext hb)), wanted_none rfl⟩, ⟨news_of rfl al_elem, rfl⟩, ⟨news_of rfl al_elem, rfl⟩, ⟨rfl, rfl, fun g => sto_row rfl rfl rfl (info_ev _) (by simp only [sv_size, ev_size, ks_size, fx_size] <;> rfl) (ev_one _)⟩, ⟨rfl, rfl, fun g => sto_row rfl rfl rfl (info_ev _) (by simp only [sv_size, ev_size, ks_size, fx_size] <;> rfl) (ev_one _)⟩, trivial⟩ ?_
  clear H a W
  intro G10 a W H
  replace H : St 78 w a W [(57, .agg (ev z9)), (58, .agg (ev z11)), (59, .agg (ev z14)), (60, .agg (ev z15)), (61, .agg (ev z9)), (62, .agg (ev z11)), (63, .agg (ev z16)), (64, .agg (ev z17)), (11, .pointer (some ⟨(G10 8), 0, none⟩)), (12, .pointer (some ⟨(G10 9), 0, none⟩)), (9, .pointer (some ⟨(G9 6), 0, none⟩)), (10, .pointer (some ⟨(G9 7), 0, none⟩)), (8, .pointer (some ⟨g8, 0, none⟩)), (7, .pointer (some ⟨g7, 0, none⟩)), (4, .pointer (some ⟨g3, 0, none⟩))] [((G10 8), 39, ev z15), ((G10 9), 39, ev z17), ((G9 6), 39, ev z12), ((G9 7), 39, ev z13), (g8, 39, ev z11), (g7, 39, ev z9), (g3, 41, #[.int .u64 0, .int .u64 0, .int .u64 0, .int .u64 0, .int .u64 0, .int .u64 0, .int .u64 0, .int .u64 0, .int .u64 0, .int .u64 0, .int .u64 0, .int .u64 0, .int .u64 0, .int .u64 0, .int .u64 0, .int .u64 0])] := H
  replace H : St 78 w a W [(11, .pointer (some ⟨(G10 8), 0, none⟩)), (12, .pointer (some ⟨(G10 9), 0, none⟩)), (9, .pointer (some ⟨(G9 6), 0, none⟩)), (10, .pointer (some ⟨(G9 7), 0, none⟩)), (4, .pointer (some ⟨g3, 0, none⟩))] [((G10 8), 39, ev z15), ((G10 9), 39, ev z17), ((G9 6), 39, ev z12), ((G9 7), 39, ev z13), (g3, 41, #[.int .u64 0, .int .u64 0, .int .u64 0, .int .u64 0, .int .u64 0, .int .u64 0, .int .u64 0, .int .u64 0, .int .u64 0, .int .u64 0, .int .u64 0, .int .u64 0, .int .u64 0, .int .u64 0, .int .u64 0, .int .u64 0])] := H.pick [8, 9, 10, 11, 14] [0, 1, 2, 3, 6] rfl
  refine hK8 _ _ ?_
  clear hK8
  refine wp_seq_k (fun K9 hK9 => ?_)
  refine drawnS [.val 65 (.agg (ev z12)) [] [2], .val 66 (.agg (ev z17)) [] [1], .val 67 (.agg (ev z18)) [0, 1] [], .val 68 (.agg (ev z13)) [] [3], .val 69 (.agg (ev z15)) [] [0], .val 70 (.agg (ev z19)) [3, 4] [], .val 71 (.agg (ev z15)) [] [0], .val 72 (.agg (ev z17)) [] [1], .val 73 (.agg (ev z20)) [6, 7] [], .val 74 (.agg (ev z12)) [] [2], .val 75 (.agg (ev z13)) [] [3], .val 76 (.agg (ev z21)) [9, 10] [], .val 77 (.agg (sv ⟨z18, z19, z20, z21⟩)) [2, 5, 8, 11] [], .sto 4 g3 41 (#[.int .u64 0, .int .u64 0, .int .u64 0, .int .u64 0, .int .u64 0, .int .u64 0, .int .u64 0, .int .u64 0, .int .u64 0, .int .u64 0, .int .u64 0, .int .u64 0, .int .u64 0, .int .u64 0, .int .u64 0, .int .u64 0]) (sv ⟨z18, z19, z20, z21⟩) [12]] [0, 0, 3, 0, 0, 28, 0, 0, 224, 0, 0, 1792, 2340, 8191] (by kernel_rfl) (by kernel_rfl) (by kernel_rfl) H ⟨⟨does_load rfl rfl (k := 0) rfl Tryd.underlying39 rfl (info_ev _), wanted_none rfl⟩, ⟨does_load rfl rfl (k := 0) rfl Tryd.underlying39 rfl (info_ev _), wanted_none rfl⟩, ⟨does_call rfl ⟨_, Tryd.func42, by kernel_rfl⟩ rfl (fun W hb => mulP hz18 W (hpg.ext hb)), wanted_none rfl⟩, ⟨does_load rfl rfl (k := 0) rfl Tryd.underlying39 rfl (info_ev _), wanted_none rfl⟩, ⟨does_load rfl rfl (k := 0) rfl Tryd.underlying39 rfl (info_ev _), wanted_none rfl⟩, ⟨does_call rfl ⟨_, Tryd.func42, by kernel_rfl⟩ rfl (fun W hb => mulP hz19 W (hpg.ext hb)), wanted_none rfl⟩, ⟨does_load rfl rfl (k := 0) rfl Tryd.underlying39 rfl (info_ev _), wanted_none rfl⟩, ⟨does_load rfl rfl (k := 0) rfl Tryd.underlying39 rfl (info_ev _), wanted_none rfl⟩, ⟨does_call rfl ⟨_, Tryd.func42, by kernel_rfl⟩ rfl (fun W hb => mulP hz20 W (hpg.ext hb)), wanted_none rfl⟩, ⟨does_load rfl rfl (k := 0) rfl Tryd.underlying39 rfl (info_ev _), wanted_none rfl⟩, ⟨does_load rfl rfl (k := 0) rfl Tryd.underlying39 rfl (info_ev _), wanted_none rfl⟩, ⟨does_call rfl ⟨_, Tryd.func42, by kernel_rfl⟩ rfl (fun W hb => mulP hz21 W (hpg.ext hb)), wanted_none rfl⟩, ⟨does_build rfl rfl (bd_pt z18 z19 z20 z21), wanted_none rfl⟩, ⟨rfl, rfl, sto_row rfl rfl rfl (info_pt _) (by simp only [sv_size, ev_size, ks_size, fx_size] <;> rfl) (sv_one _)⟩, trivial⟩ ?_
  clear H a W
  intro G11 a W H
  replace H : St 78 w a W [(65, .agg (ev z12)), (66, .agg (ev z17)), (67, .agg (ev z18)), (68, .agg (ev z13)), (69, .agg (ev z15)), (70, .agg (ev z19)), (71, .agg (ev z15)), (72, .agg (ev z17)), (73, .agg (ev z20)), (74, .agg (ev z12)), (75, .agg (ev z13)), (76, .agg (ev z21)), (77, .agg (sv ⟨z18, z19, z20, z21⟩)), (11, .pointer (some ⟨(G10 8), 0, none⟩)), (12, .pointer (some ⟨(G10 9), 0, none⟩)), (9, .pointer (some ⟨(G9 6), 0, none⟩)), (10, .pointer (some ⟨(G9 7), 0, none⟩)), (4, .pointer (some ⟨g3, 0, none⟩))] [((G10 8), 39, ev z15), ((G10 9), 39, ev z17), ((G9 6), 39, ev z12), ((G9 7), 39, ev z13), (g3, 41, sv ⟨z18, z19, z20, z21⟩)] := H
  replace H : St 78 w a W [(4, .pointer (some ⟨g3, 0, none⟩))] [(g3, 41, sv ⟨z18, z19, z20, z21⟩)] := H.pick [17] [4] rfl
  refine hK9 _ _ ?_
  clear hK9
  refine wp_ret ?_
  repeat (first | (with_reducible refine then_ret ?_) | (with_reducible refine blk_ret ?_))
  refine end_cell (p := 4) rfl rfl (k := 0) rfl Tryd.underlying41 rfl (info_pt _) H (fun hb => ?_)
  refine ⟨?_, hb⟩
  rw [h]
  unfold ptAdd ptAdd0 paU paV paL paH
  subst hz1 hz2 hz3 hz4 hz5 hz6 hz7 hz8 hz9 hz10 hz11 hz12 hz13 hz14 hz15 hz16 hz17 hz18 hz19 hz20 hz21
  rfl
theorem pbit_any (e i : Nat) (w : World) (hi : i < 256) :
    Calls Tryd.prog 45 #[.agg (ks e), .int .i64 (i : Int)] w fun r w' => r = .returned (.bool (bitB e i)) ∧ Below w.heap.size w w' := by
  have hc : (w.alloc (.cells (ks e) 23)).cell? ⟨w.heap.size, i / 8, none⟩ = some (.int .u8 ((e / 256 ^ (i / 8) % 256 : Nat) : Int)) := by
    rw [(Blk.new w 23 (ks e)).cell, ks_get _ (by omega)]
  have hx : e / 256 ^ (i / 8) % 256 < 256 := Nat.mod_lt _ (by omega)
  have hb := bit_at e i
  have ha := and_one8 (e / 256 ^ (i / 8) % 256 / 2 ^ (i % 8)) (Nat.lt_of_le_of_lt (Nat.div_le_self _ _) hx)
  rw [hb, Int.natCast_ediv, Int.natCast_pow] at ha
  have HA := Lib.hid ha
  clear hb ha
  generalize e / 256 ^ (i / 8) % 256 = x at *
  have b1 : (0 : Int) ≤ (i : Int) / 8 := by omega
  have b2 : (i : Int) / 8 < 32 := by omega
  have b3 : ((i : Int) % 8) < 65 := by omega
  go_enter Tryd.func45, Tryd.ntmps45
  go_wp2
  go_ret
  refine ⟨?_, (Below.refl _ _).alloc (Nat.le_refl _) _⟩
  show Ending.returned (.bool (bits .and .u8 ((x : Int) / 2 ^ (i % 8)) 1 == 1)) = _
  have := HA.out
  rw [show ((2 : Nat) : Int) = 2 from rfl] at this
  rw [this]
  rfl
theorem pbitB {n i : Nat} {b : Bool} (h : lbit n i = b) (w : World) (hi : i < 256) : Calls Tryd.prog 45 #[.agg (ks n), .int .i64 (i : Int)] w fun r w' => r = .returned (.bool b) ∧ Below w.heap.size w w' := by
  subst h
  exact pbit_any n i w hi
section
attribute [local semireducible] ev sv ptMul
theorem pt_zeros (n : Nat) (s : L4 PP) : #[.int .u64 0, .int .u64 0, .int .u64 0, .int .u64 0, .int .u64 0, .int .u64 0, .int .u64 0, .int .u64 0, .int .u64 0, .int .u64 0, .int .u64 0, .int .u64 0, .int .u64 0, .int .u64 0, .int .u64 0, .int .u64 0] = sv (ptMul s n 0) := by kernel_rfl
theorem ptMul_yes {n k : Nat} {s : L4 PP} (h : lbit n (255 - k) = true) : ptMul s n (k + 1) = ptAdd (ptAdd (ptMul s n k) (ptMul s n k)) s := by
  show (if lbit n (255 - k) = true then _ else _) = _
  rw [if_pos h]
theorem ptMul_no {n k : Nat} {s : L4 PP} (h : lbit n (255 - k) = false) : ptMul s n (k + 1) = ptAdd (ptMul s n k) (ptMul s n k) := by
  show (if lbit n (255 - k) = true then _ else _) = _
  rw [if_neg (by rw [h]; decide)]
end
set_option maxHeartbeats 4000000 in
theorem mul_pt {s r : L4 PP} {n : Nat} (h : r = ptMul s n 256) (w : World) (hpg : PG w) : Calls Tryd.prog 20 #[.agg (sv s), .agg (ks n)] w (fun rr w' => rr = .returned (.agg (sv r)) ∧ Below w.heap.size w w') := by
  refine calls_st (vs := [.agg (sv s), .agg (ks n)]) 22 Tryd.func20 rfl Tryd.ntmps20 rfl (fun a W H => ?_)
  replace H : St 22 w a W [(0, .agg (sv s)), (1, .agg (ks n))] [] := H
  refine wp_seq_k (fun K1 hK1 => ?_)
  refine rg_plain ?_
  refine pl_box rfl rfl (bx_pt s) rfl rfl rfl rfl H ?_
  clear H a W
  intro g1 a W H
  refine pl_box rfl rfl (bx_key n) rfl rfl rfl rfl H ?_
  clear H a W
  intro g2 a W H
  refine pl_new (news_of rfl al_pt) rfl rfl rfl rfl H ?_
  clear H a W
  intro g3 a W H
  refine pl_end ?_
  replace H : St 22 w a W [(4, .pointer (some ⟨g3, 0, none⟩)), (3, .pointer (some ⟨g2, 0, none⟩)), (2, .pointer (some ⟨g1, 0, none⟩))] [(g3, 41, #[.int .u64 0, .int .u64 0, .int .u64 0, .int .u64 0, .int .u64 0, .int .u64 0, .int .u64 0, .int .u64 0, .int .u64 0, .int .u64 0, .int .u64 0, .int .u64 0, .int .u64 0, .int .u64 0, .int .u64 0, .int .u64 0]), (g2, 23, ks n), (g1, 41, sv s)] := H.pick [0, 1, 2] [0, 1, 2] rfl
  refine hK1 _ _ ?_
  clear hK1
  refine wp_seq_k (fun K2 hK2 => ?_)
  refine rg_plain ?_
  refine pl_new (news_of rfl al_pt) rfl rfl rfl rfl H ?_
  clear H a W
  intro g4 a W H
  refine pl_end ?_
  refine hK2 _ _ ?_
  clear hK2
  refine wp_seq_k (fun K3 hK3 => ?_)
  refine wp_seq_k (fun K4 hK4 => ?_)
  refine rg_plain ?_
  refine pl_does (does_move rfl rfl) rfl rfl rfl rfl H ?_
  clear H a W
  intro a W H
  refine pl_end ?_
  refine hK4 _ _ ?_
  clear hK4
  refine wp_block ?_
  replace H : St 22 w a W [(7, .int .i64 ((0 : Nat) : Int)), (5, .pointer (some ⟨g4, 0, none⟩)), (4, .pointer (some ⟨g3, 0, none⟩)), (3, .pointer (some ⟨g2, 0, none⟩)), (2, .pointer (some ⟨g1, 0, none⟩))] [(g4, 41, #[.int .u64 0, .int .u64 0, .int .u64 0, .int .u64 0, .int .u64 0, .int .u64 0, .int .u64 0, .int .u64 0, .int .u64 0, .int .u64 0, .int .u64 0, .int .u64 0, .int .u64 0, .int .u64 0, .int .u64 0, .int .u64 0]), (g3, 41, #[.int .u64 0, .int .u64 0, .int .u64 0, .int .u64 0, .int .u64 0, .int .u64 0, .int .u64 0, .int .u64 0, .int .u64 0, .int .u64 0, .int .u64 0, .int .u64 0, .int .u64 0, .int .u64 0, .int .u64 0, .int .u64 0]), (g2, 23, ks n), (g1, 41, sv s)] := H.pick [0, 1, 2, 3, 4] [0, 1, 2, 3] rfl
  rw [pt_zeros n s] at H
  refine wp_rounds 256 (fun k a W => St 22 w a W [(7, .int .i64 ((k : Nat) : Int)), (5, .pointer (some ⟨g4, 0, none⟩)), (4, .pointer (some ⟨g3, 0, none⟩)), (3, .pointer (some ⟨g2, 0, none⟩)), (2, .pointer (some ⟨g1, 0, none⟩))] [(g4, 41, sv (ptMul s n (k))), (g3, 41, sv (ptMul s n 0)), (g2, 23, ks n), (g1, 41, sv s)]) (k0 := 0) H (by omega) ?_
  clear H a W
  intro k a W hk H
  by_cases hk2 : k < 256
  · rcases Bool.eq_false_or_eq_true (lbit n (255 - k)) with hbit | hbit
    · have hn : ptMul s n (k + 1) = ptAdd (ptAdd (ptMul s n k) (ptMul s n k)) s := ptMul_yes hbit
      refine wp_seq_k (fun K5 hK5 => ?_)
      refine rg_plain ?_
      refine pl_does (does_binOp rfl rfl rfl (i_lss_yes (m := 256) hk2 _ _)) rfl rfl rfl rfl H ?_
      clear H a W
      intro a W H
      refine pl_end ?_
      refine hK5 _ _ ?_
      clear hK5
      refine wp_seq_k (fun K6 hK6 => ?_)
      refine wp_cond_true (H.ev rfl) ?_
      refine wp_skip ?_
      refine hK6 _ _ ?_
      clear hK6
      refine wp_seq_k (fun K7 hK7 => ?_)
      refine wp_block ?_
      refine wp_seq_k (fun K8 hK8 => ?_)
      refine rg_plain ?_
      refine pl_does (does_move rfl rfl) rfl rfl rfl rfl H ?_
      clear H a W
      intro a W H
      refine pl_does (does_assign rfl rfl) rfl rfl rfl rfl H ?_
      clear H a W
      intro a W H
      refine pl_end ?_
      refine hK8 _ _ ?_
      clear hK8
      refine wp_seq_k (fun K9 hK9 => ?_)
      refine rg_plain ?_
      refine pl_does (does_load rfl rfl (k := 0) rfl Tryd.underlying41 rfl (info_pt _)) rfl rfl rfl rfl H ?_
      clear H a W
      intro a W H
      refine pl_does (does_load rfl rfl (k := 0) rfl Tryd.underlying41 rfl (info_pt _)) rfl rfl rfl rfl H ?_
      clear H a W
      intro a W H
      refine pl_does (does_call rfl ⟨_, Tryd.func18, by kernel_rfl⟩ rfl (fun W hb => add_pt rfl W (hpg.ext hb))) rfl rfl rfl rfl H ?_
      clear H a W
      intro a W H
      refine pl_store rfl rfl rfl (k := 0) rfl (info_pt _) (by simp only [sv_size, ev_size, ks_size, fx_size] <;> rfl) (sv_one _) rfl rfl H ?_
      clear H a W
      intro a W H
      refine pl_end ?_
      refine hK9 _ _ ?_
      clear hK9
      refine wp_seq_k (fun K10 hK10 => ?_)
      refine rg_plain ?_
      refine pl_does (does_load rfl rfl (k := 2) rfl Tryd.underlying23 rfl (info_ks _)) rfl rfl rfl rfl H ?_
      clear H a W
      intro a W H
      refine pl_does (does_move rfl rfl) rfl rfl rfl rfl H ?_
      clear H a W
      intro a W H
      refine pl_does (does_binOp rfl rfl rfl (i_from (m := 255) (by omega) (by omega) _ _)) rfl rfl rfl rfl H ?_
      clear H a W
      intro a W H
      refine pl_does (does_call rfl ⟨_, Tryd.func45, by kernel_rfl⟩ rfl (fun W hb => pbitB hbit W (by omega))) rfl rfl rfl rfl H ?_
      clear H a W
      intro a W H
      refine pl_end ?_
      refine hK10 _ _ ?_
      clear hK10
      refine wp_cond_true (H.ev rfl) ?_
      refine rg_plain ?_
      refine pl_does (does_load rfl rfl (k := 0) rfl Tryd.underlying41 rfl (info_pt _)) rfl rfl rfl rfl H ?_
      clear H a W
      intro a W H
      refine pl_does (does_load rfl rfl (k := 3) rfl Tryd.underlying41 rfl (info_pt _)) rfl rfl rfl rfl H ?_
      clear H a W
      intro a W H
      refine pl_does (does_call rfl ⟨_, Tryd.func18, by kernel_rfl⟩ rfl (fun W hb => add_pt rfl W (hpg.ext hb))) rfl rfl rfl rfl H ?_
      clear H a W
      intro a W H
      refine pl_store rfl rfl rfl (k := 0) rfl (info_pt _) (by simp only [sv_size, ev_size, ks_size, fx_size] <;> rfl) (sv_one _) rfl rfl H ?_
      clear H a W
      intro a W H
      refine pl_end ?_
      refine blk_normal ?_
      refine hK7 _ _ ?_
      clear hK7
      refine rg_plain ?_
      refine pl_does (does_binOp rfl rfl rfl (i_inc (by omega) _ _)) rfl rfl rfl rfl H ?_
      clear H a W
      intro a W H
      replace H : St 22 w a W [(20, .int .i64 ((k + 1 : Nat) : Int)), (19, .agg (sv (ptAdd ((ptAdd ((ptMul s n (k))) ((ptMul s n (k))))) s))), (18, .agg (sv s)), (17, .agg (sv (ptAdd ((ptMul s n (k))) ((ptMul s n (k)))))), (16, .bool true), (15, .int .i64 ((255 - k : Nat) : Int)), (14, .int .i64 ((k : Nat) : Int)), (13, .agg (ks n)), (12, .agg (sv (ptAdd ((ptMul s n (k))) ((ptMul s n (k)))))), (11, .agg (sv (ptMul s n (k)))), (10, .agg (sv (ptMul s n (k)))), (6, .int .i64 ((k : Nat) : Int)), (9, .int .i64 ((k : Nat) : Int)), (8, .bool true), (5, .pointer (some ⟨g4, 0, none⟩)), (4, .pointer (some ⟨g3, 0, none⟩)), (3, .pointer (some ⟨g2, 0, none⟩)), (2, .pointer (some ⟨g1, 0, none⟩))] [(g4, 41, sv (ptAdd ((ptAdd ((ptMul s n (k))) ((ptMul s n (k))))) s)), (g3, 41, sv (ptMul s n 0)), (g2, 23, ks n), (g1, 41, sv s)] := H.pick [0, 1, 2, 3, 4, 5, 6, 7, 8, 9, 10, 11, 12, 13, 15, 16, 17, 18] [0, 1, 2, 3] rfl
      refine pl_does (does_move rfl rfl) rfl rfl rfl rfl H ?_
      clear H a W
      intro a W H
      refine pl_end ?_
      refine ⟨k + 1, by omega, by omega, ?_⟩
      show St 22 w a W [(7, .int .i64 ((k + 1 : Nat) : Int)), (5, .pointer (some ⟨g4, 0, none⟩)), (4, .pointer (some ⟨g3, 0, none⟩)), (3, .pointer (some ⟨g2, 0, none⟩)), (2, .pointer (some ⟨g1, 0, none⟩))] [(g4, 41, sv (ptMul s n (k + 1))), (g3, 41, sv (ptMul s n 0)), (g2, 23, ks n), (g1, 41, sv s)]
      rw [hn]
      exact H.pick [0, 15, 16, 17, 18] [0, 1, 2, 3] rfl
    · have hn : ptMul s n (k + 1) = ptAdd (ptMul s n k) (ptMul s n k) := ptMul_no hbit
      refine wp_seq_k (fun K11 hK11 => ?_)
      refine rg_plain ?_
      refine pl_does (does_binOp rfl rfl rfl (i_lss_yes (m := 256) hk2 _ _)) rfl rfl rfl rfl H ?_
      clear H a W
      intro a W H
      refine pl_end ?_
      refine hK11 _ _ ?_
      clear hK11
      refine wp_seq_k (fun K12 hK12 => ?_)
      refine wp_cond_true (H.ev rfl) ?_
      refine wp_skip ?_
      refine hK12 _ _ ?_
      clear hK12
      refine wp_seq_k (fun K13 hK13 => ?_)
      refine wp_block ?_
      refine wp_seq_k (fun K14 hK14 => ?_)
      refine rg_plain ?_
      refine pl_does (does_move rfl rfl) rfl rfl rfl rfl H ?_
      clear H a W
      intro a W H
      refine pl_does (does_assign rfl rfl) rfl rfl rfl rfl H ?_
      clear H a W
      intro a W H
      refine pl_end ?_
      refine hK14 _ _ ?_
      clear hK14
      refine wp_seq_k (fun K15 hK15 => ?_)
      refine rg_plain ?_
      refine pl_does (does_load rfl rfl (k := 0) rfl Tryd.underlying41 rfl (info_pt _)) rfl rfl rfl rfl H ?_
      clear H a W
      intro a W H
      refine pl_does (does_load rfl rfl (k := 0) rfl Tryd.underlying41 rfl (info_pt _)) rfl rfl rfl rfl H ?_
      clear H a W
      intro a W H
      refine pl_does (does_call rfl ⟨_, Tryd.func18, by kernel_rfl⟩ rfl (fun W hb => add_pt rfl W (hpg.ext hb))) rfl rfl rfl rfl H ?_
      clear H a W
      intro a W H
      refine pl_store rfl rfl rfl (k := 0) rfl (info_pt _) (by simp only [sv_size, ev_size, ks_size, fx_size] <;> rfl) (sv_one _) rfl rfl H ?_
      clear H a W
      intro a W H
      refine pl_end ?_
      refine hK15 _ _ ?_
      clear hK15
      refine wp_seq_k (fun K16 hK16 => ?_)
      refine rg_plain ?_
      refine pl_does (does_load rfl rfl (k := 2) rfl Tryd.underlying23 rfl (info_ks _)) rfl rfl rfl rfl H ?_
      clear H a W
      intro a W H
      refine pl_does (does_move rfl rfl) rfl rfl rfl rfl H ?_
      clear H a W
      intro a W H
      refine pl_does (does_binOp rfl rfl rfl (i_from (m := 255) (by omega) (by omega) _ _)) rfl rfl rfl rfl H ?_
      clear H a W
      intro a W H
      refine pl_does (does_call rfl ⟨_, Tryd.func45, by kernel_rfl⟩ rfl (fun W hb => pbitB hbit W (by omega))) rfl rfl rfl rfl H ?_
      clear H a W
      intro a W H
      refine pl_end ?_
      refine hK16 _ _ ?_
      clear hK16
      refine wp_cond_false (H.ev rfl) ?_
      refine wp_skip ?_
      refine blk_normal ?_
      refine hK13 _ _ ?_
      clear hK13
      refine rg_plain ?_
      refine pl_does (does_binOp rfl rfl rfl (i_inc (by omega) _ _)) rfl rfl rfl rfl H ?_
      clear H a W
      intro a W H
      replace H : St 22 w a W [(20, .int .i64 ((k + 1 : Nat) : Int)), (16, .bool false), (15, .int .i64 ((255 - k : Nat) : Int)), (14, .int .i64 ((k : Nat) : Int)), (13, .agg (ks n)), (12, .agg (sv (ptAdd ((ptMul s n (k))) ((ptMul s n (k)))))), (11, .agg (sv (ptMul s n (k)))), (10, .agg (sv (ptMul s n (k)))), (6, .int .i64 ((k : Nat) : Int)), (9, .int .i64 ((k : Nat) : Int)), (8, .bool true), (5, .pointer (some ⟨g4, 0, none⟩)), (4, .pointer (some ⟨g3, 0, none⟩)), (3, .pointer (some ⟨g2, 0, none⟩)), (2, .pointer (some ⟨g1, 0, none⟩))] [(g4, 41, sv (ptAdd ((ptMul s n (k))) ((ptMul s n (k))))), (g3, 41, sv (ptMul s n 0)), (g2, 23, ks n), (g1, 41, sv s)] := H.pick [0, 1, 2, 3, 4, 5, 6, 7, 8, 9, 10, 12, 13, 14, 15] [0, 1, 2, 3] rfl
      refine pl_does (does_move rfl rfl) rfl rfl rfl rfl H ?_
      clear H a W
      intro a W H
      refine pl_end ?_
      refine ⟨k + 1, by omega, by omega, ?_⟩
      show St 22 w a W [(7, .int .i64 ((k + 1 : Nat) : Int)), (5, .pointer (some ⟨g4, 0, none⟩)), (4, .pointer (some ⟨g3, 0, none⟩)), (3, .pointer (some ⟨g2, 0, none⟩)), (2, .pointer (some ⟨g1, 0, none⟩))] [(g4, 41, sv (ptMul s n (k + 1))), (g3, 41, sv (ptMul s n 0)), (g2, 23, ks n), (g1, 41, sv s)]
      rw [hn]
      exact H.pick [0, 12, 13, 14, 15] [0, 1, 2, 3] rfl
  · obtain rfl : k = 256 := by omega
    refine wp_seq_k (fun K17 hK17 => ?_)
    refine rg_plain ?_
    refine pl_does (does_binOp rfl rfl rfl (i_lss_no (m := 256) (by omega) _ _)) rfl rfl rfl rfl H ?_
    clear H a W
    intro a W H
    refine pl_end ?_
    refine hK17 _ _ ?_
    clear hK17
    refine wp_seq_k (fun K18 hK18 => ?_)
    refine wp_cond_false (H.ev rfl) ?_
    refine wp_exit ?_
    repeat (with_reducible refine then_exit ?_)
    refine blk_exit ?_
    refine hK3 _ _ ?_
    clear hK3
    refine wp_seq_k (fun K19 hK19 => ?_)
    refine rg_plain ?_
    refine pl_does (does_load rfl rfl (k := 0) rfl Tryd.underlying41 rfl (info_pt _)) rfl rfl rfl rfl H ?_
    clear H a W
    intro a W H
    refine pl_store rfl rfl rfl (k := 1) rfl (info_pt _) (by simp only [sv_size, ev_size, ks_size, fx_size] <;> rfl) (sv_one _) rfl rfl H ?_
    clear H a W
    intro a W H
    refine pl_end ?_
    replace H : St 22 w a W [(4, .pointer (some ⟨g3, 0, none⟩))] [(g3, 41, sv (ptMul s n (256)))] := H.pick [4] [1] rfl
    refine hK19 _ _ ?_
    clear hK19
    refine wp_ret ?_
    repeat (first | (with_reducible refine then_ret ?_) | (with_reducible refine blk_ret ?_))
    refine end_cell (p := 4) rfl rfl (k := 0) rfl Tryd.underlying41 rfl (info_pt _) H (fun hb => ?_)
    exact ⟨by rw [h], hb⟩
set_option maxHeartbeats 4000000 in
theorem base_pt {r : L4 PP} {n : Nat} (h : r = ptMul BE n 256) (w : World) (hpg : PG w) : Calls Tryd.prog 9 #[.agg (ks n)] w (fun rr w' => rr = .returned (.agg (sv r)) ∧ Below w.heap.size w w') := by
  refine calls_st (vs := [.agg (ks n)]) 6 Tryd.func9 rfl Tryd.ntmps9 rfl (fun a W H => ?_)
  replace H : St 6 w a W [(0, .agg (ks n))] [] := H
  refine wp_seq_k (fun K1 hK1 => ?_)
  refine rg_plain ?_
  refine pl_box rfl rfl (bx_key n) rfl rfl rfl rfl H ?_
  clear H a W
  intro g1 a W H
  refine pl_new (news_of rfl al_pt) rfl rfl rfl rfl H ?_
  clear H a W
  intro g2 a W H
  refine pl_end ?_
  replace H : St 6 w a W [(2, .pointer (some ⟨g2, 0, none⟩)), (1, .pointer (some ⟨g1, 0, none⟩))] [(g2, 41, #[.int .u64 0, .int .u64 0, .int .u64 0, .int .u64 0, .int .u64 0, .int .u64 0, .int .u64 0, .int .u64 0, .int .u64 0, .int .u64 0, .int .u64 0, .int .u64 0, .int .u64 0, .int .u64 0, .int .u64 0, .int .u64 0]), (g1, 23, ks n)] := H.pick [0, 1] [0, 1] rfl
  refine hK1 _ _ ?_
  clear hK1
  refine wp_seq_k (fun K2 hK2 => ?_)
  refine drawnS [.val 3 (.agg (sv BE)) [] [], .val 4 (.agg (ks n)) [] [1], .val 5 (.agg (sv r)) [0, 1] [], .sto 0 g2 41 (#[.int .u64 0, .int .u64 0, .int .u64 0, .int .u64 0, .int .u64 0, .int .u64 0, .int .u64 0, .int .u64 0, .int .u64 0, .int .u64 0, .int .u64 0, .int .u64 0, .int .u64 0, .int .u64 0, .int .u64 0, .int .u64 0]) (sv r) [2]] [0, 0, 3, 7] (by kernel_rfl) (by kernel_rfl) (by kernel_rfl) H ⟨⟨does_call rfl ⟨_, Tryd.func23, by kernel_rfl⟩ rfl (fun W hb => writtenBase_any W (hpg.ext hb)), wanted_none rfl⟩, ⟨does_load rfl rfl (k := 0) rfl Tryd.underlying23 rfl (info_ks _), wanted_none rfl⟩, ⟨does_call rfl ⟨_, Tryd.func20, by kernel_rfl⟩ rfl (fun W hb => mul_pt h W (hpg.ext hb)), wanted_none rfl⟩, ⟨rfl, rfl, sto_row rfl rfl rfl (info_pt _) (by simp only [sv_size, ev_size, ks_size, fx_size] <;> rfl) (sv_one _)⟩, trivial⟩ ?_
  clear H a W
  intro G3 a W H
  replace H : St 6 w a W [(3, .agg (sv BE)), (4, .agg (ks n)), (5, .agg (sv r)), (2, .pointer (some ⟨g2, 0, none⟩)), (1, .pointer (some ⟨g1, 0, none⟩))] [(g2, 41, sv r), (g1, 23, ks n)] := H
  replace H : St 6 w a W [(2, .pointer (some ⟨g2, 0, none⟩))] [(g2, 41, sv r)] := H.pick [3] [0] rfl
  refine hK2 _ _ ?_
  clear hK2
  refine wp_ret ?_
  repeat (first | (with_reducible refine then_ret ?_) | (with_reducible refine blk_ret ?_))
  refine end_cell (p := 2) rfl rfl (k := 0) rfl Tryd.underlying41 rfl (info_pt _) H (fun hb => ?_)
  exact ⟨rfl, hb⟩
end Go.Proofs.YtpagiffbjofihaaDoor
namespace Go.Proofs.YtpagiffbjofihaaDoor
set_option linter.unusedVariables false
set_option linter.unusedSimpArgs false
set_option maxRecDepth 100000
open Go Go.RowKit
attribute [local irreducible] ev sv ks ptSet ptAdd ptMul rootC EE II TD BX BY
theorem ofK_mod (n : Nat) : ofK (n % 57896044618658097711785492504343953926634992332820282019728792003956564819968) = ofK n := by
  unfold ofK
  rw [Nat.mod_mod]
theorem canonB {n : Nat} {b : Bool} (h : decide (n < PP) = b) (w : World) (hpg : PG w) (hn : n < 115792089237316195423570985008687907853269984665640564039457584007913129639936) : Calls Tryd.prog 31 #[.agg (ks n)] w (BPost b w) := by
  subst h
  exact canonical_any n w hpg hn
set_option maxHeartbeats 4000000 in
theorem of_a {n : Nat} (hn : n < 115792089237316195423570985008687907853269984665640564039457584007913129639936) (h1 : ¬ n % 57896044618658097711785492504343953926634992332820282019728792003956564819968 < PP) (w : World) (hpg : PG w) : Calls Tryd.prog 16 #[.agg (ks n)] w (fun rr w' => rr = .returned (.tuple #[.agg (sv PZ), .bool false]) ∧ Below w.heap.size w w') := by
  obtain ⟨x, hx⟩ : ∃ x : Nat, n / 256 ^ 31 % 256 = x := ⟨_, rfl⟩
  have hx1 : x < 256 := by omega
  obtain ⟨y, hy⟩ : ∃ y : Nat, (if 128 ≤ x then 128 else 0) = y := ⟨_, rfl⟩
  obtain ⟨v, hv⟩ : ∃ v : Nat, x % 128 = v := ⟨_, rfl⟩
  have hv1 : v < 256 := by omega
  obtain ⟨m, hm⟩ : ∃ m : Nat, n % 57896044618658097711785492504343953926634992332820282019728792003956564819968 = m := ⟨_, rfl⟩
  have hput : putd 256 n 31 v = m := by rw [← hv, ← hx, put_top hn, hm]
  have hm1 : m < 115792089237316195423570985008687907853269984665640564039457584007913129639936 := by omega
  have hof : ofK m = ofK n := by rw [← hm]; exact ofK_mod n
  have hmx : (57896044618658097711785492504343953926634992332820282019728792003956564819968 ≤ n) ↔ 128 ≤ x := by omega
  obtain ⟨od, hod⟩ : ∃ b, decide (y ≠ 0) = b := ⟨_, rfl⟩
  have hc : decide (m < PP) = false := decide_eq_false (by rw [← hm]; exact h1)
  refine calls_st (vs := [.agg (ks n)]) 45 Tryd.func16 rfl Tryd.ntmps16 rfl (fun a W H => ?_)
  replace H : St 45 w a W [(0, .agg (ks n))] [] := H
  refine wp_seq_k (fun K1 hK1 => ?_)
  refine rg_plain ?_
  refine pl_box rfl rfl (bx_key n) rfl rfl rfl rfl H ?_
  clear H a W
  intro g1 a W H
  refine pl_new (news_of rfl al_pt) rfl rfl rfl rfl H ?_
  clear H a W
  intro g2 a W H
  refine pl_does (does_assign rfl rfl) rfl rfl rfl rfl H ?_
  clear H a W
  intro a W H
  refine pl_end ?_
  replace H : St 45 w a W [(3, .bool false), (2, .pointer (some ⟨g2, 0, none⟩)), (1, .pointer (some ⟨g1, 0, none⟩))] [(g2, 41, #[.int .u64 0, .int .u64 0, .int .u64 0, .int .u64 0, .int .u64 0, .int .u64 0, .int .u64 0, .int .u64 0, .int .u64 0, .int .u64 0, .int .u64 0, .int .u64 0, .int .u64 0, .int .u64 0, .int .u64 0, .int .u64 0]), (g1, 23, ks n)] := H.pick [0, 1, 2] [0, 1] rfl
  refine hK1 _ _ ?_
  clear hK1
  refine wp_seq_k (fun K2 hK2 => ?_)
  refine rg_plain ?_
  refine pl_does (does_indexAddr rfl rfl rfl (ia_key31 _)) rfl rfl rfl rfl H ?_
  clear H a W
  intro a W H
  refine pl_does (does_loadAt (v := .int .u8 ((x : Nat) : Int)) rfl rfl (k := 1) rfl (ld_key31 hx)) rfl rfl rfl rfl H ?_
  clear H a W
  intro a W H
  refine pl_does (does_binOp rfl rfl rfl (b_and128 hx1 hy _ _)) rfl rfl rfl rfl H ?_
  clear H a W
  intro a W H
  refine pl_does (does_binOp rfl rfl rfl (b_neq0 hod _ _)) rfl rfl rfl rfl H ?_
  clear H a W
  intro a W H
  refine pl_does (does_assign rfl rfl) rfl rfl rfl rfl H ?_
  clear H a W
  intro a W H
  refine pl_end ?_
  replace H : St 45 w a W [(4, .bool od), (3, .bool false), (2, .pointer (some ⟨g2, 0, none⟩)), (1, .pointer (some ⟨g1, 0, none⟩))] [(g2, 41, #[.int .u64 0, .int .u64 0, .int .u64 0, .int .u64 0, .int .u64 0, .int .u64 0, .int .u64 0, .int .u64 0, .int .u64 0, .int .u64 0, .int .u64 0, .int .u64 0, .int .u64 0, .int .u64 0, .int .u64 0, .int .u64 0]), (g1, 23, ks n)] := H.pick [0, 5, 6, 7] [0, 1] rfl
  refine hK2 _ _ ?_
  clear hK2
  refine wp_seq_k (fun K3 hK3 => ?_)
  refine rg_plain ?_
  refine pl_does (does_indexAddr rfl rfl rfl (ia_key31 _)) rfl rfl rfl rfl H ?_
  clear H a W
  intro a W H
  refine pl_does (does_loadAt (v := .int .u8 ((x : Nat) : Int)) rfl rfl (k := 1) rfl (ld_key31 hx)) rfl rfl rfl rfl H ?_
  clear H a W
  intro a W H
  refine pl_does (does_binOp rfl rfl rfl (b_andNot128 hx1 hv _ _)) rfl rfl rfl rfl H ?_
  clear H a W
  intro a W H
  refine pl_does (does_indexAddr rfl rfl rfl (ia_key31 _)) rfl rfl rfl rfl H ?_
  clear H a W
  intro a W H
  refine pl_storeAt rfl rfl rfl (k := 1) rfl st_key31 (sv_key31 hv1 hput) rfl rfl H ?_
  clear H a W
  intro a W H
  refine pl_end ?_
  replace H : St 45 w a W [(4, .bool od), (3, .bool false), (2, .pointer (some ⟨g2, 0, none⟩)), (1, .pointer (some ⟨g1, 0, none⟩))] [(g2, 41, #[.int .u64 0, .int .u64 0, .int .u64 0, .int .u64 0, .int .u64 0, .int .u64 0, .int .u64 0, .int .u64 0, .int .u64 0, .int .u64 0, .int .u64 0, .int .u64 0, .int .u64 0, .int .u64 0, .int .u64 0, .int .u64 0]), (g1, 23, ks m)] := H.pick [4, 5, 6, 7] [0, 1] rfl
  refine hK3 _ _ ?_
  clear hK3
  refine wp_seq_k (fun K4 hK4 => ?_)
  refine wp_seq_k (fun K5 hK5 => ?_)
  refine rg_plain ?_
  refine pl_does (does_load rfl rfl (k := 1) rfl Tryd.underlying23 rfl (info_ks _)) rfl rfl rfl rfl H ?_
  clear H a W
  intro a W H
  refine pl_does (does_call rfl ⟨_, Tryd.func31, by kernel_rfl⟩ rfl (fun W hb => canonB hc W (hpg.ext hb) hm1)) rfl rfl rfl rfl H ?_
  clear H a W
  intro a W H
  refine pl_does (does_unOp rfl rfl (fun _ => rfl)) rfl rfl rfl rfl H ?_
  clear H a W
  intro a W H
  refine pl_end ?_
  replace H : St 45 w a W [(18, .bool true), (4, .bool od), (3, .bool false), (2, .pointer (some ⟨g2, 0, none⟩)), (1, .pointer (some ⟨g1, 0, none⟩))] [(g2, 41, #[.int .u64 0, .int .u64 0, .int .u64 0, .int .u64 0, .int .u64 0, .int .u64 0, .int .u64 0, .int .u64 0, .int .u64 0, .int .u64 0, .int .u64 0, .int .u64 0, .int .u64 0, .int .u64 0, .int .u64 0, .int .u64 0]), (g1, 23, ks m)] := H.pick [0, 3, 4, 5, 6] [0, 1] rfl
  refine hK5 _ _ ?_
  clear hK5
  refine wp_cond_true (H.ev rfl) ?_
  refine wp_seq_k (fun K6 hK6 => ?_)
  refine rg_plain ?_
  refine pl_does (does_build (ps := []) rfl rfl bd_pt0) rfl rfl rfl rfl H ?_
  clear H a W
  intro a W H
  refine pl_store rfl rfl rfl (k := 0) rfl (info_pt _) (by simp only [sv_size, ev_size, ks_size, fx_size] <;> rfl) (sv_one _) rfl rfl H ?_
  clear H a W
  intro a W H
  replace H : St 45 w a W [(19, .agg (sv PZ)), (18, .bool true), (4, .bool od), (2, .pointer (some ⟨g2, 0, none⟩)), (1, .pointer (some ⟨g1, 0, none⟩))] [(g2, 41, sv PZ), (g1, 23, ks m)] := H.pick [0, 1, 2, 4, 5] [0, 1] rfl
  refine pl_does (does_assign rfl rfl) rfl rfl rfl rfl H ?_
  clear H a W
  intro a W H
  refine pl_end ?_
  replace H : St 45 w a W [(3, .bool false), (4, .bool od), (2, .pointer (some ⟨g2, 0, none⟩)), (1, .pointer (some ⟨g1, 0, none⟩))] [(g2, 41, sv PZ), (g1, 23, ks m)] := H.pick [0, 3, 4, 5] [0, 1] rfl
  refine hK6 _ _ ?_
  clear hK6
  refine wp_ret ?_
  repeat (first | (with_reducible refine then_ret ?_) | (with_reducible refine blk_ret ?_))
  refine end_cell_tmp (p := 2) (q := 3) rfl rfl rfl (k := 0) rfl Tryd.underlying41 rfl (info_pt _) H (fun hb => ?_)
  exact ⟨rfl, hb⟩
set_option maxHeartbeats 4000000 in
theorem of_b {n : Nat} (hn : n < 115792089237316195423570985008687907853269984665640564039457584007913129639936) (h1 : n % 57896044618658097711785492504343953926634992332820282019728792003956564819968 < PP) (h2 : (ofX n).2 = false) (w : World) (hpg : PG w) : Calls Tryd.prog 16 #[.agg (ks n)] w (fun rr w' => rr = .returned (.tuple #[.agg (sv PZ), .bool false]) ∧ Below w.heap.size w w') := by
  obtain ⟨x, hx⟩ : ∃ x : Nat, n / 256 ^ 31 % 256 = x := ⟨_, rfl⟩
  have hx1 : x < 256 := by omega
  obtain ⟨y, hy⟩ : ∃ y : Nat, (if 128 ≤ x then 128 else 0) = y := ⟨_, rfl⟩
  obtain ⟨v, hv⟩ : ∃ v : Nat, x % 128 = v := ⟨_, rfl⟩
  have hv1 : v < 256 := by omega
  obtain ⟨m, hm⟩ : ∃ m : Nat, n % 57896044618658097711785492504343953926634992332820282019728792003956564819968 = m := ⟨_, rfl⟩
  have hput : putd 256 n 31 v = m := by rw [← hv, ← hx, put_top hn, hm]
  have hm1 : m < 115792089237316195423570985008687907853269984665640564039457584007913129639936 := by omega
  have hof : ofK m = ofK n := by rw [← hm]; exact ofK_mod n
  have hmx : (57896044618658097711785492504343953926634992332820282019728792003956564819968 ≤ n) ↔ 128 ≤ x := by omega
  obtain ⟨od, hod⟩ : ∃ b, decide (y ≠ 0) = b := ⟨_, rfl⟩
  have hc : decide (m < PP) = true := decide_eq_true (by rw [← hm]; exact h1)
  obtain ⟨yy, hyy⟩ : ∃ z, z = ofK m := ⟨_, rfl⟩
  obtain ⟨r, hr'⟩ : ∃ r, r = (ofX n).1 := ⟨_, rfl⟩
  have hr : (r, false) = rootC EE II (yy * yy - 1) (1 + TD * (yy * yy)) := ofX_root h2 hr' (by rw [hyy, hof])
  refine calls_st (vs := [.agg (ks n)]) 45 Tryd.func16 rfl Tryd.ntmps16 rfl (fun a W H => ?_)
  replace H : St 45 w a W [(0, .agg (ks n))] [] := H
  refine wp_seq_k (fun K1 hK1 => ?_)
  refine rg_plain ?_
  refine pl_box rfl rfl (bx_key n) rfl rfl rfl rfl H ?_
  clear H a W
  intro g1 a W H
  refine pl_new (news_of rfl al_pt) rfl rfl rfl rfl H ?_
  clear H a W
  intro g2 a W H
  refine pl_does (does_assign rfl rfl) rfl rfl rfl rfl H ?_
  clear H a W
  intro a W H
  refine pl_end ?_
  replace H : St 45 w a W [(3, .bool false), (2, .pointer (some ⟨g2, 0, none⟩)), (1, .pointer (some ⟨g1, 0, none⟩))] [(g2, 41, #[.int .u64 0, .int .u64 0, .int .u64 0, .int .u64 0, .int .u64 0, .int .u64 0, .int .u64 0, .int .u64 0, .int .u64 0, .int .u64 0, .int .u64 0, .int .u64 0, .int .u64 0, .int .u64 0, .int .u64 0, .int .u64 0]), (g1, 23, ks n)] := H.pick [0, 1, 2] [0, 1] rfl
  refine hK1 _ _ ?_
  clear hK1
  refine wp_seq_k (fun K2 hK2 => ?_)
  refine rg_plain ?_
  refine pl_does (does_indexAddr rfl rfl rfl (ia_key31 _)) rfl rfl rfl rfl H ?_
  clear H a W
  intro a W H
  refine pl_does (does_loadAt (v := .int .u8 ((x : Nat) : Int)) rfl rfl (k := 1) rfl (ld_key31 hx)) rfl rfl rfl rfl H ?_
  clear H a W
  intro a W H
  refine pl_does (does_binOp rfl rfl rfl (b_and128 hx1 hy _ _)) rfl rfl rfl rfl H ?_
  clear H a W
  intro a W H
  refine pl_does (does_binOp rfl rfl rfl (b_neq0 hod _ _)) rfl rfl rfl rfl H ?_
  clear H a W
  intro a W H
  refine pl_does (does_assign rfl rfl) rfl rfl rfl rfl H ?_
  clear H a W
  intro a W H
  refine pl_end ?_
  replace H : St 45 w a W [(4, .bool od), (3, .bool false), (2, .pointer (some ⟨g2, 0, none⟩)), (1, .pointer (some ⟨g1, 0, none⟩))] [(g2, 41, #[.int .u64 0, .int .u64 0, .int .u64 0, .int .u64 0, .int .u64 0, .int .u64 0, .int .u64 0, .int .u64 0, .int .u64 0, .int .u64 0, .int .u64 0, .int .u64 0, .int .u64 0, .int .u64 0, .int .u64 0, .int .u64 0]), (g1, 23, ks n)] := H.pick [0, 5, 6, 7] [0, 1] rfl
  refine hK2 _ _ ?_
  clear hK2
  refine wp_seq_k (fun K3 hK3 => ?_)
  refine rg_plain ?_
  refine pl_does (does_indexAddr rfl rfl rfl (ia_key31 _)) rfl rfl rfl rfl H ?_
  clear H a W
  intro a W H
  refine pl_does (does_loadAt (v := .int .u8 ((x : Nat) : Int)) rfl rfl (k := 1) rfl (ld_key31 hx)) rfl rfl rfl rfl H ?_
  clear H a W
  intro a W H
  refine pl_does (does_binOp rfl rfl rfl (b_andNot128 hx1 hv _ _)) rfl rfl rfl rfl H ?_
  clear H a W
  intro a W H
  refine pl_does (does_indexAddr rfl rfl rfl (ia_key31 _)) rfl rfl rfl rfl H ?_
  clear H a W
  intro a W H
  refine pl_storeAt rfl rfl rfl (k := 1) rfl st_key31 (sv_key31 hv1 hput) rfl rfl H ?_
  clear H a W
  intro a W H
  refine pl_end ?_
  replace H : St 45 w a W [(4, .bool od), (3, .bool false), (2, .pointer (some ⟨g2, 0, none⟩)), (1, .pointer (some ⟨g1, 0, none⟩))] [(g2, 41, #[.int .u64 0, .int .u64 0, .int .u64 0, .int .u64 0, .int .u64 0, .int .u64 0, .int .u64 0, .int .u64 0, .int .u64 0, .int .u64 0, .int .u64 0, .int .u64 0, .int .u64 0, .int .u64 0, .int .u64 0, .int .u64 0]), (g1, 23, ks m)] := H.pick [4, 5, 6, 7] [0, 1] rfl
  refine hK3 _ _ ?_
  clear hK3
  refine wp_seq_k (fun K4 hK4 => ?_)
  refine wp_seq_k (fun K5 hK5 => ?_)
  refine rg_plain ?_
  refine pl_does (does_load rfl rfl (k := 1) rfl Tryd.underlying23 rfl (info_ks _)) rfl rfl rfl rfl H ?_
  clear H a W
  intro a W H
  refine pl_does (does_call rfl ⟨_, Tryd.func31, by kernel_rfl⟩ rfl (fun W hb => canonB hc W (hpg.ext hb) hm1)) rfl rfl rfl rfl H ?_
  clear H a W
  intro a W H
  refine pl_does (does_unOp rfl rfl (fun _ => rfl)) rfl rfl rfl rfl H ?_
  clear H a W
  intro a W H
  refine pl_end ?_
  replace H : St 45 w a W [(18, .bool false), (4, .bool od), (3, .bool false), (2, .pointer (some ⟨g2, 0, none⟩)), (1, .pointer (some ⟨g1, 0, none⟩))] [(g2, 41, #[.int .u64 0, .int .u64 0, .int .u64 0, .int .u64 0, .int .u64 0, .int .u64 0, .int .u64 0, .int .u64 0, .int .u64 0, .int .u64 0, .int .u64 0, .int .u64 0, .int .u64 0, .int .u64 0, .int .u64 0, .int .u64 0]), (g1, 23, ks m)] := H.pick [0, 3, 4, 5, 6] [0, 1] rfl
  refine hK5 _ _ ?_
  clear hK5
  refine wp_cond_false (H.ev rfl) ?_
  refine wp_skip ?_
  refine hK4 _ _ ?_
  clear hK4
  refine wp_seq_k (fun K6 hK6 => ?_)
  refine rg_plain ?_
  refine pl_does (does_load rfl rfl (k := 1) rfl Tryd.underlying23 rfl (info_ks _)) rfl rfl rfl rfl H ?_
  clear H a W
  intro a W H
  refine pl_does (does_call rfl ⟨_, Tryd.func32, by kernel_rfl⟩ rfl (fun W hb => ofR hyy W (hpg.ext hb) hm1)) rfl rfl rfl rfl H ?_
  clear H a W
  intro a W H
  refine pl_new (news_of rfl al_elem) rfl rfl rfl rfl H ?_
  clear H a W
  intro g3 a W H
  refine pl_store rfl rfl rfl (k := 0) rfl (info_ev _) (by simp only [sv_size, ev_size, ks_size, fx_size] <;> rfl) (ev_one _) rfl rfl H ?_
  clear H a W
  intro a W H
  refine pl_end ?_
  replace H : St 45 w a W [(5, .pointer (some ⟨g3, 0, none⟩)), (4, .bool od), (3, .bool false), (2, .pointer (some ⟨g2, 0, none⟩))] [(g3, 39, ev yy), (g2, 41, #[.int .u64 0, .int .u64 0, .int .u64 0, .int .u64 0, .int .u64 0, .int .u64 0, .int .u64 0, .int .u64 0, .int .u64 0, .int .u64 0, .int .u64 0, .int .u64 0, .int .u64 0, .int .u64 0, .int .u64 0, .int .u64 0])] := H.pick [0, 4, 5, 6] [0, 1] rfl
  refine hK6 _ _ ?_
  clear hK6
  refine wp_seq_k (fun K7 hK7 => ?_)
  refine drawnS [.val 23 (.agg (ev yy)) [] [0], .val 24 (.agg (ev TD)) [] [], .val 25 (.tuple #[.agg (ev r), .bool false]) [0, 1] [], .val 22 (.tuple #[.agg (ev r), .bool false]) [2] [], .val 26 (.agg (ev r)) [3] [], .val 27 (.bool false) [3] [], .new 6 39 (#[.int .u64 0, .int .u64 0, .int .u64 0, .int .u64 0]), .ston 6 6 39 (#[.int .u64 0, .int .u64 0, .int .u64 0, .int .u64 0]) (ev r) [4], .val 7 (.bool false) [5] []] [0, 0, 3, 4, 8, 8, 0, 95, 255] (by kernel_rfl) (by kernel_rfl) (by kernel_rfl) H ⟨⟨does_load rfl rfl (k := 0) rfl Tryd.underlying39 rfl (info_ev _), wanted_none rfl⟩, ⟨does_call rfl ⟨_, Tryd.func34, by kernel_rfl⟩ rfl (fun W hb => writtenD_any W (hpg.ext hb)), wanted_none rfl⟩, ⟨does_call rfl ⟨_, Tryd.func33, by kernel_rfl⟩ rfl (fun W hb => evenX_any hr W (hpg.ext hb)), wanted_none rfl⟩, ⟨does_move rfl rfl, wanted_none rfl⟩, ⟨does_extract rfl rfl (fun _ => rfl), wanted_none rfl⟩, ⟨does_extract rfl rfl (fun _ => rfl), wanted_none rfl⟩, ⟨news_of rfl al_elem, rfl⟩, ⟨rfl, rfl, fun g => sto_row rfl rfl rfl (info_ev _) (by simp only [sv_size, ev_size, ks_size, fx_size] <;> rfl) (ev_one _)⟩, ⟨does_assign rfl rfl, wanted_none rfl⟩, trivial⟩ ?_
  clear H a W
  intro G4 a W H
  replace H : St 45 w a W [(23, .agg (ev yy)), (24, .agg (ev TD)), (25, .tuple #[.agg (ev r), .bool false]), (22, .tuple #[.agg (ev r), .bool false]), (26, .agg (ev r)), (27, .bool false), (6, .pointer (some ⟨(G4 6), 0, none⟩)), (7, .bool false), (5, .pointer (some ⟨g3, 0, none⟩)), (4, .bool od), (3, .bool false), (2, .pointer (some ⟨g2, 0, none⟩))] [((G4 6), 39, ev r), (g3, 39, ev yy), (g2, 41, #[.int .u64 0, .int .u64 0, .int .u64 0, .int .u64 0, .int .u64 0, .int .u64 0, .int .u64 0, .int .u64 0, .int .u64 0, .int .u64 0, .int .u64 0, .int .u64 0, .int .u64 0, .int .u64 0, .int .u64 0, .int .u64 0])] := H
  replace H : St 45 w a W [(6, .pointer (some ⟨(G4 6), 0, none⟩)), (7, .bool false), (5, .pointer (some ⟨g3, 0, none⟩)), (4, .bool od), (3, .bool false), (2, .pointer (some ⟨g2, 0, none⟩))] [((G4 6), 39, ev r), (g3, 39, ev yy), (g2, 41, #[.int .u64 0, .int .u64 0, .int .u64 0, .int .u64 0, .int .u64 0, .int .u64 0, .int .u64 0, .int .u64 0, .int .u64 0, .int .u64 0, .int .u64 0, .int .u64 0, .int .u64 0, .int .u64 0, .int .u64 0, .int .u64 0])] := H.pick [6, 7, 8, 9, 10, 11] [0, 1, 2] rfl
  refine hK7 _ _ ?_
  clear hK7
  refine wp_seq_k (fun K8 hK8 => ?_)
  refine wp_seq_k (fun K9 hK9 => ?_)
  refine rg_plain ?_
  refine pl_does (does_move rfl rfl) rfl rfl rfl rfl H ?_
  clear H a W
  intro a W H
  refine pl_does (does_unOp rfl rfl (fun _ => rfl)) rfl rfl rfl rfl H ?_
  clear H a W
  intro a W H
  refine pl_does (does_move rfl rfl) rfl rfl rfl rfl H ?_
  clear H a W
  intro a W H
  refine pl_skip (wanted_some rfl rfl rfl rfl rfl) rfl rfl rfl H ?_
  clear H a W
  intro a W H
  refine pl_skip (wanted_some rfl rfl rfl rfl rfl) rfl rfl rfl H ?_
  clear H a W
  intro a W H
  refine pl_skip (wanted_off rfl rfl rfl rfl) rfl rfl rfl H ?_
  clear H a W
  intro a W H
  refine pl_skip (wanted_off rfl rfl rfl rfl) rfl rfl rfl H ?_
  clear H a W
  intro a W H
  refine pl_skip (wanted_some rfl rfl rfl rfl rfl) rfl rfl rfl H ?_
  clear H a W
  intro a W H
  refine pl_does (does_pick rfl rfl (fun _ => rfl) (fun hb => by cases hb)) rfl rfl rfl rfl H ?_
  clear H a W
  intro a W H
  refine pl_end ?_
  replace H : St 45 w a W [(36, .bool true), (6, .pointer (some ⟨(G4 6), 0, none⟩)), (5, .pointer (some ⟨g3, 0, none⟩)), (4, .bool od), (3, .bool false), (2, .pointer (some ⟨g2, 0, none⟩))] [((G4 6), 39, ev r), (g3, 39, ev yy), (g2, 41, #[.int .u64 0, .int .u64 0, .int .u64 0, .int .u64 0, .int .u64 0, .int .u64 0, .int .u64 0, .int .u64 0, .int .u64 0, .int .u64 0, .int .u64 0, .int .u64 0, .int .u64 0, .int .u64 0, .int .u64 0, .int .u64 0])] := H.pick [0, 9, 11, 12, 13, 14] [0, 1, 2] rfl
  refine hK9 _ _ ?_
  clear hK9
  refine wp_cond_true (H.ev rfl) ?_
  refine wp_seq_k (fun K10 hK10 => ?_)
  refine rg_plain ?_
  refine pl_does (does_build (ps := []) rfl rfl bd_pt0) rfl rfl rfl rfl H ?_
  clear H a W
  intro a W H
  refine pl_store rfl rfl rfl (k := 2) rfl (info_pt _) (by simp only [sv_size, ev_size, ks_size, fx_size] <;> rfl) (sv_one _) rfl rfl H ?_
  clear H a W
  intro a W H
  replace H : St 45 w a W [(37, .agg (sv PZ)), (36, .bool true), (6, .pointer (some ⟨(G4 6), 0, none⟩)), (5, .pointer (some ⟨g3, 0, none⟩)), (4, .bool od), (2, .pointer (some ⟨g2, 0, none⟩))] [((G4 6), 39, ev r), (g3, 39, ev yy), (g2, 41, sv PZ)] := H.pick [0, 1, 2, 3, 4, 6] [0, 1, 2] rfl
  refine pl_does (does_assign rfl rfl) rfl rfl rfl rfl H ?_
  clear H a W
  intro a W H
  refine pl_end ?_
  replace H : St 45 w a W [(3, .bool false), (6, .pointer (some ⟨(G4 6), 0, none⟩)), (5, .pointer (some ⟨g3, 0, none⟩)), (4, .bool od), (2, .pointer (some ⟨g2, 0, none⟩))] [((G4 6), 39, ev r), (g3, 39, ev yy), (g2, 41, sv PZ)] := H.pick [0, 3, 4, 5, 6] [0, 1, 2] rfl
  refine hK10 _ _ ?_
  clear hK10
  refine wp_ret ?_
  repeat (first | (with_reducible refine then_ret ?_) | (with_reducible refine blk_ret ?_))
  refine end_cell_tmp (p := 2) (q := 3) rfl rfl rfl (k := 2) rfl Tryd.underlying41 rfl (info_pt _) H (fun hb => ?_)
  exact ⟨rfl, hb⟩
set_option maxHeartbeats 4000000 in
theorem of_c {n : Nat} (hn : n < 115792089237316195423570985008687907853269984665640564039457584007913129639936) (h1 : n % 57896044618658097711785492504343953926634992332820282019728792003956564819968 < PP) (h2 : (ofX n).2 = true) (h3 : 57896044618658097711785492504343953926634992332820282019728792003956564819968 ≤ n) (h4 : (ofX n).1 = 0) (w : World) (hpg : PG w) : Calls Tryd.prog 16 #[.agg (ks n)] w (fun rr w' => rr = .returned (.tuple #[.agg (sv PZ), .bool false]) ∧ Below w.heap.size w w') := by
  obtain ⟨x, hx⟩ : ∃ x : Nat, n / 256 ^ 31 % 256 = x := ⟨_, rfl⟩
  have hx1 : x < 256 := by omega
  obtain ⟨y, hy⟩ : ∃ y : Nat, (if 128 ≤ x then 128 else 0) = y := ⟨_, rfl⟩
  obtain ⟨v, hv⟩ : ∃ v : Nat, x % 128 = v := ⟨_, rfl⟩
  have hv1 : v < 256 := by omega
  obtain ⟨m, hm⟩ : ∃ m : Nat, n % 57896044618658097711785492504343953926634992332820282019728792003956564819968 = m := ⟨_, rfl⟩
  have hput : putd 256 n 31 v = m := by rw [← hv, ← hx, put_top hn, hm]
  have hm1 : m < 115792089237316195423570985008687907853269984665640564039457584007913129639936 := by omega
  have hof : ofK m = ofK n := by rw [← hm]; exact ofK_mod n
  have hmx : (57896044618658097711785492504343953926634992332820282019728792003956564819968 ≤ n) ↔ 128 ≤ x := by omega
  have hod : decide (y ≠ 0) = true := by rw [← hy]; simp [show 128 ≤ x by omega]
  have hc : decide (m < PP) = true := decide_eq_true (by rw [← hm]; exact h1)
  obtain ⟨yy, hyy⟩ : ∃ z, z = ofK m := ⟨_, rfl⟩
  obtain ⟨r, hr'⟩ : ∃ r, r = (ofX n).1 := ⟨_, rfl⟩
  have hr : (r, true) = rootC EE II (yy * yy - 1) (1 + TD * (yy * yy)) := ofX_root h2 hr' (by rw [hyy, hof])
  have hz : decide (r = 0) = true := decide_eq_true (by rw [hr']; exact h4)
  refine calls_st (vs := [.agg (ks n)]) 45 Tryd.func16 rfl Tryd.ntmps16 rfl (fun a W H => ?_)
  replace H : St 45 w a W [(0, .agg (ks n))] [] := H
  refine wp_seq_k (fun K1 hK1 => ?_)
  refine rg_plain ?_
  refine pl_box rfl rfl (bx_key n) rfl rfl rfl rfl H ?_
  clear H a W
  intro g1 a W H
  refine pl_new (news_of rfl al_pt) rfl rfl rfl rfl H ?_
  clear H a W
  intro g2 a W H
  refine pl_does (does_assign rfl rfl) rfl rfl rfl rfl H ?_
  clear H a W
  intro a W H
  refine pl_end ?_
  replace H : St 45 w a W [(3, .bool false), (2, .pointer (some ⟨g2, 0, none⟩)), (1, .pointer (some ⟨g1, 0, none⟩))] [(g2, 41, #[.int .u64 0, .int .u64 0, .int .u64 0, .int .u64 0, .int .u64 0, .int .u64 0, .int .u64 0, .int .u64 0, .int .u64 0, .int .u64 0, .int .u64 0, .int .u64 0, .int .u64 0, .int .u64 0, .int .u64 0, .int .u64 0]), (g1, 23, ks n)] := H.pick [0, 1, 2] [0, 1] rfl
  refine hK1 _ _ ?_
  clear hK1
  refine wp_seq_k (fun K2 hK2 => ?_)
  refine rg_plain ?_
  refine pl_does (does_indexAddr rfl rfl rfl (ia_key31 _)) rfl rfl rfl rfl H ?_
  clear H a W
  intro a W H
  refine pl_does (does_loadAt (v := .int .u8 ((x : Nat) : Int)) rfl rfl (k := 1) rfl (ld_key31 hx)) rfl rfl rfl rfl H ?_
  clear H a W
  intro a W H
  refine pl_does (does_binOp rfl rfl rfl (b_and128 hx1 hy _ _)) rfl rfl rfl rfl H ?_
  clear H a W
  intro a W H
  refine pl_does (does_binOp rfl rfl rfl (b_neq0 hod _ _)) rfl rfl rfl rfl H ?_
  clear H a W
  intro a W H
  refine pl_does (does_assign rfl rfl) rfl rfl rfl rfl H ?_
  clear H a W
  intro a W H
  refine pl_end ?_
  replace H : St 45 w a W [(4, .bool true), (3, .bool false), (2, .pointer (some ⟨g2, 0, none⟩)), (1, .pointer (some ⟨g1, 0, none⟩))] [(g2, 41, #[.int .u64 0, .int .u64 0, .int .u64 0, .int .u64 0, .int .u64 0, .int .u64 0, .int .u64 0, .int .u64 0, .int .u64 0, .int .u64 0, .int .u64 0, .int .u64 0, .int .u64 0, .int .u64 0, .int .u64 0, .int .u64 0]), (g1, 23, ks n)] := H.pick [0, 5, 6, 7] [0, 1] rfl
  refine hK2 _ _ ?_
  clear hK2
  refine wp_seq_k (fun K3 hK3 => ?_)
  refine rg_plain ?_
  refine pl_does (does_indexAddr rfl rfl rfl (ia_key31 _)) rfl rfl rfl rfl H ?_
  clear H a W
  intro a W H
  refine pl_does (does_loadAt (v := .int .u8 ((x : Nat) : Int)) rfl rfl (k := 1) rfl (ld_key31 hx)) rfl rfl rfl rfl H ?_
  clear H a W
  intro a W H
  refine pl_does (does_binOp rfl rfl rfl (b_andNot128 hx1 hv _ _)) rfl rfl rfl rfl H ?_
  clear H a W
  intro a W H
  refine pl_does (does_indexAddr rfl rfl rfl (ia_key31 _)) rfl rfl rfl rfl H ?_
  clear H a W
  intro a W H
  refine pl_storeAt rfl rfl rfl (k := 1) rfl st_key31 (sv_key31 hv1 hput) rfl rfl H ?_
  clear H a W
  intro a W H
  refine pl_end ?_
  replace H : St 45 w a W [(4, .bool true), (3, .bool false), (2, .pointer (some ⟨g2, 0, none⟩)), (1, .pointer (some ⟨g1, 0, none⟩))] [(g2, 41, #[.int .u64 0, .int .u64 0, .int .u64 0, .int .u64 0, .int .u64 0, .int .u64 0, .int .u64 0, .int .u64 0, .int .u64 0, .int .u64 0, .int .u64 0, .int .u64 0, .int .u64 0, .int .u64 0, .int .u64 0, .int .u64 0]), (g1, 23, ks m)] := H.pick [4, 5, 6, 7] [0, 1] rfl
  refine hK3 _ _ ?_
  clear hK3
  refine wp_seq_k (fun K4 hK4 => ?_)
  refine wp_seq_k (fun K5 hK5 => ?_)
  refine rg_plain ?_
  refine pl_does (does_load rfl rfl (k := 1) rfl Tryd.underlying23 rfl (info_ks _)) rfl rfl rfl rfl H ?_
  clear H a W
  intro a W H
  refine pl_does (does_call rfl ⟨_, Tryd.func31, by kernel_rfl⟩ rfl (fun W hb => canonB hc W (hpg.ext hb) hm1)) rfl rfl rfl rfl H ?_
  clear H a W
  intro a W H
  refine pl_does (does_unOp rfl rfl (fun _ => rfl)) rfl rfl rfl rfl H ?_
  clear H a W
  intro a W H
  refine pl_end ?_
  replace H : St 45 w a W [(18, .bool false), (4, .bool true), (3, .bool false), (2, .pointer (some ⟨g2, 0, none⟩)), (1, .pointer (some ⟨g1, 0, none⟩))] [(g2, 41, #[.int .u64 0, .int .u64 0, .int .u64 0, .int .u64 0, .int .u64 0, .int .u64 0, .int .u64 0, .int .u64 0, .int .u64 0, .int .u64 0, .int .u64 0, .int .u64 0, .int .u64 0, .int .u64 0, .int .u64 0, .int .u64 0]), (g1, 23, ks m)] := H.pick [0, 3, 4, 5, 6] [0, 1] rfl
  refine hK5 _ _ ?_
  clear hK5
  refine wp_cond_false (H.ev rfl) ?_
  refine wp_skip ?_
  refine hK4 _ _ ?_
  clear hK4
  refine wp_seq_k (fun K6 hK6 => ?_)
  refine rg_plain ?_
  refine pl_does (does_load rfl rfl (k := 1) rfl Tryd.underlying23 rfl (info_ks _)) rfl rfl rfl rfl H ?_
  clear H a W
  intro a W H
  refine pl_does (does_call rfl ⟨_, Tryd.func32, by kernel_rfl⟩ rfl (fun W hb => ofR hyy W (hpg.ext hb) hm1)) rfl rfl rfl rfl H ?_
  clear H a W
  intro a W H
  refine pl_new (news_of rfl al_elem) rfl rfl rfl rfl H ?_
  clear H a W
  intro g3 a W H
  refine pl_store rfl rfl rfl (k := 0) rfl (info_ev _) (by simp only [sv_size, ev_size, ks_size, fx_size] <;> rfl) (ev_one _) rfl rfl H ?_
  clear H a W
  intro a W H
  refine pl_end ?_
  replace H : St 45 w a W [(5, .pointer (some ⟨g3, 0, none⟩)), (4, .bool true), (3, .bool false), (2, .pointer (some ⟨g2, 0, none⟩))] [(g3, 39, ev yy), (g2, 41, #[.int .u64 0, .int .u64 0, .int .u64 0, .int .u64 0, .int .u64 0, .int .u64 0, .int .u64 0, .int .u64 0, .int .u64 0, .int .u64 0, .int .u64 0, .int .u64 0, .int .u64 0, .int .u64 0, .int .u64 0, .int .u64 0])] := H.pick [0, 4, 5, 6] [0, 1] rfl
  refine hK6 _ _ ?_
  clear hK6
  refine wp_seq_k (fun K7 hK7 => ?_)
  refine drawnS [.val 23 (.agg (ev yy)) [] [0], .val 24 (.agg (ev TD)) [] [], .val 25 (.tuple #[.agg (ev r), .bool true]) [0, 1] [], .val 22 (.tuple #[.agg (ev r), .bool true]) [2] [], .val 26 (.agg (ev r)) [3] [], .val 27 (.bool true) [3] [], .new 6 39 (#[.int .u64 0, .int .u64 0, .int .u64 0, .int .u64 0]), .ston 6 6 39 (#[.int .u64 0, .int .u64 0, .int .u64 0, .int .u64 0]) (ev r) [4], .val 7 (.bool true) [5] []] [0, 0, 3, 4, 8, 8, 0, 95, 255] (by kernel_rfl) (by kernel_rfl) (by kernel_rfl) H ⟨⟨does_load rfl rfl (k := 0) rfl Tryd.underlying39 rfl (info_ev _), wanted_none rfl⟩, ⟨does_call rfl ⟨_, Tryd.func34, by kernel_rfl⟩ rfl (fun W hb => writtenD_any W (hpg.ext hb)), wanted_none rfl⟩, ⟨does_call rfl ⟨_, Tryd.func33, by kernel_rfl⟩ rfl (fun W hb => evenX_any hr W (hpg.ext hb)), wanted_none rfl⟩, ⟨does_move rfl rfl, wanted_none rfl⟩, ⟨does_extract rfl rfl (fun _ => rfl), wanted_none rfl⟩, ⟨does_extract rfl rfl (fun _ => rfl), wanted_none rfl⟩, ⟨news_of rfl al_elem, rfl⟩, ⟨rfl, rfl, fun g => sto_row rfl rfl rfl (info_ev _) (by simp only [sv_size, ev_size, ks_size, fx_size] <;> rfl) (ev_one _)⟩, ⟨does_assign rfl rfl, wanted_none rfl⟩, trivial⟩ ?_
  clear H a W
  intro G4 a W H
  replace H : St 45 w a W [(23, .agg (ev yy)), (24, .agg (ev TD)), (25, .tuple #[.agg (ev r), .bool true]), (22, .tuple #[.agg (ev r), .bool true]), (26, .agg (ev r)), (27, .bool true), (6, .pointer (some ⟨(G4 6), 0, none⟩)), (7, .bool true), (5, .pointer (some ⟨g3, 0, none⟩)), (4, .bool true), (3, .bool false), (2, .pointer (some ⟨g2, 0, none⟩))] [((G4 6), 39, ev r), (g3, 39, ev yy), (g2, 41, #[.int .u64 0, .int .u64 0, .int .u64 0, .int .u64 0, .int .u64 0, .int .u64 0, .int .u64 0, .int .u64 0, .int .u64 0, .int .u64 0, .int .u64 0, .int .u64 0, .int .u64 0, .int .u64 0, .int .u64 0, .int .u64 0])] := H
  replace H : St 45 w a W [(6, .pointer (some ⟨(G4 6), 0, none⟩)), (7, .bool true), (5, .pointer (some ⟨g3, 0, none⟩)), (4, .bool true), (3, .bool false), (2, .pointer (some ⟨g2, 0, none⟩))] [((G4 6), 39, ev r), (g3, 39, ev yy), (g2, 41, #[.int .u64 0, .int .u64 0, .int .u64 0, .int .u64 0, .int .u64 0, .int .u64 0, .int .u64 0, .int .u64 0, .int .u64 0, .int .u64 0, .int .u64 0, .int .u64 0, .int .u64 0, .int .u64 0, .int .u64 0, .int .u64 0])] := H.pick [6, 7, 8, 9, 10, 11] [0, 1, 2] rfl
  refine hK7 _ _ ?_
  clear hK7
  refine wp_seq_k (fun K8 hK8 => ?_)
  refine wp_seq_k (fun K9 hK9 => ?_)
  refine rg_plain ?_
  refine pl_does (does_move rfl rfl) rfl rfl rfl rfl H ?_
  clear H a W
  intro a W H
  refine pl_does (does_unOp rfl rfl (fun _ => rfl)) rfl rfl rfl rfl H ?_
  clear H a W
  intro a W H
  refine pl_does (does_move rfl rfl) rfl rfl rfl rfl H ?_
  clear H a W
  intro a W H
  refine pl_does_g (does_move rfl rfl) (wanted_some rfl rfl rfl rfl rfl) rfl rfl rfl H ?_
  clear H a W
  intro a W H
  refine pl_does_g (does_move rfl rfl) (wanted_some rfl rfl rfl rfl rfl) rfl rfl rfl H ?_
  clear H a W
  intro a W H
  refine pl_does_g (does_load rfl rfl (k := 0) rfl Tryd.underlying39 rfl (info_ev _)) (wanted_some rfl rfl rfl rfl rfl) rfl rfl rfl H ?_
  clear H a W
  intro a W H
  refine pl_does_g (does_call rfl ⟨_, Tryd.func35, by kernel_rfl⟩ rfl (fun W hb => isZero_any hz W (hpg.ext hb))) (wanted_some rfl rfl rfl rfl rfl) rfl rfl rfl H ?_
  clear H a W
  intro a W H
  refine pl_does_g (does_pick rfl rfl (fun _ => rfl) (fun hb => by cases hb)) (wanted_some rfl rfl rfl rfl rfl) rfl rfl rfl H ?_
  clear H a W
  intro a W H
  refine pl_does (does_pick rfl rfl (fun hb => by cases hb) (fun _ => rfl)) rfl rfl rfl rfl H ?_
  clear H a W
  intro a W H
  refine pl_end ?_
  replace H : St 45 w a W [(36, .bool true), (6, .pointer (some ⟨(G4 6), 0, none⟩)), (5, .pointer (some ⟨g3, 0, none⟩)), (4, .bool true), (3, .bool false), (2, .pointer (some ⟨g2, 0, none⟩))] [((G4 6), 39, ev r), (g3, 39, ev yy), (g2, 41, #[.int .u64 0, .int .u64 0, .int .u64 0, .int .u64 0, .int .u64 0, .int .u64 0, .int .u64 0, .int .u64 0, .int .u64 0, .int .u64 0, .int .u64 0, .int .u64 0, .int .u64 0, .int .u64 0, .int .u64 0, .int .u64 0])] := H.pick [0, 9, 11, 12, 13, 14] [0, 1, 2] rfl
  refine hK9 _ _ ?_
  clear hK9
  refine wp_cond_true (H.ev rfl) ?_
  refine wp_seq_k (fun K10 hK10 => ?_)
  refine rg_plain ?_
  refine pl_does (does_build (ps := []) rfl rfl bd_pt0) rfl rfl rfl rfl H ?_
  clear H a W
  intro a W H
  refine pl_store rfl rfl rfl (k := 2) rfl (info_pt _) (by simp only [sv_size, ev_size, ks_size, fx_size] <;> rfl) (sv_one _) rfl rfl H ?_
  clear H a W
  intro a W H
  replace H : St 45 w a W [(37, .agg (sv PZ)), (36, .bool true), (6, .pointer (some ⟨(G4 6), 0, none⟩)), (5, .pointer (some ⟨g3, 0, none⟩)), (4, .bool true), (2, .pointer (some ⟨g2, 0, none⟩))] [((G4 6), 39, ev r), (g3, 39, ev yy), (g2, 41, sv PZ)] := H.pick [0, 1, 2, 3, 4, 6] [0, 1, 2] rfl
  refine pl_does (does_assign rfl rfl) rfl rfl rfl rfl H ?_
  clear H a W
  intro a W H
  refine pl_end ?_
  replace H : St 45 w a W [(3, .bool false), (6, .pointer (some ⟨(G4 6), 0, none⟩)), (5, .pointer (some ⟨g3, 0, none⟩)), (4, .bool true), (2, .pointer (some ⟨g2, 0, none⟩))] [((G4 6), 39, ev r), (g3, 39, ev yy), (g2, 41, sv PZ)] := H.pick [0, 3, 4, 5, 6] [0, 1, 2] rfl
  refine hK10 _ _ ?_
  clear hK10
  refine wp_ret ?_
  repeat (first | (with_reducible refine then_ret ?_) | (with_reducible refine blk_ret ?_))
  refine end_cell_tmp (p := 2) (q := 3) rfl rfl rfl (k := 2) rfl Tryd.underlying41 rfl (info_pt _) H (fun hb => ?_)
  exact ⟨rfl, hb⟩
set_option maxHeartbeats 4000000 in
theorem of_d {n : Nat} (hn : n < 115792089237316195423570985008687907853269984665640564039457584007913129639936) (h1 : n % 57896044618658097711785492504343953926634992332820282019728792003956564819968 < PP) (h2 : (ofX n).2 = true) (h3 : 57896044618658097711785492504343953926634992332820282019728792003956564819968 ≤ n) (h4 : ¬ (ofX n).1 = 0) (w : World) (hpg : PG w) : Calls Tryd.prog 16 #[.agg (ks n)] w (fun rr w' => rr = .returned (.tuple #[.agg (sv (ptE (ptX n) (ofK n))), .bool true]) ∧ Below w.heap.size w w') := by
  obtain ⟨x, hx⟩ : ∃ x : Nat, n / 256 ^ 31 % 256 = x := ⟨_, rfl⟩
  have hx1 : x < 256 := by omega
  obtain ⟨y, hy⟩ : ∃ y : Nat, (if 128 ≤ x then 128 else 0) = y := ⟨_, rfl⟩
  obtain ⟨v, hv⟩ : ∃ v : Nat, x % 128 = v := ⟨_, rfl⟩
  have hv1 : v < 256 := by omega
  obtain ⟨m, hm⟩ : ∃ m : Nat, n % 57896044618658097711785492504343953926634992332820282019728792003956564819968 = m := ⟨_, rfl⟩
  have hput : putd 256 n 31 v = m := by rw [← hv, ← hx, put_top hn, hm]
  have hm1 : m < 115792089237316195423570985008687907853269984665640564039457584007913129639936 := by omega
  have hof : ofK m = ofK n := by rw [← hm]; exact ofK_mod n
  have hmx : (57896044618658097711785492504343953926634992332820282019728792003956564819968 ≤ n) ↔ 128 ≤ x := by omega
  have hod : decide (y ≠ 0) = true := by rw [← hy]; simp [show 128 ≤ x by omega]
  have hc : decide (m < PP) = true := decide_eq_true (by rw [← hm]; exact h1)
  obtain ⟨yy, hyy⟩ : ∃ z, z = ofK m := ⟨_, rfl⟩
  obtain ⟨r, hr'⟩ : ∃ r, r = (ofX n).1 := ⟨_, rfl⟩
  have hr : (r, true) = rootC EE II (yy * yy - 1) (1 + TD * (yy * yy)) := ofX_root h2 hr' (by rw [hyy, hof])
  have hz : decide (r = 0) = false := decide_eq_false (by rw [hr']; exact h4)
  have hxr : ptX n = -r := by unfold ptX; rw [if_pos h3, hr']
  obtain ⟨z1, hz1⟩ : ∃ z : Fin PP, z = -r := ⟨_, rfl⟩
  obtain ⟨q, hq'⟩ : ∃ q, q = ptE (ptX n) (ofK n) := ⟨_, rfl⟩
  have hq : q = ptE z1 yy := by rw [hq', hyy, hof, hxr, hz1]
  rw [← hq']
  refine calls_st (vs := [.agg (ks n)]) 45 Tryd.func16 rfl Tryd.ntmps16 rfl (fun a W H => ?_)
  replace H : St 45 w a W [(0, .agg (ks n))] [] := H
  refine wp_seq_k (fun K1 hK1 => ?_)
  refine rg_plain ?_
  refine pl_box rfl rfl (bx_key n) rfl rfl rfl rfl H ?_
  clear H a W
  intro g1 a W H
  refine pl_new (news_of rfl al_pt) rfl rfl rfl rfl H ?_
  clear H a W
  intro g2 a W H
  refine pl_does (does_assign rfl rfl) rfl rfl rfl rfl H ?_
  clear H a W
  intro a W H
  refine pl_end ?_
  replace H : St 45 w a W [(3, .bool false), (2, .pointer (some ⟨g2, 0, none⟩)), (1, .pointer (some ⟨g1, 0, none⟩))] [(g2, 41, #[.int .u64 0, .int .u64 0, .int .u64 0, .int .u64 0, .int .u64 0, .int .u64 0, .int .u64 0, .int .u64 0, .int .u64 0, .int .u64 0, .int .u64 0, .int .u64 0, .int .u64 0, .int .u64 0, .int .u64 0, .int .u64 0]), (g1, 23, ks n)] := H.pick [0, 1, 2] [0, 1] rfl
  refine hK1 _ _ ?_
  clear hK1
  refine wp_seq_k (fun K2 hK2 => ?_)
  refine rg_plain ?_
  refine pl_does (does_indexAddr rfl rfl rfl (ia_key31 _)) rfl rfl rfl rfl H ?_
  clear H a W
  intro a W H
  refine pl_does (does_loadAt (v := .int .u8 ((x : Nat) : Int)) rfl rfl (k := 1) rfl (ld_key31 hx)) rfl rfl rfl rfl H ?_
  clear H a W
  intro a W H
  refine pl_does (does_binOp rfl rfl rfl (b_and128 hx1 hy _ _)) rfl rfl rfl rfl H ?_
  clear H a W
  intro a W H
  refine pl_does (does_binOp rfl rfl rfl (b_neq0 hod _ _)) rfl rfl rfl rfl H ?_
  clear H a W
  intro a W H
  refine pl_does (does_assign rfl rfl) rfl rfl rfl rfl H ?_
  clear H a W
  intro a W H
  refine pl_end ?_
  replace H : St 45 w a W [(4, .bool true), (3, .bool false), (2, .pointer (some ⟨g2, 0, none⟩)), (1, .pointer (some ⟨g1, 0, none⟩))] [(g2, 41, #[.int .u64 0, .int .u64 0, .int .u64 0, .int .u64 0, .int .u64 0, .int .u64 0, .int .u64 0, .int .u64 0, .int .u64 0, .int .u64 0, .int .u64 0, .int .u64 0, .int .u64 0, .int .u64 0, .int .u64 0, .int .u64 0]), (g1, 23, ks n)] := H.pick [0, 5, 6, 7] [0, 1] rfl
  refine hK2 _ _ ?_
  clear hK2
  refine wp_seq_k (fun K3 hK3 => ?_)
  refine rg_plain ?_
  refine pl_does (does_indexAddr rfl rfl rfl (ia_key31 _)) rfl rfl rfl rfl H ?_
  clear H a W
  intro a W H
  refine pl_does (does_loadAt (v := .int .u8 ((x : Nat) : Int)) rfl rfl (k := 1) rfl (ld_key31 hx)) rfl rfl rfl rfl H ?_
  clear H a W
  intro a W H
  refine pl_does (does_binOp rfl rfl rfl (b_andNot128 hx1 hv _ _)) rfl rfl rfl rfl H ?_
  clear H a W
  intro a W H
  refine pl_does (does_indexAddr rfl rfl rfl (ia_key31 _)) rfl rfl rfl rfl H ?_
  clear H a W
  intro a W H
  refine pl_storeAt rfl rfl rfl (k := 1) rfl st_key31 (sv_key31 hv1 hput) rfl rfl H ?_
  clear H a W
  intro a W H
  refine pl_end ?_
  replace H : St 45 w a W [(4, .bool true), (3, .bool false), (2, .pointer (some ⟨g2, 0, none⟩)), (1, .pointer (some ⟨g1, 0, none⟩))] [(g2, 41, #[.int .u64 0, .int .u64 0, .int .u64 0, .int .u64 0, .int .u64 0, .int .u64 0, .int .u64 0, .int .u64 0, .int .u64 0, .int .u64 0, .int .u64 0, .int .u64 0, .int .u64 0, .int .u64 0, .int .u64 0, .int .u64 0]), (g1, 23, ks m)] := H.pick [4, 5, 6, 7] [0, 1] rfl
  refine hK3 _ _ ?_
  clear hK3
  refine wp_seq_k (fun K4 hK4 => ?_)
  refine wp_seq_k (fun K5 hK5 => ?_)
  refine rg_plain ?_
  refine pl_does (does_load rfl rfl (k := 1) rfl Tryd.underlying23 rfl (info_ks _)) rfl rfl rfl rfl H ?_
  clear H a W
  intro a W H
  refine pl_does (does_call rfl ⟨_, Tryd.func31, by kernel_rfl⟩ rfl (fun W hb => canonB hc W (hpg.ext hb) hm1)) rfl rfl rfl rfl H ?_
  clear H a W
  intro a W H
  refine pl_does (does_unOp rfl rfl (fun _ => rfl)) rfl rfl rfl rfl H ?_
  clear H a W
  intro a W H
  refine pl_end ?_
  replace H : St 45 w a W [(18, .bool false), (4, .bool true), (3, .bool false), (2, .pointer (some ⟨g2, 0, none⟩)), (1, .pointer (some ⟨g1, 0, none⟩))] [(g2, 41, #[.int .u64 0, .int .u64 0, .int .u64 0, .int .u64 0, .int .u64 0, .int .u64 0, .int .u64 0, .int .u64 0, .int .u64 0, .int .u64 0, .int .u64 0, .int .u64 0, .int .u64 0, .int .u64 0, .int .u64 0, .int .u64 0]), (g1, 23, ks m)] := H.pick [0, 3, 4, 5, 6] [0, 1] rfl
  refine hK5 _ _ ?_
  clear hK5
  refine wp_cond_false (H.ev rfl) ?_
  refine wp_skip ?_
  refine hK4 _ _ ?_
  clear hK4
  refine wp_seq_k (fun K6 hK6 => ?_)
  refine rg_plain ?_
  refine pl_does (does_load rfl rfl (k := 1) rfl Tryd.underlying23 rfl (info_ks _)) rfl rfl rfl rfl H ?_
  clear H a W
  intro a W H
  refine pl_does (does_call rfl ⟨_, Tryd.func32, by kernel_rfl⟩ rfl (fun W hb => ofR hyy W (hpg.ext hb) hm1)) rfl rfl rfl rfl H ?_
  clear H a W
  intro a W H
  refine pl_new (news_of rfl al_elem) rfl rfl rfl rfl H ?_
  clear H a W
  intro g3 a W H
  refine pl_store rfl rfl rfl (k := 0) rfl (info_ev _) (by simp only [sv_size, ev_size, ks_size, fx_size] <;> rfl) (ev_one _) rfl rfl H ?_
  clear H a W
  intro a W H
  refine pl_end ?_
  replace H : St 45 w a W [(5, .pointer (some ⟨g3, 0, none⟩)), (4, .bool true), (3, .bool false), (2, .pointer (some ⟨g2, 0, none⟩))] [(g3, 39, ev yy), (g2, 41, #[.int .u64 0, .int .u64 0, .int .u64 0, .int .u64 0, .int .u64 0, .int .u64 0, .int .u64 0, .int .u64 0, .int .u64 0, .int .u64 0, .int .u64 0, .int .u64 0, .int .u64 0, .int .u64 0, .int .u64 0, .int .u64 0])] := H.pick [0, 4, 5, 6] [0, 1] rfl
  refine hK6 _ _ ?_
  clear hK6
  refine wp_seq_k (fun K7 hK7 => ?_)
  refine drawnS [.val 23 (.agg (ev yy)) [] [0], .val 24 (.agg (ev TD)) [] [], .val 25 (.tuple #[.agg (ev r), .bool true]) [0, 1] [], .val 22 (.tuple #[.agg (ev r), .bool true]) [2] [], .val 26 (.agg (ev r)) [3] [], .val 27 (.bool true) [3] [], .new 6 39 (#[.int .u64 0, .int .u64 0, .int .u64 0, .int .u64 0]), .ston 6 6 39 (#[.int .u64 0, .int .u64 0, .int .u64 0, .int .u64 0]) (ev r) [4], .val 7 (.bool true) [5] []] [0, 0, 3, 4, 8, 8, 0, 95, 255] (by kernel_rfl) (by kernel_rfl) (by kernel_rfl) H ⟨⟨does_load rfl rfl (k := 0) rfl Tryd.underlying39 rfl (info_ev _), wanted_none rfl⟩, ⟨does_call rfl ⟨_, Tryd.func34, by kernel_rfl⟩ rfl (fun W hb => writtenD_any W (hpg.ext hb)), wanted_none rfl⟩, ⟨does_call rfl ⟨_, Tryd.func33, by kernel_rfl⟩ rfl (fun W hb => evenX_any hr W (hpg.ext hb)), wanted_none rfl⟩, ⟨does_move rfl rfl, wanted_none rfl⟩, ⟨does_extract rfl rfl (fun _ => rfl), wanted_none rfl⟩, ⟨does_extract rfl rfl (fun _ => rfl), wanted_none rfl⟩, ⟨news_of rfl al_elem, rfl⟩, ⟨rfl, rfl, fun g => sto_row rfl rfl rfl (info_ev _) (by simp only [sv_size, ev_size, ks_size, fx_size] <;> rfl) (ev_one _)⟩, ⟨does_assign rfl rfl, wanted_none rfl⟩, trivial⟩ ?_
  clear H a W
  intro G4 a W H
  replace H : St 45 w a W [(23, .agg (ev yy)), (24, .agg (ev TD)), (25, .tuple #[.agg (ev r), .bool true]), (22, .tuple #[.agg (ev r), .bool true]), (26, .agg (ev r)), (27, .bool true), (6, .pointer (some ⟨(G4 6), 0, none⟩)), (7, .bool true), (5, .pointer (some ⟨g3, 0, none⟩)), (4, .bool true), (3, .bool false), (2, .pointer (some ⟨g2, 0, none⟩))] [((G4 6), 39, ev r), (g3, 39, ev yy), (g2, 41, #[.int .u64 0, .int .u64 0, .int .u64 0, .int .u64 0, .int .u64 0, .int .u64 0, .int .u64 0, .int .u64 0, .int .u64 0, .int .u64 0, .int .u64 0, .int .u64 0, .int .u64 0, .int .u64 0, .int .u64 0, .int .u64 0])] := H
  replace H : St 45 w a W [(6, .pointer (some ⟨(G4 6), 0, none⟩)), (7, .bool true), (5, .pointer (some ⟨g3, 0, none⟩)), (4, .bool true), (3, .bool false), (2, .pointer (some ⟨g2, 0, none⟩))] [((G4 6), 39, ev r), (g3, 39, ev yy), (g2, 41, #[.int .u64 0, .int .u64 0, .int .u64 0, .int .u64 0, .int .u64 0, .int .u64 0, .int .u64 0, .int .u64 0, .int .u64 0, .int .u64 0, .int .u64 0, .int .u64 0, .int .u64 0, .int .u64 0, .int .u64 0, .int .u64 0])] := H.pick [6, 7, 8, 9, 10, 11] [0, 1, 2] rfl
  refine hK7 _ _ ?_
  clear hK7
  refine wp_seq_k (fun K8 hK8 => ?_)
  refine wp_seq_k (fun K9 hK9 => ?_)
  refine rg_plain ?_
  refine pl_does (does_move rfl rfl) rfl rfl rfl rfl H ?_
  clear H a W
  intro a W H
  refine pl_does (does_unOp rfl rfl (fun _ => rfl)) rfl rfl rfl rfl H ?_
  clear H a W
  intro a W H
  refine pl_does (does_move rfl rfl) rfl rfl rfl rfl H ?_
  clear H a W
  intro a W H
  refine pl_does_g (does_move rfl rfl) (wanted_some rfl rfl rfl rfl rfl) rfl rfl rfl H ?_
  clear H a W
  intro a W H
  refine pl_does_g (does_move rfl rfl) (wanted_some rfl rfl rfl rfl rfl) rfl rfl rfl H ?_
  clear H a W
  intro a W H
  refine pl_does_g (does_load rfl rfl (k := 0) rfl Tryd.underlying39 rfl (info_ev _)) (wanted_some rfl rfl rfl rfl rfl) rfl rfl rfl H ?_
  clear H a W
  intro a W H
  refine pl_does_g (does_call rfl ⟨_, Tryd.func35, by kernel_rfl⟩ rfl (fun W hb => isZero_any hz W (hpg.ext hb))) (wanted_some rfl rfl rfl rfl rfl) rfl rfl rfl H ?_
  clear H a W
  intro a W H
  refine pl_does_g (does_pick rfl rfl (fun _ => rfl) (fun hb => by cases hb)) (wanted_some rfl rfl rfl rfl rfl) rfl rfl rfl H ?_
  clear H a W
  intro a W H
  refine pl_does (does_pick rfl rfl (fun hb => by cases hb) (fun _ => rfl)) rfl rfl rfl rfl H ?_
  clear H a W
  intro a W H
  refine pl_end ?_
  replace H : St 45 w a W [(36, .bool false), (6, .pointer (some ⟨(G4 6), 0, none⟩)), (5, .pointer (some ⟨g3, 0, none⟩)), (4, .bool true), (3, .bool false), (2, .pointer (some ⟨g2, 0, none⟩))] [((G4 6), 39, ev r), (g3, 39, ev yy), (g2, 41, #[.int .u64 0, .int .u64 0, .int .u64 0, .int .u64 0, .int .u64 0, .int .u64 0, .int .u64 0, .int .u64 0, .int .u64 0, .int .u64 0, .int .u64 0, .int .u64 0, .int .u64 0, .int .u64 0, .int .u64 0, .int .u64 0])] := H.pick [0, 9, 11, 12, 13, 14] [0, 1, 2] rfl
  refine hK9 _ _ ?_
  clear hK9
  refine wp_cond_false (H.ev rfl) ?_
  refine wp_skip ?_
  refine hK8 _ _ ?_
  clear hK8
  refine wp_seq_k (fun K10 hK10 => ?_)
  replace H : St 45 w a W [(36, .bool false), (6, .pointer (some ⟨(G4 6), 0, none⟩)), (5, .pointer (some ⟨g3, 0, none⟩)), (4, .bool true), (2, .pointer (some ⟨g2, 0, none⟩))] [((G4 6), 39, ev r), (g3, 39, ev yy), (g2, 41, #[.int .u64 0, .int .u64 0, .int .u64 0, .int .u64 0, .int .u64 0, .int .u64 0, .int .u64 0, .int .u64 0, .int .u64 0, .int .u64 0, .int .u64 0, .int .u64 0, .int .u64 0, .int .u64 0, .int .u64 0, .int .u64 0])] := H.pick [0, 1, 2, 3, 5] [0, 1, 2] rfl
  refine drawnS [.val 38 (.agg (ev r)) [] [0], .val 39 (.agg (ev r)) [] [0], .val 40 (.agg (ev z1)) [1] [], .val 41 (.bool true) [] [], .val 42 (.agg (ev z1)) [0, 2, 3] [], .val 43 (.agg (ev yy)) [] [1], .val 44 (.agg (sv q)) [4, 5] [], .sto 2 g2 41 (#[.int .u64 0, .int .u64 0, .int .u64 0, .int .u64 0, .int .u64 0, .int .u64 0, .int .u64 0, .int .u64 0, .int .u64 0, .int .u64 0, .int .u64 0, .int .u64 0, .int .u64 0, .int .u64 0, .int .u64 0, .int .u64 0]) (sv q) [6], .val 3 (.bool true) [] []] [0, 0, 2, 0, 13, 0, 48, 127, 255] (by kernel_rfl) (by kernel_rfl) (by kernel_rfl) H ⟨⟨does_load rfl rfl (k := 0) rfl Tryd.underlying39 rfl (info_ev _), wanted_none rfl⟩, ⟨does_load rfl rfl (k := 0) rfl Tryd.underlying39 rfl (info_ev _), wanted_none rfl⟩, ⟨does_call rfl ⟨_, Tryd.func38, by kernel_rfl⟩ rfl (fun W hb => negP hz1 W (hpg.ext hb)), wanted_none rfl⟩, ⟨does_move rfl rfl, wanted_none rfl⟩, ⟨does_call rfl ⟨_, Tryd.func37, by kernel_rfl⟩ rfl (fun W hb => selF_yes _ _ W), wanted_none rfl⟩, ⟨does_load rfl rfl (k := 0) rfl Tryd.underlying39 rfl (info_ev _), wanted_none rfl⟩, ⟨does_call rfl ⟨_, Tryd.func36, by kernel_rfl⟩ rfl (fun W hb => pointOf_any hq W (hpg.ext hb)), wanted_none rfl⟩, ⟨rfl, rfl, sto_row rfl rfl rfl (info_pt _) (by simp only [sv_size, ev_size, ks_size, fx_size] <;> rfl) (sv_one _)⟩, ⟨does_assign rfl rfl, wanted_none rfl⟩, trivial⟩ ?_
  clear H a W
  intro G5 a W H
  replace H : St 45 w a W [(38, .agg (ev r)), (39, .agg (ev r)), (40, .agg (ev z1)), (41, .bool true), (42, .agg (ev z1)), (43, .agg (ev yy)), (44, .agg (sv q)), (3, .bool true), (36, .bool false), (6, .pointer (some ⟨(G4 6), 0, none⟩)), (5, .pointer (some ⟨g3, 0, none⟩)), (4, .bool true), (2, .pointer (some ⟨g2, 0, none⟩))] [((G4 6), 39, ev r), (g3, 39, ev yy), (g2, 41, sv q)] := H
  replace H : St 45 w a W [(3, .bool true), (2, .pointer (some ⟨g2, 0, none⟩))] [(g2, 41, sv q)] := H.pick [7, 12] [2] rfl
  refine hK10 _ _ ?_
  clear hK10
  refine wp_ret ?_
  repeat (first | (with_reducible refine then_ret ?_) | (with_reducible refine blk_ret ?_))
  refine end_cell_tmp (p := 2) (q := 3) rfl rfl rfl (k := 0) rfl Tryd.underlying41 rfl (info_pt _) H (fun hb => ?_)
  exact ⟨rfl, hb⟩
set_option maxHeartbeats 4000000 in
theorem of_e {n : Nat} (hn : n < 115792089237316195423570985008687907853269984665640564039457584007913129639936) (h1 : n % 57896044618658097711785492504343953926634992332820282019728792003956564819968 < PP) (h2 : (ofX n).2 = true) (h3 : ¬ 57896044618658097711785492504343953926634992332820282019728792003956564819968 ≤ n) (w : World) (hpg : PG w) : Calls Tryd.prog 16 #[.agg (ks n)] w (fun rr w' => rr = .returned (.tuple #[.agg (sv (ptE (ptX n) (ofK n))), .bool true]) ∧ Below w.heap.size w w') := by
  obtain ⟨x, hx⟩ : ∃ x : Nat, n / 256 ^ 31 % 256 = x := ⟨_, rfl⟩
  have hx1 : x < 256 := by omega
  obtain ⟨y, hy⟩ : ∃ y : Nat, (if 128 ≤ x then 128 else 0) = y := ⟨_, rfl⟩
  obtain ⟨v, hv⟩ : ∃ v : Nat, x % 128 = v := ⟨_, rfl⟩
  have hv1 : v < 256 := by omega
  obtain ⟨m, hm⟩ : ∃ m : Nat, n % 57896044618658097711785492504343953926634992332820282019728792003956564819968 = m := ⟨_, rfl⟩
  have hput : putd 256 n 31 v = m := by rw [← hv, ← hx, put_top hn, hm]
  have hm1 : m < 115792089237316195423570985008687907853269984665640564039457584007913129639936 := by omega
  have hof : ofK m = ofK n := by rw [← hm]; exact ofK_mod n
  have hmx : (57896044618658097711785492504343953926634992332820282019728792003956564819968 ≤ n) ↔ 128 ≤ x := by omega
  have hod : decide (y ≠ 0) = false := by rw [← hy]; simp [show ¬ 128 ≤ x by omega]
  have hc : decide (m < PP) = true := decide_eq_true (by rw [← hm]; exact h1)
  obtain ⟨yy, hyy⟩ : ∃ z, z = ofK m := ⟨_, rfl⟩
  obtain ⟨r, hr'⟩ : ∃ r, r = (ofX n).1 := ⟨_, rfl⟩
  have hr : (r, true) = rootC EE II (yy * yy - 1) (1 + TD * (yy * yy)) := ofX_root h2 hr' (by rw [hyy, hof])
  have hxr : ptX n = r := by unfold ptX; rw [if_neg h3, hr']
  obtain ⟨z1, hz1⟩ : ∃ z : Fin PP, z = -r := ⟨_, rfl⟩
  obtain ⟨q, hq'⟩ : ∃ q, q = ptE (ptX n) (ofK n) := ⟨_, rfl⟩
  have hq : q = ptE r yy := by rw [hq', hyy, hof, hxr]
  rw [← hq']
  refine calls_st (vs := [.agg (ks n)]) 45 Tryd.func16 rfl Tryd.ntmps16 rfl (fun a W H => ?_)
  replace H : St 45 w a W [(0, .agg (ks n))] [] := H
  refine wp_seq_k (fun K1 hK1 => ?_)
  refine rg_plain ?_
  refine pl_box rfl rfl (bx_key n) rfl rfl rfl rfl H ?_
  clear H a W
  intro g1 a W H
  refine pl_new (news_of rfl al_pt) rfl rfl rfl rfl H ?_
  clear H a W
  intro g2 a W H
  refine pl_does (does_assign rfl rfl) rfl rfl rfl rfl H ?_
  clear H a W
  intro a W H
  refine pl_end ?_
  replace H : St 45 w a W [(3, .bool false), (2, .pointer (some ⟨g2, 0, none⟩)), (1, .pointer (some ⟨g1, 0, none⟩))] [(g2, 41, #[.int .u64 0, .int .u64 0, .int .u64 0, .int .u64 0, .int .u64 0, .int .u64 0, .int .u64 0, .int .u64 0, .int .u64 0, .int .u64 0, .int .u64 0, .int .u64 0, .int .u64 0, .int .u64 0, .int .u64 0, .int .u64 0]), (g1, 23, ks n)] := H.pick [0, 1, 2] [0, 1] rfl
  refine hK1 _ _ ?_
  clear hK1
  refine wp_seq_k (fun K2 hK2 => ?_)
  refine rg_plain ?_
  refine pl_does (does_indexAddr rfl rfl rfl (ia_key31 _)) rfl rfl rfl rfl H ?_
  clear H a W
  intro a W H
  refine pl_does (does_loadAt (v := .int .u8 ((x : Nat) : Int)) rfl rfl (k := 1) rfl (ld_key31 hx)) rfl rfl rfl rfl H ?_
  clear H a W
  intro a W H
  refine pl_does (does_binOp rfl rfl rfl (b_and128 hx1 hy _ _)) rfl rfl rfl rfl H ?_
  clear H a W
  intro a W H
  refine pl_does (does_binOp rfl rfl rfl (b_neq0 hod _ _)) rfl rfl rfl rfl H ?_
  clear H a W
  intro a W H
  refine pl_does (does_assign rfl rfl) rfl rfl rfl rfl H ?_
  clear H a W
  intro a W H
  refine pl_end ?_
  replace H : St 45 w a W [(4, .bool false), (3, .bool false), (2, .pointer (some ⟨g2, 0, none⟩)), (1, .pointer (some ⟨g1, 0, none⟩))] [(g2, 41, #[.int .u64 0, .int .u64 0, .int .u64 0, .int .u64 0, .int .u64 0, .int .u64 0, .int .u64 0, .int .u64 0, .int .u64 0, .int .u64 0, .int .u64 0, .int .u64 0, .int .u64 0, .int .u64 0, .int .u64 0, .int .u64 0]), (g1, 23, ks n)] := H.pick [0, 5, 6, 7] [0, 1] rfl
  refine hK2 _ _ ?_
  clear hK2
  refine wp_seq_k (fun K3 hK3 => ?_)
  refine rg_plain ?_
  refine pl_does (does_indexAddr rfl rfl rfl (ia_key31 _)) rfl rfl rfl rfl H ?_
  clear H a W
  intro a W H
  refine pl_does (does_loadAt (v := .int .u8 ((x : Nat) : Int)) rfl rfl (k := 1) rfl (ld_key31 hx)) rfl rfl rfl rfl H ?_
  clear H a W
  intro a W H
  refine pl_does (does_binOp rfl rfl rfl (b_andNot128 hx1 hv _ _)) rfl rfl rfl rfl H ?_
  clear H a W
  intro a W H
  refine pl_does (does_indexAddr rfl rfl rfl (ia_key31 _)) rfl rfl rfl rfl H ?_
  clear H a W
  intro a W H
  refine pl_storeAt rfl rfl rfl (k := 1) rfl st_key31 (sv_key31 hv1 hput) rfl rfl H ?_
  clear H a W
  intro a W H
  refine pl_end ?_
  replace H : St 45 w a W [(4, .bool false), (3, .bool false), (2, .pointer (some ⟨g2, 0, none⟩)), (1, .pointer (some ⟨g1, 0, none⟩))] [(g2, 41, #[.int .u64 0, .int .u64 0, .int .u64 0, .int .u64 0, .int .u64 0, .int .u64 0, .int .u64 0, .int .u64 0, .int .u64 0, .int .u64 0, .int .u64 0, .int .u64 0, .int .u64 0, .int .u64 0, .int .u64 0, .int .u64 0]), (g1, 23, ks m)] := H.pick [4, 5, 6, 7] [0, 1] rfl
  refine hK3 _ _ ?_
  clear hK3
  refine wp_seq_k (fun K4 hK4 => ?_)
  refine wp_seq_k (fun K5 hK5 => ?_)
  refine rg_plain ?_
  refine pl_does (does_load rfl rfl (k := 1) rfl Tryd.underlying23 rfl (info_ks _)) rfl rfl rfl rfl H ?_
  clear H a W
  intro a W H
  refine pl_does (does_call rfl ⟨_, Tryd.func31, by kernel_rfl⟩ rfl (fun W hb => canonB hc W (hpg.ext hb) hm1)) rfl rfl rfl rfl H ?_
  clear H a W
  intro a W H
  refine pl_does (does_unOp rfl rfl (fun _ => rfl)) rfl rfl rfl rfl H ?_
  clear H a W
  intro a W H
  refine pl_end ?_
  replace H : St 45 w a W [(18, .bool false), (4, .bool false), (3, .bool false), (2, .pointer (some ⟨g2, 0, none⟩)), (1, .pointer (some ⟨g1, 0, none⟩))] [(g2, 41, #[.int .u64 0, .int .u64 0, .int .u64 0, .int .u64 0, .int .u64 0, .int .u64 0, .int .u64 0, .int .u64 0, .int .u64 0, .int .u64 0, .int .u64 0, .int .u64 0, .int .u64 0, .int .u64 0, .int .u64 0, .int .u64 0]), (g1, 23, ks m)] := H.pick [0, 3, 4, 5, 6] [0, 1] rfl
  refine hK5 _ _ ?_
  clear hK5
  refine wp_cond_false (H.ev rfl) ?_
  refine wp_skip ?_
  refine hK4 _ _ ?_
  clear hK4
  refine wp_seq_k (fun K6 hK6 => ?_)
  refine rg_plain ?_
  refine pl_does (does_load rfl rfl (k := 1) rfl Tryd.underlying23 rfl (info_ks _)) rfl rfl rfl rfl H ?_
  clear H a W
  intro a W H
  refine pl_does (does_call rfl ⟨_, Tryd.func32, by kernel_rfl⟩ rfl (fun W hb => ofR hyy W (hpg.ext hb) hm1)) rfl rfl rfl rfl H ?_
  clear H a W
  intro a W H
  refine pl_new (news_of rfl al_elem) rfl rfl rfl rfl H ?_
  clear H a W
  intro g3 a W H
  refine pl_store rfl rfl rfl (k := 0) rfl (info_ev _) (by simp only [sv_size, ev_size, ks_size, fx_size] <;> rfl) (ev_one _) rfl rfl H ?_
  clear H a W
  intro a W H
  refine pl_end ?_
  replace H : St 45 w a W [(5, .pointer (some ⟨g3, 0, none⟩)), (4, .bool false), (3, .bool false), (2, .pointer (some ⟨g2, 0, none⟩))] [(g3, 39, ev yy), (g2, 41, #[.int .u64 0, .int .u64 0, .int .u64 0, .int .u64 0, .int .u64 0, .int .u64 0, .int .u64 0, .int .u64 0, .int .u64 0, .int .u64 0, .int .u64 0, .int .u64 0, .int .u64 0, .int .u64 0, .int .u64 0, .int .u64 0])] := H.pick [0, 4, 5, 6] [0, 1] rfl
  refine hK6 _ _ ?_
  clear hK6
  refine wp_seq_k (fun K7 hK7 => ?_)
  refine drawnS [.val 23 (.agg (ev yy)) [] [0], .val 24 (.agg (ev TD)) [] [], .val 25 (.tuple #[.agg (ev r), .bool true]) [0, 1] [], .val 22 (.tuple #[.agg (ev r), .bool true]) [2] [], .val 26 (.agg (ev r)) [3] [], .val 27 (.bool true) [3] [], .new 6 39 (#[.int .u64 0, .int .u64 0, .int .u64 0, .int .u64 0]), .ston 6 6 39 (#[.int .u64 0, .int .u64 0, .int .u64 0, .int .u64 0]) (ev r) [4], .val 7 (.bool true) [5] []] [0, 0, 3, 4, 8, 8, 0, 95, 255] (by kernel_rfl) (by kernel_rfl) (by kernel_rfl) H ⟨⟨does_load rfl rfl (k := 0) rfl Tryd.underlying39 rfl (info_ev _), wanted_none rfl⟩, ⟨does_call rfl ⟨_, Tryd.func34, by kernel_rfl⟩ rfl (fun W hb => writtenD_any W (hpg.ext hb)), wanted_none rfl⟩, ⟨does_call rfl ⟨_, Tryd.func33, by kernel_rfl⟩ rfl (fun W hb => evenX_any hr W (hpg.ext hb)), wanted_none rfl⟩, ⟨does_move rfl rfl, wanted_none rfl⟩, ⟨does_extract rfl rfl (fun _ => rfl), wanted_none rfl⟩, ⟨does_extract rfl rfl (fun _ => rfl), wanted_none rfl⟩, ⟨news_of rfl al_elem, rfl⟩, ⟨rfl, rfl, fun g => sto_row rfl rfl rfl (info_ev _) (by simp only [sv_size, ev_size, ks_size, fx_size] <;> rfl) (ev_one _)⟩, ⟨does_assign rfl rfl, wanted_none rfl⟩, trivial⟩ ?_
  clear H a W
  intro G4 a W H
  replace H : St 45 w a W [(23, .agg (ev yy)), (24, .agg (ev TD)), (25, .tuple #[.agg (ev r), .bool true]), (22, .tuple #[.agg (ev r), .bool true]), (26, .agg (ev r)), (27, .bool true), (6, .pointer (some ⟨(G4 6), 0, none⟩)), (7, .bool true), (5, .pointer (some ⟨g3, 0, none⟩)), (4, .bool false), (3, .bool false), (2, .pointer (some ⟨g2, 0, none⟩))] [((G4 6), 39, ev r), (g3, 39, ev yy), (g2, 41, #[.int .u64 0, .int .u64 0, .int .u64 0, .int .u64 0, .int .u64 0, .int .u64 0, .int .u64 0, .int .u64 0, .int .u64 0, .int .u64 0, .int .u64 0, .int .u64 0, .int .u64 0, .int .u64 0, .int .u64 0, .int .u64 0])] := H
  replace H : St 45 w a W [(6, .pointer (some ⟨(G4 6), 0, none⟩)), (7, .bool true), (5, .pointer (some ⟨g3, 0, none⟩)), (4, .bool false), (3, .bool false), (2, .pointer (some ⟨g2, 0, none⟩))] [((G4 6), 39, ev r), (g3, 39, ev yy), (g2, 41, #[.int .u64 0, .int .u64 0, .int .u64 0, .int .u64 0, .int .u64 0, .int .u64 0, .int .u64 0, .int .u64 0, .int .u64 0, .int .u64 0, .int .u64 0, .int .u64 0, .int .u64 0, .int .u64 0, .int .u64 0, .int .u64 0])] := H.pick [6, 7, 8, 9, 10, 11] [0, 1, 2] rfl
  refine hK7 _ _ ?_
  clear hK7
  refine wp_seq_k (fun K8 hK8 => ?_)
  refine wp_seq_k (fun K9 hK9 => ?_)
  refine rg_plain ?_
  refine pl_does (does_move rfl rfl) rfl rfl rfl rfl H ?_
  clear H a W
  intro a W H
  refine pl_does (does_unOp rfl rfl (fun _ => rfl)) rfl rfl rfl rfl H ?_
  clear H a W
  intro a W H
  refine pl_does (does_move rfl rfl) rfl rfl rfl rfl H ?_
  clear H a W
  intro a W H
  refine pl_does_g (does_move rfl rfl) (wanted_some rfl rfl rfl rfl rfl) rfl rfl rfl H ?_
  clear H a W
  intro a W H
  refine pl_does_g (does_move rfl rfl) (wanted_some rfl rfl rfl rfl rfl) rfl rfl rfl H ?_
  clear H a W
  intro a W H
  refine pl_skip (wanted_some rfl rfl rfl rfl rfl) rfl rfl rfl H ?_
  clear H a W
  intro a W H
  refine pl_skip (wanted_some rfl rfl rfl rfl rfl) rfl rfl rfl H ?_
  clear H a W
  intro a W H
  refine pl_does_g (does_pick rfl rfl (fun hb => by cases hb) (fun _ => rfl)) (wanted_some rfl rfl rfl rfl rfl) rfl rfl rfl H ?_
  clear H a W
  intro a W H
  refine pl_does (does_pick rfl rfl (fun hb => by cases hb) (fun _ => rfl)) rfl rfl rfl rfl H ?_
  clear H a W
  intro a W H
  refine pl_end ?_
  replace H : St 45 w a W [(36, .bool false), (6, .pointer (some ⟨(G4 6), 0, none⟩)), (5, .pointer (some ⟨g3, 0, none⟩)), (4, .bool false), (3, .bool false), (2, .pointer (some ⟨g2, 0, none⟩))] [((G4 6), 39, ev r), (g3, 39, ev yy), (g2, 41, #[.int .u64 0, .int .u64 0, .int .u64 0, .int .u64 0, .int .u64 0, .int .u64 0, .int .u64 0, .int .u64 0, .int .u64 0, .int .u64 0, .int .u64 0, .int .u64 0, .int .u64 0, .int .u64 0, .int .u64 0, .int .u64 0])] := H.pick [0, 9, 11, 12, 13, 14] [0, 1, 2] rfl
  refine hK9 _ _ ?_
  clear hK9
  refine wp_cond_false (H.ev rfl) ?_
  refine wp_skip ?_
  refine hK8 _ _ ?_
  clear hK8
  refine wp_seq_k (fun K10 hK10 => ?_)
  replace H : St 45 w a W [(36, .bool false), (6, .pointer (some ⟨(G4 6), 0, none⟩)), (5, .pointer (some ⟨g3, 0, none⟩)), (4, .bool false), (2, .pointer (some ⟨g2, 0, none⟩))] [((G4 6), 39, ev r), (g3, 39, ev yy), (g2, 41, #[.int .u64 0, .int .u64 0, .int .u64 0, .int .u64 0, .int .u64 0, .int .u64 0, .int .u64 0, .int .u64 0, .int .u64 0, .int .u64 0, .int .u64 0, .int .u64 0, .int .u64 0, .int .u64 0, .int .u64 0, .int .u64 0])] := H.pick [0, 1, 2, 3, 5] [0, 1, 2] rfl
  refine drawnS [.val 38 (.agg (ev r)) [] [0], .val 39 (.agg (ev r)) [] [0], .val 40 (.agg (ev z1)) [1] [], .val 41 (.bool false) [] [], .val 42 (.agg (ev r)) [0, 2, 3] [], .val 43 (.agg (ev yy)) [] [1], .val 44 (.agg (sv q)) [4, 5] [], .sto 2 g2 41 (#[.int .u64 0, .int .u64 0, .int .u64 0, .int .u64 0, .int .u64 0, .int .u64 0, .int .u64 0, .int .u64 0, .int .u64 0, .int .u64 0, .int .u64 0, .int .u64 0, .int .u64 0, .int .u64 0, .int .u64 0, .int .u64 0]) (sv q) [6], .val 3 (.bool true) [] []] [0, 0, 2, 0, 13, 0, 48, 127, 255] (by kernel_rfl) (by kernel_rfl) (by kernel_rfl) H ⟨⟨does_load rfl rfl (k := 0) rfl Tryd.underlying39 rfl (info_ev _), wanted_none rfl⟩, ⟨does_load rfl rfl (k := 0) rfl Tryd.underlying39 rfl (info_ev _), wanted_none rfl⟩, ⟨does_call rfl ⟨_, Tryd.func38, by kernel_rfl⟩ rfl (fun W hb => negP hz1 W (hpg.ext hb)), wanted_none rfl⟩, ⟨does_move rfl rfl, wanted_none rfl⟩, ⟨does_call rfl ⟨_, Tryd.func37, by kernel_rfl⟩ rfl (fun W hb => selF_no _ _ W), wanted_none rfl⟩, ⟨does_load rfl rfl (k := 0) rfl Tryd.underlying39 rfl (info_ev _), wanted_none rfl⟩, ⟨does_call rfl ⟨_, Tryd.func36, by kernel_rfl⟩ rfl (fun W hb => pointOf_any hq W (hpg.ext hb)), wanted_none rfl⟩, ⟨rfl, rfl, sto_row rfl rfl rfl (info_pt _) (by simp only [sv_size, ev_size, ks_size, fx_size] <;> rfl) (sv_one _)⟩, ⟨does_assign rfl rfl, wanted_none rfl⟩, trivial⟩ ?_
  clear H a W
  intro G5 a W H
  replace H : St 45 w a W [(38, .agg (ev r)), (39, .agg (ev r)), (40, .agg (ev z1)), (41, .bool false), (42, .agg (ev r)), (43, .agg (ev yy)), (44, .agg (sv q)), (3, .bool true), (36, .bool false), (6, .pointer (some ⟨(G4 6), 0, none⟩)), (5, .pointer (some ⟨g3, 0, none⟩)), (4, .bool false), (2, .pointer (some ⟨g2, 0, none⟩))] [((G4 6), 39, ev r), (g3, 39, ev yy), (g2, 41, sv q)] := H
  replace H : St 45 w a W [(3, .bool true), (2, .pointer (some ⟨g2, 0, none⟩))] [(g2, 41, sv q)] := H.pick [7, 12] [2] rfl
  refine hK10 _ _ ?_
  clear hK10
  refine wp_ret ?_
  repeat (first | (with_reducible refine then_ret ?_) | (with_reducible refine blk_ret ?_))
  refine end_cell_tmp (p := 2) (q := 3) rfl rfl rfl (k := 0) rfl Tryd.underlying41 rfl (info_pt _) H (fun hb => ?_)
  exact ⟨rfl, hb⟩
theorem of_yes {n : Nat} (hn : n < 115792089237316195423570985008687907853269984665640564039457584007913129639936) (h : isPt n = true) (w : World) (hpg : PG w) : Calls Tryd.prog 16 #[.agg (ks n)] w (fun rr w' => rr = .returned (.tuple #[.agg (sv (ptE (ptX n) (ofK n))), .bool true]) ∧ Below w.heap.size w w') := by
  obtain ⟨h1, h2, h3⟩ := isPt_parts h
  by_cases h4 : 57896044618658097711785492504343953926634992332820282019728792003956564819968 ≤ n
  · exact of_d hn h1 h2 h4 (fun e => h3 ⟨h4, e⟩) w hpg
  · exact of_e hn h1 h2 h4 w hpg
theorem of_no {n : Nat} (hn : n < 115792089237316195423570985008687907853269984665640564039457584007913129639936) (h : isPt n = false) (w : World) (hpg : PG w) : Calls Tryd.prog 16 #[.agg (ks n)] w (fun rr w' => rr = .returned (.tuple #[.agg (sv PZ), .bool false]) ∧ Below w.heap.size w w') := by
  by_cases h1 : n % 57896044618658097711785492504343953926634992332820282019728792003956564819968 < PP
  · cases h2 : (ofX n).2 with
    | false => exact of_b hn h1 h2 w hpg
    | true =>
      have hp : 57896044618658097711785492504343953926634992332820282019728792003956564819968 ≤ n ∧ (ofX n).1 = 0 := by
        unfold isPt at h
        rw [decide_eq_true h1, h2] at h
        simpa using h
      exact of_c hn h1 h2 hp.1 hp.2 w hpg
  · exact of_a hn h1 w hpg
end Go.Proofs.YtpagiffbjofihaaDoor
namespace Go.Proofs.YtpagiffbjofihaaDoor
set_option linter.unusedVariables false
set_option linter.unusedSimpArgs false
set_option maxRecDepth 100000
open Go Go.RowKit
/-- The three variables. -/
structure GL (w : World) : Prop where
  pg : PG w
  og : Scl.OG w
  pm : Sha.PM w
theorem GL.ext {w w' : World} (h : GL w) (hb : Below w.heap.size w w') : GL w' := ⟨h.pg.ext hb, h.og.ext hb, h.pm.ext hb⟩
/-- Not too long. -/
structure Fit (M : List (List UInt8)) : Prop where
  len : M.flatten.length < 100000
  num : M.length < 1000
theorem sumF {v : Value} {M : List (List UInt8)} {l : List UInt8} {w : World} (hg : GL w) (hv : RF M v w) (hl : M.flatten = l) (h1 : l.length < 1000000) (h2 : M.length < 100000) : Calls Tryd.prog 21 #[v] w (fun r W' => r = .returned (.agg (Scl.ls (hN l))) ∧ Below w.heap.size w W') := by
  obtain ⟨A, n, c, rfl, hr⟩ := hv
  have hn := hr.len
  refine (Sha.sum_any A n c w.heap.size M w hg.pm hr (Nat.le_refl _) (by rw [hl]; omega) (by omega)).mono ?_
  rintro r W' ⟨rfl, hb⟩
  rw [hl, hN_row]
  exact ⟨rfl, hb⟩
theorem reduceF {n m : Nat} (hm : m = n % LL') {w : World} (hg : GL w) (hn : n < 13407807929942597099574024998205846127479365820592393377723561443721764030073546976801874298166903427690031858186486050853753882811946569946433649006084096) : Calls Tryd.prog 27 #[.agg (Scl.ls n)] w (fun r W' => r = .returned (.agg (ks m)) ∧ Below w.heap.size w W') := by
  subst hm
  rw [lim2_pow] at hn
  exact Scl.reduce_any n w hg.og hn
theorem clampF {n m : Nat} (hm : m = clampK n) (w : World) : Calls Tryd.prog 22 #[.agg (ks n)] w (fun r W' => r = .returned (.agg (ks m)) ∧ Below w.heap.size w W') := by
  subst hm
  exact Scl.clamp_any n w
theorem mulAddF {a b c m : Nat} (hm : m = (a * b + c) % LL') {w : World} (hg : GL w) (ha : a < 115792089237316195423570985008687907853269984665640564039457584007913129639936) (hb : b < 115792089237316195423570985008687907853269984665640564039457584007913129639936) (hc : c < 115792089237316195423570985008687907853269984665640564039457584007913129639936) : Calls Tryd.prog 14 #[.agg (ks a), .agg (ks b), .agg (ks c)] w (fun r W' => r = .returned (.agg (ks m)) ∧ Below w.heap.size w W') := by
  subst hm
  exact Scl.mulAdd_key a b c w hg.og ha hb hc
theorem mayF {a : Nat} {b : Bool} (h : decide (a < LL') = b) {w : World} (hg : GL w) (ha : a < 115792089237316195423570985008687907853269984665640564039457584007913129639936) : Calls Tryd.prog 17 #[.agg (ks a)] w (fun r W' => r = .returned (.bool b) ∧ Below w.heap.size w W') := by
  subst h
  exact Scl.may_key a w hg.og ha
theorem baseF {n : Nat} {r : L4 PP} (h : r = ptMul BE n 256) {w : World} (hg : GL w) : Calls Tryd.prog 9 #[.agg (ks n)] w (fun rr w' => rr = .returned (.agg (sv r)) ∧ Below w.heap.size w w') := base_pt h w hg.pg
theorem sigR_lt (s : Nat) (l : List UInt8) : sigR s l < 115792089237316195423570985008687907853269984665640564039457584007913129639936 := Nat.lt_trans (num_lt _) LL'_lt
theorem sigH_lt (r a : Nat) (l : List UInt8) : sigH r a l < 115792089237316195423570985008687907853269984665640564039457584007913129639936 := Nat.lt_trans (num_lt _) LL'_lt
theorem al_key0 (W : World) : (Instr.alloc 23 true (.tuple #[])).run Tryd.prog W = .ok (.pointer (some ⟨W.heap.size, 0, none⟩)) (W.alloc (.cells (ks 0) 23)) := by kernel_rfl
theorem al_long (W : World) : (Instr.alloc 27 true (.tuple #[])).run Tryd.prog W = .ok (.pointer (some ⟨W.heap.size, 0, none⟩)) (W.alloc (.cells (Scl.ls 0) 27)) := by kernel_rfl
theorem bx_long (n : Nat) (W : World) : (Instr.box 27 (.agg (Scl.ls n))).run Tryd.prog W = .ok (.pointer (some ⟨W.heap.size, 0, none⟩)) (W.alloc (.cells (Scl.ls n) 27)) := by kernel_rfl
theorem info_ls (n : Nat) : (Tryd.prog.info? 27).map (·.size) = some (Scl.ls n).size := by rw [Scl.ls_size]; kernel_rfl
theorem ls_size (n : Nat) : (Scl.ls n).size = 64 := Scl.ls_size n
theorem size_u8b : (Tryd.prog.info? 5).map (·.size) = some 1 := by kernel_rfl
theorem sl_key (g : Nat) (W : World) : (Instr.sliceAt 23 (.pointer (some ⟨g, 0, none⟩)) none none none).run Tryd.prog W = .ok (.slice (some ⟨g, 0, none⟩) 32 32) W := by kernel_rfl
theorem sl_lo (g : Nat) (W : World) : (Instr.sliceAt 27 (.pointer (some ⟨g, 0, none⟩)) none (some (.int .i64 32)) none).run Tryd.prog W = .ok (.slice (some ⟨g, 0, none⟩) 32 64) W := by kernel_rfl
theorem sl_hi (g : Nat) (W : World) : (Instr.sliceAt 27 (.pointer (some ⟨g, 0, none⟩)) (some (.int .i64 32)) none none).run Tryd.prog W = .ok (.slice (some ⟨g, 32, none⟩) 32 32) W := by kernel_rfl
theorem join1 {a : Nat} (ha : a < 115792089237316195423570985008687907853269984665640564039457584007913129639936) : splice (Scl.ls 0) 0 (((ks a).toList.drop 0).take 32) = Scl.ls a := by
  rw [splice_first 0 a ha, Nat.zero_div, Nat.mul_zero, Nat.add_zero]
theorem join2 {a b : Nat} (ha : a < 115792089237316195423570985008687907853269984665640564039457584007913129639936) : splice (Scl.ls a) 32 (((ks b).toList.drop 0).take 32) = Scl.ls (a + 115792089237316195423570985008687907853269984665640564039457584007913129639936 * b) := by
  rw [splice_second a b, Nat.mod_eq_of_lt ha]
theorem sne_key {m n : Nat} {b : Bool} (hm : m < 115792089237316195423570985008687907853269984665640564039457584007913129639936) (hn : n < 115792089237316195423570985008687907853269984665640564039457584007913129639936) (h : decide (m = n) = b) (p q : Operand) (W : World) : (do eqGuard .neq 23 p q (.agg (ks m)) (.agg (ks n)); binOp .neq 23 (.agg (ks m)) (.agg (ks n)) : Sem Value).run Tryd.prog W = .ok (.bool (!b)) W := by
  have hq := keys_eq hm hn h W
  go_simp
theorem lb_inj {m n : Nat} (hm : m < 13407807929942597099574024998205846127479365820592393377723561443721764030073546976801874298166903427690031858186486050853753882811946569946433649006084096) (hn : n < 13407807929942597099574024998205846127479365820592393377723561443721764030073546976801874298166903427690031858186486050853753882811946569946433649006084096) (h : Scl.lb m = Scl.lb n) : m = n := by
  have h1 := kb_inj (lo_lt m) (lo_lt n) (by rw [kb_lo, kb_lo, h])
  have h2 := kb_inj (hi_lt hm) (hi_lt hn) (by rw [kb_hi, kb_hi, h])
  rw [split_two m, split_two n, h1, h2]
theorem longs_eq {m n : Nat} {b : Bool} (hm : m < 13407807929942597099574024998205846127479365820592393377723561443721764030073546976801874298166903427690031858186486050853753882811946569946433649006084096) (hn : n < 13407807929942597099574024998205846127479365820592393377723561443721764030073546976801874298166903427690031858186486050853753882811946569946433649006084096) (h : decide (m = n) = b) (W : World) : (Op.equalIn 10000 27 (.agg (Scl.ls m)) (.agg (Scl.ls n))).run Tryd.prog W = .ok b W := by
  have h2 := run_equalIn_nats (P := Tryd.prog) W 9998 27 5 64 .u8 Tryd.underlying27 Tryd.underlying5 size_u8' (Scl.lb m) (Scl.lb n) (Scl.lb_len m) (Scl.lb_len n)
  have e : (Scl.lb m == Scl.lb n) = b := by
    rw [← h, Bool.eq_iff_iff]
    simp only [beq_iff_eq, decide_eq_true_eq]
    exact ⟨fun h => lb_inj hm hn h, fun h => by rw [h]⟩
  rw [e] at h2
  exact h2
theorem seq_long {m n : Nat} {b : Bool} (hm : m < 13407807929942597099574024998205846127479365820592393377723561443721764030073546976801874298166903427690031858186486050853753882811946569946433649006084096) (hn : n < 13407807929942597099574024998205846127479365820592393377723561443721764030073546976801874298166903427690031858186486050853753882811946569946433649006084096) (h : decide (m = n) = b) (p q : Operand) (W : World) : (do eqGuard .eql 27 p q (.agg (Scl.ls m)) (.agg (Scl.ls n)); binOp .eql 27 (.agg (Scl.ls m)) (.agg (Scl.ls n)) : Sem Value).run Tryd.prog W = .ok (.bool b) W := by
  have hq := longs_eq hm hn h W
  go_simp
/-- What Check answers. -/
def er (b : Bool) : Int := bif b then 0 else 8
theorem er_f : er false = 8 := rfl
theorem er_t : er true = 0 := rfl
theorem er_eq0 (b : Bool) (p q : Operand) (W : World) : (do eqGuard .eql 29 p q (.int .i64 (er b)) (.int .i64 0); binOp .eql 29 (.int .i64 (er b)) (.int .i64 0) : Sem Value).run Tryd.prog W = .ok (.bool b) W := by
  cases b <;> kernel_rfl
theorem er_ne0 (b : Bool) (p q : Operand) (W : World) : (do eqGuard .neq 29 p q (.int .i64 (er b)) (.int .i64 0); binOp .neq 29 (.int .i64 (er b)) (.int .i64 0) : Sem Value).run Tryd.prog W = .ok (.bool (!b)) W := by
  cases b <;> kernel_rfl
theorem seq_bool (b : Bool) (p q : Operand) (W : World) : (do eqGuard .eql 4 p q (.bool b) (.bool b); binOp .eql 4 (.bool b) (.bool b) : Sem Value).run Tryd.prog W = .ok (.bool true) W := by
  cases b <;> go_simp
theorem gt_no {k c : Nat} (h : k ≤ c) (p q : Operand) (W : World) : (do eqGuard .gtr 3 p q (.int .i64 (k : Int)) (.int .i64 (c : Int)); binOp .gtr 3 (.int .i64 (k : Int)) (.int .i64 (c : Int)) : Sem Value).run Tryd.prog W = .ok (.bool false) W := by
  have e : decide ((k : Int) > (c : Int)) = false := decide_eq_false (by omega)
  go_simp
theorem gt_yes {k c : Nat} (h : c < k) (p q : Operand) (W : World) : (do eqGuard .gtr 3 p q (.int .i64 (k : Int)) (.int .i64 (c : Int)); binOp .gtr 3 (.int .i64 (k : Int)) (.int .i64 (c : Int)) : Sem Value).run Tryd.prog W = .ok (.bool true) W := by
  have e : decide ((k : Int) > (c : Int)) = true := decide_eq_true (by omega)
  go_simp
theorem bd_key5 (W : World) : (Instr.build 23 [(0, .int .u8 5)].toArray).run Tryd.prog W = .ok (.agg (ks 5)) W := by kernel_rfl
end Go.Proofs.YtpagiffbjofihaaDoor
namespace Go.Proofs.YtpagiffbjofihaaDoor
set_option linter.unusedVariables false
set_option linter.unusedSimpArgs false
set_option maxRecDepth 100000
open Go.ChangeShapes Go.WideShapes Go.ChangeAt Go.RowKit Go.Deep
theorem own : ownKnob Tryd.prog.godebug = none := by kernel_rfl
theorem laidOut : laidOutB Tryd.prog = true := by kernel_rfl
/-- The number of bytes. -/
def numL : List Nat → Nat
  | [] => 0
  | b :: r => b + 256 * numL r
theorem numL_dig : ∀ (l : List Nat), (∀ b ∈ l, b < 256) → ∀ i, i < l.length → some (numL l / 256 ^ i % 256) = l[i]?
  | [], _, i, h => absurd h (by simp)
  | b :: r, hl, 0, _ => by
    have hb := hl b (by simp)
    simp [numL]
    omega
  | b :: r, hl, i + 1, h => by
    have hb := hl b (by simp)
    have ih := numL_dig r (fun c hc => hl c (by simp [hc])) i (by simpa using h)
    have e : (b + 256 * numL r) / 256 ^ (i + 1) = numL r / 256 ^ i := by
      rw [Nat.pow_succ', ← Nat.div_div_eq_div_mul]
      congr 1
      omega
    show some ((b + 256 * numL r) / 256 ^ (i + 1) % 256) = (b :: r)[i + 1]?
    rw [e, ih]
    simp
theorem numL_lt : ∀ (l : List Nat), (∀ b ∈ l, b < 256) → numL l < 256 ^ l.length
  | [], _ => by simp [numL]
  | b :: r, hl => by
    have hb := hl b (by simp)
    have ih := numL_lt r (fun c hc => hl c (by simp [hc]))
    rw [List.length_cons, Nat.pow_succ]
    unfold numL
    omega
theorem kb_numL {l : List Nat} (h : l.length = 32) (hl : ∀ b ∈ l, b < 256) : kb (numL l) = l := by
  apply List.ext_getElem?
  intro i
  by_cases hi : i < 32
  · rw [kb_get _ hi, numL_dig l hl i (by omega)]
  · rw [List.getElem?_eq_none (by rw [kb_len]; omega), List.getElem?_eq_none (by omega)]
section
variable {H : Type} {enc : TypeId × Value → H}
theorem cells_key : Tryd.prog.cellsOf 23 = 32 := by kernel_rfl
theorem cells_u8 : Tryd.prog.cellsOf 5 = 1 := by kernel_rfl
def natOf : Value → Nat
  | .int _ n => n.toNat
  | _ => 0
theorem key_open {W : World} {base : Nat} {v : Value} {d : DataW H} {p : List MemPlace} (hv : Value.okWide Tryd.prog W .any base 23 v) (h : DataW.Trod enc Tryd.prog W 0 (fun _ => true) true 23 v d p) :
    ∃ n, v = .agg (ks n) ∧ n < 115792089237316195423570985008687907853269984665640564039457584007913129639936 := by
  obtain ⟨cs, rfl, hsz, _⟩ : ∃ cs, v = .agg cs ∧ cs.size = Tryd.prog.cellsOf 23 ∧ Row.okWide Tryd.prog W .any base 23 cs := by
    simpa [Value.okWide, Tryd.underlying23] using hv
  rw [cells_key] at hsz
  obtain ⟨fuel, hf⟩ := h
  obtain ⟨xs, m, rfl, hx, hlen, hn, hel⟩ := DataW.trod_array Tryd.underlying23 hf
  obtain ⟨l⟩ := cs
  have hl32 : l.length = 32 := by simpa using hsz
  have hcell : ∀ i, i < 32 → ∃ b : Nat, l[i]? = some (.int .u8 (b : Int)) ∧ b < 256 := by
    intro i hi
    have h1 := hel i hi
    rw [cells_u8, Nat.mul_one] at h1
    have hxi : xs[i]? = some xs[i] := List.getElem?_eq_getElem (by omega)
    rw [hxi] at h1
    obtain ⟨k, e1, e2, e3⟩ := DataW.trod_int Tryd.underlying5 h1
    have hli : l[i]? = some l[i] := List.getElem?_eq_getElem (by omega)
    have hd : (l.drop i).take 1 = [l[i]] := by
      rw [List.drop_eq_getElem_cons (by omega)]
      rfl
    have hv : l[i] = .int .u8 k := by
      have : (l.drop i).take 1 = [.int .u8 k] := e1
      rw [hd] at this
      simpa using this
    have hk : 0 ≤ k ∧ k < 256 := by
      have := e3
      simp [Lit.wf, IntKind.min, IntKind.max, IntKind.signed, IntKind.bits] at this
      omega
    obtain ⟨b, rfl⟩ := Int.eq_ofNat_of_zero_le hk.1
    exact ⟨b, by rw [hli, hv], by omega⟩
  have hmap : l = (l.map natOf).map (nc .u8) := by
    apply List.ext_getElem?
    intro i
    by_cases hi : i < 32
    · obtain ⟨b, hb, _⟩ := hcell i hi
      rw [List.getElem?_map, List.getElem?_map, hb]
      rfl
    · rw [List.getElem?_eq_none (by omega), List.getElem?_eq_none (by simp; omega)]
  have hlt : ∀ b ∈ l.map natOf, b < 256 := by
    intro b hb
    obtain ⟨x, hx, rfl⟩ := List.mem_map.1 hb
    obtain ⟨i, hi, rfl⟩ := List.getElem_of_mem hx
    obtain ⟨c, hc, hc2⟩ := hcell i (by omega)
    rw [List.getElem?_eq_getElem hi] at hc
    injection hc with hc
    rw [hc]
    exact hc2
  refine ⟨numL (l.map natOf), ?_, ?_⟩
  · rw [ks, kb_numL (by simp [hl32]) hlt, ncs, ← hmap]
  · have := numL_lt (l.map natOf) hlt
    rw [List.length_map, hl32] at this
    exact this
end
section
variable {H : Type} {enc : TypeId × Value → H}
end
theorem u8_ofI {n : Int} (h : (Lit.int .u8 n).wf = true) : ((UInt8.ofNat n.toNat).toNat : Int) = n := by
  have := bounds_u8 h
  have h2 : n.toNat < 256 := by omega
  rw [UInt8.toNat_ofNat', Nat.mod_eq_of_lt (by simpa using h2)]
  omega
section
variable {H : Type} {enc : TypeId × Value → H} {W : World} {held : Bool}
theorem bs_read {a : Option Addr} {len cap : Nat} {d : DataW H} {p : List MemPlace} (h : DataW.Trod enc Tryd.prog W 0 (fun _ => true) held 24 (.slice a len cap) d p) : ∃ l, BS W W.heap.size a len cap l ∧ len ≤ maxLen := by
  obtain ⟨fuel, hf⟩ := h
  rcases open_ints Tryd.underlying24 Tryd.underlying5 (by kernel_rfl) hf with ⟨hcs, _⟩ | ⟨x, l, c, zs, hcs, _, h1, h2, h3, _, h4, h5⟩
  · simp [Value.cells] at hcs
    obtain ⟨rfl, rfl, rfl⟩ := hcs
    exact ⟨[], BS.nil _ _, Nat.zero_le _⟩
  · simp [Value.cells] at hcs
    obtain ⟨rfl, rfl, rfl⟩ := hcs
    have h3 : zs.length = cap := by simpa using h3
    refine ⟨(zs.take len).map fun n => UInt8.ofNat n.toNat, ⟨by simp; omega, h1, by intro e; (cases e), fun hp => ?_⟩, by omega⟩
    obtain ⟨b, o, spot⟩ := x
    have hc0 := h4 0 (by omega)
    have hs : spot = none := by simpa [Addr.add] using World.cell?_spot hc0
    subst hs
    refine ⟨b, o, rfl, ?_, fun j y hy => ?_⟩
    · simpa [Addr.add] using World.block_lt_of_cell? W _ hc0
    · rw [List.getElem?_map, List.getElem?_take] at hy
      split at hy
      · rename_i hj
        have hj' : j < zs.length := by omega
        rw [List.getElem?_eq_getElem hj'] at hy
        simp only [Option.map_some, Option.some.injEq] at hy
        subst hy
        have := h4 j hj'
        rw [Addr.add_lit] at this
        rw [this, u8_ofI (h5 _ (List.getElem_mem hj'))]
        simp [List.getD, List.getElem?_eq_getElem hj']
      · simp at hy
end
def laidP : List (String × DataW Unit) := [("escutcheon/field.p", Rows.laid_escutcheon_field_p), ("escutcheon/scalar.order", Rows.laid_escutcheon_scalar_order), ("escutcheon/sha.primes", Rows.laid_escutcheon_sha_primes)]
theorem door_met (os : Os) (args : Array Value) : laidMetH Tryd.prog laidP ((World.doorLaid Tryd.prog 400 os).forCall (fun _ _ => 0) ⟨#[], args, []⟩).memory :=
  laidMetH_of_parts3 (fuel := 8) (laidMet_of_run' 8 (by kernel_rfl) (by kernel_rfl)) (by kernel_rfl) (by kernel_rfl)
theorem cells_u64 : Tryd.prog.cellsOf 36 = 1 := by kernel_rfl
def litsOf (L : List Nat) : List (DataW Unit) := L.map fun x => .lit (.int .u64 ((x : Nat) : Int))
/-- A listed array's cells. -/
theorem var_cells {W : World} {nm : String} {g : Nat} {t : TypeId} {k fuel : Nat} {cs : Array Value} {L : List Nat} {p : List MemPlace} (hg : Tryd.prog.globalNamed nm = some g) (hv : W.var? Tryd.prog nm = some cs) (hu : Tryd.prog.underlying t = some (.array k 36)) (hc : Tryd.prog.cellsOf t = k)
    (hd : DataW.trod (fun _ => ()) Tryd.prog W 0 (fun _ => true) false fuel t cs.toList = some (.agg (litsOf L), p)) (hk : k = L.length) : ∀ i x : Nat, L[i]? = some x → W.cell? ⟨g, i, none⟩ = some (.int .u64 (x : Int)) := by
  obtain ⟨xs, m1, rfl, hx1, hlen, hn3, hel⟩ := DataW.trod_array hu hd
  simp only [Prod.mk.injEq, DataW.agg.injEq] at hx1
  intro i x hx
  have hi : i < k := by rw [hk]; exact (List.getElem?_eq_some_iff.1 hx).1
  have h1 := hel i hi
  rw [cells_u64, Nat.mul_one] at h1
  have hxi : xs[i]? = some xs[i] := List.getElem?_eq_getElem (by omega)
  rw [hxi] at h1
  obtain ⟨z, e1, e2, e3⟩ := DataW.trod_int Tryd.underlying36 h1
  have hl : i < cs.toList.length := by rw [hlen, hc]; omega
  have hd : (cs.toList.drop i).take 1 = [cs.toList[i]] := by
    rw [List.drop_eq_getElem_cons hl]
    rfl
  have h2 : cs.toList[i]? = some (.int .u64 z) := by
    have : (cs.toList.drop i).take 1 = [.int .u64 z] := e1
    rw [hd] at this
    rw [List.getElem?_eq_getElem hl]
    simpa using this
  have h3 : (xs.map (·.1))[i]? = some (.lit (.int .u64 z)) := by
    rw [List.getElem?_map, hxi]
    simp [e2]
  rw [← hx1.1, litsOf, List.getElem?_map, hx] at h3
  injection h3 with h3
  injection h3 with h3
  injection h3 with h3 h4
  have := World.var?_cell hg hv i
  rw [this, h4, ← h2]
  simp
theorem gP : Tryd.prog.globalNamed "escutcheon/field.p" = some 1 := by kernel_rfl
theorem gO : Tryd.prog.globalNamed "escutcheon/scalar.order" = some 0 := by kernel_rfl
theorem gM : Tryd.prog.globalNamed "escutcheon/sha.primes" = some 2 := by kernel_rfl
theorem tP : (Tryd.prog.globals[1]?).map (·.type) = some 37 := by kernel_rfl
theorem tO : (Tryd.prog.globals[0]?).map (·.type) = some 37 := by kernel_rfl
theorem tM : (Tryd.prog.globals[2]?).map (·.type) = some 75 := by kernel_rfl
theorem cells_w4 : Tryd.prog.cellsOf 37 = 4 := by kernel_rfl
theorem cells_k80 : Tryd.prog.cellsOf 75 = 80 := by kernel_rfl
theorem lP : Rows.laid_escutcheon_field_p = .agg (litsOf [18446744073709551597, 18446744073709551615, 18446744073709551615, 9223372036854775807]) := by kernel_rfl
theorem lO : Rows.laid_escutcheon_scalar_order = .agg (litsOf [6346243789798364141, 1503914060200516822, 0, 1152921504606846976]) := by kernel_rfl
theorem lM : Rows.laid_escutcheon_sha_primes = .agg (litsOf Sha.PR) := by kernel_rfl
theorem pg_of_laid {W : World} (h : laidMetH Tryd.prog laidP W) : GL W := by
  rw [MakeChecks.laidMetH_plain _ _ _ (by kernel_rfl)] at h
  obtain ⟨ps, ⟨g0, t0, cs0, f0, p0, q0, hg0, ht0, hv0, hd0, ⟨g1, t1, cs1, f1, p1, q1, hg1, ht1, hv1, hd1, ⟨g2, t2, cs2, f2, p2, q2, hg2, ht2, hv2, hd2, _, _⟩, _⟩, _⟩, _, _⟩ := h
  obtain rfl := Option.some.inj (gP.symm.trans hg0)
  obtain rfl := Option.some.inj (gO.symm.trans hg1)
  obtain rfl := Option.some.inj (gM.symm.trans hg2)
  obtain rfl := Option.some.inj (tP.symm.trans ht0)
  obtain rfl := Option.some.inj (tO.symm.trans ht1)
  obtain rfl := Option.some.inj (tM.symm.trans ht2)
  rw [lP] at hd0
  rw [lO] at hd1
  rw [lM] at hd2
  have c0 := var_cells gP hv0 Tryd.underlying37 cells_w4 hd0 rfl
  have c1 := var_cells gO hv1 Tryd.underlying37 cells_w4 hd1 rfl
  have c2 := var_cells gM hv2 Tryd.underlying75 cells_k80 hd2 Sha.PR_len.symm
  refine ⟨⟨block_lt_of_cell (c0 0 _ rfl), c0 0 _ rfl, c0 1 _ rfl, c0 2 _ rfl, c0 3 _ rfl⟩, ⟨block_lt_of_cell (c1 0 _ rfl), c1 0 _ rfl, c1 1 _ rfl, c1 2 _ rfl, c1 3 _ rfl⟩, ⟨block_lt_of_cell (c2 0 _ rfl), fun i hi => c2 i _ ?_⟩⟩
  simp [List.getD, List.getElem?_eq_getElem (show i < Sha.PR.length by rw [Sha.PR_len]; exact hi)]
theorem bf_of_bs {A : Option Addr} {n c : Nat} {l : List UInt8} {w : World} (h : BS w w.heap.size A n c l) : BF l (.slice A n c) w := ⟨A, n, c, rfl, h⟩
end Go.Proofs.YtpagiffbjofihaaDoor
