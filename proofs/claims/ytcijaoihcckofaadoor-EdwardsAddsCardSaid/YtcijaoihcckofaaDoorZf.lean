/- Words, contracts and walks (Lb6, Yr, Ya, Ym, Yi, Yb), laid together. No condition. -/
import Derived.Test.YtcijaoihcckofaaDoorZe
namespace Go.Proofs.YtcijaoihcckofaaDoor
set_option linter.unusedVariables false
set_option linter.unusedSimpArgs false
set_option maxRecDepth 100000
open Go Go.RowKit
attribute [local irreducible] ev sv ks fx dv tv cv ds ptSet ptAdd ptMul ptNeg rpAdd rpMul rpNeg rootC EE II TD BX BY BP Pt.add Pt.neg Pt.mul Pt.nil pbn pt ptEs ptRs LL PZ
section
attribute [local semireducible] BY
theorem base_row : ∀ k : Fin 32, k.val ≠ 0 → BY.val / 256 ^ k.val % 256 = 102 := by decide +kernel
theorem base_row0 : BY.val / 256 ^ 0 % 256 = 88 := by decide +kernel
end
section
attribute [local semireducible] BP
theorem BP_y1 : BP.y = BY := rfl
end
theorem BP_y : (BP.mul 1).y = BY := by rw [Pt.mul_one]; exact BP_y1
theorem LL_mul : BP.mul LL = Pt.nil := by
  have e : LL = LL' := LL_eq.trans rfl
  rw [e]; exact BP_order
theorem pbn_nil : pbn Pt.nil = 1 := by decide +kernel
set_option maxHeartbeats 8000000 in
theorem known6  (w : World) (hpg : PG w) : Calls Tryd.prog 14 #[] w (fun rr w' => rr = .returned (.bool true) ∧ Below w.heap.size w w') := by
  obtain ⟨z1, hz1⟩ : ∃ z : L4 PP, z = ptMul BE 1 256 := ⟨_, rfl⟩
  have rz1 : RepS (Pt.mul BP 1) z1 := by rw [hz1]; exact RepS.mul BE_rep (by omega)
  obtain ⟨z2, hz2⟩ : ∃ z : Nat, z = (Pt.mul BP 1).y.val := ⟨_, rfl⟩
  obtain ⟨z3, hz3⟩ : ∃ z : L4 PP, z = ptMul BE LL 256 := ⟨_, rfl⟩
  have rz3 : RepS (Pt.mul BP LL) z3 := by rw [hz3]; exact RepS.mul BE_rep LL_lt
  obtain ⟨z4, hz4⟩ : ∃ z : Nat, z = pbn Pt.nil := ⟨_, rfl⟩
  have lz4 : z4 < 115792089237316195423570985008687907853269984665640564039457584007913129639936 := by rw [hz4]; exact pbn_lt _
  have hx0 : z2 / 256 ^ 0 % 256 = 88 := by rw [hz2, BP_y]; exact base_row0
  have hnil : z4 = 1 := by rw [hz4]; exact pbn_nil
  refine calls_st (vs := []) 31 Tryd.func14 rfl Tryd.ntmps14 rfl (fun a W H => ?_)
  replace H : St 31 w a W [] [] := H
  refine wp_seq_k (fun K1 hK1 => ?_)
  refine rg_plain ?_
  refine pl_does (does_assign rfl rfl) rfl rfl rfl rfl H ?_
  clear H a W
  intro a W H
  refine pl_end ?_
  refine hK1 _ _ ?_
  clear hK1
  refine wp_seq_k (fun K2 hK2 => ?_)
  refine rg_plain ?_
  refine pl_new (news_of rfl al_ptZ) rfl rfl rfl rfl H ?_
  clear H a W
  intro g1 a W H
  refine pl_end ?_
  refine hK2 _ _ ?_
  clear hK2
  refine wp_seq_k (fun K3 hK3 => ?_)
  refine rg_plain ?_
  refine pl_does (does_build rfl rfl bd_key1) rfl rfl rfl rfl H ?_
  clear H a W
  intro a W H
  refine pl_does (does_call rfl ⟨_, Tryd.func29, by kernel_rfl⟩ rfl (fun W hb => base_pt hz1 W (hpg.ext hb))) rfl rfl rfl rfl H ?_
  clear H a W
  intro a W H
  refine pl_does (does_call rfl ⟨_, Tryd.func18, by kernel_rfl⟩ rfl (fun W hb => ptY_nm rz1 hz2 W (hpg.ext hb))) rfl rfl rfl rfl H ?_
  clear H a W
  intro a W H
  refine pl_new (news_of rfl al_key0) rfl rfl rfl rfl H ?_
  clear H a W
  intro g2 a W H
  refine pl_store rfl rfl rfl (k := 0) rfl (info_ks _) (by simp only [sv_size, ev_size, ks_size, fx_size, dv_size, ds_size, tv_size, cv_size] <;> rfl) (ks_one _) rfl rfl H ?_
  clear H a W
  intro a W H
  refine pl_end ?_
  replace H : St 31 w a W [(2, .pointer (some ⟨g2, 0, none⟩)), (1, .pointer (some ⟨g1, 0, none⟩)), (0, .bool false)] [(g2, 23, ks z2), (g1, 29, sv PZ)] := H.pick [0, 4, 5] [0, 1] rfl
  refine hK3 _ _ ?_
  clear hK3
  refine wp_seq_k (fun K4 hK4 => ?_)
  refine wp_seq_k (fun K5 hK5 => ?_)
  refine rg_plain ?_
  refine pl_does (does_assign rfl rfl) rfl rfl rfl rfl H ?_
  clear H a W
  intro a W H
  refine pl_end ?_
  refine hK5 _ _ ?_
  clear hK5
  refine wp_block ?_
  replace H : St 31 w a W [(3, .int .i64 ((1 : Nat) : Int)), (2, .pointer (some ⟨g2, 0, none⟩)), (1, .pointer (some ⟨g1, 0, none⟩))] [(g2, 23, ks z2), (g1, 29, sv PZ)] := H.pick [0, 1, 2] [0, 1] rfl
  refine wp_rounds 32 (fun k a W => 1 ≤ k ∧ St 31 w a W [(3, .int .i64 ((k : Nat) : Int)), (2, .pointer (some ⟨g2, 0, none⟩)), (1, .pointer (some ⟨g1, 0, none⟩))] [(g2, 23, ks z2), (g1, 29, sv PZ)]) (k0 := 1) ⟨by omega, H⟩ (by omega) ?_
  clear H a W
  rintro k a W hk ⟨hk1, H⟩
  by_cases hk2 : k < 32
  · have hx : z2 / 256 ^ k % 256 = 102 := by rw [hz2, BP_y]; exact base_row ⟨k, hk2⟩ (by show k ≠ 0; omega)
    refine wp_seq_k (fun K6 hK6 => ?_)
    refine wp_seq_k (fun K7 hK7 => ?_)
    refine rg_plain ?_
    refine pl_does (does_move rfl rfl) rfl rfl rfl rfl H ?_
    clear H a W
    intro a W H
    refine pl_does (does_binOp rfl rfl rfl (i_lss_yes (m := 32) hk2 _ _)) rfl rfl rfl rfl H ?_
    clear H a W
    intro a W H
    refine pl_end ?_
    refine hK7 _ _ ?_
    clear hK7
    refine wp_cond_true (H.ev rfl) ?_
    refine wp_skip ?_
    refine hK6 _ _ ?_
    clear hK6
    refine wp_seq_k (fun K8 hK8 => ?_)
    refine wp_block ?_
    refine wp_seq_k (fun K9 hK9 => ?_)
    refine rg_plain ?_
    refine pl_does (does_move rfl rfl) rfl rfl rfl rfl H ?_
    clear H a W
    intro a W H
    refine pl_does (does_indexAddr rfl rfl rfl (ia_keyn (j := k) hk2)) rfl rfl rfl rfl H ?_
    clear H a W
    intro a W H
    refine pl_does (does_loadAt (v := .int .u8 ((102 : Nat) : Int)) rfl rfl (k := 0) rfl (ld_keyn hk2 hx)) rfl rfl rfl rfl H ?_
    clear H a W
    intro a W H
    refine pl_does (does_binOp rfl rfl rfl (b_neq (x := 102) (y := 102) (b := false) (by decide) _ _)) rfl rfl rfl rfl H ?_
    clear H a W
    intro a W H
    refine pl_end ?_
    refine hK9 _ _ ?_
    clear hK9
    refine wp_cond_false (H.ev rfl) ?_
    refine wp_skip ?_
    refine blk_normal ?_
    refine hK8 _ _ ?_
    clear hK8
    refine rg_plain ?_
    refine pl_does (does_move rfl rfl) rfl rfl rfl rfl H ?_
    clear H a W
    intro a W H
    refine pl_does (does_binOp rfl rfl rfl (i_inc (by omega) _ _)) rfl rfl rfl rfl H ?_
    clear H a W
    intro a W H
    replace H : St 31 w a W [(10, .int .i64 ((k + 1 : Nat) : Int)), (9, .int .i64 ((k : Nat) : Int)), (14, .bool false), (13, .int .u8 ((102 : Nat) : Int)), (12, .pointer (some ⟨g2, k, none⟩)), (11, .int .i64 ((k : Nat) : Int)), (8, .bool true), (7, .int .i64 ((k : Nat) : Int)), (2, .pointer (some ⟨g2, 0, none⟩)), (1, .pointer (some ⟨g1, 0, none⟩))] [(g2, 23, ks z2), (g1, 29, sv PZ)] := H.pick [0, 1, 2, 3, 4, 5, 6, 7, 9, 10] [0, 1] rfl
    refine pl_does (does_assign rfl rfl) rfl rfl rfl rfl H ?_
    clear H a W
    intro a W H
    refine pl_end ?_
    refine ⟨k + 1, by omega, by omega, by omega, ?_⟩
    show St 31 w a W [(3, .int .i64 ((k + 1 : Nat) : Int)), (2, .pointer (some ⟨g2, 0, none⟩)), (1, .pointer (some ⟨g1, 0, none⟩))] [(g2, 23, ks z2), (g1, 29, sv PZ)]
    exact H.pick [0, 9, 10] [0, 1] rfl
  · obtain rfl : k = 32 := by omega
    refine wp_seq_k (fun K10 hK10 => ?_)
    refine wp_seq_k (fun K11 hK11 => ?_)
    refine rg_plain ?_
    refine pl_does (does_move rfl rfl) rfl rfl rfl rfl H ?_
    clear H a W
    intro a W H
    refine pl_does (does_binOp rfl rfl rfl (i_lss_no (m := 32) (by omega) _ _)) rfl rfl rfl rfl H ?_
    clear H a W
    intro a W H
    refine pl_end ?_
    replace H : St 31 w a W [(8, .bool false), (3, .int .i64 ((32 : Nat) : Int)), (2, .pointer (some ⟨g2, 0, none⟩)), (1, .pointer (some ⟨g1, 0, none⟩))] [(g2, 23, ks z2), (g1, 29, sv PZ)] := H.pick [0, 2, 3, 4] [0, 1] rfl
    refine hK11 _ _ ?_
    clear hK11
    refine wp_cond_false (H.ev rfl) ?_
    refine wp_exit ?_
    repeat (with_reducible refine then_exit ?_)
    refine blk_exit ?_
    refine hK4 _ _ ?_
    clear hK4
    refine wp_seq_k (fun K12 hK12 => ?_)
    refine drawnS [.val 15 (.pointer (some ⟨g2, 0, none⟩)) [] [], .val 16 (.int .u8 ((88 : Nat) : Int)) [0] [0], .val 17 (.bool true) [1] [], .val 18 (.bool true) [2] [], .val 19 (.agg (ds LL)) [3] [], .val 20 (.agg (ks LL)) [4, 3] [], .val 21 (.agg (sv z3)) [5, 3] [], .val 22 (.agg (sv PZ)) [3] [1], .val 23 (.bool true) [6, 7, 3] [], .val 24 (.bool true) [3, 8] [], .val 25 (.bool true) [9] [], .val 26 (.agg (sv PZ)) [10] [1], .val 27 (.agg (ks z4)) [11, 10] [], .val 28 (.agg (ks 1)) [10] [], .val 29 (.bool true) [12, 13, 10] [], .val 30 (.bool true) [10, 14] [], .val 0 (.bool true) [15] []] [0, 1, 2, 4, 8, 24, 40, 8, 200, 264, 768, 1024, 3072, 1024, 13312, 17408, 65535] (by kernel_rfl) (by kernel_rfl) (by kernel_rfl) H ⟨⟨does_indexAddr rfl rfl rfl (ia_keyn (j := 0) (by omega)), wanted_none rfl⟩, ⟨does_loadAt (v := .int .u8 ((88 : Nat) : Int)) rfl rfl (k := 0) rfl (ld_keyn (j := 0) (by omega) hx0), wanted_none rfl⟩, ⟨does_binOp rfl rfl rfl (b_eql (x := 88) (y := 88) (b := true) (by decide) _ _), wanted_none rfl⟩, ⟨does_move rfl rfl, wanted_none rfl⟩, ⟨does_call rfl ⟨_, Tryd.func30, by kernel_rfl⟩ rfl (fun W hb => rorder_any W), wanted_some rfl rfl rfl rfl rfl⟩, ⟨does_call rfl ⟨_, Tryd.func17, by kernel_rfl⟩ rfl (fun W hb => rbytes_any LL W LL_lt), wanted_some rfl rfl rfl rfl rfl⟩, ⟨does_call rfl ⟨_, Tryd.func29, by kernel_rfl⟩ rfl (fun W hb => base_pt hz3 W (hpg.ext hb)), wanted_some rfl rfl rfl rfl rfl⟩, ⟨does_load rfl rfl (k := 0) rfl Tryd.underlying29 rfl (info_pt _), wanted_some rfl rfl rfl rfl rfl⟩, ⟨does_call rfl ⟨_, Tryd.func25, by kernel_rfl⟩ rfl (fun W hb => equal_pt rz3 PZ_rep (decide_eq_true LL_mul) W (hpg.ext hb)), wanted_some rfl rfl rfl rfl rfl⟩, ⟨does_pick rfl rfl (fun _ => rfl) (fun hb => by cases hb), wanted_none rfl⟩, ⟨does_move rfl rfl, wanted_none rfl⟩, ⟨does_load rfl rfl (k := 0) rfl Tryd.underlying29 rfl (info_pt _), wanted_some rfl rfl rfl rfl rfl⟩, ⟨does_call rfl ⟨_, Tryd.func13, by kernel_rfl⟩ rfl (fun W hb => bytes_pt PZ_rep hz4 W (hpg.ext hb)), wanted_some rfl rfl rfl rfl rfl⟩, ⟨does_build rfl rfl bd_key1, wanted_some rfl rfl rfl rfl rfl⟩, ⟨does_binOp rfl rfl rfl (eq_key_same hnil _ _), wanted_some rfl rfl rfl rfl rfl⟩, ⟨does_pick rfl rfl (fun _ => rfl) (fun hb => by cases hb), wanted_none rfl⟩, ⟨does_assign rfl rfl, wanted_none rfl⟩, trivial⟩ ?_
    clear H a W
    intro G3 a W H
    replace H : St 31 w a W [(15, .pointer (some ⟨g2, 0, none⟩)), (16, .int .u8 ((88 : Nat) : Int)), (17, .bool true), (18, .bool true), (19, .agg (ds LL)), (20, .agg (ks LL)), (21, .agg (sv z3)), (22, .agg (sv PZ)), (23, .bool true), (24, .bool true), (25, .bool true), (26, .agg (sv PZ)), (27, .agg (ks z4)), (28, .agg (ks 1)), (29, .bool true), (30, .bool true), (0, .bool true), (8, .bool false), (3, .int .i64 ((32 : Nat) : Int)), (2, .pointer (some ⟨g2, 0, none⟩)), (1, .pointer (some ⟨g1, 0, none⟩))] [(g2, 23, ks z2), (g1, 29, sv PZ)] := H
    replace H : St 31 w a W [(0, .bool true)] [] := H.pick [16] [] rfl
    refine hK12 _ _ ?_
    clear hK12
    refine wp_ret ?_
    repeat (first | (with_reducible refine then_ret ?_) | (with_reducible refine blk_ret ?_))
    refine end_tmp (p := 0) rfl rfl H (fun hb => ?_)
    exact ⟨rfl, hb⟩
set_option maxHeartbeats 8000000 in
theorem point6_yes {n : Nat} {p : L4 PP} {v : Pj3} (h1 : p = ptEs n) (h2 : v = ptRs n) (hn : n < 115792089237316195423570985008687907853269984665640564039457584007913129639936) (hp : isPt n = true) (w : World) (hpg : PG w) : Calls Tryd.prog 19 #[.agg (cv TD BR), .agg (ks n)] w (fun rr w' => rr = .returned (.tuple #[.agg (sv p), .agg (tv v)]) ∧ Below w.heap.size w w') := by
  obtain ⟨z1, hz1⟩ : ∃ z : L4 PP, z = ptE (ptX n) (ofK n) := ⟨_, rfl⟩
  have rz1 : RepS (ptOf n hp) z1 := by rw [hz1]; exact RepS.of (ptOf n hp)
  obtain ⟨z2, hz2⟩ : ∃ z : Pj3, z = (⟨ptX n, ofK n, 1⟩ : Pj3) := ⟨_, rfl⟩
  have rz2 : RepR (ptOf n hp) z2 := by rw [hz2]; exact RepR.of (ptOf n hp)
  refine calls_st (vs := [.agg (cv TD BR), .agg (ks n)]) 31 Tryd.func19 rfl Tryd.ntmps19 rfl (fun a W H => ?_)
  replace H : St 31 w a W [(0, .agg (cv TD BR)), (1, .agg (ks n))] [] := H
  refine wp_seq_k (fun K1 hK1 => ?_)
  refine rg_plain ?_
  refine pl_box rfl rfl (bx_cv TD BR) rfl rfl rfl rfl H ?_
  clear H a W
  intro g1 a W H
  refine pl_box rfl rfl (bx_keyr n) rfl rfl rfl rfl H ?_
  clear H a W
  intro g2 a W H
  refine pl_new (news_of rfl al_ptZ) rfl rfl rfl rfl H ?_
  clear H a W
  intro g3 a W H
  refine pl_new (news_of rfl al_rpt) rfl rfl rfl rfl H ?_
  clear H a W
  intro g4 a W H
  refine pl_end ?_
  replace H : St 31 w a W [(5, .pointer (some ⟨g4, 0, none⟩)), (4, .pointer (some ⟨g3, 0, none⟩)), (3, .pointer (some ⟨g2, 0, none⟩)), (2, .pointer (some ⟨g1, 0, none⟩))] [(g4, 35, tv RZ), (g3, 29, sv PZ), (g2, 23, ks n), (g1, 38, cv TD BR)] := H.pick [0, 1, 2, 3] [0, 1, 2, 3] rfl
  refine hK1 _ _ ?_
  clear hK1
  refine wp_seq_k (fun K2 hK2 => ?_)
  refine rg_plain ?_
  refine pl_does (does_load rfl rfl (k := 2) rfl Tryd.underlying23 rfl (info_ks _)) rfl rfl rfl rfl H ?_
  clear H a W
  intro a W H
  refine pl_does (does_call rfl ⟨_, Tryd.func10, by kernel_rfl⟩ rfl (fun W hb => of_yes_nm hn hp hz1 W (hpg.ext hb))) rfl rfl rfl rfl H ?_
  clear H a W
  intro a W H
  refine pl_does (does_move rfl rfl) rfl rfl rfl rfl H ?_
  clear H a W
  intro a W H
  refine pl_does (does_extract rfl rfl (fun _ => rfl)) rfl rfl rfl rfl H ?_
  clear H a W
  intro a W H
  refine pl_does (does_extract rfl rfl (fun _ => rfl)) rfl rfl rfl rfl H ?_
  clear H a W
  intro a W H
  refine pl_new (news_of rfl al_ptZ) rfl rfl rfl rfl H ?_
  clear H a W
  intro g5 a W H
  refine pl_store rfl rfl rfl (k := 0) rfl (info_pt _) (by simp only [sv_size, ev_size, ks_size, fx_size, dv_size, ds_size, tv_size, cv_size] <;> rfl) (sv_one _) rfl rfl H ?_
  clear H a W
  intro a W H
  refine pl_does (does_assign rfl rfl) rfl rfl rfl rfl H ?_
  clear H a W
  intro a W H
  refine pl_end ?_
  replace H : St 31 w a W [(7, .bool true), (6, .pointer (some ⟨g5, 0, none⟩)), (5, .pointer (some ⟨g4, 0, none⟩)), (4, .pointer (some ⟨g3, 0, none⟩)), (3, .pointer (some ⟨g2, 0, none⟩)), (2, .pointer (some ⟨g1, 0, none⟩))] [(g5, 29, sv z1), (g4, 35, tv RZ), (g3, 29, sv PZ), (g2, 23, ks n), (g1, 38, cv TD BR)] := H.pick [0, 1, 7, 8, 9, 10] [0, 1, 2, 3, 4] rfl
  refine hK2 _ _ ?_
  clear hK2
  refine wp_seq_k (fun K3 hK3 => ?_)
  refine rg_plain ?_
  refine pl_does (does_load rfl rfl (k := 4) rfl Tryd.underlying38 rfl (info_cv _ _)) rfl rfl rfl rfl H ?_
  clear H a W
  intro a W H
  refine pl_does (does_load rfl rfl (k := 3) rfl Tryd.underlying23 rfl (info_ks _)) rfl rfl rfl rfl H ?_
  clear H a W
  intro a W H
  refine pl_does (does_call rfl ⟨_, Tryd.func12, by kernel_rfl⟩ rfl (fun W hb => rof_yes_nm hn hp hz2 W)) rfl rfl rfl rfl H ?_
  clear H a W
  intro a W H
  refine pl_does (does_move rfl rfl) rfl rfl rfl rfl H ?_
  clear H a W
  intro a W H
  refine pl_does (does_extract rfl rfl (fun _ => rfl)) rfl rfl rfl rfl H ?_
  clear H a W
  intro a W H
  refine pl_does (does_extract rfl rfl (fun _ => rfl)) rfl rfl rfl rfl H ?_
  clear H a W
  intro a W H
  refine pl_new (news_of rfl al_rpt) rfl rfl rfl rfl H ?_
  clear H a W
  intro g6 a W H
  refine pl_store rfl rfl rfl (k := 0) rfl (info_rpt _) (by simp only [sv_size, ev_size, ks_size, fx_size, dv_size, ds_size, tv_size, cv_size] <;> rfl) (tv_one _) rfl rfl H ?_
  clear H a W
  intro a W H
  refine pl_does (does_assign rfl rfl) rfl rfl rfl rfl H ?_
  clear H a W
  intro a W H
  refine pl_end ?_
  replace H : St 31 w a W [(8, .pointer (some ⟨g6, 0, none⟩)), (7, .bool true), (6, .pointer (some ⟨g5, 0, none⟩)), (5, .pointer (some ⟨g4, 0, none⟩)), (4, .pointer (some ⟨g3, 0, none⟩)), (3, .pointer (some ⟨g2, 0, none⟩)), (2, .pointer (some ⟨g1, 0, none⟩))] [(g6, 35, tv z2), (g5, 29, sv z1), (g4, 35, tv RZ), (g3, 29, sv PZ), (g2, 23, ks n), (g1, 38, cv TD BR)] := H.pick [1, 8, 9, 10, 11, 12, 13] [0, 1, 2, 3, 4, 5] rfl
  refine hK3 _ _ ?_
  clear hK3
  refine wp_seq_k (fun K4 hK4 => ?_)
  refine wp_seq_k (fun K5 hK5 => ?_)
  refine rg_plain ?_
  refine pl_does (does_move rfl rfl) rfl rfl rfl rfl H ?_
  clear H a W
  intro a W H
  refine pl_end ?_
  replace H : St 31 w a W [(21, .bool true), (8, .pointer (some ⟨g6, 0, none⟩)), (6, .pointer (some ⟨g5, 0, none⟩)), (5, .pointer (some ⟨g4, 0, none⟩)), (4, .pointer (some ⟨g3, 0, none⟩)), (3, .pointer (some ⟨g2, 0, none⟩)), (2, .pointer (some ⟨g1, 0, none⟩))] [(g6, 35, tv z2), (g5, 29, sv z1), (g4, 35, tv RZ), (g3, 29, sv PZ), (g2, 23, ks n), (g1, 38, cv TD BR)] := H.pick [0, 1, 3, 4, 5, 6, 7] [0, 1, 2, 3, 4, 5] rfl
  refine hK5 _ _ ?_
  clear hK5
  refine wp_cond_true (H.ev rfl) ?_
  refine wp_seq_k (fun K6 hK6 => ?_)
  refine drawnS [.val 22 (.agg (sv z1)) [] [1], .val 23 (.agg (tv z2)) [] [0], .sto 3 g3 29 (sv PZ) (sv z1) [0], .sto 2 g4 35 (tv RZ) (tv z2) [1]] [0, 0, 1, 7] (by kernel_rfl) (by kernel_rfl) (by kernel_rfl) H ⟨⟨does_load rfl rfl (k := 0) rfl Tryd.underlying29 rfl (info_pt _), wanted_none rfl⟩, ⟨does_load rfl rfl (k := 0) rfl Tryd.underlying35 rfl (info_rpt _), wanted_none rfl⟩, ⟨rfl, rfl, sto_row rfl rfl rfl (info_pt _) (by simp only [sv_size, ev_size, ks_size, fx_size, dv_size, ds_size, tv_size, cv_size] <;> rfl) (sv_one _)⟩, ⟨rfl, rfl, sto_row rfl rfl rfl (info_rpt _) (by simp only [sv_size, ev_size, ks_size, fx_size, dv_size, ds_size, tv_size, cv_size] <;> rfl) (tv_one _)⟩, trivial⟩ ?_
  clear H a W
  intro G7 a W H
  replace H : St 31 w a W [(22, .agg (sv z1)), (23, .agg (tv z2)), (21, .bool true), (8, .pointer (some ⟨g6, 0, none⟩)), (6, .pointer (some ⟨g5, 0, none⟩)), (5, .pointer (some ⟨g4, 0, none⟩)), (4, .pointer (some ⟨g3, 0, none⟩)), (3, .pointer (some ⟨g2, 0, none⟩)), (2, .pointer (some ⟨g1, 0, none⟩))] [(g6, 35, tv z2), (g5, 29, sv z1), (g4, 35, tv z2), (g3, 29, sv z1), (g2, 23, ks n), (g1, 38, cv TD BR)] := H
  replace H : St 31 w a W [(5, .pointer (some ⟨g4, 0, none⟩)), (4, .pointer (some ⟨g3, 0, none⟩)), (3, .pointer (some ⟨g2, 0, none⟩)), (2, .pointer (some ⟨g1, 0, none⟩))] [(g4, 35, tv z2), (g3, 29, sv z1), (g2, 23, ks n), (g1, 38, cv TD BR)] := H.pick [5, 6, 7, 8] [2, 3, 4, 5] rfl
  refine hK6 _ _ ?_
  clear hK6
  refine wp_ret ?_
  repeat (first | (with_reducible refine then_ret ?_) | (with_reducible refine blk_ret ?_))
  refine end_cells (p := 4) (q := 5) rfl rfl (k := 1) rfl Tryd.underlying29 rfl (info_pt _) rfl (k2 := 0) rfl Tryd.underlying35 rfl (info_rpt _) H (fun hb => ?_)
  refine ⟨?_, hb⟩
  rw [h1, h2]
  unfold ptEs ptRs
  rw [if_pos hp, if_pos hp, ← hz1, ← hz2]
set_option maxHeartbeats 8000000 in
theorem point6_no {n : Nat} {p : L4 PP} {v : Pj3} (h1 : p = ptEs n) (h2 : v = ptRs n) (hn : n < 115792089237316195423570985008687907853269984665640564039457584007913129639936) (hp : isPt n = false) (w : World) (hpg : PG w) : Calls Tryd.prog 19 #[.agg (cv TD BR), .agg (ks n)] w (fun rr w' => rr = .returned (.tuple #[.agg (sv p), .agg (tv v)]) ∧ Below w.heap.size w w') := by
  obtain ⟨z1, hz1⟩ : ∃ z : L4 PP, z = ptMul BE n 256 := ⟨_, rfl⟩
  have rz1 : RepS (Pt.mul BP n) z1 := by rw [hz1]; exact RepS.mul BE_rep hn
  obtain ⟨z2, hz2⟩ : ∃ z : Pj3, z = rpMul BR n 256 := ⟨_, rfl⟩
  have rz2 : RepR (Pt.mul BP n) z2 := by rw [hz2]; exact RepR.mul BR_rep hn
  refine calls_st (vs := [.agg (cv TD BR), .agg (ks n)]) 31 Tryd.func19 rfl Tryd.ntmps19 rfl (fun a W H => ?_)
  replace H : St 31 w a W [(0, .agg (cv TD BR)), (1, .agg (ks n))] [] := H
  refine wp_seq_k (fun K1 hK1 => ?_)
  refine rg_plain ?_
  refine pl_box rfl rfl (bx_cv TD BR) rfl rfl rfl rfl H ?_
  clear H a W
  intro g1 a W H
  refine pl_box rfl rfl (bx_keyr n) rfl rfl rfl rfl H ?_
  clear H a W
  intro g2 a W H
  refine pl_new (news_of rfl al_ptZ) rfl rfl rfl rfl H ?_
  clear H a W
  intro g3 a W H
  refine pl_new (news_of rfl al_rpt) rfl rfl rfl rfl H ?_
  clear H a W
  intro g4 a W H
  refine pl_end ?_
  replace H : St 31 w a W [(5, .pointer (some ⟨g4, 0, none⟩)), (4, .pointer (some ⟨g3, 0, none⟩)), (3, .pointer (some ⟨g2, 0, none⟩)), (2, .pointer (some ⟨g1, 0, none⟩))] [(g4, 35, tv RZ), (g3, 29, sv PZ), (g2, 23, ks n), (g1, 38, cv TD BR)] := H.pick [0, 1, 2, 3] [0, 1, 2, 3] rfl
  refine hK1 _ _ ?_
  clear hK1
  refine wp_seq_k (fun K2 hK2 => ?_)
  refine rg_plain ?_
  refine pl_does (does_load rfl rfl (k := 2) rfl Tryd.underlying23 rfl (info_ks _)) rfl rfl rfl rfl H ?_
  clear H a W
  intro a W H
  refine pl_does (does_call rfl ⟨_, Tryd.func10, by kernel_rfl⟩ rfl (fun W hb => of_no hn hp W (hpg.ext hb))) rfl rfl rfl rfl H ?_
  clear H a W
  intro a W H
  refine pl_does (does_move rfl rfl) rfl rfl rfl rfl H ?_
  clear H a W
  intro a W H
  refine pl_does (does_extract rfl rfl (fun _ => rfl)) rfl rfl rfl rfl H ?_
  clear H a W
  intro a W H
  refine pl_does (does_extract rfl rfl (fun _ => rfl)) rfl rfl rfl rfl H ?_
  clear H a W
  intro a W H
  refine pl_new (news_of rfl al_ptZ) rfl rfl rfl rfl H ?_
  clear H a W
  intro g5 a W H
  refine pl_store rfl rfl rfl (k := 0) rfl (info_pt _) (by simp only [sv_size, ev_size, ks_size, fx_size, dv_size, ds_size, tv_size, cv_size] <;> rfl) (sv_one _) rfl rfl H ?_
  clear H a W
  intro a W H
  refine pl_does (does_assign rfl rfl) rfl rfl rfl rfl H ?_
  clear H a W
  intro a W H
  refine pl_end ?_
  replace H : St 31 w a W [(7, .bool false), (6, .pointer (some ⟨g5, 0, none⟩)), (5, .pointer (some ⟨g4, 0, none⟩)), (4, .pointer (some ⟨g3, 0, none⟩)), (3, .pointer (some ⟨g2, 0, none⟩)), (2, .pointer (some ⟨g1, 0, none⟩))] [(g5, 29, sv PZ), (g4, 35, tv RZ), (g3, 29, sv PZ), (g2, 23, ks n), (g1, 38, cv TD BR)] := H.pick [0, 1, 7, 8, 9, 10] [0, 1, 2, 3, 4] rfl
  refine hK2 _ _ ?_
  clear hK2
  refine wp_seq_k (fun K3 hK3 => ?_)
  refine rg_plain ?_
  refine pl_does (does_load rfl rfl (k := 4) rfl Tryd.underlying38 rfl (info_cv _ _)) rfl rfl rfl rfl H ?_
  clear H a W
  intro a W H
  refine pl_does (does_load rfl rfl (k := 3) rfl Tryd.underlying23 rfl (info_ks _)) rfl rfl rfl rfl H ?_
  clear H a W
  intro a W H
  refine pl_does (does_call rfl ⟨_, Tryd.func12, by kernel_rfl⟩ rfl (fun W hb => rof_no hn hp W)) rfl rfl rfl rfl H ?_
  clear H a W
  intro a W H
  refine pl_does (does_move rfl rfl) rfl rfl rfl rfl H ?_
  clear H a W
  intro a W H
  refine pl_does (does_extract rfl rfl (fun _ => rfl)) rfl rfl rfl rfl H ?_
  clear H a W
  intro a W H
  refine pl_does (does_extract rfl rfl (fun _ => rfl)) rfl rfl rfl rfl H ?_
  clear H a W
  intro a W H
  refine pl_new (news_of rfl al_rpt) rfl rfl rfl rfl H ?_
  clear H a W
  intro g6 a W H
  refine pl_store rfl rfl rfl (k := 0) rfl (info_rpt _) (by simp only [sv_size, ev_size, ks_size, fx_size, dv_size, ds_size, tv_size, cv_size] <;> rfl) (tv_one _) rfl rfl H ?_
  clear H a W
  intro a W H
  refine pl_does (does_assign rfl rfl) rfl rfl rfl rfl H ?_
  clear H a W
  intro a W H
  refine pl_end ?_
  replace H : St 31 w a W [(8, .pointer (some ⟨g6, 0, none⟩)), (7, .bool false), (6, .pointer (some ⟨g5, 0, none⟩)), (5, .pointer (some ⟨g4, 0, none⟩)), (4, .pointer (some ⟨g3, 0, none⟩)), (3, .pointer (some ⟨g2, 0, none⟩)), (2, .pointer (some ⟨g1, 0, none⟩))] [(g6, 35, tv rpNil), (g5, 29, sv PZ), (g4, 35, tv RZ), (g3, 29, sv PZ), (g2, 23, ks n), (g1, 38, cv TD BR)] := H.pick [1, 8, 9, 10, 11, 12, 13] [0, 1, 2, 3, 4, 5] rfl
  refine hK3 _ _ ?_
  clear hK3
  refine wp_seq_k (fun K4 hK4 => ?_)
  refine wp_seq_k (fun K5 hK5 => ?_)
  refine rg_plain ?_
  refine pl_does (does_move rfl rfl) rfl rfl rfl rfl H ?_
  clear H a W
  intro a W H
  refine pl_end ?_
  replace H : St 31 w a W [(21, .bool false), (8, .pointer (some ⟨g6, 0, none⟩)), (6, .pointer (some ⟨g5, 0, none⟩)), (5, .pointer (some ⟨g4, 0, none⟩)), (4, .pointer (some ⟨g3, 0, none⟩)), (3, .pointer (some ⟨g2, 0, none⟩)), (2, .pointer (some ⟨g1, 0, none⟩))] [(g6, 35, tv rpNil), (g5, 29, sv PZ), (g4, 35, tv RZ), (g3, 29, sv PZ), (g2, 23, ks n), (g1, 38, cv TD BR)] := H.pick [0, 1, 3, 4, 5, 6, 7] [0, 1, 2, 3, 4, 5] rfl
  refine hK5 _ _ ?_
  clear hK5
  refine wp_cond_false (H.ev rfl) ?_
  refine wp_skip ?_
  refine hK4 _ _ ?_
  clear hK4
  refine wp_seq_k (fun K6 hK6 => ?_)
  refine drawnS [.val 24 (.agg (ks n)) [] [4], .val 25 (.agg (sv z1)) [0] [], .val 26 (.agg (cv TD BR)) [] [5], .val 27 (.pointer (some ⟨g1, 16, none⟩)) [] [], .val 28 (.agg (tv BR)) [3] [5], .val 29 (.agg (ks n)) [] [4], .val 30 (.agg (tv z2)) [2, 4, 5] [], .sto 3 g3 29 (sv PZ) (sv z1) [1], .sto 2 g4 35 (tv RZ) (tv z2) [6]] [0, 1, 0, 0, 8, 0, 54, 67, 255] (by kernel_rfl) (by kernel_rfl) (by kernel_rfl) H ⟨⟨does_load rfl rfl (k := 0) rfl Tryd.underlying23 rfl (info_ks _), wanted_none rfl⟩, ⟨does_call rfl ⟨_, Tryd.func29, by kernel_rfl⟩ rfl (fun W hb => base_pt hz1 W (hpg.ext hb)), wanted_none rfl⟩, ⟨does_load rfl rfl (k := 0) rfl Tryd.underlying38 rfl (info_cv _ _), wanted_none rfl⟩, ⟨does_fieldAddr rfl rfl (fun W => (fa_cv _ W).2), wanted_none rfl⟩, ⟨does_loadAt (v := .agg (tv BR)) rfl rfl (k := 0) rfl ld_cv1, wanted_none rfl⟩, ⟨does_load rfl rfl (k := 0) rfl Tryd.underlying23 rfl (info_ks _), wanted_none rfl⟩, ⟨does_call rfl ⟨_, Tryd.func28, by kernel_rfl⟩ rfl (fun W hb => rmul_pt hz2 W), wanted_none rfl⟩, ⟨rfl, rfl, sto_row rfl rfl rfl (info_pt _) (by simp only [sv_size, ev_size, ks_size, fx_size, dv_size, ds_size, tv_size, cv_size] <;> rfl) (sv_one _)⟩, ⟨rfl, rfl, sto_row rfl rfl rfl (info_rpt _) (by simp only [sv_size, ev_size, ks_size, fx_size, dv_size, ds_size, tv_size, cv_size] <;> rfl) (tv_one _)⟩, trivial⟩ ?_
  clear H a W
  intro G7 a W H
  replace H : St 31 w a W [(24, .agg (ks n)), (25, .agg (sv z1)), (26, .agg (cv TD BR)), (27, .pointer (some ⟨g1, 16, none⟩)), (28, .agg (tv BR)), (29, .agg (ks n)), (30, .agg (tv z2)), (21, .bool false), (8, .pointer (some ⟨g6, 0, none⟩)), (6, .pointer (some ⟨g5, 0, none⟩)), (5, .pointer (some ⟨g4, 0, none⟩)), (4, .pointer (some ⟨g3, 0, none⟩)), (3, .pointer (some ⟨g2, 0, none⟩)), (2, .pointer (some ⟨g1, 0, none⟩))] [(g6, 35, tv rpNil), (g5, 29, sv PZ), (g4, 35, tv z2), (g3, 29, sv z1), (g2, 23, ks n), (g1, 38, cv TD BR)] := H
  replace H : St 31 w a W [(5, .pointer (some ⟨g4, 0, none⟩)), (4, .pointer (some ⟨g3, 0, none⟩))] [(g4, 35, tv z2), (g3, 29, sv z1)] := H.pick [10, 11] [2, 3] rfl
  refine hK6 _ _ ?_
  clear hK6
  refine wp_ret ?_
  repeat (first | (with_reducible refine then_ret ?_) | (with_reducible refine blk_ret ?_))
  refine end_cells (p := 4) (q := 5) rfl rfl (k := 1) rfl Tryd.underlying29 rfl (info_pt _) rfl (k2 := 0) rfl Tryd.underlying35 rfl (info_rpt _) H (fun hb => ?_)
  refine ⟨?_, hb⟩
  rw [h1, h2]
  unfold ptEs ptRs
  rw [if_neg (by rw [hp]; decide), if_neg (by rw [hp]; decide), ← hz1, ← hz2]
theorem point6 {n : Nat} {p : L4 PP} {v : Pj3} (h1 : p = ptEs n) (h2 : v = ptRs n) (hn : n < 115792089237316195423570985008687907853269984665640564039457584007913129639936) (w : World) (hpg : PG w) : Calls Tryd.prog 19 #[.agg (cv TD BR), .agg (ks n)] w (fun rr w' => rr = .returned (.tuple #[.agg (sv p), .agg (tv v)]) ∧ Below w.heap.size w w') := by
  cases hp : isPt n with
  | true => exact point6_yes h1 h2 hn hp w hpg
  | false => exact point6_no h1 h2 hn hp w hpg
end Go.Proofs.YtcijaoihcckofaaDoor
namespace Go.Proofs.YtcijaoihcckofaaDoor
set_option linter.unusedVariables false
set_option linter.unusedSimpArgs false
set_option maxRecDepth 100000
open Go Go.RowKit
attribute [local irreducible] ev sv ks fx dv tv cv ds ptSet ptAdd ptMul ptNeg rpAdd rpMul rpNeg rootC EE II TD BX BY BP Pt.add Pt.neg Pt.mul Pt.nil pbn pt ptEs ptRs LL PZ
set_option maxHeartbeats 8000000 in
theorem law_reads_yes {n : Nat} (hn : n < 115792089237316195423570985008687907853269984665640564039457584007913129639936) (hp : isPt n = true) (w : World) (hpg : PG w) : Calls Tryd.prog 3 #[.agg (ks n)] w (fun rr w' => rr = .returned (.bool true) ∧ Below w.heap.size w w') := by
  obtain ⟨z1, hz1⟩ : ∃ z : L4 PP, z = ptE (ptX n) (ofK n) := ⟨_, rfl⟩
  have rz1 : RepS (ptOf n hp) z1 := by rw [hz1]; exact RepS.of (ptOf n hp)
  obtain ⟨z2, hz2⟩ : ∃ z : Pj3, z = (⟨ptX n, ofK n, 1⟩ : Pj3) := ⟨_, rfl⟩
  have rz2 : RepR (ptOf n hp) z2 := by rw [hz2]; exact RepR.of (ptOf n hp)
  obtain ⟨z3, hz3⟩ : ∃ z : Nat, z = pbn (ptOf n hp) := ⟨_, rfl⟩
  have lz3 : z3 < 115792089237316195423570985008687907853269984665640564039457584007913129639936 := by rw [hz3]; exact pbn_lt _
  obtain ⟨z4, hz4⟩ : ∃ z : Nat, z = (ptOf n hp).x.val := ⟨_, rfl⟩
  obtain ⟨z5, hz5⟩ : ∃ z : Nat, z = ((ptOf n hp).x).val := ⟨_, rfl⟩
  obtain ⟨z6, hz6⟩ : ∃ z : Nat, z = (ptOf n hp).y.val := ⟨_, rfl⟩
  obtain ⟨z7, hz7⟩ : ∃ z : Nat, z = ((ptOf n hp).y).val := ⟨_, rfl⟩
  refine calls_st (vs := [.agg (ks n)]) 59 Tryd.func3 rfl Tryd.ntmps3 rfl (fun a W H => ?_)
  replace H : St 59 w a W [(0, .agg (ks n))] [] := H
  refine wp_seq_k (fun K1 hK1 => ?_)
  refine rg_plain ?_
  refine pl_box rfl rfl (bx_keyr n) rfl rfl rfl rfl H ?_
  clear H a W
  intro g1 a W H
  refine pl_does (does_assign rfl rfl) rfl rfl rfl rfl H ?_
  clear H a W
  intro a W H
  refine pl_end ?_
  replace H : St 59 w a W [(2, .bool false), (1, .pointer (some ⟨g1, 0, none⟩))] [(g1, 23, ks n)] := H.pick [0, 1] [0] rfl
  refine hK1 _ _ ?_
  clear hK1
  refine wp_seq_k (fun K2 hK2 => ?_)
  refine rg_plain ?_
  refine pl_does (does_load rfl rfl (k := 0) rfl Tryd.underlying23 rfl (info_ks _)) rfl rfl rfl rfl H ?_
  clear H a W
  intro a W H
  refine pl_does (does_call rfl ⟨_, Tryd.func10, by kernel_rfl⟩ rfl (fun W hb => of_yes_nm hn hp hz1 W (hpg.ext hb))) rfl rfl rfl rfl H ?_
  clear H a W
  intro a W H
  refine pl_does (does_move rfl rfl) rfl rfl rfl rfl H ?_
  clear H a W
  intro a W H
  refine pl_does (does_extract rfl rfl (fun _ => rfl)) rfl rfl rfl rfl H ?_
  clear H a W
  intro a W H
  refine pl_does (does_extract rfl rfl (fun _ => rfl)) rfl rfl rfl rfl H ?_
  clear H a W
  intro a W H
  refine pl_new (news_of rfl al_ptZ) rfl rfl rfl rfl H ?_
  clear H a W
  intro g2 a W H
  refine pl_store rfl rfl rfl (k := 0) rfl (info_pt _) (by simp only [sv_size, ev_size, ks_size, fx_size, dv_size, ds_size, tv_size, cv_size] <;> rfl) (sv_one _) rfl rfl H ?_
  clear H a W
  intro a W H
  refine pl_does (does_assign rfl rfl) rfl rfl rfl rfl H ?_
  clear H a W
  intro a W H
  refine pl_end ?_
  replace H : St 59 w a W [(4, .bool true), (3, .pointer (some ⟨g2, 0, none⟩)), (2, .bool false), (1, .pointer (some ⟨g1, 0, none⟩))] [(g2, 29, sv z1), (g1, 23, ks n)] := H.pick [0, 1, 7, 8] [0, 1] rfl
  refine hK2 _ _ ?_
  clear hK2
  refine wp_seq_k (fun K3 hK3 => ?_)
  refine drawnS [.val 15 (.agg (cv TD BR)) [] [], .val 16 (.agg (ks n)) [] [1], .val 17 (.tuple #[.agg (tv z2), .bool true]) [0, 1] [], .val 14 (.tuple #[.agg (tv z2), .bool true]) [2] [], .val 18 (.agg (tv z2)) [3] [], .val 19 (.bool true) [3] [], .new 5 35 (tv RZ), .ston 6 5 35 (tv RZ) (tv z2) [4], .val 6 (.bool true) [5] []] [0, 0, 3, 4, 8, 8, 0, 95, 255] (by kernel_rfl) (by kernel_rfl) (by kernel_rfl) H ⟨⟨does_call rfl ⟨_, Tryd.func11, by kernel_rfl⟩ rfl (fun W hb => rbegin W), wanted_none rfl⟩, ⟨does_load rfl rfl (k := 0) rfl Tryd.underlying23 rfl (info_ks _), wanted_none rfl⟩, ⟨does_call rfl ⟨_, Tryd.func12, by kernel_rfl⟩ rfl (fun W hb => rof_yes_nm hn hp hz2 W), wanted_none rfl⟩, ⟨does_move rfl rfl, wanted_none rfl⟩, ⟨does_extract rfl rfl (fun _ => rfl), wanted_none rfl⟩, ⟨does_extract rfl rfl (fun _ => rfl), wanted_none rfl⟩, ⟨news_of rfl al_rpt, rfl⟩, ⟨rfl, rfl, fun g => sto_row rfl rfl rfl (info_rpt _) (by simp only [sv_size, ev_size, ks_size, fx_size, dv_size, ds_size, tv_size, cv_size] <;> rfl) (tv_one _)⟩, ⟨does_assign rfl rfl, wanted_none rfl⟩, trivial⟩ ?_
  clear H a W
  intro G3 a W H
  replace H : St 59 w a W [(15, .agg (cv TD BR)), (16, .agg (ks n)), (17, .tuple #[.agg (tv z2), .bool true]), (14, .tuple #[.agg (tv z2), .bool true]), (18, .agg (tv z2)), (19, .bool true), (5, .pointer (some ⟨(G3 6), 0, none⟩)), (6, .bool true), (4, .bool true), (3, .pointer (some ⟨g2, 0, none⟩)), (2, .bool false), (1, .pointer (some ⟨g1, 0, none⟩))] [((G3 6), 35, tv z2), (g2, 29, sv z1), (g1, 23, ks n)] := H
  replace H : St 59 w a W [(5, .pointer (some ⟨(G3 6), 0, none⟩)), (6, .bool true), (4, .bool true), (3, .pointer (some ⟨g2, 0, none⟩)), (2, .bool false), (1, .pointer (some ⟨g1, 0, none⟩))] [((G3 6), 35, tv z2), (g2, 29, sv z1), (g1, 23, ks n)] := H.pick [6, 7, 8, 9, 10, 11] [0, 1, 2] rfl
  refine hK3 _ _ ?_
  clear hK3
  refine wp_seq_k (fun K4 hK4 => ?_)
  refine wp_seq_k (fun K5 hK5 => ?_)
  refine rg_plain ?_
  refine pl_does (does_move rfl rfl) rfl rfl rfl rfl H ?_
  clear H a W
  intro a W H
  refine pl_does (does_move rfl rfl) rfl rfl rfl rfl H ?_
  clear H a W
  intro a W H
  refine pl_does (does_binOp rfl rfl rfl (neq_bool _ _ _)) rfl rfl rfl rfl H ?_
  clear H a W
  intro a W H
  refine pl_end ?_
  replace H : St 59 w a W [(22, .bool false), (5, .pointer (some ⟨(G3 6), 0, none⟩)), (4, .bool true), (3, .pointer (some ⟨g2, 0, none⟩)), (2, .bool false), (1, .pointer (some ⟨g1, 0, none⟩))] [((G3 6), 35, tv z2), (g2, 29, sv z1), (g1, 23, ks n)] := H.pick [0, 3, 5, 6, 7, 8] [0, 1, 2] rfl
  refine hK5 _ _ ?_
  clear hK5
  refine wp_cond_false (H.ev rfl) ?_
  refine wp_skip ?_
  refine hK4 _ _ ?_
  clear hK4
  refine wp_seq_k (fun K6 hK6 => ?_)
  refine wp_seq_k (fun K7 hK7 => ?_)
  refine rg_plain ?_
  refine pl_does (does_move rfl rfl) rfl rfl rfl rfl H ?_
  clear H a W
  intro a W H
  refine pl_does (does_unOp rfl rfl (fun _ => rfl)) rfl rfl rfl rfl H ?_
  clear H a W
  intro a W H
  refine pl_end ?_
  replace H : St 59 w a W [(24, .bool false), (5, .pointer (some ⟨(G3 6), 0, none⟩)), (3, .pointer (some ⟨g2, 0, none⟩)), (2, .bool false), (1, .pointer (some ⟨g1, 0, none⟩))] [((G3 6), 35, tv z2), (g2, 29, sv z1), (g1, 23, ks n)] := H.pick [0, 3, 5, 6, 7] [0, 1, 2] rfl
  refine hK7 _ _ ?_
  clear hK7
  refine wp_cond_false (H.ev rfl) ?_
  refine wp_skip ?_
  refine hK6 _ _ ?_
  clear hK6
  refine wp_seq_k (fun K8 hK8 => ?_)
  refine rg_plain ?_
  refine pl_does (does_load rfl rfl (k := 0) rfl Tryd.underlying35 rfl (info_rpt _)) rfl rfl rfl rfl H ?_
  clear H a W
  intro a W H
  refine pl_does (does_call rfl ⟨_, Tryd.func15, by kernel_rfl⟩ rfl (fun W hb => rflat rz2 W)) rfl rfl rfl rfl H ?_
  clear H a W
  intro a W H
  refine pl_does (does_move rfl rfl) rfl rfl rfl rfl H ?_
  clear H a W
  intro a W H
  refine pl_does (does_extract rfl rfl (fun _ => rfl)) rfl rfl rfl rfl H ?_
  clear H a W
  intro a W H
  refine pl_does (does_extract rfl rfl (fun _ => rfl)) rfl rfl rfl rfl H ?_
  clear H a W
  intro a W H
  refine pl_new (news_of rfl al_num) rfl rfl rfl rfl H ?_
  clear H a W
  intro g4 a W H
  refine pl_new (news_of rfl al_num) rfl rfl rfl rfl H ?_
  clear H a W
  intro g5 a W H
  refine pl_store rfl rfl rfl (k := 1) rfl (info_dv _) (by simp only [sv_size, ev_size, ks_size, fx_size, dv_size, ds_size, tv_size, cv_size] <;> rfl) (dv_one _) rfl rfl H ?_
  clear H a W
  intro a W H
  refine pl_store rfl rfl rfl (k := 0) rfl (info_dv _) (by simp only [sv_size, ev_size, ks_size, fx_size, dv_size, ds_size, tv_size, cv_size] <;> rfl) (dv_one _) rfl rfl H ?_
  clear H a W
  intro a W H
  refine pl_end ?_
  replace H : St 59 w a W [(8, .pointer (some ⟨g5, 0, none⟩)), (7, .pointer (some ⟨g4, 0, none⟩)), (3, .pointer (some ⟨g2, 0, none⟩)), (2, .bool false), (1, .pointer (some ⟨g1, 0, none⟩))] [(g5, 33, dv (ptOf n hp).y), (g4, 33, dv (ptOf n hp).x), (g2, 29, sv z1), (g1, 23, ks n)] := H.pick [0, 1, 9, 10, 11] [0, 1, 3, 4] rfl
  refine hK8 _ _ ?_
  clear hK8
  refine wp_seq_k (fun K9 hK9 => ?_)
  replace H : St 59 w a W [(8, .pointer (some ⟨g5, 0, none⟩)), (7, .pointer (some ⟨g4, 0, none⟩)), (3, .pointer (some ⟨g2, 0, none⟩)), (1, .pointer (some ⟨g1, 0, none⟩))] [(g5, 33, dv (ptOf n hp).y), (g4, 33, dv (ptOf n hp).x), (g2, 29, sv z1), (g1, 23, ks n)] := H.pick [0, 1, 2, 4] [0, 1, 2, 3] rfl
  refine drawnS [.val 38 (.agg (sv z1)) [] [2], .val 39 (.agg (ks z3)) [0] [], .val 40 (.agg (ks n)) [] [3], .val 41 (.bool true) [1, 2] [], .val 42 (.bool true) [3] [], .val 43 (.agg (sv z1)) [4] [2], .val 44 (.agg (ks z4)) [5, 4] [], .val 45 (.agg (dv (ptOf n hp).x)) [4] [1], .val 46 (.agg (ks z5)) [7, 4] [], .val 47 (.bool true) [6, 8, 4] [], .val 48 (.bool true) [4, 9] [], .val 49 (.bool true) [10] [], .val 50 (.agg (sv z1)) [11] [2], .val 51 (.agg (ks z6)) [12, 11] [], .val 52 (.agg (dv (ptOf n hp).y)) [11] [0], .val 53 (.agg (ks z7)) [14, 11] [], .val 54 (.bool true) [13, 15, 11] [], .val 55 (.bool true) [11, 16] [], .val 56 (.bool true) [17] [], .val 57 (.bool true) [18] [], .val 58 (.bool true) [18, 19] [], .val 2 (.bool true) [20] []] [0, 1, 0, 6, 10, 16, 48, 16, 208, 336, 528, 1280, 2048, 6144, 2048, 26624, 43008, 67584, 163840, 262144, 786432, 2097151] (by kernel_rfl) (by kernel_rfl) (by kernel_rfl) H ⟨⟨does_load rfl rfl (k := 0) rfl Tryd.underlying29 rfl (info_pt _), wanted_none rfl⟩, ⟨does_call rfl ⟨_, Tryd.func13, by kernel_rfl⟩ rfl (fun W hb => bytes_pt rz1 hz3 W (hpg.ext hb)), wanted_none rfl⟩, ⟨does_load rfl rfl (k := 0) rfl Tryd.underlying23 rfl (info_ks _), wanted_none rfl⟩, ⟨does_binOp rfl rfl rfl (eq_key_same (hz3.trans (pbn_ptOf hp hn)) _ _), wanted_none rfl⟩, ⟨does_move rfl rfl, wanted_none rfl⟩, ⟨does_load rfl rfl (k := 0) rfl Tryd.underlying29 rfl (info_pt _), wanted_some rfl rfl rfl rfl rfl⟩, ⟨does_call rfl ⟨_, Tryd.func16, by kernel_rfl⟩ rfl (fun W hb => ptX_nm rz1 hz4 W (hpg.ext hb)), wanted_some rfl rfl rfl rfl rfl⟩, ⟨does_load rfl rfl (k := 0) rfl Tryd.underlying33 rfl (info_dv _), wanted_some rfl rfl rfl rfl rfl⟩, ⟨does_call rfl ⟨_, Tryd.func17, by kernel_rfl⟩ rfl (fun W hb => bytesD_nm hz5 W), wanted_some rfl rfl rfl rfl rfl⟩, ⟨does_binOp rfl rfl rfl (eq_key_same (hz4.trans hz5.symm) _ _), wanted_some rfl rfl rfl rfl rfl⟩, ⟨does_pick rfl rfl (fun _ => rfl) (fun hb => by cases hb), wanted_none rfl⟩, ⟨does_move rfl rfl, wanted_none rfl⟩, ⟨does_load rfl rfl (k := 0) rfl Tryd.underlying29 rfl (info_pt _), wanted_some rfl rfl rfl rfl rfl⟩, ⟨does_call rfl ⟨_, Tryd.func18, by kernel_rfl⟩ rfl (fun W hb => ptY_nm rz1 hz6 W (hpg.ext hb)), wanted_some rfl rfl rfl rfl rfl⟩, ⟨does_load rfl rfl (k := 0) rfl Tryd.underlying33 rfl (info_dv _), wanted_some rfl rfl rfl rfl rfl⟩, ⟨does_call rfl ⟨_, Tryd.func17, by kernel_rfl⟩ rfl (fun W hb => bytesD_nm hz7 W), wanted_some rfl rfl rfl rfl rfl⟩, ⟨does_binOp rfl rfl rfl (eq_key_same (hz6.trans hz7.symm) _ _), wanted_some rfl rfl rfl rfl rfl⟩, ⟨does_pick rfl rfl (fun _ => rfl) (fun hb => by cases hb), wanted_none rfl⟩, ⟨does_move rfl rfl, wanted_none rfl⟩, ⟨does_call rfl ⟨_, Tryd.func14, by kernel_rfl⟩ rfl (fun W hb => known6 W (hpg.ext hb)), wanted_some rfl rfl rfl rfl rfl⟩, ⟨does_pick rfl rfl (fun _ => rfl) (fun hb => by cases hb), wanted_none rfl⟩, ⟨does_assign rfl rfl, wanted_none rfl⟩, trivial⟩ ?_
  clear H a W
  intro G6 a W H
  replace H : St 59 w a W [(38, .agg (sv z1)), (39, .agg (ks z3)), (40, .agg (ks n)), (41, .bool true), (42, .bool true), (43, .agg (sv z1)), (44, .agg (ks z4)), (45, .agg (dv (ptOf n hp).x)), (46, .agg (ks z5)), (47, .bool true), (48, .bool true), (49, .bool true), (50, .agg (sv z1)), (51, .agg (ks z6)), (52, .agg (dv (ptOf n hp).y)), (53, .agg (ks z7)), (54, .bool true), (55, .bool true), (56, .bool true), (57, .bool true), (58, .bool true), (2, .bool true), (8, .pointer (some ⟨g5, 0, none⟩)), (7, .pointer (some ⟨g4, 0, none⟩)), (3, .pointer (some ⟨g2, 0, none⟩)), (1, .pointer (some ⟨g1, 0, none⟩))] [(g5, 33, dv (ptOf n hp).y), (g4, 33, dv (ptOf n hp).x), (g2, 29, sv z1), (g1, 23, ks n)] := H
  replace H : St 59 w a W [(2, .bool true)] [] := H.pick [21] [] rfl
  refine hK9 _ _ ?_
  clear hK9
  refine wp_ret ?_
  repeat (first | (with_reducible refine then_ret ?_) | (with_reducible refine blk_ret ?_))
  refine end_tmp (p := 2) rfl rfl H (fun hb => ?_)
  exact ⟨rfl, hb⟩
set_option maxHeartbeats 8000000 in
theorem law_reads_no {n : Nat} (hn : n < 115792089237316195423570985008687907853269984665640564039457584007913129639936) (hp : isPt n = false) (w : World) (hpg : PG w) : Calls Tryd.prog 3 #[.agg (ks n)] w (fun rr w' => rr = .returned (.bool true) ∧ Below w.heap.size w w') := by
  obtain ⟨z1, hz1⟩ : ∃ z : Nat, z = pbn Pt.nil := ⟨_, rfl⟩
  have lz1 : z1 < 115792089237316195423570985008687907853269984665640564039457584007913129639936 := by rw [hz1]; exact pbn_lt _
  refine calls_st (vs := [.agg (ks n)]) 59 Tryd.func3 rfl Tryd.ntmps3 rfl (fun a W H => ?_)
  replace H : St 59 w a W [(0, .agg (ks n))] [] := H
  refine wp_seq_k (fun K1 hK1 => ?_)
  refine rg_plain ?_
  refine pl_box rfl rfl (bx_keyr n) rfl rfl rfl rfl H ?_
  clear H a W
  intro g1 a W H
  refine pl_does (does_assign rfl rfl) rfl rfl rfl rfl H ?_
  clear H a W
  intro a W H
  refine pl_end ?_
  replace H : St 59 w a W [(2, .bool false), (1, .pointer (some ⟨g1, 0, none⟩))] [(g1, 23, ks n)] := H.pick [0, 1] [0] rfl
  refine hK1 _ _ ?_
  clear hK1
  refine wp_seq_k (fun K2 hK2 => ?_)
  refine rg_plain ?_
  refine pl_does (does_load rfl rfl (k := 0) rfl Tryd.underlying23 rfl (info_ks _)) rfl rfl rfl rfl H ?_
  clear H a W
  intro a W H
  refine pl_does (does_call rfl ⟨_, Tryd.func10, by kernel_rfl⟩ rfl (fun W hb => of_no hn hp W (hpg.ext hb))) rfl rfl rfl rfl H ?_
  clear H a W
  intro a W H
  refine pl_does (does_move rfl rfl) rfl rfl rfl rfl H ?_
  clear H a W
  intro a W H
  refine pl_does (does_extract rfl rfl (fun _ => rfl)) rfl rfl rfl rfl H ?_
  clear H a W
  intro a W H
  refine pl_does (does_extract rfl rfl (fun _ => rfl)) rfl rfl rfl rfl H ?_
  clear H a W
  intro a W H
  refine pl_new (news_of rfl al_ptZ) rfl rfl rfl rfl H ?_
  clear H a W
  intro g2 a W H
  refine pl_store rfl rfl rfl (k := 0) rfl (info_pt _) (by simp only [sv_size, ev_size, ks_size, fx_size, dv_size, ds_size, tv_size, cv_size] <;> rfl) (sv_one _) rfl rfl H ?_
  clear H a W
  intro a W H
  refine pl_does (does_assign rfl rfl) rfl rfl rfl rfl H ?_
  clear H a W
  intro a W H
  refine pl_end ?_
  replace H : St 59 w a W [(4, .bool false), (3, .pointer (some ⟨g2, 0, none⟩)), (2, .bool false), (1, .pointer (some ⟨g1, 0, none⟩))] [(g2, 29, sv PZ), (g1, 23, ks n)] := H.pick [0, 1, 7, 8] [0, 1] rfl
  refine hK2 _ _ ?_
  clear hK2
  refine wp_seq_k (fun K3 hK3 => ?_)
  refine drawnS [.val 15 (.agg (cv TD BR)) [] [], .val 16 (.agg (ks n)) [] [1], .val 17 (.tuple #[.agg (tv rpNil), .bool false]) [0, 1] [], .val 14 (.tuple #[.agg (tv rpNil), .bool false]) [2] [], .val 18 (.agg (tv rpNil)) [3] [], .val 19 (.bool false) [3] [], .new 5 35 (tv RZ), .ston 6 5 35 (tv RZ) (tv rpNil) [4], .val 6 (.bool false) [5] []] [0, 0, 3, 4, 8, 8, 0, 95, 255] (by kernel_rfl) (by kernel_rfl) (by kernel_rfl) H ⟨⟨does_call rfl ⟨_, Tryd.func11, by kernel_rfl⟩ rfl (fun W hb => rbegin W), wanted_none rfl⟩, ⟨does_load rfl rfl (k := 0) rfl Tryd.underlying23 rfl (info_ks _), wanted_none rfl⟩, ⟨does_call rfl ⟨_, Tryd.func12, by kernel_rfl⟩ rfl (fun W hb => rof_no hn hp W), wanted_none rfl⟩, ⟨does_move rfl rfl, wanted_none rfl⟩, ⟨does_extract rfl rfl (fun _ => rfl), wanted_none rfl⟩, ⟨does_extract rfl rfl (fun _ => rfl), wanted_none rfl⟩, ⟨news_of rfl al_rpt, rfl⟩, ⟨rfl, rfl, fun g => sto_row rfl rfl rfl (info_rpt _) (by simp only [sv_size, ev_size, ks_size, fx_size, dv_size, ds_size, tv_size, cv_size] <;> rfl) (tv_one _)⟩, ⟨does_assign rfl rfl, wanted_none rfl⟩, trivial⟩ ?_
  clear H a W
  intro G3 a W H
  replace H : St 59 w a W [(15, .agg (cv TD BR)), (16, .agg (ks n)), (17, .tuple #[.agg (tv rpNil), .bool false]), (14, .tuple #[.agg (tv rpNil), .bool false]), (18, .agg (tv rpNil)), (19, .bool false), (5, .pointer (some ⟨(G3 6), 0, none⟩)), (6, .bool false), (4, .bool false), (3, .pointer (some ⟨g2, 0, none⟩)), (2, .bool false), (1, .pointer (some ⟨g1, 0, none⟩))] [((G3 6), 35, tv rpNil), (g2, 29, sv PZ), (g1, 23, ks n)] := H
  replace H : St 59 w a W [(5, .pointer (some ⟨(G3 6), 0, none⟩)), (6, .bool false), (4, .bool false), (3, .pointer (some ⟨g2, 0, none⟩)), (2, .bool false), (1, .pointer (some ⟨g1, 0, none⟩))] [((G3 6), 35, tv rpNil), (g2, 29, sv PZ), (g1, 23, ks n)] := H.pick [6, 7, 8, 9, 10, 11] [0, 1, 2] rfl
  refine hK3 _ _ ?_
  clear hK3
  refine wp_seq_k (fun K4 hK4 => ?_)
  refine wp_seq_k (fun K5 hK5 => ?_)
  refine rg_plain ?_
  refine pl_does (does_move rfl rfl) rfl rfl rfl rfl H ?_
  clear H a W
  intro a W H
  refine pl_does (does_move rfl rfl) rfl rfl rfl rfl H ?_
  clear H a W
  intro a W H
  refine pl_does (does_binOp rfl rfl rfl (neq_bool _ _ _)) rfl rfl rfl rfl H ?_
  clear H a W
  intro a W H
  refine pl_end ?_
  replace H : St 59 w a W [(22, .bool false), (5, .pointer (some ⟨(G3 6), 0, none⟩)), (4, .bool false), (3, .pointer (some ⟨g2, 0, none⟩)), (2, .bool false), (1, .pointer (some ⟨g1, 0, none⟩))] [((G3 6), 35, tv rpNil), (g2, 29, sv PZ), (g1, 23, ks n)] := H.pick [0, 3, 5, 6, 7, 8] [0, 1, 2] rfl
  refine hK5 _ _ ?_
  clear hK5
  refine wp_cond_false (H.ev rfl) ?_
  refine wp_skip ?_
  refine hK4 _ _ ?_
  clear hK4
  refine wp_seq_k (fun K6 hK6 => ?_)
  refine wp_seq_k (fun K7 hK7 => ?_)
  refine rg_plain ?_
  refine pl_does (does_move rfl rfl) rfl rfl rfl rfl H ?_
  clear H a W
  intro a W H
  refine pl_does (does_unOp rfl rfl (fun _ => rfl)) rfl rfl rfl rfl H ?_
  clear H a W
  intro a W H
  refine pl_end ?_
  replace H : St 59 w a W [(24, .bool true), (5, .pointer (some ⟨(G3 6), 0, none⟩)), (3, .pointer (some ⟨g2, 0, none⟩)), (2, .bool false), (1, .pointer (some ⟨g1, 0, none⟩))] [((G3 6), 35, tv rpNil), (g2, 29, sv PZ), (g1, 23, ks n)] := H.pick [0, 3, 5, 6, 7] [0, 1, 2] rfl
  refine hK7 _ _ ?_
  clear hK7
  refine wp_cond_true (H.ev rfl) ?_
  refine wp_seq_k (fun K8 hK8 => ?_)
  refine rg_plain ?_
  refine pl_does (does_load rfl rfl (k := 1) rfl Tryd.underlying29 rfl (info_pt _)) rfl rfl rfl rfl H ?_
  clear H a W
  intro a W H
  refine pl_does (does_call rfl ⟨_, Tryd.func13, by kernel_rfl⟩ rfl (fun W hb => bytes_pt PZ_rep hz1 W (hpg.ext hb))) rfl rfl rfl rfl H ?_
  clear H a W
  intro a W H
  refine pl_does (does_build (ps := []) rfl rfl bd_pt0) rfl rfl rfl rfl H ?_
  clear H a W
  intro a W H
  refine pl_does (does_call rfl ⟨_, Tryd.func13, by kernel_rfl⟩ rfl (fun W hb => bytes_pt PZ_rep hz1 W (hpg.ext hb))) rfl rfl rfl rfl H ?_
  clear H a W
  intro a W H
  refine pl_does (does_binOp rfl rfl rfl (eq_key_same rfl _ _)) rfl rfl rfl rfl H ?_
  clear H a W
  intro a W H
  refine pl_does (does_move rfl rfl) rfl rfl rfl rfl H ?_
  clear H a W
  intro a W H
  refine pl_does_g (does_call rfl ⟨_, Tryd.func14, by kernel_rfl⟩ rfl (fun W hb => known6 W (hpg.ext hb))) (wanted_some rfl rfl rfl rfl rfl) rfl rfl rfl H ?_
  clear H a W
  intro a W H
  refine pl_does (does_pick rfl rfl (fun _ => rfl) (fun hb => by cases hb)) rfl rfl rfl rfl H ?_
  clear H a W
  intro a W H
  replace H : St 59 w a W [(32, .bool true), (31, .bool true), (30, .bool true), (29, .bool true), (28, .agg (ks z1)), (27, .agg (sv PZ)), (26, .agg (ks z1)), (25, .agg (sv PZ)), (24, .bool true), (5, .pointer (some ⟨(G3 6), 0, none⟩)), (3, .pointer (some ⟨g2, 0, none⟩)), (1, .pointer (some ⟨g1, 0, none⟩))] [((G3 6), 35, tv rpNil), (g2, 29, sv PZ), (g1, 23, ks n)] := H.pick [0, 1, 2, 3, 4, 5, 6, 7, 8, 9, 10, 12] [0, 1, 2] rfl
  refine pl_does (does_assign rfl rfl) rfl rfl rfl rfl H ?_
  clear H a W
  intro a W H
  refine pl_end ?_
  replace H : St 59 w a W [(2, .bool true), (5, .pointer (some ⟨(G3 6), 0, none⟩)), (3, .pointer (some ⟨g2, 0, none⟩)), (1, .pointer (some ⟨g1, 0, none⟩))] [((G3 6), 35, tv rpNil), (g2, 29, sv PZ), (g1, 23, ks n)] := H.pick [0, 10, 11, 12] [0, 1, 2] rfl
  refine hK8 _ _ ?_
  clear hK8
  refine wp_ret ?_
  repeat (first | (with_reducible refine then_ret ?_) | (with_reducible refine blk_ret ?_))
  refine end_tmp (p := 2) rfl rfl H (fun hb => ?_)
  exact ⟨rfl, hb⟩
theorem law_reads (n : Nat) (w : World) (hpg : PG w) (hn : n < 115792089237316195423570985008687907853269984665640564039457584007913129639936) : Calls Tryd.prog 3 #[.agg (ks n)] w (BPost true w) := by
  cases hp : isPt n with
  | true => exact law_reads_yes hn hp w hpg
  | false => exact law_reads_no hn hp w hpg
end Go.Proofs.YtcijaoihcckofaaDoor
namespace Go.Proofs.YtcijaoihcckofaaDoor
set_option linter.unusedVariables false
set_option linter.unusedSimpArgs false
set_option maxRecDepth 100000
open Go Go.RowKit
attribute [local irreducible] ev sv ks fx dv tv cv ds ptSet ptAdd ptMul ptNeg rpAdd rpMul rpNeg rootC EE II TD BX BY BP Pt.add Pt.neg Pt.mul Pt.nil pbn pt ptEs ptRs LL PZ
set_option maxHeartbeats 8000000 in
theorem law_adds0 {n m : Nat} (hn : n < 115792089237316195423570985008687907853269984665640564039457584007913129639936) (hm : m < 115792089237316195423570985008687907853269984665640564039457584007913129639936) (w : World) (hpg : PG w) : Calls Tryd.prog 4 #[.agg (ks n), .agg (ks m)] w (fun rr w' => rr = .returned (.bool true) ∧ Below w.heap.size w w') := by
  obtain ⟨bb, hbb⟩ : ∃ bb, decide (pt n = pt m) = bb := ⟨_, rfl⟩
  obtain ⟨z1, hz1⟩ : ∃ z : L4 PP, z = ptEs n := ⟨_, rfl⟩
  obtain ⟨z2, hz2⟩ : ∃ z : Pj3, z = ptRs n := ⟨_, rfl⟩
  have rz1 : RepS (pt n) z1 := by rw [hz1]; exact ptEs_rep hn
  have rz2 : RepR (pt n) z2 := by rw [hz2]; exact ptRs_rep hn
  obtain ⟨z3, hz3⟩ : ∃ z : L4 PP, z = ptEs m := ⟨_, rfl⟩
  obtain ⟨z4, hz4⟩ : ∃ z : Pj3, z = ptRs m := ⟨_, rfl⟩
  have rz3 : RepS (pt m) z3 := by rw [hz3]; exact ptEs_rep hm
  have rz4 : RepR (pt m) z4 := by rw [hz4]; exact ptRs_rep hm
  obtain ⟨z5, hz5⟩ : ∃ z : L4 PP, z = ptAdd z1 z3 := ⟨_, rfl⟩
  have rz5 : RepS (Pt.add (pt n) (pt m)) z5 := by rw [hz5]; exact RepS.add rz1 rz3
  obtain ⟨z6, hz6⟩ : ∃ z : Nat, z = pbn (Pt.add (pt n) (pt m)) := ⟨_, rfl⟩
  have lz6 : z6 < 115792089237316195423570985008687907853269984665640564039457584007913129639936 := by rw [hz6]; exact pbn_lt _
  obtain ⟨z7, hz7⟩ : ∃ z : Pj3, z = rpAdd z2 z4 := ⟨_, rfl⟩
  have rz7 : RepR (Pt.add (pt n) (pt m)) z7 := by rw [hz7]; exact RepR.add rz2 rz4
  obtain ⟨z8, hz8⟩ : ∃ z : L4 PP, z = ptNeg z1 := ⟨_, rfl⟩
  have rz8 : RepS (Pt.neg (pt n)) z8 := by rw [hz8]; exact RepS.neg rz1
  obtain ⟨z9, hz9⟩ : ∃ z : Nat, z = pbn (Pt.neg (pt n)) := ⟨_, rfl⟩
  have lz9 : z9 < 115792089237316195423570985008687907853269984665640564039457584007913129639936 := by rw [hz9]; exact pbn_lt _
  obtain ⟨z10, hz10⟩ : ∃ z : Pj3, z = rpNeg z2 := ⟨_, rfl⟩
  have rz10 : RepR (Pt.neg (pt n)) z10 := by rw [hz10]; exact RepR.neg rz2
  obtain ⟨z11, hz11⟩ : ∃ z : L4 PP, z = ptAdd z1 z8 := ⟨_, rfl⟩
  have rz11 : RepS (Pt.add (pt n) (Pt.neg (pt n))) z11 := by rw [hz11]; exact RepS.add rz1 rz8
  obtain ⟨z12, hz12⟩ : ∃ z : L4 PP, z = ptAdd z1 PZ := ⟨_, rfl⟩
  have rz12 : RepS (Pt.add (pt n) Pt.nil) z12 := by rw [hz12]; exact RepS.add rz1 PZ_rep
  obtain ⟨z13, hz13⟩ : ∃ z : Nat, z = pbn (Pt.add (pt n) Pt.nil) := ⟨_, rfl⟩
  have lz13 : z13 < 115792089237316195423570985008687907853269984665640564039457584007913129639936 := by rw [hz13]; exact pbn_lt _
  obtain ⟨z14, hz14⟩ : ∃ z : Nat, z = pbn (pt n) := ⟨_, rfl⟩
  have lz14 : z14 < 115792089237316195423570985008687907853269984665640564039457584007913129639936 := by rw [hz14]; exact pbn_lt _
  refine calls_st (vs := [.agg (ks n), .agg (ks m)]) 72 Tryd.func4 rfl Tryd.ntmps4 rfl (fun a W H => ?_)
  replace H : St 72 w a W [(0, .agg (ks n)), (1, .agg (ks m))] [] := H
  refine wp_seq_k (fun K1 hK1 => ?_)
  refine rg_plain ?_
  refine pl_box rfl rfl (bx_keyr n) rfl rfl rfl rfl H ?_
  clear H a W
  intro g1 a W H
  refine pl_box rfl rfl (bx_keyr m) rfl rfl rfl rfl H ?_
  clear H a W
  intro g2 a W H
  refine pl_does (does_assign rfl rfl) rfl rfl rfl rfl H ?_
  clear H a W
  intro a W H
  refine pl_end ?_
  replace H : St 72 w a W [(4, .bool false), (3, .pointer (some ⟨g2, 0, none⟩)), (2, .pointer (some ⟨g1, 0, none⟩))] [(g2, 23, ks m), (g1, 23, ks n)] := H.pick [0, 1, 2] [0, 1] rfl
  refine hK1 _ _ ?_
  clear hK1
  refine wp_seq_k (fun K2 hK2 => ?_)
  refine rg_plain ?_
  refine pl_does (does_call rfl ⟨_, Tryd.func11, by kernel_rfl⟩ rfl (fun W hb => rbegin W)) rfl rfl rfl rfl H ?_
  clear H a W
  intro a W H
  refine pl_new (news_of rfl al_cv) rfl rfl rfl rfl H ?_
  clear H a W
  intro g3 a W H
  refine pl_store rfl rfl rfl (k := 0) rfl (info_cv _ _) (by simp only [sv_size, ev_size, ks_size, fx_size, dv_size, ds_size, tv_size, cv_size] <;> rfl) (cv_one _ _) rfl rfl H ?_
  clear H a W
  intro a W H
  refine pl_end ?_
  replace H : St 72 w a W [(5, .pointer (some ⟨g3, 0, none⟩)), (4, .bool false), (3, .pointer (some ⟨g2, 0, none⟩)), (2, .pointer (some ⟨g1, 0, none⟩))] [(g3, 38, cv TD BR), (g2, 23, ks m), (g1, 23, ks n)] := H.pick [0, 2, 3, 4] [0, 1, 2] rfl
  refine hK2 _ _ ?_
  clear hK2
  refine wp_seq_k (fun K3 hK3 => ?_)
  refine rg_plain ?_
  refine pl_does (does_load rfl rfl (k := 0) rfl Tryd.underlying38 rfl (info_cv _ _)) rfl rfl rfl rfl H ?_
  clear H a W
  intro a W H
  refine pl_does (does_load rfl rfl (k := 2) rfl Tryd.underlying23 rfl (info_ks _)) rfl rfl rfl rfl H ?_
  clear H a W
  intro a W H
  refine pl_does (does_call rfl ⟨_, Tryd.func19, by kernel_rfl⟩ rfl (fun W hb => point6 hz1 hz2 hn W (hpg.ext hb))) rfl rfl rfl rfl H ?_
  clear H a W
  intro a W H
  refine pl_does (does_move rfl rfl) rfl rfl rfl rfl H ?_
  clear H a W
  intro a W H
  refine pl_does (does_extract rfl rfl (fun _ => rfl)) rfl rfl rfl rfl H ?_
  clear H a W
  intro a W H
  refine pl_does (does_extract rfl rfl (fun _ => rfl)) rfl rfl rfl rfl H ?_
  clear H a W
  intro a W H
  refine pl_new (news_of rfl al_ptZ) rfl rfl rfl rfl H ?_
  clear H a W
  intro g4 a W H
  refine pl_new (news_of rfl al_rpt) rfl rfl rfl rfl H ?_
  clear H a W
  intro g5 a W H
  refine pl_store rfl rfl rfl (k := 1) rfl (info_pt _) (by simp only [sv_size, ev_size, ks_size, fx_size, dv_size, ds_size, tv_size, cv_size] <;> rfl) (sv_one _) rfl rfl H ?_
  clear H a W
  intro a W H
  refine pl_store rfl rfl rfl (k := 0) rfl (info_rpt _) (by simp only [sv_size, ev_size, ks_size, fx_size, dv_size, ds_size, tv_size, cv_size] <;> rfl) (tv_one _) rfl rfl H ?_
  clear H a W
  intro a W H
  refine pl_end ?_
  replace H : St 72 w a W [(7, .pointer (some ⟨g5, 0, none⟩)), (6, .pointer (some ⟨g4, 0, none⟩)), (5, .pointer (some ⟨g3, 0, none⟩)), (4, .bool false), (3, .pointer (some ⟨g2, 0, none⟩))] [(g5, 35, tv z2), (g4, 29, sv z1), (g3, 38, cv TD BR), (g2, 23, ks m)] := H.pick [0, 1, 8, 9, 10] [0, 1, 2, 3] rfl
  refine hK3 _ _ ?_
  clear hK3
  refine wp_seq_k (fun K4 hK4 => ?_)
  refine rg_plain ?_
  refine pl_does (does_load rfl rfl (k := 2) rfl Tryd.underlying38 rfl (info_cv _ _)) rfl rfl rfl rfl H ?_
  clear H a W
  intro a W H
  refine pl_does (does_load rfl rfl (k := 3) rfl Tryd.underlying23 rfl (info_ks _)) rfl rfl rfl rfl H ?_
  clear H a W
  intro a W H
  refine pl_does (does_call rfl ⟨_, Tryd.func19, by kernel_rfl⟩ rfl (fun W hb => point6 hz3 hz4 hm W (hpg.ext hb))) rfl rfl rfl rfl H ?_
  clear H a W
  intro a W H
  refine pl_does (does_move rfl rfl) rfl rfl rfl rfl H ?_
  clear H a W
  intro a W H
  refine pl_does (does_extract rfl rfl (fun _ => rfl)) rfl rfl rfl rfl H ?_
  clear H a W
  intro a W H
  refine pl_does (does_extract rfl rfl (fun _ => rfl)) rfl rfl rfl rfl H ?_
  clear H a W
  intro a W H
  refine pl_new (news_of rfl al_ptZ) rfl rfl rfl rfl H ?_
  clear H a W
  intro g6 a W H
  refine pl_new (news_of rfl al_rpt) rfl rfl rfl rfl H ?_
  clear H a W
  intro g7 a W H
  refine pl_store rfl rfl rfl (k := 1) rfl (info_pt _) (by simp only [sv_size, ev_size, ks_size, fx_size, dv_size, ds_size, tv_size, cv_size] <;> rfl) (sv_one _) rfl rfl H ?_
  clear H a W
  intro a W H
  refine pl_store rfl rfl rfl (k := 0) rfl (info_rpt _) (by simp only [sv_size, ev_size, ks_size, fx_size, dv_size, ds_size, tv_size, cv_size] <;> rfl) (tv_one _) rfl rfl H ?_
  clear H a W
  intro a W H
  refine pl_end ?_
  replace H : St 72 w a W [(9, .pointer (some ⟨g7, 0, none⟩)), (8, .pointer (some ⟨g6, 0, none⟩)), (7, .pointer (some ⟨g5, 0, none⟩)), (6, .pointer (some ⟨g4, 0, none⟩)), (5, .pointer (some ⟨g3, 0, none⟩)), (4, .bool false)] [(g7, 35, tv z4), (g6, 29, sv z3), (g5, 35, tv z2), (g4, 29, sv z1), (g3, 38, cv TD BR)] := H.pick [0, 1, 8, 9, 10, 11] [0, 1, 2, 3, 4] rfl
  refine hK4 _ _ ?_
  clear hK4
  refine wp_seq_k (fun K5 hK5 => ?_)
  refine rg_plain ?_
  refine pl_new (news_of rfl al_ptZ) rfl rfl rfl rfl H ?_
  clear H a W
  intro g8 a W H
  refine pl_end ?_
  refine hK5 _ _ ?_
  clear hK5
  refine wp_seq_k (fun K6 hK6 => ?_)
  replace H : St 72 w a W [(10, .pointer (some ⟨g8, 0, none⟩)), (9, .pointer (some ⟨g7, 0, none⟩)), (8, .pointer (some ⟨g6, 0, none⟩)), (7, .pointer (some ⟨g5, 0, none⟩)), (6, .pointer (some ⟨g4, 0, none⟩)), (5, .pointer (some ⟨g3, 0, none⟩))] [(g8, 29, sv PZ), (g7, 35, tv z4), (g6, 29, sv z3), (g5, 35, tv z2), (g4, 29, sv z1), (g3, 38, cv TD BR)] := H.pick [0, 1, 2, 3, 4, 5] [0, 1, 2, 3, 4, 5] rfl
  refine drawnS (.val 24 (.agg (sv z1)) [] [4] :: .val 25 (.agg (sv z3)) [] [2] :: .val 26 (.agg (sv z5)) [0, 1] [] :: .val 27 (.agg (ks z6)) [2] [] :: .val 28 (.agg (cv TD BR)) [] [5] :: .val 29 (.agg (tv z2)) [] [3] :: .val 30 (.agg (tv z4)) [] [1] :: .val 31 (.agg (tv z7)) [4, 5, 6] [] :: .val 32 (.agg (ks z6)) [7] [] :: .val 33 (.bool true) [3, 8] [] :: .val 34 (.bool true) [9] [] :: .val 35 (.agg (sv z1)) [10] [4] :: .val 36 (.agg (sv z8)) [11, 10] [] :: .val 37 (.agg (ks z9)) [12, 10] [] :: .val 38 (.agg (tv z2)) [10] [3] :: .val 39 (.agg (tv z10)) [14, 10] [] :: .val 40 (.agg (ks z9)) [15, 10] [] :: .val 41 (.bool true) [13, 16, 10] [] :: .val 42 (.bool true) [10, 17] [] :: .val 43 (.bool true) [18] [] :: .val 44 (.agg (sv z1)) [19] [4] :: .val 45 (.agg (sv z3)) [19] [2] :: .val 46 (.bool bb) [20, 21, 19] [] :: .val 47 (.agg (tv z2)) [19] [3] :: .val 48 (.agg (tv z4)) [19] [1] :: .val 49 (.bool bb) [23, 24, 19] [] :: .val 50 (.bool true) [22, 25, 19] [] :: .val 51 (.bool true) [19, 26] [] :: .val 52 (.bool true) [27] [] :: .val 53 (.agg (sv z1)) [28] [4] :: .val 54 (.agg (sv z1)) [28] [4] :: .val 55 (.agg (sv z8)) [30, 28] [] :: .val 56 (.agg (sv z11)) [29, 31, 28] [] :: .val 57 (.agg (sv PZ)) [28] [0] :: .val 58 (.bool true) [32, 33, 28] [] :: .val 59 (.bool true) [28, 34] [] :: .val 60 (.bool true) [35] [] :: .val 61 (.agg (sv z1)) [36] [4] :: .val 62 (.agg (sv PZ)) [36] [0] :: .val 63 (.agg (sv z12)) [37, 38, 36] [] :: .val 64 (.agg (ks z13)) [39, 36] [] :: .val 65 (.agg (sv z1)) [36] [4] :: .val 66 (.agg (ks z14)) [41, 36] [] :: .val 67 (.bool true) [40, 42, 36] [] :: .val 68 (.bool true) [36, 43] [] :: .val 69 (.bool true) [44] [] :: .val 70 (.bool true) [45] [] :: .val 71 (.bool true) [45, 46] [] :: .val 4 (.bool true) [47] [] :: []) (0 :: 0 :: 3 :: 4 :: 0 :: 0 :: 0 :: 120 :: 128 :: 264 :: 768 :: 1024 :: 3072 :: 5120 :: 1024 :: 25600 :: 33792 :: 74752 :: 132096 :: 327680 :: 524288 :: 524288 :: 3670016 :: 524288 :: 524288 :: 29884416 :: 38273024 :: 67633152 :: 167772160 :: 268435456 :: 268435456 :: 1342177280 :: 2952790016 :: 268435456 :: 13153337344 :: 17448304640 :: 51539607552 :: 68719476736 :: 68719476736 :: 481036337152 :: 618475290624 :: 68719476736 :: 3367254360064 :: 5566277615616 :: 8864812498944 :: 21990232555520 :: 35184372088832 :: 105553116266496 :: 281474976710655 :: []) (by kernel_rfl) (by kernel_rfl) (by kernel_rfl) H ⟨⟨does_load rfl rfl (k := 0) rfl Tryd.underlying29 rfl (info_pt _), wanted_none rfl⟩, ⟨does_load rfl rfl (k := 0) rfl Tryd.underlying29 rfl (info_pt _), wanted_none rfl⟩, ⟨does_call rfl ⟨_, Tryd.func20, by kernel_rfl⟩ rfl (fun W hb => add_pt hz5 W (hpg.ext hb)), wanted_none rfl⟩, ⟨does_call rfl ⟨_, Tryd.func13, by kernel_rfl⟩ rfl (fun W hb => bytes_pt rz5 hz6 W (hpg.ext hb)), wanted_none rfl⟩, ⟨does_load rfl rfl (k := 0) rfl Tryd.underlying38 rfl (info_cv _ _), wanted_none rfl⟩, ⟨does_load rfl rfl (k := 0) rfl Tryd.underlying35 rfl (info_rpt _), wanted_none rfl⟩, ⟨does_load rfl rfl (k := 0) rfl Tryd.underlying35 rfl (info_rpt _), wanted_none rfl⟩, ⟨does_call rfl ⟨_, Tryd.func22, by kernel_rfl⟩ rfl (fun W hb => radd_pt hz7 W), wanted_none rfl⟩, ⟨does_call rfl ⟨_, Tryd.func21, by kernel_rfl⟩ rfl (fun W hb => rbytes_pt rz7 hz6 W), wanted_none rfl⟩, ⟨does_binOp rfl rfl rfl (eq_key_same rfl _ _), wanted_none rfl⟩, ⟨does_move rfl rfl, wanted_none rfl⟩, ⟨does_load rfl rfl (k := 0) rfl Tryd.underlying29 rfl (info_pt _), wanted_some rfl rfl rfl rfl rfl⟩, ⟨does_call rfl ⟨_, Tryd.func23, by kernel_rfl⟩ rfl (fun W hb => neg_pt hz8 W (hpg.ext hb)), wanted_some rfl rfl rfl rfl rfl⟩, ⟨does_call rfl ⟨_, Tryd.func13, by kernel_rfl⟩ rfl (fun W hb => bytes_pt rz8 hz9 W (hpg.ext hb)), wanted_some rfl rfl rfl rfl rfl⟩, ⟨does_load rfl rfl (k := 0) rfl Tryd.underlying35 rfl (info_rpt _), wanted_some rfl rfl rfl rfl rfl⟩, ⟨does_call rfl ⟨_, Tryd.func24, by kernel_rfl⟩ rfl (fun W hb => rneg_pt hz10 W), wanted_some rfl rfl rfl rfl rfl⟩, ⟨does_call rfl ⟨_, Tryd.func21, by kernel_rfl⟩ rfl (fun W hb => rbytes_pt rz10 hz9 W), wanted_some rfl rfl rfl rfl rfl⟩, ⟨does_binOp rfl rfl rfl (eq_key_same rfl _ _), wanted_some rfl rfl rfl rfl rfl⟩, ⟨does_pick rfl rfl (fun _ => rfl) (fun hb => by cases hb), wanted_none rfl⟩, ⟨does_move rfl rfl, wanted_none rfl⟩, ⟨does_load rfl rfl (k := 0) rfl Tryd.underlying29 rfl (info_pt _), wanted_some rfl rfl rfl rfl rfl⟩, ⟨does_load rfl rfl (k := 0) rfl Tryd.underlying29 rfl (info_pt _), wanted_some rfl rfl rfl rfl rfl⟩, ⟨does_call rfl ⟨_, Tryd.func25, by kernel_rfl⟩ rfl (fun W hb => equal_pt rz1 rz3 hbb W (hpg.ext hb)), wanted_some rfl rfl rfl rfl rfl⟩, ⟨does_load rfl rfl (k := 0) rfl Tryd.underlying35 rfl (info_rpt _), wanted_some rfl rfl rfl rfl rfl⟩, ⟨does_load rfl rfl (k := 0) rfl Tryd.underlying35 rfl (info_rpt _), wanted_some rfl rfl rfl rfl rfl⟩, ⟨does_call rfl ⟨_, Tryd.func26, by kernel_rfl⟩ rfl (fun W hb => rsame_pt rz2 rz4 hbb W), wanted_some rfl rfl rfl rfl rfl⟩, ⟨does_binOp rfl rfl rfl (eq_bool _ _ _), wanted_some rfl rfl rfl rfl rfl⟩, ⟨does_pick rfl rfl (fun _ => rfl) (fun hb => by cases hb), wanted_none rfl⟩, ⟨does_move rfl rfl, wanted_none rfl⟩, ⟨does_load rfl rfl (k := 0) rfl Tryd.underlying29 rfl (info_pt _), wanted_some rfl rfl rfl rfl rfl⟩, ⟨does_load rfl rfl (k := 0) rfl Tryd.underlying29 rfl (info_pt _), wanted_some rfl rfl rfl rfl rfl⟩, ⟨does_call rfl ⟨_, Tryd.func23, by kernel_rfl⟩ rfl (fun W hb => neg_pt hz8 W (hpg.ext hb)), wanted_some rfl rfl rfl rfl rfl⟩, ⟨does_call rfl ⟨_, Tryd.func20, by kernel_rfl⟩ rfl (fun W hb => add_pt hz11 W (hpg.ext hb)), wanted_some rfl rfl rfl rfl rfl⟩, ⟨does_load rfl rfl (k := 0) rfl Tryd.underlying29 rfl (info_pt _), wanted_some rfl rfl rfl rfl rfl⟩, ⟨does_call rfl ⟨_, Tryd.func25, by kernel_rfl⟩ rfl (fun W hb => equal_pt rz11 PZ_rep (decide_eq_true (Pt.add_neg _)) W (hpg.ext hb)), wanted_some rfl rfl rfl rfl rfl⟩, ⟨does_pick rfl rfl (fun _ => rfl) (fun hb => by cases hb), wanted_none rfl⟩, ⟨does_move rfl rfl, wanted_none rfl⟩, ⟨does_load rfl rfl (k := 0) rfl Tryd.underlying29 rfl (info_pt _), wanted_some rfl rfl rfl rfl rfl⟩, ⟨does_load rfl rfl (k := 0) rfl Tryd.underlying29 rfl (info_pt _), wanted_some rfl rfl rfl rfl rfl⟩, ⟨does_call rfl ⟨_, Tryd.func20, by kernel_rfl⟩ rfl (fun W hb => add_pt hz12 W (hpg.ext hb)), wanted_some rfl rfl rfl rfl rfl⟩, ⟨does_call rfl ⟨_, Tryd.func13, by kernel_rfl⟩ rfl (fun W hb => bytes_pt rz12 hz13 W (hpg.ext hb)), wanted_some rfl rfl rfl rfl rfl⟩, ⟨does_load rfl rfl (k := 0) rfl Tryd.underlying29 rfl (info_pt _), wanted_some rfl rfl rfl rfl rfl⟩, ⟨does_call rfl ⟨_, Tryd.func13, by kernel_rfl⟩ rfl (fun W hb => bytes_pt rz1 hz14 W (hpg.ext hb)), wanted_some rfl rfl rfl rfl rfl⟩, ⟨does_binOp rfl rfl rfl (eq_key_same (hz13.trans ((congrArg pbn (Pt.add_nil _)).trans hz14.symm)) _ _), wanted_some rfl rfl rfl rfl rfl⟩, ⟨does_pick rfl rfl (fun _ => rfl) (fun hb => by cases hb), wanted_none rfl⟩, ⟨does_move rfl rfl, wanted_none rfl⟩, ⟨does_call rfl ⟨_, Tryd.func14, by kernel_rfl⟩ rfl (fun W hb => known6 W (hpg.ext hb)), wanted_some rfl rfl rfl rfl rfl⟩, ⟨does_pick rfl rfl (fun _ => rfl) (fun hb => by cases hb), wanted_none rfl⟩, ⟨does_assign rfl rfl, wanted_none rfl⟩, trivial⟩ ?_
  clear H a W
  intro G9 a W H
  replace H : St 72 w a W [(24, .agg (sv z1)), (25, .agg (sv z3)), (26, .agg (sv z5)), (27, .agg (ks z6)), (28, .agg (cv TD BR)), (29, .agg (tv z2)), (30, .agg (tv z4)), (31, .agg (tv z7)), (32, .agg (ks z6)), (33, .bool true), (34, .bool true), (35, .agg (sv z1)), (36, .agg (sv z8)), (37, .agg (ks z9)), (38, .agg (tv z2)), (39, .agg (tv z10)), (40, .agg (ks z9)), (41, .bool true), (42, .bool true), (43, .bool true), (44, .agg (sv z1)), (45, .agg (sv z3)), (46, .bool bb), (47, .agg (tv z2)), (48, .agg (tv z4)), (49, .bool bb), (50, .bool true), (51, .bool true), (52, .bool true), (53, .agg (sv z1)), (54, .agg (sv z1)), (55, .agg (sv z8)), (56, .agg (sv z11)), (57, .agg (sv PZ)), (58, .bool true), (59, .bool true), (60, .bool true), (61, .agg (sv z1)), (62, .agg (sv PZ)), (63, .agg (sv z12)), (64, .agg (ks z13)), (65, .agg (sv z1)), (66, .agg (ks z14)), (67, .bool true), (68, .bool true), (69, .bool true), (70, .bool true), (71, .bool true), (4, .bool true), (10, .pointer (some ⟨g8, 0, none⟩)), (9, .pointer (some ⟨g7, 0, none⟩)), (8, .pointer (some ⟨g6, 0, none⟩)), (7, .pointer (some ⟨g5, 0, none⟩)), (6, .pointer (some ⟨g4, 0, none⟩)), (5, .pointer (some ⟨g3, 0, none⟩))] [(g8, 29, sv PZ), (g7, 35, tv z4), (g6, 29, sv z3), (g5, 35, tv z2), (g4, 29, sv z1), (g3, 38, cv TD BR)] := H
  replace H : St 72 w a W [(4, .bool true)] [] := H.pick [48] [] rfl
  refine hK6 _ _ ?_
  clear hK6
  refine wp_ret ?_
  repeat (first | (with_reducible refine then_ret ?_) | (with_reducible refine blk_ret ?_))
  refine end_tmp (p := 4) rfl rfl H (fun hb => ?_)
  exact ⟨rfl, hb⟩
theorem law_adds (n m : Nat) (w : World) (hpg : PG w) (hn : n < 115792089237316195423570985008687907853269984665640564039457584007913129639936) (hm : m < 115792089237316195423570985008687907853269984665640564039457584007913129639936) : Calls Tryd.prog 4 #[.agg (ks n), .agg (ks m)] w (BPost true w) := law_adds0 hn hm w hpg
end Go.Proofs.YtcijaoihcckofaaDoor
namespace Go.Proofs.YtcijaoihcckofaaDoor
set_option linter.unusedVariables false
set_option linter.unusedSimpArgs false
set_option maxRecDepth 100000
open Go Go.RowKit
attribute [local irreducible] ev sv ks fx dv tv cv ds ptSet ptAdd ptMul ptNeg rpAdd rpMul rpNeg rootC EE II TD BX BY BP Pt.add Pt.neg Pt.mul Pt.nil pbn pt ptEs ptRs LL PZ
set_option maxHeartbeats 8000000 in
theorem law_muls0 {n m : Nat} (hn : n < 115792089237316195423570985008687907853269984665640564039457584007913129639936) (hm : m < 115792089237316195423570985008687907853269984665640564039457584007913129639936) (w : World) (hpg : PG w) : Calls Tryd.prog 5 #[.agg (ks n), .agg (ks m)] w (fun rr w' => rr = .returned (.bool true) ∧ Below w.heap.size w w') := by
  obtain ⟨z1, hz1⟩ : ∃ z : L4 PP, z = ptEs n := ⟨_, rfl⟩
  obtain ⟨z2, hz2⟩ : ∃ z : Pj3, z = ptRs n := ⟨_, rfl⟩
  have rz1 : RepS (pt n) z1 := by rw [hz1]; exact ptEs_rep hn
  have rz2 : RepR (pt n) z2 := by rw [hz2]; exact ptRs_rep hn
  obtain ⟨z3, hz3⟩ : ∃ z : L4 PP, z = ptMul z1 m 256 := ⟨_, rfl⟩
  have rz3 : RepS (Pt.mul (pt n) m) z3 := by rw [hz3]; exact RepS.mul rz1 hm
  obtain ⟨z4, hz4⟩ : ∃ z : Nat, z = pbn (Pt.mul (pt n) m) := ⟨_, rfl⟩
  have lz4 : z4 < 115792089237316195423570985008687907853269984665640564039457584007913129639936 := by rw [hz4]; exact pbn_lt _
  obtain ⟨z5, hz5⟩ : ∃ z : Pj3, z = rpMul z2 m 256 := ⟨_, rfl⟩
  have rz5 : RepR (Pt.mul (pt n) m) z5 := by rw [hz5]; exact RepR.mul rz2 hm
  obtain ⟨z6, hz6⟩ : ∃ z : L4 PP, z = ptMul BE m 256 := ⟨_, rfl⟩
  have rz6 : RepS (Pt.mul BP m) z6 := by rw [hz6]; exact RepS.mul BE_rep hm
  obtain ⟨z7, hz7⟩ : ∃ z : Nat, z = pbn (Pt.mul BP m) := ⟨_, rfl⟩
  have lz7 : z7 < 115792089237316195423570985008687907853269984665640564039457584007913129639936 := by rw [hz7]; exact pbn_lt _
  obtain ⟨z8, hz8⟩ : ∃ z : Pj3, z = rpMul BR m 256 := ⟨_, rfl⟩
  have rz8 : RepR (Pt.mul BP m) z8 := by rw [hz8]; exact RepR.mul BR_rep hm
  refine calls_st (vs := [.agg (ks n), .agg (ks m)]) 40 Tryd.func5 rfl Tryd.ntmps5 rfl (fun a W H => ?_)
  replace H : St 40 w a W [(0, .agg (ks n)), (1, .agg (ks m))] [] := H
  refine wp_seq_k (fun K1 hK1 => ?_)
  refine rg_plain ?_
  refine pl_box rfl rfl (bx_keyr n) rfl rfl rfl rfl H ?_
  clear H a W
  intro g1 a W H
  refine pl_box rfl rfl (bx_keyr m) rfl rfl rfl rfl H ?_
  clear H a W
  intro g2 a W H
  refine pl_does (does_assign rfl rfl) rfl rfl rfl rfl H ?_
  clear H a W
  intro a W H
  refine pl_end ?_
  replace H : St 40 w a W [(4, .bool false), (3, .pointer (some ⟨g2, 0, none⟩)), (2, .pointer (some ⟨g1, 0, none⟩))] [(g2, 23, ks m), (g1, 23, ks n)] := H.pick [0, 1, 2] [0, 1] rfl
  refine hK1 _ _ ?_
  clear hK1
  refine wp_seq_k (fun K2 hK2 => ?_)
  refine rg_plain ?_
  refine pl_does (does_call rfl ⟨_, Tryd.func11, by kernel_rfl⟩ rfl (fun W hb => rbegin W)) rfl rfl rfl rfl H ?_
  clear H a W
  intro a W H
  refine pl_new (news_of rfl al_cv) rfl rfl rfl rfl H ?_
  clear H a W
  intro g3 a W H
  refine pl_store rfl rfl rfl (k := 0) rfl (info_cv _ _) (by simp only [sv_size, ev_size, ks_size, fx_size, dv_size, ds_size, tv_size, cv_size] <;> rfl) (cv_one _ _) rfl rfl H ?_
  clear H a W
  intro a W H
  refine pl_end ?_
  replace H : St 40 w a W [(5, .pointer (some ⟨g3, 0, none⟩)), (4, .bool false), (3, .pointer (some ⟨g2, 0, none⟩)), (2, .pointer (some ⟨g1, 0, none⟩))] [(g3, 38, cv TD BR), (g2, 23, ks m), (g1, 23, ks n)] := H.pick [0, 2, 3, 4] [0, 1, 2] rfl
  refine hK2 _ _ ?_
  clear hK2
  refine wp_seq_k (fun K3 hK3 => ?_)
  refine rg_plain ?_
  refine pl_does (does_load rfl rfl (k := 0) rfl Tryd.underlying38 rfl (info_cv _ _)) rfl rfl rfl rfl H ?_
  clear H a W
  intro a W H
  refine pl_does (does_load rfl rfl (k := 2) rfl Tryd.underlying23 rfl (info_ks _)) rfl rfl rfl rfl H ?_
  clear H a W
  intro a W H
  refine pl_does (does_call rfl ⟨_, Tryd.func19, by kernel_rfl⟩ rfl (fun W hb => point6 hz1 hz2 hn W (hpg.ext hb))) rfl rfl rfl rfl H ?_
  clear H a W
  intro a W H
  refine pl_does (does_move rfl rfl) rfl rfl rfl rfl H ?_
  clear H a W
  intro a W H
  refine pl_does (does_extract rfl rfl (fun _ => rfl)) rfl rfl rfl rfl H ?_
  clear H a W
  intro a W H
  refine pl_does (does_extract rfl rfl (fun _ => rfl)) rfl rfl rfl rfl H ?_
  clear H a W
  intro a W H
  refine pl_new (news_of rfl al_ptZ) rfl rfl rfl rfl H ?_
  clear H a W
  intro g4 a W H
  refine pl_new (news_of rfl al_rpt) rfl rfl rfl rfl H ?_
  clear H a W
  intro g5 a W H
  refine pl_store rfl rfl rfl (k := 1) rfl (info_pt _) (by simp only [sv_size, ev_size, ks_size, fx_size, dv_size, ds_size, tv_size, cv_size] <;> rfl) (sv_one _) rfl rfl H ?_
  clear H a W
  intro a W H
  refine pl_store rfl rfl rfl (k := 0) rfl (info_rpt _) (by simp only [sv_size, ev_size, ks_size, fx_size, dv_size, ds_size, tv_size, cv_size] <;> rfl) (tv_one _) rfl rfl H ?_
  clear H a W
  intro a W H
  refine pl_end ?_
  replace H : St 40 w a W [(7, .pointer (some ⟨g5, 0, none⟩)), (6, .pointer (some ⟨g4, 0, none⟩)), (5, .pointer (some ⟨g3, 0, none⟩)), (4, .bool false), (3, .pointer (some ⟨g2, 0, none⟩))] [(g5, 35, tv z2), (g4, 29, sv z1), (g3, 38, cv TD BR), (g2, 23, ks m)] := H.pick [0, 1, 8, 9, 10] [0, 1, 2, 3] rfl
  refine hK3 _ _ ?_
  clear hK3
  refine wp_seq_k (fun K4 hK4 => ?_)
  replace H : St 40 w a W [(7, .pointer (some ⟨g5, 0, none⟩)), (6, .pointer (some ⟨g4, 0, none⟩)), (5, .pointer (some ⟨g3, 0, none⟩)), (3, .pointer (some ⟨g2, 0, none⟩))] [(g5, 35, tv z2), (g4, 29, sv z1), (g3, 38, cv TD BR), (g2, 23, ks m)] := H.pick [0, 1, 2, 4] [0, 1, 2, 3] rfl
  refine drawnS [.val 15 (.agg (sv z1)) [] [1], .val 16 (.agg (ks m)) [] [3], .val 17 (.agg (sv z3)) [0, 1] [], .val 18 (.agg (ks z4)) [2] [], .val 19 (.agg (cv TD BR)) [] [2], .val 20 (.agg (tv z2)) [] [0], .val 21 (.agg (ks m)) [] [3], .val 22 (.agg (tv z5)) [4, 5, 6] [], .val 23 (.agg (ks z4)) [7] [], .val 24 (.bool true) [3, 8] [], .val 25 (.bool true) [9] [], .val 26 (.agg (ks m)) [10] [3], .val 27 (.agg (sv z6)) [11, 10] [], .val 28 (.agg (ks z7)) [12, 10] [], .val 29 (.agg (cv TD BR)) [10] [2], .val 30 (.pointer (some ⟨g3, 16, none⟩)) [10] [], .val 31 (.agg (tv BR)) [15, 10] [2], .val 32 (.agg (ks m)) [10] [3], .val 33 (.agg (tv z8)) [14, 16, 17, 10] [], .val 34 (.agg (ks z7)) [18, 10] [], .val 35 (.bool true) [13, 19, 10] [], .val 36 (.bool true) [10, 20] [], .val 37 (.bool true) [21] [], .val 38 (.bool true) [22] [], .val 39 (.bool true) [22, 23] [], .val 4 (.bool true) [24] []] [0, 0, 3, 4, 0, 0, 0, 120, 128, 264, 768, 1024, 3072, 5120, 1024, 1024, 33792, 1024, 222208, 263168, 533504, 1049600, 2621440, 4194304, 12582912, 33554431] (by kernel_rfl) (by kernel_rfl) (by kernel_rfl) H ⟨⟨does_load rfl rfl (k := 0) rfl Tryd.underlying29 rfl (info_pt _), wanted_none rfl⟩, ⟨does_load rfl rfl (k := 0) rfl Tryd.underlying23 rfl (info_ks _), wanted_none rfl⟩, ⟨does_call rfl ⟨_, Tryd.func27, by kernel_rfl⟩ rfl (fun W hb => mul_pt hz3 W (hpg.ext hb)), wanted_none rfl⟩, ⟨does_call rfl ⟨_, Tryd.func13, by kernel_rfl⟩ rfl (fun W hb => bytes_pt rz3 hz4 W (hpg.ext hb)), wanted_none rfl⟩, ⟨does_load rfl rfl (k := 0) rfl Tryd.underlying38 rfl (info_cv _ _), wanted_none rfl⟩, ⟨does_load rfl rfl (k := 0) rfl Tryd.underlying35 rfl (info_rpt _), wanted_none rfl⟩, ⟨does_load rfl rfl (k := 0) rfl Tryd.underlying23 rfl (info_ks _), wanted_none rfl⟩, ⟨does_call rfl ⟨_, Tryd.func28, by kernel_rfl⟩ rfl (fun W hb => rmul_pt hz5 W), wanted_none rfl⟩, ⟨does_call rfl ⟨_, Tryd.func21, by kernel_rfl⟩ rfl (fun W hb => rbytes_pt rz5 hz4 W), wanted_none rfl⟩, ⟨does_binOp rfl rfl rfl (eq_key_same rfl _ _), wanted_none rfl⟩, ⟨does_move rfl rfl, wanted_none rfl⟩, ⟨does_load rfl rfl (k := 0) rfl Tryd.underlying23 rfl (info_ks _), wanted_some rfl rfl rfl rfl rfl⟩, ⟨does_call rfl ⟨_, Tryd.func29, by kernel_rfl⟩ rfl (fun W hb => base_pt hz6 W (hpg.ext hb)), wanted_some rfl rfl rfl rfl rfl⟩, ⟨does_call rfl ⟨_, Tryd.func13, by kernel_rfl⟩ rfl (fun W hb => bytes_pt rz6 hz7 W (hpg.ext hb)), wanted_some rfl rfl rfl rfl rfl⟩, ⟨does_load rfl rfl (k := 0) rfl Tryd.underlying38 rfl (info_cv _ _), wanted_some rfl rfl rfl rfl rfl⟩, ⟨does_fieldAddr rfl rfl (fun W => (fa_cv _ W).2), wanted_some rfl rfl rfl rfl rfl⟩, ⟨does_loadAt (v := .agg (tv BR)) rfl rfl (k := 0) rfl ld_cv1, wanted_some rfl rfl rfl rfl rfl⟩, ⟨does_load rfl rfl (k := 0) rfl Tryd.underlying23 rfl (info_ks _), wanted_some rfl rfl rfl rfl rfl⟩, ⟨does_call rfl ⟨_, Tryd.func28, by kernel_rfl⟩ rfl (fun W hb => rmul_pt hz8 W), wanted_some rfl rfl rfl rfl rfl⟩, ⟨does_call rfl ⟨_, Tryd.func21, by kernel_rfl⟩ rfl (fun W hb => rbytes_pt rz8 hz7 W), wanted_some rfl rfl rfl rfl rfl⟩, ⟨does_binOp rfl rfl rfl (eq_key_same rfl _ _), wanted_some rfl rfl rfl rfl rfl⟩, ⟨does_pick rfl rfl (fun _ => rfl) (fun hb => by cases hb), wanted_none rfl⟩, ⟨does_move rfl rfl, wanted_none rfl⟩, ⟨does_call rfl ⟨_, Tryd.func14, by kernel_rfl⟩ rfl (fun W hb => known6 W (hpg.ext hb)), wanted_some rfl rfl rfl rfl rfl⟩, ⟨does_pick rfl rfl (fun _ => rfl) (fun hb => by cases hb), wanted_none rfl⟩, ⟨does_assign rfl rfl, wanted_none rfl⟩, trivial⟩ ?_
  clear H a W
  intro G6 a W H
  replace H : St 40 w a W [(15, .agg (sv z1)), (16, .agg (ks m)), (17, .agg (sv z3)), (18, .agg (ks z4)), (19, .agg (cv TD BR)), (20, .agg (tv z2)), (21, .agg (ks m)), (22, .agg (tv z5)), (23, .agg (ks z4)), (24, .bool true), (25, .bool true), (26, .agg (ks m)), (27, .agg (sv z6)), (28, .agg (ks z7)), (29, .agg (cv TD BR)), (30, .pointer (some ⟨g3, 16, none⟩)), (31, .agg (tv BR)), (32, .agg (ks m)), (33, .agg (tv z8)), (34, .agg (ks z7)), (35, .bool true), (36, .bool true), (37, .bool true), (38, .bool true), (39, .bool true), (4, .bool true), (7, .pointer (some ⟨g5, 0, none⟩)), (6, .pointer (some ⟨g4, 0, none⟩)), (5, .pointer (some ⟨g3, 0, none⟩)), (3, .pointer (some ⟨g2, 0, none⟩))] [(g5, 35, tv z2), (g4, 29, sv z1), (g3, 38, cv TD BR), (g2, 23, ks m)] := H
  replace H : St 40 w a W [(4, .bool true)] [] := H.pick [25] [] rfl
  refine hK4 _ _ ?_
  clear hK4
  refine wp_ret ?_
  repeat (first | (with_reducible refine then_ret ?_) | (with_reducible refine blk_ret ?_))
  refine end_tmp (p := 4) rfl rfl H (fun hb => ?_)
  exact ⟨rfl, hb⟩
theorem law_muls (n m : Nat) (w : World) (hpg : PG w) (hn : n < 115792089237316195423570985008687907853269984665640564039457584007913129639936) (hm : m < 115792089237316195423570985008687907853269984665640564039457584007913129639936) : Calls Tryd.prog 5 #[.agg (ks n), .agg (ks m)] w (BPost true w) := law_muls0 hn hm w hpg
end Go.Proofs.YtcijaoihcckofaaDoor
namespace Go.Proofs.YtcijaoihcckofaaDoor
set_option linter.unusedVariables false
set_option linter.unusedSimpArgs false
set_option maxRecDepth 100000
open Go Go.RowKit
attribute [local irreducible] ev sv ks fx dv tv cv ds ptSet ptAdd ptMul ptNeg rpAdd rpMul rpNeg rootC EE II TD BX BY BP Pt.add Pt.neg Pt.mul Pt.nil pbn pt ptEs ptRs LL PZ
set_option maxHeartbeats 8000000 in
theorem law_is0 {n m l t : Nat} (hn : n < 115792089237316195423570985008687907853269984665640564039457584007913129639936) (hm : m < 115792089237316195423570985008687907853269984665640564039457584007913129639936) (hl : l < 115792089237316195423570985008687907853269984665640564039457584007913129639936) (ht : t < 256) (w : World) (hpg : PG w) : Calls Tryd.prog 6 #[.agg (ks n), .agg (ks m), .agg (ks l), .int .u8 ((t : Nat) : Int)] w (fun rr w' => rr = .returned (.bool true) ∧ Below w.heap.size w w') := by
  obtain ⟨r, hr⟩ : ∃ r, t % 9 = r := ⟨_, rfl⟩
  have hr2 : r < 256 := by omega
  have hr1 : r < 115792089237316195423570985008687907853269984665640564039457584007913129639936 := by omega
  obtain ⟨z1, hz1⟩ : ∃ z : L4 PP, z = ptEs n := ⟨_, rfl⟩
  obtain ⟨z2, hz2⟩ : ∃ z : Pj3, z = ptRs n := ⟨_, rfl⟩
  have rz1 : RepS (pt n) z1 := by rw [hz1]; exact ptEs_rep hn
  have rz2 : RepR (pt n) z2 := by rw [hz2]; exact ptRs_rep hn
  obtain ⟨z3, hz3⟩ : ∃ z : L4 PP, z = ptEs m := ⟨_, rfl⟩
  obtain ⟨z4, hz4⟩ : ∃ z : Pj3, z = ptRs m := ⟨_, rfl⟩
  have rz3 : RepS (pt m) z3 := by rw [hz3]; exact ptEs_rep hm
  have rz4 : RepR (pt m) z4 := by rw [hz4]; exact ptRs_rep hm
  obtain ⟨z5, hz5⟩ : ∃ z : L4 PP, z = ptMul BE l 256 := ⟨_, rfl⟩
  have rz5 : RepS (Pt.mul BP l) z5 := by rw [hz5]; exact RepS.mul BE_rep hl
  obtain ⟨z6, hz6⟩ : ∃ z : L4 PP, z = ptAdd z1 z3 := ⟨_, rfl⟩
  have rz6 : RepS (Pt.add (pt n) (pt m)) z6 := by rw [hz6]; exact RepS.add rz1 rz3
  obtain ⟨z7, hz7⟩ : ∃ z : L4 PP, z = ptAdd z3 z1 := ⟨_, rfl⟩
  have rz7 : RepS (Pt.add (pt m) (pt n)) z7 := by rw [hz7]; exact RepS.add rz3 rz1
  obtain ⟨z8, hz8⟩ : ∃ z : L4 PP, z = ptAdd z6 z5 := ⟨_, rfl⟩
  have rz8 : RepS (Pt.add (Pt.add (pt n) (pt m)) (Pt.mul BP l)) z8 := by rw [hz8]; exact RepS.add rz6 rz5
  obtain ⟨z9, hz9⟩ : ∃ z : L4 PP, z = ptAdd z3 z5 := ⟨_, rfl⟩
  have rz9 : RepS (Pt.add (pt m) (Pt.mul BP l)) z9 := by rw [hz9]; exact RepS.add rz3 rz5
  obtain ⟨z10, hz10⟩ : ∃ z : L4 PP, z = ptAdd z1 z9 := ⟨_, rfl⟩
  have rz10 : RepS (Pt.add (pt n) (Pt.add (pt m) (Pt.mul BP l))) z10 := by rw [hz10]; exact RepS.add rz1 rz9
  obtain ⟨z12, hz12⟩ : ∃ z : L4 PP, z = ptMul z1 r 256 := ⟨_, rfl⟩
  have rz12 : RepS (Pt.mul (pt n) r) z12 := by rw [hz12]; exact RepS.mul rz1 hr1
  obtain ⟨z13, hz13⟩ : ∃ z : L4 PP, z = ptMul z6 l 256 := ⟨_, rfl⟩
  have rz13 : RepS (Pt.mul (Pt.add (pt n) (pt m)) l) z13 := by rw [hz13]; exact RepS.mul rz6 hl
  obtain ⟨z14, hz14⟩ : ∃ z : L4 PP, z = ptMul z1 l 256 := ⟨_, rfl⟩
  have rz14 : RepS (Pt.mul (pt n) l) z14 := by rw [hz14]; exact RepS.mul rz1 hl
  obtain ⟨z15, hz15⟩ : ∃ z : L4 PP, z = ptMul z3 l 256 := ⟨_, rfl⟩
  have rz15 : RepS (Pt.mul (pt m) l) z15 := by rw [hz15]; exact RepS.mul rz3 hl
  obtain ⟨z16, hz16⟩ : ∃ z : L4 PP, z = ptAdd z14 z15 := ⟨_, rfl⟩
  have rz16 : RepS (Pt.add (Pt.mul (pt n) l) (Pt.mul (pt m) l)) z16 := by rw [hz16]; exact RepS.add rz14 rz15
  refine calls_st (vs := [.agg (ks n), .agg (ks m), .agg (ks l), .int .u8 ((t : Nat) : Int)]) 90 Tryd.func6 rfl Tryd.ntmps6 rfl (fun a W H => ?_)
  replace H : St 90 w a W [(0, .agg (ks n)), (1, .agg (ks m)), (2, .agg (ks l)), (3, .int .u8 ((t : Nat) : Int))] [] := H
  refine wp_seq_k (fun K1 hK1 => ?_)
  refine rg_plain ?_
  refine pl_box rfl rfl (bx_keyr n) rfl rfl rfl rfl H ?_
  clear H a W
  intro g1 a W H
  refine pl_box rfl rfl (bx_keyr m) rfl rfl rfl rfl H ?_
  clear H a W
  intro g2 a W H
  refine pl_box rfl rfl (bx_keyr l) rfl rfl rfl rfl H ?_
  clear H a W
  intro g3 a W H
  refine pl_does (does_assign rfl rfl) rfl rfl rfl rfl H ?_
  clear H a W
  intro a W H
  refine pl_end ?_
  replace H : St 90 w a W [(8, .bool false), (6, .pointer (some ⟨g3, 0, none⟩)), (5, .pointer (some ⟨g2, 0, none⟩)), (4, .pointer (some ⟨g1, 0, none⟩)), (3, .int .u8 ((t : Nat) : Int))] [(g3, 23, ks l), (g2, 23, ks m), (g1, 23, ks n)] := H.pick [0, 1, 2, 3, 7] [0, 1, 2] rfl
  refine hK1 _ _ ?_
  clear hK1
  refine wp_seq_k (fun K2 hK2 => ?_)
  refine rg_plain ?_
  refine pl_does (does_call rfl ⟨_, Tryd.func11, by kernel_rfl⟩ rfl (fun W hb => rbegin W)) rfl rfl rfl rfl H ?_
  clear H a W
  intro a W H
  refine pl_new (news_of rfl al_cv) rfl rfl rfl rfl H ?_
  clear H a W
  intro g4 a W H
  refine pl_store rfl rfl rfl (k := 0) rfl (info_cv _ _) (by simp only [sv_size, ev_size, ks_size, fx_size, dv_size, ds_size, tv_size, cv_size] <;> rfl) (cv_one _ _) rfl rfl H ?_
  clear H a W
  intro a W H
  refine pl_end ?_
  replace H : St 90 w a W [(9, .pointer (some ⟨g4, 0, none⟩)), (8, .bool false), (6, .pointer (some ⟨g3, 0, none⟩)), (5, .pointer (some ⟨g2, 0, none⟩)), (4, .pointer (some ⟨g1, 0, none⟩)), (3, .int .u8 ((t : Nat) : Int))] [(g4, 38, cv TD BR), (g3, 23, ks l), (g2, 23, ks m), (g1, 23, ks n)] := H.pick [0, 2, 3, 4, 5, 6] [0, 1, 2, 3] rfl
  refine hK2 _ _ ?_
  clear hK2
  refine wp_seq_k (fun K3 hK3 => ?_)
  refine rg_plain ?_
  refine pl_does (does_load rfl rfl (k := 0) rfl Tryd.underlying38 rfl (info_cv _ _)) rfl rfl rfl rfl H ?_
  clear H a W
  intro a W H
  refine pl_does (does_load rfl rfl (k := 3) rfl Tryd.underlying23 rfl (info_ks _)) rfl rfl rfl rfl H ?_
  clear H a W
  intro a W H
  refine pl_does (does_call rfl ⟨_, Tryd.func19, by kernel_rfl⟩ rfl (fun W hb => point6 hz1 hz2 hn W (hpg.ext hb))) rfl rfl rfl rfl H ?_
  clear H a W
  intro a W H
  refine pl_does (does_move rfl rfl) rfl rfl rfl rfl H ?_
  clear H a W
  intro a W H
  refine pl_does (does_extract rfl rfl (fun _ => rfl)) rfl rfl rfl rfl H ?_
  clear H a W
  intro a W H
  refine pl_does (does_extract rfl rfl (fun _ => rfl)) rfl rfl rfl rfl H ?_
  clear H a W
  intro a W H
  refine pl_new (news_of rfl al_ptZ) rfl rfl rfl rfl H ?_
  clear H a W
  intro g5 a W H
  refine pl_new (news_of rfl al_rpt) rfl rfl rfl rfl H ?_
  clear H a W
  intro g6 a W H
  refine pl_store rfl rfl rfl (k := 1) rfl (info_pt _) (by simp only [sv_size, ev_size, ks_size, fx_size, dv_size, ds_size, tv_size, cv_size] <;> rfl) (sv_one _) rfl rfl H ?_
  clear H a W
  intro a W H
  refine pl_store rfl rfl rfl (k := 0) rfl (info_rpt _) (by simp only [sv_size, ev_size, ks_size, fx_size, dv_size, ds_size, tv_size, cv_size] <;> rfl) (tv_one _) rfl rfl H ?_
  clear H a W
  intro a W H
  refine pl_end ?_
  replace H : St 90 w a W [(10, .pointer (some ⟨g5, 0, none⟩)), (9, .pointer (some ⟨g4, 0, none⟩)), (8, .bool false), (6, .pointer (some ⟨g3, 0, none⟩)), (5, .pointer (some ⟨g2, 0, none⟩)), (3, .int .u8 ((t : Nat) : Int))] [(g5, 29, sv z1), (g4, 38, cv TD BR), (g3, 23, ks l), (g2, 23, ks m)] := H.pick [1, 8, 9, 10, 11, 13] [1, 2, 3, 4] rfl
  refine hK3 _ _ ?_
  clear hK3
  refine wp_seq_k (fun K4 hK4 => ?_)
  refine rg_plain ?_
  refine pl_does (does_load rfl rfl (k := 1) rfl Tryd.underlying38 rfl (info_cv _ _)) rfl rfl rfl rfl H ?_
  clear H a W
  intro a W H
  refine pl_does (does_load rfl rfl (k := 3) rfl Tryd.underlying23 rfl (info_ks _)) rfl rfl rfl rfl H ?_
  clear H a W
  intro a W H
  refine pl_does (does_call rfl ⟨_, Tryd.func19, by kernel_rfl⟩ rfl (fun W hb => point6 hz3 hz4 hm W (hpg.ext hb))) rfl rfl rfl rfl H ?_
  clear H a W
  intro a W H
  refine pl_does (does_move rfl rfl) rfl rfl rfl rfl H ?_
  clear H a W
  intro a W H
  refine pl_does (does_extract rfl rfl (fun _ => rfl)) rfl rfl rfl rfl H ?_
  clear H a W
  intro a W H
  refine pl_does (does_extract rfl rfl (fun _ => rfl)) rfl rfl rfl rfl H ?_
  clear H a W
  intro a W H
  refine pl_new (news_of rfl al_ptZ) rfl rfl rfl rfl H ?_
  clear H a W
  intro g7 a W H
  refine pl_new (news_of rfl al_rpt) rfl rfl rfl rfl H ?_
  clear H a W
  intro g8 a W H
  refine pl_store rfl rfl rfl (k := 1) rfl (info_pt _) (by simp only [sv_size, ev_size, ks_size, fx_size, dv_size, ds_size, tv_size, cv_size] <;> rfl) (sv_one _) rfl rfl H ?_
  clear H a W
  intro a W H
  refine pl_store rfl rfl rfl (k := 0) rfl (info_rpt _) (by simp only [sv_size, ev_size, ks_size, fx_size, dv_size, ds_size, tv_size, cv_size] <;> rfl) (tv_one _) rfl rfl H ?_
  clear H a W
  intro a W H
  refine pl_end ?_
  replace H : St 90 w a W [(12, .pointer (some ⟨g7, 0, none⟩)), (10, .pointer (some ⟨g5, 0, none⟩)), (8, .bool false), (6, .pointer (some ⟨g3, 0, none⟩)), (3, .int .u8 ((t : Nat) : Int))] [(g7, 29, sv z3), (g5, 29, sv z1), (g3, 23, ks l)] := H.pick [1, 8, 10, 11, 13] [1, 2, 4] rfl
  refine hK4 _ _ ?_
  clear hK4
  refine wp_seq_k (fun K5 hK5 => ?_)
  refine rg_plain ?_
  refine pl_does (does_load rfl rfl (k := 2) rfl Tryd.underlying23 rfl (info_ks _)) rfl rfl rfl rfl H ?_
  clear H a W
  intro a W H
  refine pl_does (does_call rfl ⟨_, Tryd.func29, by kernel_rfl⟩ rfl (fun W hb => base_pt hz5 W (hpg.ext hb))) rfl rfl rfl rfl H ?_
  clear H a W
  intro a W H
  refine pl_new (news_of rfl al_ptZ) rfl rfl rfl rfl H ?_
  clear H a W
  intro g9 a W H
  refine pl_store rfl rfl rfl (k := 0) rfl (info_pt _) (by simp only [sv_size, ev_size, ks_size, fx_size, dv_size, ds_size, tv_size, cv_size] <;> rfl) (sv_one _) rfl rfl H ?_
  clear H a W
  intro a W H
  refine pl_end ?_
  replace H : St 90 w a W [(14, .pointer (some ⟨g9, 0, none⟩)), (12, .pointer (some ⟨g7, 0, none⟩)), (10, .pointer (some ⟨g5, 0, none⟩)), (8, .bool false), (6, .pointer (some ⟨g3, 0, none⟩)), (3, .int .u8 ((t : Nat) : Int))] [(g9, 29, sv z5), (g7, 29, sv z3), (g5, 29, sv z1), (g3, 23, ks l)] := H.pick [0, 3, 4, 5, 6, 7] [0, 1, 2, 3] rfl
  refine hK5 _ _ ?_
  clear hK5
  refine wp_seq_k (fun K6 hK6 => ?_)
  refine wp_seq_k (fun K7 hK7 => ?_)
  refine drawnS [.val 32 (.agg (sv z1)) [] [2], .val 33 (.agg (sv z3)) [] [1], .val 34 (.agg (sv z6)) [0, 1] [], .val 35 (.agg (sv z3)) [] [1], .val 36 (.agg (sv z1)) [] [2], .val 37 (.agg (sv z7)) [3, 4] [], .val 38 (.bool true) [2, 5] [], .val 39 (.bool false) [6] [], .val 40 (.bool false) [7] [], .val 41 (.agg (sv z1)) [8] [2], .val 42 (.agg (sv z3)) [8] [1], .val 43 (.agg (sv z6)) [9, 10, 8] [], .val 44 (.agg (sv z5)) [8] [0], .val 45 (.agg (sv z8)) [11, 12, 8] [], .val 46 (.agg (sv z1)) [8] [2], .val 47 (.agg (sv z3)) [8] [1], .val 48 (.agg (sv z5)) [8] [0], .val 49 (.agg (sv z9)) [15, 16, 8] [], .val 50 (.agg (sv z10)) [14, 17, 8] [], .val 51 (.bool true) [13, 18, 8] [], .val 52 (.bool false) [19, 8] [], .val 53 (.bool false) [8, 20] []] [0, 0, 3, 0, 0, 28, 36, 64, 192, 256, 256, 1792, 256, 6400, 256, 256, 256, 106752, 147712, 270592, 524544, 1048832] (by kernel_rfl) (by kernel_rfl) (by kernel_rfl) H ⟨⟨does_load rfl rfl (k := 0) rfl Tryd.underlying29 rfl (info_pt _), wanted_none rfl⟩, ⟨does_load rfl rfl (k := 0) rfl Tryd.underlying29 rfl (info_pt _), wanted_none rfl⟩, ⟨does_call rfl ⟨_, Tryd.func20, by kernel_rfl⟩ rfl (fun W hb => add_pt hz6 W (hpg.ext hb)), wanted_none rfl⟩, ⟨does_load rfl rfl (k := 0) rfl Tryd.underlying29 rfl (info_pt _), wanted_none rfl⟩, ⟨does_load rfl rfl (k := 0) rfl Tryd.underlying29 rfl (info_pt _), wanted_none rfl⟩, ⟨does_call rfl ⟨_, Tryd.func20, by kernel_rfl⟩ rfl (fun W hb => add_pt hz7 W (hpg.ext hb)), wanted_none rfl⟩, ⟨does_call rfl ⟨_, Tryd.func25, by kernel_rfl⟩ rfl (fun W hb => equal_pt rz6 rz7 (decide_eq_true (Pt.add_comm _ _)) W (hpg.ext hb)), wanted_none rfl⟩, ⟨does_unOp rfl rfl (fun _ => rfl), wanted_none rfl⟩, ⟨does_move rfl rfl, wanted_none rfl⟩, ⟨does_load rfl rfl (k := 0) rfl Tryd.underlying29 rfl (info_pt _), wanted_some rfl rfl rfl rfl rfl⟩, ⟨does_load rfl rfl (k := 0) rfl Tryd.underlying29 rfl (info_pt _), wanted_some rfl rfl rfl rfl rfl⟩, ⟨does_call rfl ⟨_, Tryd.func20, by kernel_rfl⟩ rfl (fun W hb => add_pt hz6 W (hpg.ext hb)), wanted_some rfl rfl rfl rfl rfl⟩, ⟨does_load rfl rfl (k := 0) rfl Tryd.underlying29 rfl (info_pt _), wanted_some rfl rfl rfl rfl rfl⟩, ⟨does_call rfl ⟨_, Tryd.func20, by kernel_rfl⟩ rfl (fun W hb => add_pt hz8 W (hpg.ext hb)), wanted_some rfl rfl rfl rfl rfl⟩, ⟨does_load rfl rfl (k := 0) rfl Tryd.underlying29 rfl (info_pt _), wanted_some rfl rfl rfl rfl rfl⟩, ⟨does_load rfl rfl (k := 0) rfl Tryd.underlying29 rfl (info_pt _), wanted_some rfl rfl rfl rfl rfl⟩, ⟨does_load rfl rfl (k := 0) rfl Tryd.underlying29 rfl (info_pt _), wanted_some rfl rfl rfl rfl rfl⟩, ⟨does_call rfl ⟨_, Tryd.func20, by kernel_rfl⟩ rfl (fun W hb => add_pt hz9 W (hpg.ext hb)), wanted_some rfl rfl rfl rfl rfl⟩, ⟨does_call rfl ⟨_, Tryd.func20, by kernel_rfl⟩ rfl (fun W hb => add_pt hz10 W (hpg.ext hb)), wanted_some rfl rfl rfl rfl rfl⟩, ⟨does_call rfl ⟨_, Tryd.func25, by kernel_rfl⟩ rfl (fun W hb => equal_pt rz8 rz10 (decide_eq_true (Pt.add_assoc _ _ _)) W (hpg.ext hb)), wanted_some rfl rfl rfl rfl rfl⟩, ⟨does_unOp rfl rfl (fun _ => rfl), wanted_some rfl rfl rfl rfl rfl⟩, ⟨does_pick rfl rfl (fun hb => by cases hb) (fun _ => rfl), wanted_none rfl⟩, trivial⟩ ?_
  clear H a W
  intro G10 a W H
  replace H : St 90 w a W [(32, .agg (sv z1)), (33, .agg (sv z3)), (34, .agg (sv z6)), (35, .agg (sv z3)), (36, .agg (sv z1)), (37, .agg (sv z7)), (38, .bool true), (39, .bool false), (40, .bool false), (41, .agg (sv z1)), (42, .agg (sv z3)), (43, .agg (sv z6)), (44, .agg (sv z5)), (45, .agg (sv z8)), (46, .agg (sv z1)), (47, .agg (sv z3)), (48, .agg (sv z5)), (49, .agg (sv z9)), (50, .agg (sv z10)), (51, .bool true), (52, .bool false), (53, .bool false), (14, .pointer (some ⟨g9, 0, none⟩)), (12, .pointer (some ⟨g7, 0, none⟩)), (10, .pointer (some ⟨g5, 0, none⟩)), (8, .bool false), (6, .pointer (some ⟨g3, 0, none⟩)), (3, .int .u8 ((t : Nat) : Int))] [(g9, 29, sv z5), (g7, 29, sv z3), (g5, 29, sv z1), (g3, 23, ks l)] := H
  replace H : St 90 w a W [(53, .bool false), (12, .pointer (some ⟨g7, 0, none⟩)), (10, .pointer (some ⟨g5, 0, none⟩)), (8, .bool false), (6, .pointer (some ⟨g3, 0, none⟩)), (3, .int .u8 ((t : Nat) : Int))] [(g7, 29, sv z3), (g5, 29, sv z1), (g3, 23, ks l)] := H.pick [21, 23, 24, 25, 26, 27] [1, 2, 3] rfl
  refine hK7 _ _ ?_
  clear hK7
  refine wp_cond_false (H.ev rfl) ?_
  refine wp_skip ?_
  refine hK6 _ _ ?_
  clear hK6
  refine wp_seq_k (fun K8 hK8 => ?_)
  refine rg_plain ?_
  refine pl_does (does_build (ps := []) rfl rfl bd_pt0) rfl rfl rfl rfl H ?_
  clear H a W
  intro a W H
  refine pl_new (news_of rfl al_ptZ) rfl rfl rfl rfl H ?_
  clear H a W
  intro g11 a W H
  refine pl_store rfl rfl rfl (k := 0) rfl (info_pt _) (by simp only [sv_size, ev_size, ks_size, fx_size, dv_size, ds_size, tv_size, cv_size] <;> rfl) (sv_one _) rfl rfl H ?_
  clear H a W
  intro a W H
  refine pl_end ?_
  replace H : St 90 w a W [(15, .pointer (some ⟨g11, 0, none⟩)), (12, .pointer (some ⟨g7, 0, none⟩)), (10, .pointer (some ⟨g5, 0, none⟩)), (8, .bool false), (6, .pointer (some ⟨g3, 0, none⟩)), (3, .int .u8 ((t : Nat) : Int))] [(g11, 29, sv PZ), (g7, 29, sv z3), (g5, 29, sv z1), (g3, 23, ks l)] := H.pick [0, 3, 4, 5, 6, 7] [0, 1, 2, 3] rfl
  refine hK8 _ _ ?_
  clear hK8
  refine wp_seq_k (fun K9 hK9 => ?_)
  refine wp_seq_k (fun K10 hK10 => ?_)
  refine rg_plain ?_
  refine pl_does (does_assign rfl rfl) rfl rfl rfl rfl H ?_
  clear H a W
  intro a W H
  refine pl_end ?_
  refine hK10 _ _ ?_
  clear hK10
  refine wp_block ?_
  replace H : St 90 w a W [(16, .int .i64 ((0 : Nat) : Int)), (15, .pointer (some ⟨g11, 0, none⟩)), (12, .pointer (some ⟨g7, 0, none⟩)), (10, .pointer (some ⟨g5, 0, none⟩)), (8, .bool false), (6, .pointer (some ⟨g3, 0, none⟩)), (3, .int .u8 ((t : Nat) : Int))] [(g11, 29, sv PZ), (g7, 29, sv z3), (g5, 29, sv z1), (g3, 23, ks l)] := H.pick [0, 1, 2, 3, 4, 5, 6] [0, 1, 2, 3] rfl
  refine wp_rounds r (fun k a W => ∃ q : L4 PP, RepS (Pt.mul (pt n) k) q ∧ St 90 w a W [(16, .int .i64 ((k : Nat) : Int)), (15, .pointer (some ⟨g11, 0, none⟩)), (12, .pointer (some ⟨g7, 0, none⟩)), (10, .pointer (some ⟨g5, 0, none⟩)), (8, .bool false), (6, .pointer (some ⟨g3, 0, none⟩)), (3, .int .u8 ((t : Nat) : Int))] [(g11, 29, sv q), (g7, 29, sv z3), (g5, 29, sv z1), (g3, 23, ks l)]) (k0 := 0) ⟨PZ, by rw [Pt.mul_zero]; exact PZ_rep, H⟩ (by omega) ?_
  clear H a W
  rintro k a W hk ⟨q, hq, H⟩
  by_cases hk2 : k < r
  · refine wp_seq_k (fun K11 hK11 => ?_)
    refine wp_seq_k (fun K12 hK12 => ?_)
    refine rg_plain ?_
    refine pl_does (does_move rfl rfl) rfl rfl rfl rfl H ?_
    clear H a W
    intro a W H
    refine pl_does (does_move rfl rfl) rfl rfl rfl rfl H ?_
    clear H a W
    intro a W H
    refine pl_does (does_binOp rfl rfl rfl (b_rem9 (x := t) (y := r) hr _ _)) rfl rfl rfl rfl H ?_
    clear H a W
    intro a W H
    refine pl_does (does_convert rfl rfl (cv_u8_int (x := r) hr2)) rfl rfl rfl rfl H ?_
    clear H a W
    intro a W H
    refine pl_does (does_binOp rfl rfl rfl (i_lss_yes (m := r) hk2 _ _)) rfl rfl rfl rfl H ?_
    clear H a W
    intro a W H
    refine pl_end ?_
    refine hK12 _ _ ?_
    clear hK12
    refine wp_cond_true (H.ev rfl) ?_
    refine wp_skip ?_
    refine hK11 _ _ ?_
    clear hK11
    refine wp_seq_k (fun K13 hK13 => ?_)
    refine wp_block ?_
    refine rg_plain ?_
    refine pl_does (does_load rfl rfl (k := 0) rfl Tryd.underlying29 rfl (info_pt _)) rfl rfl rfl rfl H ?_
    clear H a W
    intro a W H
    refine pl_does (does_load rfl rfl (k := 2) rfl Tryd.underlying29 rfl (info_pt _)) rfl rfl rfl rfl H ?_
    clear H a W
    intro a W H
    obtain ⟨z11, hz11⟩ : ∃ z : L4 PP, z = ptAdd q z1 := ⟨_, rfl⟩
    have rz11 : RepS (Pt.add (Pt.mul (pt n) k) (pt n)) z11 := by rw [hz11]; exact RepS.add hq rz1
    refine pl_does (does_call rfl ⟨_, Tryd.func20, by kernel_rfl⟩ rfl (fun W hb => add_pt hz11 W (hpg.ext hb))) rfl rfl rfl rfl H ?_
    clear H a W
    intro a W H
    refine pl_store rfl rfl rfl (k := 0) rfl (info_pt _) (by simp only [sv_size, ev_size, ks_size, fx_size, dv_size, ds_size, tv_size, cv_size] <;> rfl) (sv_one _) rfl rfl H ?_
    clear H a W
    intro a W H
    refine pl_end ?_
    refine blk_normal ?_
    refine hK13 _ _ ?_
    clear hK13
    refine rg_plain ?_
    refine pl_does (does_move rfl rfl) rfl rfl rfl rfl H ?_
    clear H a W
    intro a W H
    refine pl_does (does_binOp rfl rfl rfl (i_inc (by omega) _ _)) rfl rfl rfl rfl H ?_
    clear H a W
    intro a W H
    replace H : St 90 w a W [(61, .int .i64 ((k + 1 : Nat) : Int)), (60, .int .i64 ((k : Nat) : Int)), (64, .agg (sv z11)), (63, .agg (sv z1)), (62, .agg (sv q)), (59, .bool true), (58, .int .i64 ((r : Nat) : Int)), (57, .int .u8 ((r : Nat) : Int)), (56, .int .u8 ((t : Nat) : Int)), (55, .int .i64 ((k : Nat) : Int)), (15, .pointer (some ⟨g11, 0, none⟩)), (12, .pointer (some ⟨g7, 0, none⟩)), (10, .pointer (some ⟨g5, 0, none⟩)), (8, .bool false), (6, .pointer (some ⟨g3, 0, none⟩)), (3, .int .u8 ((t : Nat) : Int))] [(g11, 29, sv z11), (g7, 29, sv z3), (g5, 29, sv z1), (g3, 23, ks l)] := H.pick [0, 1, 2, 3, 4, 5, 6, 7, 8, 9, 11, 12, 13, 14, 15, 16] [0, 1, 2, 3] rfl
    refine pl_does (does_assign rfl rfl) rfl rfl rfl rfl H ?_
    clear H a W
    intro a W H
    refine pl_end ?_
    refine ⟨k + 1, by omega, by omega, z11, by rw [Pt.mul_succ]; exact rz11, ?_⟩
    show St 90 w a W [(16, .int .i64 ((k + 1 : Nat) : Int)), (15, .pointer (some ⟨g11, 0, none⟩)), (12, .pointer (some ⟨g7, 0, none⟩)), (10, .pointer (some ⟨g5, 0, none⟩)), (8, .bool false), (6, .pointer (some ⟨g3, 0, none⟩)), (3, .int .u8 ((t : Nat) : Int))] [(g11, 29, sv z11), (g7, 29, sv z3), (g5, 29, sv z1), (g3, 23, ks l)]
    exact H.pick [0, 11, 12, 13, 14, 15, 16] [0, 1, 2, 3] rfl
  · obtain rfl : r = k := by omega
    refine wp_seq_k (fun K14 hK14 => ?_)
    refine wp_seq_k (fun K15 hK15 => ?_)
    refine rg_plain ?_
    refine pl_does (does_move rfl rfl) rfl rfl rfl rfl H ?_
    clear H a W
    intro a W H
    refine pl_does (does_move rfl rfl) rfl rfl rfl rfl H ?_
    clear H a W
    intro a W H
    refine pl_does (does_binOp rfl rfl rfl (b_rem9 (x := t) (y := r) hr _ _)) rfl rfl rfl rfl H ?_
    clear H a W
    intro a W H
    refine pl_does (does_convert rfl rfl (cv_u8_int (x := r) hr2)) rfl rfl rfl rfl H ?_
    clear H a W
    intro a W H
    refine pl_does (does_binOp rfl rfl rfl (i_lss_no (m := r) (by omega) _ _)) rfl rfl rfl rfl H ?_
    clear H a W
    intro a W H
    refine pl_end ?_
    replace H : St 90 w a W [(59, .bool false), (16, .int .i64 ((r : Nat) : Int)), (15, .pointer (some ⟨g11, 0, none⟩)), (12, .pointer (some ⟨g7, 0, none⟩)), (10, .pointer (some ⟨g5, 0, none⟩)), (8, .bool false), (6, .pointer (some ⟨g3, 0, none⟩)), (3, .int .u8 ((t : Nat) : Int))] [(g11, 29, sv q), (g7, 29, sv z3), (g5, 29, sv z1), (g3, 23, ks l)] := H.pick [0, 5, 6, 7, 8, 9, 10, 11] [0, 1, 2, 3] rfl
    refine hK15 _ _ ?_
    clear hK15
    refine wp_cond_false (H.ev rfl) ?_
    refine wp_exit ?_
    repeat (with_reducible refine then_exit ?_)
    refine blk_exit ?_
    refine hK9 _ _ ?_
    clear hK9
    refine wp_seq_k (fun K16 hK16 => ?_)
    replace H : St 90 w a W [(59, .bool false), (16, .int .i64 ((r : Nat) : Int)), (15, .pointer (some ⟨g11, 0, none⟩)), (12, .pointer (some ⟨g7, 0, none⟩)), (10, .pointer (some ⟨g5, 0, none⟩)), (6, .pointer (some ⟨g3, 0, none⟩)), (3, .int .u8 ((t : Nat) : Int))] [(g11, 29, sv q), (g7, 29, sv z3), (g5, 29, sv z1), (g3, 23, ks l)] := H.pick [0, 1, 2, 3, 4, 6, 7] [0, 1, 2, 3] rfl
    refine drawnS [.val 65 (.agg (sv q)) [] [0], .val 66 (.agg (sv z1)) [] [2], .val 67 (.int .u8 ((t : Nat) : Int)) [] [], .val 68 (.int .u8 ((r : Nat) : Int)) [2] [], .val 69 (.agg (ks r)) [3] [], .val 70 (.agg (sv z12)) [1, 4] [], .val 71 (.bool true) [0, 5] [], .val 72 (.bool true) [6] [], .val 73 (.agg (sv z1)) [7] [2], .val 74 (.agg (sv z3)) [7] [1], .val 75 (.agg (sv z6)) [8, 9, 7] [], .val 76 (.agg (ks l)) [7] [3], .val 77 (.agg (sv z13)) [10, 11, 7] [], .val 78 (.agg (sv z1)) [7] [2], .val 79 (.agg (ks l)) [7] [3], .val 80 (.agg (sv z14)) [13, 14, 7] [], .val 81 (.agg (sv z3)) [7] [1], .val 82 (.agg (ks l)) [7] [3], .val 83 (.agg (sv z15)) [16, 17, 7] [], .val 84 (.agg (sv z16)) [15, 18, 7] [], .val 85 (.bool true) [12, 19, 7] [], .val 86 (.bool true) [7, 20] [], .val 87 (.bool true) [21] [], .val 88 (.bool true) [22] [], .val 89 (.bool true) [22, 23] [], .val 8 (.bool true) [24] []] [0, 0, 0, 4, 8, 18, 33, 64, 128, 128, 896, 128, 3200, 128, 128, 28800, 128, 128, 229504, 295040, 528512, 1048704, 3145728, 4194304, 12582912, 33554431] (by kernel_rfl) (by kernel_rfl) (by kernel_rfl) H ⟨⟨does_load rfl rfl (k := 0) rfl Tryd.underlying29 rfl (info_pt _), wanted_none rfl⟩, ⟨does_load rfl rfl (k := 0) rfl Tryd.underlying29 rfl (info_pt _), wanted_none rfl⟩, ⟨does_move rfl rfl, wanted_none rfl⟩, ⟨does_binOp rfl rfl rfl (b_rem9 (x := t) (y := r) hr _ _), wanted_none rfl⟩, ⟨does_build rfl rfl (bd_keyb (x := r) hr2), wanted_none rfl⟩, ⟨does_call rfl ⟨_, Tryd.func27, by kernel_rfl⟩ rfl (fun W hb => mul_pt hz12 W (hpg.ext hb)), wanted_none rfl⟩, ⟨does_call rfl ⟨_, Tryd.func25, by kernel_rfl⟩ rfl (fun W hb => equal_pt hq rz12 (decide_eq_true (Eq.refl (Pt.mul (pt n) r))) W (hpg.ext hb)), wanted_none rfl⟩, ⟨does_move rfl rfl, wanted_none rfl⟩, ⟨does_load rfl rfl (k := 0) rfl Tryd.underlying29 rfl (info_pt _), wanted_some rfl rfl rfl rfl rfl⟩, ⟨does_load rfl rfl (k := 0) rfl Tryd.underlying29 rfl (info_pt _), wanted_some rfl rfl rfl rfl rfl⟩, ⟨does_call rfl ⟨_, Tryd.func20, by kernel_rfl⟩ rfl (fun W hb => add_pt hz6 W (hpg.ext hb)), wanted_some rfl rfl rfl rfl rfl⟩, ⟨does_load rfl rfl (k := 0) rfl Tryd.underlying23 rfl (info_ks _), wanted_some rfl rfl rfl rfl rfl⟩, ⟨does_call rfl ⟨_, Tryd.func27, by kernel_rfl⟩ rfl (fun W hb => mul_pt hz13 W (hpg.ext hb)), wanted_some rfl rfl rfl rfl rfl⟩, ⟨does_load rfl rfl (k := 0) rfl Tryd.underlying29 rfl (info_pt _), wanted_some rfl rfl rfl rfl rfl⟩, ⟨does_load rfl rfl (k := 0) rfl Tryd.underlying23 rfl (info_ks _), wanted_some rfl rfl rfl rfl rfl⟩, ⟨does_call rfl ⟨_, Tryd.func27, by kernel_rfl⟩ rfl (fun W hb => mul_pt hz14 W (hpg.ext hb)), wanted_some rfl rfl rfl rfl rfl⟩, ⟨does_load rfl rfl (k := 0) rfl Tryd.underlying29 rfl (info_pt _), wanted_some rfl rfl rfl rfl rfl⟩, ⟨does_load rfl rfl (k := 0) rfl Tryd.underlying23 rfl (info_ks _), wanted_some rfl rfl rfl rfl rfl⟩, ⟨does_call rfl ⟨_, Tryd.func27, by kernel_rfl⟩ rfl (fun W hb => mul_pt hz15 W (hpg.ext hb)), wanted_some rfl rfl rfl rfl rfl⟩, ⟨does_call rfl ⟨_, Tryd.func20, by kernel_rfl⟩ rfl (fun W hb => add_pt hz16 W (hpg.ext hb)), wanted_some rfl rfl rfl rfl rfl⟩, ⟨does_call rfl ⟨_, Tryd.func25, by kernel_rfl⟩ rfl (fun W hb => equal_pt rz13 rz16 (decide_eq_true (Pt.add_mul _ _ _)) W (hpg.ext hb)), wanted_some rfl rfl rfl rfl rfl⟩, ⟨does_pick rfl rfl (fun _ => rfl) (fun hb => by cases hb), wanted_none rfl⟩, ⟨does_move rfl rfl, wanted_none rfl⟩, ⟨does_call rfl ⟨_, Tryd.func14, by kernel_rfl⟩ rfl (fun W hb => known6 W (hpg.ext hb)), wanted_some rfl rfl rfl rfl rfl⟩, ⟨does_pick rfl rfl (fun _ => rfl) (fun hb => by cases hb), wanted_none rfl⟩, ⟨does_assign rfl rfl, wanted_none rfl⟩, trivial⟩ ?_
    clear H a W
    intro G12 a W H
    replace H : St 90 w a W [(65, .agg (sv q)), (66, .agg (sv z1)), (67, .int .u8 ((t : Nat) : Int)), (68, .int .u8 ((r : Nat) : Int)), (69, .agg (ks r)), (70, .agg (sv z12)), (71, .bool true), (72, .bool true), (73, .agg (sv z1)), (74, .agg (sv z3)), (75, .agg (sv z6)), (76, .agg (ks l)), (77, .agg (sv z13)), (78, .agg (sv z1)), (79, .agg (ks l)), (80, .agg (sv z14)), (81, .agg (sv z3)), (82, .agg (ks l)), (83, .agg (sv z15)), (84, .agg (sv z16)), (85, .bool true), (86, .bool true), (87, .bool true), (88, .bool true), (89, .bool true), (8, .bool true), (59, .bool false), (16, .int .i64 ((r : Nat) : Int)), (15, .pointer (some ⟨g11, 0, none⟩)), (12, .pointer (some ⟨g7, 0, none⟩)), (10, .pointer (some ⟨g5, 0, none⟩)), (6, .pointer (some ⟨g3, 0, none⟩)), (3, .int .u8 ((t : Nat) : Int))] [(g11, 29, sv q), (g7, 29, sv z3), (g5, 29, sv z1), (g3, 23, ks l)] := H
    replace H : St 90 w a W [(8, .bool true)] [] := H.pick [25] [] rfl
    refine hK16 _ _ ?_
    clear hK16
    refine wp_ret ?_
    repeat (first | (with_reducible refine then_ret ?_) | (with_reducible refine blk_ret ?_))
    refine end_tmp (p := 8) rfl rfl H (fun hb => ?_)
    exact ⟨rfl, hb⟩
theorem law_is (n m l t : Nat) (w : World) (hpg : PG w) (hn : n < 115792089237316195423570985008687907853269984665640564039457584007913129639936) (hm : m < 115792089237316195423570985008687907853269984665640564039457584007913129639936) (hl : l < 115792089237316195423570985008687907853269984665640564039457584007913129639936) (ht : t < 256) : Calls Tryd.prog 6 #[.agg (ks n), .agg (ks m), .agg (ks l), .int .u8 (t : Int)] w (BPost true w) := law_is0 hn hm hl ht w hpg
end Go.Proofs.YtcijaoihcckofaaDoor
namespace Go.Proofs.YtcijaoihcckofaaDoor
set_option linter.unusedVariables false
set_option linter.unusedSimpArgs false
set_option maxRecDepth 100000
open Go Go.RowKit
attribute [local irreducible] ev sv ks fx dv tv cv ds ptSet ptAdd ptMul ptNeg rpAdd rpMul rpNeg rootC EE II TD BX BY BP Pt.add Pt.neg Pt.mul Pt.nil pbn pt ptEs ptRs LL PZ
section
attribute [local semireducible] pbn
theorem pbn_eq (P : Pt) : pbn P = P.y.val + P.x.val % 2 * 57896044618658097711785492504343953926634992332820282019728792003956564819968 := rfl
end
theorem ptOf_nm {n : Nat} {P : Pt} (h : n = pbn P) (hp : isPt n = true) : P = ptOf n hp := by subst h; exact (ptOf_pbn P).symm
theorem zero_val : (0 : Fin PP).val = 0 := by decide +kernel
set_option maxHeartbeats 8000000 in
theorem law_bytes_a {n : Nat} (hn : n < 115792089237316195423570985008687907853269984665640564039457584007913129639936) (hx : (pt n).x = 0) (w : World) (hpg : PG w) : Calls Tryd.prog 8 #[.agg (ks n)] w (fun rr w' => rr = .returned (.bool true) ∧ Below w.heap.size w w') := by
  obtain ⟨bb, hbb⟩ : ∃ z : Nat, z = pbn (pt n) := ⟨_, rfl⟩
  obtain ⟨xx, hxx⟩ : ∃ z : Nat, z = (pt n).x.val := ⟨_, rfl⟩
  obtain ⟨yy, hyy⟩ : ∃ z : Nat, z = (pt n).y.val := ⟨_, rfl⟩
  have lbb : bb < 115792089237316195423570985008687907853269984665640564039457584007913129639936 := by rw [hbb]; exact pbn_lt _
  have pbb : isPt bb = true := by rw [hbb]; exact isPt_pbn _
  have hb1 := pbn_eq (pt n)
  rw [← hbb, ← hxx, ← hyy] at hb1
  have hyl : yy < 57896044618658097711785492504343953926634992332820282019728792003956564819968 := by rw [hyy]; exact PP_lt255 _
  obtain ⟨tb, htb⟩ : ∃ x : Nat, bb / 256 ^ 31 % 256 = x := ⟨_, rfl⟩
  obtain ⟨ty, hty⟩ : ∃ x : Nat, yy / 256 ^ 31 % 256 = x := ⟨_, rfl⟩
  obtain ⟨tx, htx⟩ : ∃ x : Nat, xx / 256 ^ 0 % 256 = x := ⟨_, rfl⟩
  obtain ⟨xo, hxo⟩ : ∃ x : Nat, tx % 2 = x := ⟨_, rfl⟩
  obtain ⟨nt, hnt⟩ : ∃ x : Nat, tb % 128 + (1 - tb / 128) * 128 = x := ⟨_, rfl⟩
  obtain ⟨zt, hput⟩ : ∃ x : Nat, putd 256 bb 31 nt = x := ⟨_, rfl⟩
  have hxo1 : xx % 2 = xo := by rw [Nat.pow_zero, Nat.div_one] at htx; omega
  rw [hxo1] at hb1
  have hxo2 : xo < 2 := by omega
  have htb1 : tb = ty + xo * 128 := by omega
  have hty1 : ty < 128 := by omega
  have ltb : tb < 256 := by omega
  have htb7 : tb % 128 = ty := by omega
  have hnt1 : nt = ty + (1 - xo) * 128 := by omega
  have lnt : nt < 256 := by omega
  have hp := putd_eq 256 bb 31 nt
  rw [htb, hput] at hp
  have hzt : zt = yy + (1 - xo) * 57896044618658097711785492504343953926634992332820282019728792003956564819968 := by omega
  have lzt : zt < 115792089237316195423570985008687907853269984665640564039457584007913129639936 := by omega
  obtain ⟨ob, hob⟩ : ∃ b, decide (xo = 1) = b := ⟨_, rfl⟩
  have hob2 : decide (tb ≥ 128) = ob := by rw [← hob]; exact decide_eq_decide.mpr (by omega)
  have turn := turn_pt (P := pt n) (n := zt) (by rw [hzt, hyy, ← hxo1, hxx])
  rw [if_pos hx] at turn
  have hx0 : xx = 0 := by rw [hxx, hx]; exact zero_val
  obtain ⟨z1, hz1⟩ : ∃ z : L4 PP, z = ptEs n := ⟨_, rfl⟩
  obtain ⟨z2, hz2⟩ : ∃ z : Pj3, z = ptRs n := ⟨_, rfl⟩
  have rz1 : RepS (pt n) z1 := by rw [hz1]; exact ptEs_rep hn
  have rz2 : RepR (pt n) z2 := by rw [hz2]; exact ptRs_rep hn
  obtain ⟨z3, hz3⟩ : ∃ z : L4 PP, z = ptE (ptX bb) (ofK bb) := ⟨_, rfl⟩
  have rz3 : RepS (ptOf bb pbb) z3 := by rw [hz3]; exact RepS.of (ptOf bb pbb)
  refine calls_st (vs := [.agg (ks n)]) 79 Tryd.func8 rfl Tryd.ntmps8 rfl (fun a W H => ?_)
  replace H : St 79 w a W [(0, .agg (ks n))] [] := H
  refine wp_seq_k (fun K1 hK1 => ?_)
  refine rg_plain ?_
  refine pl_box rfl rfl (bx_keyr n) rfl rfl rfl rfl H ?_
  clear H a W
  intro g1 a W H
  refine pl_does (does_assign rfl rfl) rfl rfl rfl rfl H ?_
  clear H a W
  intro a W H
  refine pl_end ?_
  replace H : St 79 w a W [(2, .bool false), (1, .pointer (some ⟨g1, 0, none⟩))] [(g1, 23, ks n)] := H.pick [0, 1] [0] rfl
  refine hK1 _ _ ?_
  clear hK1
  refine wp_seq_k (fun K2 hK2 => ?_)
  refine drawnS [.val 11 (.agg (cv TD BR)) [] [], .val 12 (.agg (ks n)) [] [0], .val 13 (.tuple #[.agg (sv z1), .agg (tv z2)]) [0, 1] [], .val 10 (.tuple #[.agg (sv z1), .agg (tv z2)]) [2] [], .val 14 (.agg (sv z1)) [3] [], .val 15 (.agg (tv z2)) [3] [], .new 3 29 (sv PZ), .new 4 35 (tv RZ), .ston 6 3 29 (sv PZ) (sv z1) [4], .ston 7 4 35 (tv RZ) (tv z2) [5]] [0, 0, 3, 4, 8, 8, 0, 0, 223, 511] (by kernel_rfl) (by kernel_rfl) (by kernel_rfl) H ⟨⟨does_call rfl ⟨_, Tryd.func11, by kernel_rfl⟩ rfl (fun W hb => rbegin W), wanted_none rfl⟩, ⟨does_load rfl rfl (k := 0) rfl Tryd.underlying23 rfl (info_ks _), wanted_none rfl⟩, ⟨does_call rfl ⟨_, Tryd.func19, by kernel_rfl⟩ rfl (fun W hb => point6 hz1 hz2 hn W (hpg.ext hb)), wanted_none rfl⟩, ⟨does_move rfl rfl, wanted_none rfl⟩, ⟨does_extract rfl rfl (fun _ => rfl), wanted_none rfl⟩, ⟨does_extract rfl rfl (fun _ => rfl), wanted_none rfl⟩, ⟨news_of rfl al_ptZ, rfl⟩, ⟨news_of rfl al_rpt, rfl⟩, ⟨rfl, rfl, fun g => sto_row rfl rfl rfl (info_pt _) (by simp only [sv_size, ev_size, ks_size, fx_size, dv_size, ds_size, tv_size, cv_size] <;> rfl) (sv_one _)⟩, ⟨rfl, rfl, fun g => sto_row rfl rfl rfl (info_rpt _) (by simp only [sv_size, ev_size, ks_size, fx_size, dv_size, ds_size, tv_size, cv_size] <;> rfl) (tv_one _)⟩, trivial⟩ ?_
  clear H a W
  intro G2 a W H
  replace H : St 79 w a W [(11, .agg (cv TD BR)), (12, .agg (ks n)), (13, .tuple #[.agg (sv z1), .agg (tv z2)]), (10, .tuple #[.agg (sv z1), .agg (tv z2)]), (14, .agg (sv z1)), (15, .agg (tv z2)), (3, .pointer (some ⟨(G2 6), 0, none⟩)), (4, .pointer (some ⟨(G2 7), 0, none⟩)), (2, .bool false), (1, .pointer (some ⟨g1, 0, none⟩))] [((G2 6), 29, sv z1), ((G2 7), 35, tv z2), (g1, 23, ks n)] := H
  replace H : St 79 w a W [(3, .pointer (some ⟨(G2 6), 0, none⟩)), (2, .bool false)] [((G2 6), 29, sv z1)] := H.pick [6, 8] [0] rfl
  refine hK2 _ _ ?_
  clear hK2
  refine wp_seq_k (fun K3 hK3 => ?_)
  refine rg_plain ?_
  refine pl_does (does_load rfl rfl (k := 0) rfl Tryd.underlying29 rfl (info_pt _)) rfl rfl rfl rfl H ?_
  clear H a W
  intro a W H
  refine pl_does (does_call rfl ⟨_, Tryd.func13, by kernel_rfl⟩ rfl (fun W hb => bytes_pt rz1 hbb W (hpg.ext hb))) rfl rfl rfl rfl H ?_
  clear H a W
  intro a W H
  refine pl_new (news_of rfl al_key0) rfl rfl rfl rfl H ?_
  clear H a W
  intro g3 a W H
  refine pl_store rfl rfl rfl (k := 0) rfl (info_ks _) (by simp only [sv_size, ev_size, ks_size, fx_size, dv_size, ds_size, tv_size, cv_size] <;> rfl) (ks_one _) rfl rfl H ?_
  clear H a W
  intro a W H
  refine pl_end ?_
  replace H : St 79 w a W [(5, .pointer (some ⟨g3, 0, none⟩)), (3, .pointer (some ⟨(G2 6), 0, none⟩)), (2, .bool false)] [(g3, 23, ks bb), ((G2 6), 29, sv z1)] := H.pick [0, 3, 4] [0, 1] rfl
  refine hK3 _ _ ?_
  clear hK3
  refine wp_seq_k (fun K4 hK4 => ?_)
  refine rg_plain ?_
  refine pl_does (does_load rfl rfl (k := 0) rfl Tryd.underlying23 rfl (info_ks _)) rfl rfl rfl rfl H ?_
  clear H a W
  intro a W H
  refine pl_does (does_call rfl ⟨_, Tryd.func10, by kernel_rfl⟩ rfl (fun W hb => of_yes_nm lbb pbb hz3 W (hpg.ext hb))) rfl rfl rfl rfl H ?_
  clear H a W
  intro a W H
  refine pl_does (does_move rfl rfl) rfl rfl rfl rfl H ?_
  clear H a W
  intro a W H
  refine pl_does (does_extract rfl rfl (fun _ => rfl)) rfl rfl rfl rfl H ?_
  clear H a W
  intro a W H
  refine pl_does (does_extract rfl rfl (fun _ => rfl)) rfl rfl rfl rfl H ?_
  clear H a W
  intro a W H
  refine pl_new (news_of rfl al_ptZ) rfl rfl rfl rfl H ?_
  clear H a W
  intro g4 a W H
  refine pl_store rfl rfl rfl (k := 0) rfl (info_pt _) (by simp only [sv_size, ev_size, ks_size, fx_size, dv_size, ds_size, tv_size, cv_size] <;> rfl) (sv_one _) rfl rfl H ?_
  clear H a W
  intro a W H
  refine pl_does (does_assign rfl rfl) rfl rfl rfl rfl H ?_
  clear H a W
  intro a W H
  refine pl_end ?_
  replace H : St 79 w a W [(7, .bool true), (6, .pointer (some ⟨g4, 0, none⟩)), (5, .pointer (some ⟨g3, 0, none⟩)), (3, .pointer (some ⟨(G2 6), 0, none⟩)), (2, .bool false)] [(g4, 29, sv z3), (g3, 23, ks bb), ((G2 6), 29, sv z1)] := H.pick [0, 1, 7, 8, 9] [0, 1, 2] rfl
  refine hK4 _ _ ?_
  clear hK4
  refine wp_seq_k (fun K5 hK5 => ?_)
  refine wp_seq_k (fun K6 hK6 => ?_)
  refine drawnS [.val 23 (.bool true) [] [], .val 24 (.bool false) [0] [], .val 25 (.bool false) [1] [], .val 26 (.agg (sv z1)) [2] [2], .val 27 (.agg (sv z3)) [2] [0], .val 28 (.bool true) [3, 4, 2] [], .val 29 (.bool false) [5, 2] [], .val 30 (.bool false) [2, 6] [], .val 31 (.bool false) [7] [], .val 32 (.agg (sv z1)) [8] [2], .val 33 (.agg (ks yy)) [9, 8] [], .val 34 (.int .u8 ((ty : Nat) : Int)) [10, 8] [], .val 35 (.pointer (some ⟨g3, 31, none⟩)) [8] [], .val 36 (.int .u8 ((tb : Nat) : Int)) [12, 8] [1], .val 37 (.int .u8 ((ty : Nat) : Int)) [13, 8] [], .val 38 (.bool false) [11, 14, 8] [], .val 39 (.bool false) [8, 15] [], .val 40 (.bool false) [16] [], .val 41 (.agg (sv z1)) [17] [2], .val 42 (.agg (ks xx)) [18, 17] [], .val 43 (.int .u8 ((tx : Nat) : Int)) [19, 17] [], .val 44 (.int .u8 ((xo : Nat) : Int)) [20, 17] [], .val 45 (.bool ob) [21, 17] [], .val 46 (.pointer (some ⟨g3, 31, none⟩)) [17] [], .val 47 (.int .u8 ((tb : Nat) : Int)) [23, 17] [1], .val 48 (.bool ob) [24, 17] [], .val 49 (.bool false) [22, 25, 17] [], .val 50 (.bool false) [17, 26] []] [0, 1, 2, 4, 4, 28, 36, 68, 160, 256, 768, 1280, 256, 4352, 8448, 18688, 33024, 66560, 131072, 393216, 655360, 1179648, 2228224, 131072, 8519680, 16908288, 37879808, 67239936] (by kernel_rfl) (by kernel_rfl) (by kernel_rfl) H ⟨⟨does_move rfl rfl, wanted_none rfl⟩, ⟨does_unOp rfl rfl (fun _ => rfl), wanted_none rfl⟩, ⟨does_move rfl rfl, wanted_none rfl⟩, ⟨does_load rfl rfl (k := 0) rfl Tryd.underlying29 rfl (info_pt _), wanted_some rfl rfl rfl rfl rfl⟩, ⟨does_load rfl rfl (k := 0) rfl Tryd.underlying29 rfl (info_pt _), wanted_some rfl rfl rfl rfl rfl⟩, ⟨does_call rfl ⟨_, Tryd.func25, by kernel_rfl⟩ rfl (fun W hb => equal_pt rz1 rz3 (decide_eq_true (ptOf_nm hbb pbb)) W (hpg.ext hb)), wanted_some rfl rfl rfl rfl rfl⟩, ⟨does_unOp rfl rfl (fun _ => rfl), wanted_some rfl rfl rfl rfl rfl⟩, ⟨does_pick rfl rfl (fun hb => by cases hb) (fun _ => rfl), wanted_none rfl⟩, ⟨does_move rfl rfl, wanted_none rfl⟩, ⟨does_load rfl rfl (k := 0) rfl Tryd.underlying29 rfl (info_pt _), wanted_some rfl rfl rfl rfl rfl⟩, ⟨does_call rfl ⟨_, Tryd.func18, by kernel_rfl⟩ rfl (fun W hb => ptY_nm rz1 hyy W (hpg.ext hb)), wanted_some rfl rfl rfl rfl rfl⟩, ⟨does_index rfl rfl rfl (ix_key (j := 31) (by omega) hty), wanted_some rfl rfl rfl rfl rfl⟩, ⟨does_indexAddr rfl rfl rfl (ia_key31r _), wanted_some rfl rfl rfl rfl rfl⟩, ⟨does_loadAt (v := .int .u8 ((tb : Nat) : Int)) rfl rfl (k := 0) rfl (ld_key31r htb), wanted_some rfl rfl rfl rfl rfl⟩, ⟨does_binOp rfl rfl rfl (b_rem128 ltb htb7 _ _), wanted_some rfl rfl rfl rfl rfl⟩, ⟨does_binOp rfl rfl rfl (b_neq (x := ty) (y := ty) (b := false) (by simp) _ _), wanted_some rfl rfl rfl rfl rfl⟩, ⟨does_pick rfl rfl (fun hb => by cases hb) (fun _ => rfl), wanted_none rfl⟩, ⟨does_move rfl rfl, wanted_none rfl⟩, ⟨does_load rfl rfl (k := 0) rfl Tryd.underlying29 rfl (info_pt _), wanted_some rfl rfl rfl rfl rfl⟩, ⟨does_call rfl ⟨_, Tryd.func16, by kernel_rfl⟩ rfl (fun W hb => ptX_nm rz1 hxx W (hpg.ext hb)), wanted_some rfl rfl rfl rfl rfl⟩, ⟨does_index rfl rfl rfl (ix_key (j := 0) (by omega) htx), wanted_some rfl rfl rfl rfl rfl⟩, ⟨does_binOp rfl rfl rfl (b_rem2 hxo _ _), wanted_some rfl rfl rfl rfl rfl⟩, ⟨does_binOp rfl rfl rfl (b_eql1 hob _ _), wanted_some rfl rfl rfl rfl rfl⟩, ⟨does_indexAddr rfl rfl rfl (ia_key31r _), wanted_some rfl rfl rfl rfl rfl⟩, ⟨does_loadAt (v := .int .u8 ((tb : Nat) : Int)) rfl rfl (k := 0) rfl (ld_key31r htb), wanted_some rfl rfl rfl rfl rfl⟩, ⟨does_binOp rfl rfl rfl (b_geq (y := 128) hob2 _ _), wanted_some rfl rfl rfl rfl rfl⟩, ⟨does_binOp rfl rfl rfl (neq_bool _ _ _), wanted_some rfl rfl rfl rfl rfl⟩, ⟨does_pick rfl rfl (fun hb => by cases hb) (fun _ => rfl), wanted_none rfl⟩, trivial⟩ ?_
  clear H a W
  intro G5 a W H
  replace H : St 79 w a W [(23, .bool true), (24, .bool false), (25, .bool false), (26, .agg (sv z1)), (27, .agg (sv z3)), (28, .bool true), (29, .bool false), (30, .bool false), (31, .bool false), (32, .agg (sv z1)), (33, .agg (ks yy)), (34, .int .u8 ((ty : Nat) : Int)), (35, .pointer (some ⟨g3, 31, none⟩)), (36, .int .u8 ((tb : Nat) : Int)), (37, .int .u8 ((ty : Nat) : Int)), (38, .bool false), (39, .bool false), (40, .bool false), (41, .agg (sv z1)), (42, .agg (ks xx)), (43, .int .u8 ((tx : Nat) : Int)), (44, .int .u8 ((xo : Nat) : Int)), (45, .bool ob), (46, .pointer (some ⟨g3, 31, none⟩)), (47, .int .u8 ((tb : Nat) : Int)), (48, .bool ob), (49, .bool false), (50, .bool false), (7, .bool true), (6, .pointer (some ⟨g4, 0, none⟩)), (5, .pointer (some ⟨g3, 0, none⟩)), (3, .pointer (some ⟨(G2 6), 0, none⟩)), (2, .bool false)] [(g4, 29, sv z3), (g3, 23, ks bb), ((G2 6), 29, sv z1)] := H
  replace H : St 79 w a W [(50, .bool false), (5, .pointer (some ⟨g3, 0, none⟩)), (3, .pointer (some ⟨(G2 6), 0, none⟩)), (2, .bool false)] [(g3, 23, ks bb), ((G2 6), 29, sv z1)] := H.pick [27, 30, 31, 32] [1, 2] rfl
  refine hK6 _ _ ?_
  clear hK6
  refine wp_cond_false (H.ev rfl) ?_
  refine wp_skip ?_
  refine hK5 _ _ ?_
  clear hK5
  refine wp_seq_k (fun K7 hK7 => ?_)
  refine rg_plain ?_
  refine pl_does (does_indexAddr rfl rfl rfl (ia_key31r _)) rfl rfl rfl rfl H ?_
  clear H a W
  intro a W H
  refine pl_does (does_loadAt (v := .int .u8 ((tb : Nat) : Int)) rfl rfl (k := 0) rfl (ld_key31r htb)) rfl rfl rfl rfl H ?_
  clear H a W
  intro a W H
  refine pl_does (does_binOp rfl rfl rfl (b_xor128 ltb hnt _ _)) rfl rfl rfl rfl H ?_
  clear H a W
  intro a W H
  refine pl_does (does_indexAddr rfl rfl rfl (ia_key31r _)) rfl rfl rfl rfl H ?_
  clear H a W
  intro a W H
  refine pl_storeAt rfl rfl rfl (k := 0) rfl st_key31r (sv_key31r lnt hput) rfl rfl H ?_
  clear H a W
  intro a W H
  refine pl_end ?_
  replace H : St 79 w a W [(5, .pointer (some ⟨g3, 0, none⟩)), (3, .pointer (some ⟨(G2 6), 0, none⟩)), (2, .bool false)] [(g3, 23, ks zt), ((G2 6), 29, sv z1)] := H.pick [5, 6, 7] [0, 1] rfl
  refine hK7 _ _ ?_
  clear hK7
  refine wp_seq_k (fun K8 hK8 => ?_)
  refine rg_plain ?_
  refine pl_does (does_load rfl rfl (k := 0) rfl Tryd.underlying23 rfl (info_ks _)) rfl rfl rfl rfl H ?_
  clear H a W
  intro a W H
  refine pl_does (does_call rfl ⟨_, Tryd.func10, by kernel_rfl⟩ rfl (fun W hb => of_no lzt turn W (hpg.ext hb))) rfl rfl rfl rfl H ?_
  clear H a W
  intro a W H
  refine pl_does (does_move rfl rfl) rfl rfl rfl rfl H ?_
  clear H a W
  intro a W H
  refine pl_does (does_extract rfl rfl (fun _ => rfl)) rfl rfl rfl rfl H ?_
  clear H a W
  intro a W H
  refine pl_does (does_extract rfl rfl (fun _ => rfl)) rfl rfl rfl rfl H ?_
  clear H a W
  intro a W H
  refine pl_new (news_of rfl al_ptZ) rfl rfl rfl rfl H ?_
  clear H a W
  intro g6 a W H
  refine pl_store rfl rfl rfl (k := 0) rfl (info_pt _) (by simp only [sv_size, ev_size, ks_size, fx_size, dv_size, ds_size, tv_size, cv_size] <;> rfl) (sv_one _) rfl rfl H ?_
  clear H a W
  intro a W H
  refine pl_does (does_assign rfl rfl) rfl rfl rfl rfl H ?_
  clear H a W
  intro a W H
  refine pl_end ?_
  replace H : St 79 w a W [(9, .bool false), (8, .pointer (some ⟨g6, 0, none⟩)), (3, .pointer (some ⟨(G2 6), 0, none⟩)), (2, .bool false)] [(g6, 29, sv PZ), ((G2 6), 29, sv z1)] := H.pick [0, 1, 8, 9] [0, 2] rfl
  refine hK8 _ _ ?_
  clear hK8
  refine wp_seq_k (fun K9 hK9 => ?_)
  refine wp_seq_k (fun K10 hK10 => ?_)
  refine rg_plain ?_
  refine pl_does (does_load rfl rfl (k := 1) rfl Tryd.underlying29 rfl (info_pt _)) rfl rfl rfl rfl H ?_
  clear H a W
  intro a W H
  refine pl_does (does_call rfl ⟨_, Tryd.func16, by kernel_rfl⟩ rfl (fun W hb => ptX_nm rz1 hxx W (hpg.ext hb))) rfl rfl rfl rfl H ?_
  clear H a W
  intro a W H
  refine pl_does (does_build (ps := []) rfl rfl bd_key0) rfl rfl rfl rfl H ?_
  clear H a W
  intro a W H
  refine pl_does (does_binOp rfl rfl rfl (eq_key_same hx0 _ _)) rfl rfl rfl rfl H ?_
  clear H a W
  intro a W H
  refine pl_end ?_
  replace H : St 79 w a W [(63, .bool true), (9, .bool false), (8, .pointer (some ⟨g6, 0, none⟩)), (3, .pointer (some ⟨(G2 6), 0, none⟩)), (2, .bool false)] [(g6, 29, sv PZ), ((G2 6), 29, sv z1)] := H.pick [0, 4, 5, 6, 7] [0, 1] rfl
  refine hK10 _ _ ?_
  clear hK10
  refine wp_cond_true (H.ev rfl) ?_
  refine wp_seq_k (fun K11 hK11 => ?_)
  refine rg_plain ?_
  refine pl_does (does_move rfl rfl) rfl rfl rfl rfl H ?_
  clear H a W
  intro a W H
  refine pl_does (does_unOp rfl rfl (fun _ => rfl)) rfl rfl rfl rfl H ?_
  clear H a W
  intro a W H
  refine pl_does (does_move rfl rfl) rfl rfl rfl rfl H ?_
  clear H a W
  intro a W H
  refine pl_does_g (does_call rfl ⟨_, Tryd.func14, by kernel_rfl⟩ rfl (fun W hb => known6 W (hpg.ext hb))) (wanted_some rfl rfl rfl rfl rfl) rfl rfl rfl H ?_
  clear H a W
  intro a W H
  refine pl_does (does_pick rfl rfl (fun _ => rfl) (fun hb => by cases hb)) rfl rfl rfl rfl H ?_
  clear H a W
  intro a W H
  replace H : St 79 w a W [(68, .bool true), (67, .bool true), (66, .bool true), (65, .bool true), (64, .bool false), (63, .bool true), (9, .bool false), (8, .pointer (some ⟨g6, 0, none⟩)), (3, .pointer (some ⟨(G2 6), 0, none⟩))] [(g6, 29, sv PZ), ((G2 6), 29, sv z1)] := H.pick [0, 1, 2, 3, 4, 5, 6, 7, 8] [0, 1] rfl
  refine pl_does (does_assign rfl rfl) rfl rfl rfl rfl H ?_
  clear H a W
  intro a W H
  refine pl_end ?_
  replace H : St 79 w a W [(2, .bool true), (9, .bool false), (8, .pointer (some ⟨g6, 0, none⟩)), (3, .pointer (some ⟨(G2 6), 0, none⟩))] [(g6, 29, sv PZ), ((G2 6), 29, sv z1)] := H.pick [0, 7, 8, 9] [0, 1] rfl
  refine hK11 _ _ ?_
  clear hK11
  refine wp_ret ?_
  repeat (first | (with_reducible refine then_ret ?_) | (with_reducible refine blk_ret ?_))
  refine end_tmp (p := 2) rfl rfl H (fun hb => ?_)
  exact ⟨rfl, hb⟩
set_option maxHeartbeats 8000000 in
theorem law_bytes_b {n : Nat} (hn : n < 115792089237316195423570985008687907853269984665640564039457584007913129639936) (hx : ¬ (pt n).x = 0) (w : World) (hpg : PG w) : Calls Tryd.prog 8 #[.agg (ks n)] w (fun rr w' => rr = .returned (.bool true) ∧ Below w.heap.size w w') := by
  obtain ⟨bb, hbb⟩ : ∃ z : Nat, z = pbn (pt n) := ⟨_, rfl⟩
  obtain ⟨xx, hxx⟩ : ∃ z : Nat, z = (pt n).x.val := ⟨_, rfl⟩
  obtain ⟨yy, hyy⟩ : ∃ z : Nat, z = (pt n).y.val := ⟨_, rfl⟩
  have lbb : bb < 115792089237316195423570985008687907853269984665640564039457584007913129639936 := by rw [hbb]; exact pbn_lt _
  have pbb : isPt bb = true := by rw [hbb]; exact isPt_pbn _
  have hb1 := pbn_eq (pt n)
  rw [← hbb, ← hxx, ← hyy] at hb1
  have hyl : yy < 57896044618658097711785492504343953926634992332820282019728792003956564819968 := by rw [hyy]; exact PP_lt255 _
  obtain ⟨tb, htb⟩ : ∃ x : Nat, bb / 256 ^ 31 % 256 = x := ⟨_, rfl⟩
  obtain ⟨ty, hty⟩ : ∃ x : Nat, yy / 256 ^ 31 % 256 = x := ⟨_, rfl⟩
  obtain ⟨tx, htx⟩ : ∃ x : Nat, xx / 256 ^ 0 % 256 = x := ⟨_, rfl⟩
  obtain ⟨xo, hxo⟩ : ∃ x : Nat, tx % 2 = x := ⟨_, rfl⟩
  obtain ⟨nt, hnt⟩ : ∃ x : Nat, tb % 128 + (1 - tb / 128) * 128 = x := ⟨_, rfl⟩
  obtain ⟨zt, hput⟩ : ∃ x : Nat, putd 256 bb 31 nt = x := ⟨_, rfl⟩
  have hxo1 : xx % 2 = xo := by rw [Nat.pow_zero, Nat.div_one] at htx; omega
  rw [hxo1] at hb1
  have hxo2 : xo < 2 := by omega
  have htb1 : tb = ty + xo * 128 := by omega
  have hty1 : ty < 128 := by omega
  have ltb : tb < 256 := by omega
  have htb7 : tb % 128 = ty := by omega
  have hnt1 : nt = ty + (1 - xo) * 128 := by omega
  have lnt : nt < 256 := by omega
  have hp := putd_eq 256 bb 31 nt
  rw [htb, hput] at hp
  have hzt : zt = yy + (1 - xo) * 57896044618658097711785492504343953926634992332820282019728792003956564819968 := by omega
  have lzt : zt < 115792089237316195423570985008687907853269984665640564039457584007913129639936 := by omega
  obtain ⟨ob, hob⟩ : ∃ b, decide (xo = 1) = b := ⟨_, rfl⟩
  have hob2 : decide (tb ≥ 128) = ob := by rw [← hob]; exact decide_eq_decide.mpr (by omega)
  have turn := turn_pt (P := pt n) (n := zt) (by rw [hzt, hyy, ← hxo1, hxx])
  rw [if_neg hx] at turn
  have hyes : isPt zt = true := by rw [turn]; exact isPt_pbn _
  have hx0 : ¬ xx = 0 := fun h => hx (Fin.ext (by rw [← hxx, h, zero_val]))
  have lxx : xx < 115792089237316195423570985008687907853269984665640564039457584007913129639936 := by have := PP_lt255 (pt n).x; rw [← hxx] at this; omega
  obtain ⟨z1, hz1⟩ : ∃ z : L4 PP, z = ptEs n := ⟨_, rfl⟩
  obtain ⟨z2, hz2⟩ : ∃ z : Pj3, z = ptRs n := ⟨_, rfl⟩
  have rz1 : RepS (pt n) z1 := by rw [hz1]; exact ptEs_rep hn
  have rz2 : RepR (pt n) z2 := by rw [hz2]; exact ptRs_rep hn
  obtain ⟨z3, hz3⟩ : ∃ z : L4 PP, z = ptE (ptX bb) (ofK bb) := ⟨_, rfl⟩
  have rz3 : RepS (ptOf bb pbb) z3 := by rw [hz3]; exact RepS.of (ptOf bb pbb)
  obtain ⟨z4, hz4⟩ : ∃ z : L4 PP, z = ptE (ptX zt) (ofK zt) := ⟨_, rfl⟩
  have rz4 : RepS (ptOf zt hyes) z4 := by rw [hz4]; exact RepS.of (ptOf zt hyes)
  obtain ⟨z5, hz5⟩ : ∃ z : L4 PP, z = ptNeg z1 := ⟨_, rfl⟩
  have rz5 : RepS (Pt.neg (pt n)) z5 := by rw [hz5]; exact RepS.neg rz1
  refine calls_st (vs := [.agg (ks n)]) 79 Tryd.func8 rfl Tryd.ntmps8 rfl (fun a W H => ?_)
  replace H : St 79 w a W [(0, .agg (ks n))] [] := H
  refine wp_seq_k (fun K1 hK1 => ?_)
  refine rg_plain ?_
  refine pl_box rfl rfl (bx_keyr n) rfl rfl rfl rfl H ?_
  clear H a W
  intro g1 a W H
  refine pl_does (does_assign rfl rfl) rfl rfl rfl rfl H ?_
  clear H a W
  intro a W H
  refine pl_end ?_
  replace H : St 79 w a W [(2, .bool false), (1, .pointer (some ⟨g1, 0, none⟩))] [(g1, 23, ks n)] := H.pick [0, 1] [0] rfl
  refine hK1 _ _ ?_
  clear hK1
  refine wp_seq_k (fun K2 hK2 => ?_)
  refine drawnS [.val 11 (.agg (cv TD BR)) [] [], .val 12 (.agg (ks n)) [] [0], .val 13 (.tuple #[.agg (sv z1), .agg (tv z2)]) [0, 1] [], .val 10 (.tuple #[.agg (sv z1), .agg (tv z2)]) [2] [], .val 14 (.agg (sv z1)) [3] [], .val 15 (.agg (tv z2)) [3] [], .new 3 29 (sv PZ), .new 4 35 (tv RZ), .ston 6 3 29 (sv PZ) (sv z1) [4], .ston 7 4 35 (tv RZ) (tv z2) [5]] [0, 0, 3, 4, 8, 8, 0, 0, 223, 511] (by kernel_rfl) (by kernel_rfl) (by kernel_rfl) H ⟨⟨does_call rfl ⟨_, Tryd.func11, by kernel_rfl⟩ rfl (fun W hb => rbegin W), wanted_none rfl⟩, ⟨does_load rfl rfl (k := 0) rfl Tryd.underlying23 rfl (info_ks _), wanted_none rfl⟩, ⟨does_call rfl ⟨_, Tryd.func19, by kernel_rfl⟩ rfl (fun W hb => point6 hz1 hz2 hn W (hpg.ext hb)), wanted_none rfl⟩, ⟨does_move rfl rfl, wanted_none rfl⟩, ⟨does_extract rfl rfl (fun _ => rfl), wanted_none rfl⟩, ⟨does_extract rfl rfl (fun _ => rfl), wanted_none rfl⟩, ⟨news_of rfl al_ptZ, rfl⟩, ⟨news_of rfl al_rpt, rfl⟩, ⟨rfl, rfl, fun g => sto_row rfl rfl rfl (info_pt _) (by simp only [sv_size, ev_size, ks_size, fx_size, dv_size, ds_size, tv_size, cv_size] <;> rfl) (sv_one _)⟩, ⟨rfl, rfl, fun g => sto_row rfl rfl rfl (info_rpt _) (by simp only [sv_size, ev_size, ks_size, fx_size, dv_size, ds_size, tv_size, cv_size] <;> rfl) (tv_one _)⟩, trivial⟩ ?_
  clear H a W
  intro G2 a W H
  replace H : St 79 w a W [(11, .agg (cv TD BR)), (12, .agg (ks n)), (13, .tuple #[.agg (sv z1), .agg (tv z2)]), (10, .tuple #[.agg (sv z1), .agg (tv z2)]), (14, .agg (sv z1)), (15, .agg (tv z2)), (3, .pointer (some ⟨(G2 6), 0, none⟩)), (4, .pointer (some ⟨(G2 7), 0, none⟩)), (2, .bool false), (1, .pointer (some ⟨g1, 0, none⟩))] [((G2 6), 29, sv z1), ((G2 7), 35, tv z2), (g1, 23, ks n)] := H
  replace H : St 79 w a W [(3, .pointer (some ⟨(G2 6), 0, none⟩)), (2, .bool false)] [((G2 6), 29, sv z1)] := H.pick [6, 8] [0] rfl
  refine hK2 _ _ ?_
  clear hK2
  refine wp_seq_k (fun K3 hK3 => ?_)
  refine rg_plain ?_
  refine pl_does (does_load rfl rfl (k := 0) rfl Tryd.underlying29 rfl (info_pt _)) rfl rfl rfl rfl H ?_
  clear H a W
  intro a W H
  refine pl_does (does_call rfl ⟨_, Tryd.func13, by kernel_rfl⟩ rfl (fun W hb => bytes_pt rz1 hbb W (hpg.ext hb))) rfl rfl rfl rfl H ?_
  clear H a W
  intro a W H
  refine pl_new (news_of rfl al_key0) rfl rfl rfl rfl H ?_
  clear H a W
  intro g3 a W H
  refine pl_store rfl rfl rfl (k := 0) rfl (info_ks _) (by simp only [sv_size, ev_size, ks_size, fx_size, dv_size, ds_size, tv_size, cv_size] <;> rfl) (ks_one _) rfl rfl H ?_
  clear H a W
  intro a W H
  refine pl_end ?_
  replace H : St 79 w a W [(5, .pointer (some ⟨g3, 0, none⟩)), (3, .pointer (some ⟨(G2 6), 0, none⟩)), (2, .bool false)] [(g3, 23, ks bb), ((G2 6), 29, sv z1)] := H.pick [0, 3, 4] [0, 1] rfl
  refine hK3 _ _ ?_
  clear hK3
  refine wp_seq_k (fun K4 hK4 => ?_)
  refine rg_plain ?_
  refine pl_does (does_load rfl rfl (k := 0) rfl Tryd.underlying23 rfl (info_ks _)) rfl rfl rfl rfl H ?_
  clear H a W
  intro a W H
  refine pl_does (does_call rfl ⟨_, Tryd.func10, by kernel_rfl⟩ rfl (fun W hb => of_yes_nm lbb pbb hz3 W (hpg.ext hb))) rfl rfl rfl rfl H ?_
  clear H a W
  intro a W H
  refine pl_does (does_move rfl rfl) rfl rfl rfl rfl H ?_
  clear H a W
  intro a W H
  refine pl_does (does_extract rfl rfl (fun _ => rfl)) rfl rfl rfl rfl H ?_
  clear H a W
  intro a W H
  refine pl_does (does_extract rfl rfl (fun _ => rfl)) rfl rfl rfl rfl H ?_
  clear H a W
  intro a W H
  refine pl_new (news_of rfl al_ptZ) rfl rfl rfl rfl H ?_
  clear H a W
  intro g4 a W H
  refine pl_store rfl rfl rfl (k := 0) rfl (info_pt _) (by simp only [sv_size, ev_size, ks_size, fx_size, dv_size, ds_size, tv_size, cv_size] <;> rfl) (sv_one _) rfl rfl H ?_
  clear H a W
  intro a W H
  refine pl_does (does_assign rfl rfl) rfl rfl rfl rfl H ?_
  clear H a W
  intro a W H
  refine pl_end ?_
  replace H : St 79 w a W [(7, .bool true), (6, .pointer (some ⟨g4, 0, none⟩)), (5, .pointer (some ⟨g3, 0, none⟩)), (3, .pointer (some ⟨(G2 6), 0, none⟩)), (2, .bool false)] [(g4, 29, sv z3), (g3, 23, ks bb), ((G2 6), 29, sv z1)] := H.pick [0, 1, 7, 8, 9] [0, 1, 2] rfl
  refine hK4 _ _ ?_
  clear hK4
  refine wp_seq_k (fun K5 hK5 => ?_)
  refine wp_seq_k (fun K6 hK6 => ?_)
  refine drawnS [.val 23 (.bool true) [] [], .val 24 (.bool false) [0] [], .val 25 (.bool false) [1] [], .val 26 (.agg (sv z1)) [2] [2], .val 27 (.agg (sv z3)) [2] [0], .val 28 (.bool true) [3, 4, 2] [], .val 29 (.bool false) [5, 2] [], .val 30 (.bool false) [2, 6] [], .val 31 (.bool false) [7] [], .val 32 (.agg (sv z1)) [8] [2], .val 33 (.agg (ks yy)) [9, 8] [], .val 34 (.int .u8 ((ty : Nat) : Int)) [10, 8] [], .val 35 (.pointer (some ⟨g3, 31, none⟩)) [8] [], .val 36 (.int .u8 ((tb : Nat) : Int)) [12, 8] [1], .val 37 (.int .u8 ((ty : Nat) : Int)) [13, 8] [], .val 38 (.bool false) [11, 14, 8] [], .val 39 (.bool false) [8, 15] [], .val 40 (.bool false) [16] [], .val 41 (.agg (sv z1)) [17] [2], .val 42 (.agg (ks xx)) [18, 17] [], .val 43 (.int .u8 ((tx : Nat) : Int)) [19, 17] [], .val 44 (.int .u8 ((xo : Nat) : Int)) [20, 17] [], .val 45 (.bool ob) [21, 17] [], .val 46 (.pointer (some ⟨g3, 31, none⟩)) [17] [], .val 47 (.int .u8 ((tb : Nat) : Int)) [23, 17] [1], .val 48 (.bool ob) [24, 17] [], .val 49 (.bool false) [22, 25, 17] [], .val 50 (.bool false) [17, 26] []] [0, 1, 2, 4, 4, 28, 36, 68, 160, 256, 768, 1280, 256, 4352, 8448, 18688, 33024, 66560, 131072, 393216, 655360, 1179648, 2228224, 131072, 8519680, 16908288, 37879808, 67239936] (by kernel_rfl) (by kernel_rfl) (by kernel_rfl) H ⟨⟨does_move rfl rfl, wanted_none rfl⟩, ⟨does_unOp rfl rfl (fun _ => rfl), wanted_none rfl⟩, ⟨does_move rfl rfl, wanted_none rfl⟩, ⟨does_load rfl rfl (k := 0) rfl Tryd.underlying29 rfl (info_pt _), wanted_some rfl rfl rfl rfl rfl⟩, ⟨does_load rfl rfl (k := 0) rfl Tryd.underlying29 rfl (info_pt _), wanted_some rfl rfl rfl rfl rfl⟩, ⟨does_call rfl ⟨_, Tryd.func25, by kernel_rfl⟩ rfl (fun W hb => equal_pt rz1 rz3 (decide_eq_true (ptOf_nm hbb pbb)) W (hpg.ext hb)), wanted_some rfl rfl rfl rfl rfl⟩, ⟨does_unOp rfl rfl (fun _ => rfl), wanted_some rfl rfl rfl rfl rfl⟩, ⟨does_pick rfl rfl (fun hb => by cases hb) (fun _ => rfl), wanted_none rfl⟩, ⟨does_move rfl rfl, wanted_none rfl⟩, ⟨does_load rfl rfl (k := 0) rfl Tryd.underlying29 rfl (info_pt _), wanted_some rfl rfl rfl rfl rfl⟩, ⟨does_call rfl ⟨_, Tryd.func18, by kernel_rfl⟩ rfl (fun W hb => ptY_nm rz1 hyy W (hpg.ext hb)), wanted_some rfl rfl rfl rfl rfl⟩, ⟨does_index rfl rfl rfl (ix_key (j := 31) (by omega) hty), wanted_some rfl rfl rfl rfl rfl⟩, ⟨does_indexAddr rfl rfl rfl (ia_key31r _), wanted_some rfl rfl rfl rfl rfl⟩, ⟨does_loadAt (v := .int .u8 ((tb : Nat) : Int)) rfl rfl (k := 0) rfl (ld_key31r htb), wanted_some rfl rfl rfl rfl rfl⟩, ⟨does_binOp rfl rfl rfl (b_rem128 ltb htb7 _ _), wanted_some rfl rfl rfl rfl rfl⟩, ⟨does_binOp rfl rfl rfl (b_neq (x := ty) (y := ty) (b := false) (by simp) _ _), wanted_some rfl rfl rfl rfl rfl⟩, ⟨does_pick rfl rfl (fun hb => by cases hb) (fun _ => rfl), wanted_none rfl⟩, ⟨does_move rfl rfl, wanted_none rfl⟩, ⟨does_load rfl rfl (k := 0) rfl Tryd.underlying29 rfl (info_pt _), wanted_some rfl rfl rfl rfl rfl⟩, ⟨does_call rfl ⟨_, Tryd.func16, by kernel_rfl⟩ rfl (fun W hb => ptX_nm rz1 hxx W (hpg.ext hb)), wanted_some rfl rfl rfl rfl rfl⟩, ⟨does_index rfl rfl rfl (ix_key (j := 0) (by omega) htx), wanted_some rfl rfl rfl rfl rfl⟩, ⟨does_binOp rfl rfl rfl (b_rem2 hxo _ _), wanted_some rfl rfl rfl rfl rfl⟩, ⟨does_binOp rfl rfl rfl (b_eql1 hob _ _), wanted_some rfl rfl rfl rfl rfl⟩, ⟨does_indexAddr rfl rfl rfl (ia_key31r _), wanted_some rfl rfl rfl rfl rfl⟩, ⟨does_loadAt (v := .int .u8 ((tb : Nat) : Int)) rfl rfl (k := 0) rfl (ld_key31r htb), wanted_some rfl rfl rfl rfl rfl⟩, ⟨does_binOp rfl rfl rfl (b_geq (y := 128) hob2 _ _), wanted_some rfl rfl rfl rfl rfl⟩, ⟨does_binOp rfl rfl rfl (neq_bool _ _ _), wanted_some rfl rfl rfl rfl rfl⟩, ⟨does_pick rfl rfl (fun hb => by cases hb) (fun _ => rfl), wanted_none rfl⟩, trivial⟩ ?_
  clear H a W
  intro G5 a W H
  replace H : St 79 w a W [(23, .bool true), (24, .bool false), (25, .bool false), (26, .agg (sv z1)), (27, .agg (sv z3)), (28, .bool true), (29, .bool false), (30, .bool false), (31, .bool false), (32, .agg (sv z1)), (33, .agg (ks yy)), (34, .int .u8 ((ty : Nat) : Int)), (35, .pointer (some ⟨g3, 31, none⟩)), (36, .int .u8 ((tb : Nat) : Int)), (37, .int .u8 ((ty : Nat) : Int)), (38, .bool false), (39, .bool false), (40, .bool false), (41, .agg (sv z1)), (42, .agg (ks xx)), (43, .int .u8 ((tx : Nat) : Int)), (44, .int .u8 ((xo : Nat) : Int)), (45, .bool ob), (46, .pointer (some ⟨g3, 31, none⟩)), (47, .int .u8 ((tb : Nat) : Int)), (48, .bool ob), (49, .bool false), (50, .bool false), (7, .bool true), (6, .pointer (some ⟨g4, 0, none⟩)), (5, .pointer (some ⟨g3, 0, none⟩)), (3, .pointer (some ⟨(G2 6), 0, none⟩)), (2, .bool false)] [(g4, 29, sv z3), (g3, 23, ks bb), ((G2 6), 29, sv z1)] := H
  replace H : St 79 w a W [(50, .bool false), (5, .pointer (some ⟨g3, 0, none⟩)), (3, .pointer (some ⟨(G2 6), 0, none⟩)), (2, .bool false)] [(g3, 23, ks bb), ((G2 6), 29, sv z1)] := H.pick [27, 30, 31, 32] [1, 2] rfl
  refine hK6 _ _ ?_
  clear hK6
  refine wp_cond_false (H.ev rfl) ?_
  refine wp_skip ?_
  refine hK5 _ _ ?_
  clear hK5
  refine wp_seq_k (fun K7 hK7 => ?_)
  refine rg_plain ?_
  refine pl_does (does_indexAddr rfl rfl rfl (ia_key31r _)) rfl rfl rfl rfl H ?_
  clear H a W
  intro a W H
  refine pl_does (does_loadAt (v := .int .u8 ((tb : Nat) : Int)) rfl rfl (k := 0) rfl (ld_key31r htb)) rfl rfl rfl rfl H ?_
  clear H a W
  intro a W H
  refine pl_does (does_binOp rfl rfl rfl (b_xor128 ltb hnt _ _)) rfl rfl rfl rfl H ?_
  clear H a W
  intro a W H
  refine pl_does (does_indexAddr rfl rfl rfl (ia_key31r _)) rfl rfl rfl rfl H ?_
  clear H a W
  intro a W H
  refine pl_storeAt rfl rfl rfl (k := 0) rfl st_key31r (sv_key31r lnt hput) rfl rfl H ?_
  clear H a W
  intro a W H
  refine pl_end ?_
  replace H : St 79 w a W [(5, .pointer (some ⟨g3, 0, none⟩)), (3, .pointer (some ⟨(G2 6), 0, none⟩)), (2, .bool false)] [(g3, 23, ks zt), ((G2 6), 29, sv z1)] := H.pick [5, 6, 7] [0, 1] rfl
  refine hK7 _ _ ?_
  clear hK7
  refine wp_seq_k (fun K8 hK8 => ?_)
  refine rg_plain ?_
  refine pl_does (does_load rfl rfl (k := 0) rfl Tryd.underlying23 rfl (info_ks _)) rfl rfl rfl rfl H ?_
  clear H a W
  intro a W H
  refine pl_does (does_call rfl ⟨_, Tryd.func10, by kernel_rfl⟩ rfl (fun W hb => of_yes_nm lzt hyes hz4 W (hpg.ext hb))) rfl rfl rfl rfl H ?_
  clear H a W
  intro a W H
  refine pl_does (does_move rfl rfl) rfl rfl rfl rfl H ?_
  clear H a W
  intro a W H
  refine pl_does (does_extract rfl rfl (fun _ => rfl)) rfl rfl rfl rfl H ?_
  clear H a W
  intro a W H
  refine pl_does (does_extract rfl rfl (fun _ => rfl)) rfl rfl rfl rfl H ?_
  clear H a W
  intro a W H
  refine pl_new (news_of rfl al_ptZ) rfl rfl rfl rfl H ?_
  clear H a W
  intro g6 a W H
  refine pl_store rfl rfl rfl (k := 0) rfl (info_pt _) (by simp only [sv_size, ev_size, ks_size, fx_size, dv_size, ds_size, tv_size, cv_size] <;> rfl) (sv_one _) rfl rfl H ?_
  clear H a W
  intro a W H
  refine pl_does (does_assign rfl rfl) rfl rfl rfl rfl H ?_
  clear H a W
  intro a W H
  refine pl_end ?_
  replace H : St 79 w a W [(9, .bool true), (8, .pointer (some ⟨g6, 0, none⟩)), (3, .pointer (some ⟨(G2 6), 0, none⟩)), (2, .bool false)] [(g6, 29, sv z4), ((G2 6), 29, sv z1)] := H.pick [0, 1, 8, 9] [0, 2] rfl
  refine hK8 _ _ ?_
  clear hK8
  refine wp_seq_k (fun K9 hK9 => ?_)
  refine wp_seq_k (fun K10 hK10 => ?_)
  refine rg_plain ?_
  refine pl_does (does_load rfl rfl (k := 1) rfl Tryd.underlying29 rfl (info_pt _)) rfl rfl rfl rfl H ?_
  clear H a W
  intro a W H
  refine pl_does (does_call rfl ⟨_, Tryd.func16, by kernel_rfl⟩ rfl (fun W hb => ptX_nm rz1 hxx W (hpg.ext hb))) rfl rfl rfl rfl H ?_
  clear H a W
  intro a W H
  refine pl_does (does_build (ps := []) rfl rfl bd_key0) rfl rfl rfl rfl H ?_
  clear H a W
  intro a W H
  refine pl_does (does_binOp rfl rfl rfl (eq_key lxx (by omega) (decide_eq_false hx0) _ _)) rfl rfl rfl rfl H ?_
  clear H a W
  intro a W H
  refine pl_end ?_
  replace H : St 79 w a W [(63, .bool false), (9, .bool true), (8, .pointer (some ⟨g6, 0, none⟩)), (3, .pointer (some ⟨(G2 6), 0, none⟩)), (2, .bool false)] [(g6, 29, sv z4), ((G2 6), 29, sv z1)] := H.pick [0, 4, 5, 6, 7] [0, 1] rfl
  refine hK10 _ _ ?_
  clear hK10
  refine wp_cond_false (H.ev rfl) ?_
  refine wp_skip ?_
  refine hK9 _ _ ?_
  clear hK9
  refine wp_seq_k (fun K11 hK11 => ?_)
  replace H : St 79 w a W [(63, .bool false), (9, .bool true), (8, .pointer (some ⟨g6, 0, none⟩)), (3, .pointer (some ⟨(G2 6), 0, none⟩))] [(g6, 29, sv z4), ((G2 6), 29, sv z1)] := H.pick [0, 1, 2, 3] [0, 1] rfl
  refine drawnS [.val 69 (.bool true) [] [], .val 70 (.bool true) [0] [], .val 71 (.agg (sv z4)) [1] [0], .val 72 (.agg (sv z1)) [1] [1], .val 73 (.agg (sv z5)) [3, 1] [], .val 74 (.bool true) [2, 4, 1] [], .val 75 (.bool true) [1, 5] [], .val 76 (.bool true) [6] [], .val 77 (.bool true) [7] [], .val 78 (.bool true) [7, 8] [], .val 2 (.bool true) [9] []] [0, 1, 2, 2, 10, 22, 34, 96, 128, 384, 1023] (by kernel_rfl) (by kernel_rfl) (by kernel_rfl) H ⟨⟨does_move rfl rfl, wanted_none rfl⟩, ⟨does_move rfl rfl, wanted_none rfl⟩, ⟨does_load rfl rfl (k := 0) rfl Tryd.underlying29 rfl (info_pt _), wanted_some rfl rfl rfl rfl rfl⟩, ⟨does_load rfl rfl (k := 0) rfl Tryd.underlying29 rfl (info_pt _), wanted_some rfl rfl rfl rfl rfl⟩, ⟨does_call rfl ⟨_, Tryd.func23, by kernel_rfl⟩ rfl (fun W hb => neg_pt hz5 W (hpg.ext hb)), wanted_some rfl rfl rfl rfl rfl⟩, ⟨does_call rfl ⟨_, Tryd.func25, by kernel_rfl⟩ rfl (fun W hb => equal_pt rz4 rz5 (decide_eq_true (ptOf_nm turn hyes).symm) W (hpg.ext hb)), wanted_some rfl rfl rfl rfl rfl⟩, ⟨does_pick rfl rfl (fun _ => rfl) (fun hb => by cases hb), wanted_none rfl⟩, ⟨does_move rfl rfl, wanted_none rfl⟩, ⟨does_call rfl ⟨_, Tryd.func14, by kernel_rfl⟩ rfl (fun W hb => known6 W (hpg.ext hb)), wanted_some rfl rfl rfl rfl rfl⟩, ⟨does_pick rfl rfl (fun _ => rfl) (fun hb => by cases hb), wanted_none rfl⟩, ⟨does_assign rfl rfl, wanted_none rfl⟩, trivial⟩ ?_
  clear H a W
  intro G7 a W H
  replace H : St 79 w a W [(69, .bool true), (70, .bool true), (71, .agg (sv z4)), (72, .agg (sv z1)), (73, .agg (sv z5)), (74, .bool true), (75, .bool true), (76, .bool true), (77, .bool true), (78, .bool true), (2, .bool true), (63, .bool false), (9, .bool true), (8, .pointer (some ⟨g6, 0, none⟩)), (3, .pointer (some ⟨(G2 6), 0, none⟩))] [(g6, 29, sv z4), ((G2 6), 29, sv z1)] := H
  replace H : St 79 w a W [(2, .bool true)] [] := H.pick [10] [] rfl
  refine hK11 _ _ ?_
  clear hK11
  refine wp_ret ?_
  repeat (first | (with_reducible refine then_ret ?_) | (with_reducible refine blk_ret ?_))
  refine end_tmp (p := 2) rfl rfl H (fun hb => ?_)
  exact ⟨rfl, hb⟩
theorem law_bytes (n : Nat) (w : World) (hpg : PG w) (hn : n < 115792089237316195423570985008687907853269984665640564039457584007913129639936) : Calls Tryd.prog 8 #[.agg (ks n)] w (BPost true w) := by
  by_cases hx : (pt n).x = 0
  · exact law_bytes_a hn hx w hpg
  · exact law_bytes_b hn hx w hpg
end Go.Proofs.YtcijaoihcckofaaDoor
