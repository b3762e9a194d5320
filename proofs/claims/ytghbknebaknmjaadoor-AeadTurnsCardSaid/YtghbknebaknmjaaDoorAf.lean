/- The laws of layer 10: the chapter's row; what is sealed, what is opened, another mark; numbers' nonces. -/
import Derived.Test.YtghbknebaknmjaaDoorAp
namespace Go.Proofs.YtghbknebaknmjaaDoor
set_option linter.unusedVariables false
set_option linter.unusedSimpArgs false
set_option maxRecDepth 100000
open Go Go.RowKit Cha
attribute [local irreducible] nv bvs rb bv wc uc tagF blockF xorF n8 zs padN macB encB endF OutF padL strB sealB nonceF NK

set_option maxHeartbeats 4000000 in
theorem known_any (w : World) (hpg : PG w) : Calls Tryd.prog 7 #[] w (fun rr w' => rr = .returned (.bool true) ∧ Below w.heap.size w w') := by
  refine calls_st (vs := []) 12 Tryd.func7 rfl Tryd.ntmps7 rfl (fun a W H => ?_)
  replace H : St 12 w a W [] [] := H
  refine wp_seq_k (fun K1 hK1 => ?_)
  refine rg_plain ?_
  refine pl_does (does_assign rfl rfl) rfl rfl rfl rfl H ?_
  try clear H a W
  intro a W H
  refine pl_end ?_
  refine hK1 _ _ ?_
  clear hK1
  refine wp_seq_k (fun K2 hK2 => ?_)
  refine drawnR SB SB [⟨4, fun u_ _ => u_ = .agg (bvs (rb 32 b0s)), [], none, false⟩, ⟨5, fun u_ _ => u_ = .agg (bvs (rb 12 (nonceF 1))), [], none, false⟩, ⟨6, SF w.heap.size [] 15 (zs 15), [], none, false⟩, ⟨7, fun u_ _ => u_ = .tuple #[.slice none 0 0, .int .i64 8], [0, 1, 2], none, false⟩, ⟨3, fun u_ _ => u_ = .tuple #[.slice none 0 0, .int .i64 8], [3], none, false⟩, ⟨8, fun u_ _ => u_ = .slice none 0 0, [4], none, false⟩, ⟨9, fun u_ _ => u_ = .int .i64 8, [4], none, false⟩, ⟨1, fun u_ _ => u_ = .slice none 0 0, [5], none, false⟩] [0, 0, 0, 7, 8, 16, 16, 63, 255] [6] sb_st sb_st (by kernel_rfl) (by kernel_rfl) (by kernel_rfl) H ⟨⟨fun a W  H => by exact ob_valS H (wanted_none rfl) (does_build (ps := []) rfl rfl bd_key), val_grow, fun _ => val_grow⟩, ⟨fun a W  H => by exact ob_calS H (wanted_none rfl) rfl ⟨_, Tryd.func8, by kernel_rfl⟩ rfl (nonce_1 W), val_grow, fun _ => val_grow⟩, ⟨fun a W  H => by exact ob_makeS H (wanted_none rfl) rfl rfl rfl (by omega), SF.sb, fun _ => SF.sb⟩, ⟨fun a W y0 hy0 y1 hy1 v6 hv6 H => by subst hy0; subst hy1; exact ob_calS H (wanted_none rfl) rfl ⟨_, Tryd.func10, by kernel_rfl⟩ rfl (open_short (la := []) b0s (nonceF 1) _ (BF.nil _) hv6.bf (by rw [zs_len]; omega)), val_grow, fun _ => val_grow⟩, ⟨fun a W y3 hy3 H => by subst hy3; exact ob_valS H (wanted_none rfl) (does_move rfl rfl), val_grow, fun _ => val_grow⟩, ⟨fun a W y4 hy4 H => by subst hy4; exact ob_valS H (wanted_none rfl) (does_extract rfl rfl (fun _ => rfl)), val_grow, fun _ => val_grow⟩, ⟨fun a W y4 hy4 H => by subst hy4; exact ob_valS H (wanted_none rfl) (does_extract rfl rfl (fun _ => rfl)), val_grow, fun _ => val_grow⟩, ⟨fun a W y5 hy5 H => by subst hy5; exact ob_valS H (wanted_none rfl) (does_assign rfl rfl), val_grow, fun _ => val_grow⟩, trivial⟩ (by kernel_rfl) ?_
  try clear H a W
  intro a W
  rintro _ rfl
  intro H
  replace H : St 12 w a W [(9, .int .i64 8), (0, .bool false)] [] := H
  refine pl_does (does_assign rfl rfl) rfl rfl rfl rfl H ?_
  try clear H a W
  intro a W H
  refine pl_end ?_
  replace H : St 12 w a W [(2, .int .i64 8), (0, .bool false)] [] := H.pick [0, 2] [] rfl
  refine hK2 _ _ ?_
  clear hK2
  refine wp_seq_k (fun K3 hK3 => ?_)
  refine rg_plain ?_
  refine pl_does (does_move rfl rfl) rfl rfl rfl rfl H ?_
  try clear H a W
  intro a W H
  refine pl_does (does_binOp rfl rfl rfl (e_eql _ _ _)) rfl rfl rfl rfl H ?_
  try clear H a W
  intro a W H
  replace H : St 12 w a W [(11, .bool true), (10, .int .i64 8), (2, .int .i64 8)] [] := H.pick [0, 1, 2] [] rfl
  refine pl_does (does_assign rfl rfl) rfl rfl rfl rfl H ?_
  try clear H a W
  intro a W H
  refine pl_end ?_
  replace H : St 12 w a W [(0, .bool true)] [] := H.pick [0] [] rfl
  refine hK3 _ _ ?_
  clear hK3
  refine wp_ret ?_
  repeat (first | (with_reducible refine then_ret ?_) | (with_reducible refine blk_ret ?_))
  refine end_tmp (p := 0) rfl rfl H (fun hb => ?_)
  exact ⟨rfl, hb⟩
set_option maxHeartbeats 4000000 in
theorem law_counts {x y : Nat} (hx : x < 18446744073709551616) (hy : y < 18446744073709551616) (w : World) (hpg : PG w) : Calls Tryd.prog 6 #[uc x, uc y] w (fun rr w' => rr = .returned (.bool true) ∧ Below w.heap.size w w') := by
  obtain ⟨be, hbe⟩ : ∃ b : Bool, decide (x = y) = b := ⟨_, rfl⟩
  refine calls_st (vs := [uc x, uc y]) 60 Tryd.func6 rfl Tryd.ntmps6 rfl (fun a W H => ?_)
  replace H : St 60 w a W [(0, uc x), (1, uc y)] [] := H
  refine wp_seq_k (fun K1 hK1 => ?_)
  refine rg_plain ?_
  refine pl_does (does_assign rfl rfl) rfl rfl rfl rfl H ?_
  try clear H a W
  intro a W H
  refine pl_end ?_
  refine hK1 _ _ ?_
  clear hK1
  refine wp_seq_k (fun K2 hK2 => ?_)
  refine rg_plain ?_
  refine pl_does (does_move rfl rfl) rfl rfl rfl rfl H ?_
  try clear H a W
  intro a W H
  refine pl_does (does_call rfl ⟨_, Tryd.func8, by kernel_rfl⟩ rfl (fun W hb => nonce_any _ W)) rfl rfl rfl rfl H ?_
  try clear H a W
  intro a W H
  refine pl_does (does_move rfl rfl) rfl rfl rfl rfl H ?_
  try clear H a W
  intro a W H
  refine pl_does (does_call rfl ⟨_, Tryd.func8, by kernel_rfl⟩ rfl (fun W hb => nonce_any _ W)) rfl rfl rfl rfl H ?_
  try clear H a W
  intro a W H
  refine pl_new (news_of rfl al_nonce) rfl rfl rfl rfl H ?_
  try clear H a W
  intro g1 a W H
  refine pl_new (news_of rfl al_nonce) rfl rfl rfl rfl H ?_
  try clear H a W
  intro g2 a W H
  refine pl_store rfl rfl rfl (k := 1) rfl (info_nonce _) (size_rb _ _ _) (bvs_one _) rfl rfl H ?_
  try clear H a W
  intro a W H
  refine pl_store rfl rfl rfl (k := 0) rfl (info_nonce _) (size_rb _ _ _) (bvs_one _) rfl rfl H ?_
  try clear H a W
  intro a W H
  refine pl_end ?_
  replace H : St 60 w a W [(6, .pointer (some ⟨g2, 0, none⟩)), (5, .pointer (some ⟨g1, 0, none⟩)), (4, .bool false), (0, uc x), (1, uc y)] [(g2, 27, bvs (rb 12 (nonceF y))), (g1, 27, bvs (rb 12 (nonceF x)))] := H.pick [0, 1, 6, 7, 8] [0, 1] rfl
  refine hK2 _ _ ?_
  clear hK2
  refine wp_seq_k (fun K3 hK3 => ?_)
  refine rg_plain ?_
  refine pl_does (does_assign rfl rfl) rfl rfl rfl rfl H ?_
  try clear H a W
  intro a W H
  refine pl_end ?_
  refine hK3 _ _ ?_
  clear hK3
  refine wp_seq_k (fun K4 hK4 => ?_)
  refine wp_seq_k (fun K5 hK5 => ?_)
  refine rg_plain ?_
  refine pl_does (does_assign rfl rfl) rfl rfl rfl rfl H ?_
  try clear H a W
  intro a W H
  refine pl_end ?_
  refine hK5 _ _ ?_
  clear hK5
  rw [uc_0 hx] at H
  replace H : St 60 w a W [(8, .int .i64 7), (7, uc (NK x 0)), (6, .pointer (some ⟨g2, 0, none⟩)), (5, .pointer (some ⟨g1, 0, none⟩)), (4, .bool false), (0, uc x), (1, uc y)] [(g2, 27, bvs (rb 12 (nonceF y))), (g1, 27, bvs (rb 12 (nonceF x)))] := H
  refine wp_block ?_
  replace H : St 60 w a W [(8, .int .i64 (7 - ((0 : Nat) : Int))), (7, uc (NK x 0)), (6, .pointer (some ⟨g2, 0, none⟩)), (5, .pointer (some ⟨g1, 0, none⟩)), (4, .bool false), (0, uc x), (1, uc y)] [(g2, 27, bvs (rb 12 (nonceF y))), (g1, 27, bvs (rb 12 (nonceF x)))] := H.pick [0, 1, 2, 3, 4, 5, 6] [0, 1] rfl
  refine wp_rounds 8 (fun k a W => St 60 w a W [(8, .int .i64 (7 - ((k : Nat) : Int))), (7, uc (NK x k)), (6, .pointer (some ⟨g2, 0, none⟩)), (5, .pointer (some ⟨g1, 0, none⟩)), (4, .bool false), (0, uc x), (1, uc y)] [(g2, 27, bvs (rb 12 (nonceF y))), (g1, 27, bvs (rb 12 (nonceF x)))]) (k0 := 0) H (by omega) ?_
  try clear H a W
  intro k a W hk H
  by_cases hk2 : k < 8
  · obtain ⟨j, hkj⟩ : ∃ j, k + j = 7 := ⟨7 - k, by omega⟩
    have hstep := NK_step x hkj
    have hs1 := NK_le hx (k + 1)
    have hs2 := (nonceF x (4 + j)).toNat_lt
    rw [show (7 - ((k : Nat) : Int)) = (j : Int) by omega] at H
    replace H : St 60 w a W [(8, .int .i64 ((j : Nat) : Int)), (7, uc (NK x k)), (6, .pointer (some ⟨g2, 0, none⟩)), (5, .pointer (some ⟨g1, 0, none⟩)), (4, .bool false), (0, uc x), (1, uc y)] [(g2, 27, bvs (rb 12 (nonceF y))), (g1, 27, bvs (rb 12 (nonceF x)))] := H
    refine wp_seq_k (fun K6 hK6 => ?_)
    refine wp_seq_k (fun K7 hK7 => ?_)
    refine rg_plain ?_
    refine pl_does (does_move rfl rfl) rfl rfl rfl rfl H ?_
    try clear H a W
    intro a W H
    refine pl_does (does_binOp rfl rfl rfl (i_geqZ (decide_eq_true (by omega)) _ _)) rfl rfl rfl rfl H ?_
    try clear H a W
    intro a W H
    refine pl_end ?_
    refine hK7 _ _ ?_
    clear hK7
    refine wp_cond_true (H.ev rfl) ?_
    refine wp_skip ?_
    refine hK6 _ _ ?_
    clear hK6
    refine wp_seq_k (fun K8 hK8 => ?_)
    refine wp_block ?_
    refine rg_plain ?_
    refine pl_does (does_move rfl rfl) rfl rfl rfl rfl H ?_
    try clear H a W
    intro a W H
    refine pl_does (does_binOp rfl rfl rfl (u_mul256 (by omega) _ _)) rfl rfl rfl rfl H ?_
    try clear H a W
    intro a W H
    refine pl_does (does_move rfl rfl) rfl rfl rfl rfl H ?_
    try clear H a W
    intro a W H
    refine pl_does (does_binOp rfl rfl rfl (i_addE2 (k := 4) (m := j) rfl (by omega) _ _)) rfl rfl rfl rfl H ?_
    try clear H a W
    intro a W H
    refine pl_does (does_indexAddr rfl rfl rfl (ia_nonce (j := (4 + j)) (by omega))) rfl rfl rfl rfl H ?_
    try clear H a W
    intro a W H
    refine pl_does (does_loadAt (v := bv ((nonceF x) (4 + j))) rfl rfl (k := 1) rfl (ld_byte (by omega))) rfl rfl rfl rfl H ?_
    try clear H a W
    intro a W H
    refine pl_does (does_convert rfl rfl (cv_bu _)) rfl rfl rfl rfl H ?_
    try clear H a W
    intro a W H
    refine pl_does (does_binOp rfl rfl rfl (u_addE (hstep) (by omega) _ _)) rfl rfl rfl rfl H ?_
    try clear H a W
    intro a W H
    replace H : St 60 w a W [(24, uc (NK x (k + 1))), (23, uc (((nonceF x) (4 + j)).toNat)), (22, bv ((nonceF x) (4 + j))), (21, .pointer (some ⟨g1, 4 + j, none⟩)), (20, .int .i64 ((4 + j : Nat) : Int)), (19, .int .i64 ((j : Nat) : Int)), (18, uc (NK x k * 256)), (17, uc (NK x k)), (14, .bool true), (13, .int .i64 ((j : Nat) : Int)), (8, .int .i64 ((j : Nat) : Int)), (6, .pointer (some ⟨g2, 0, none⟩)), (5, .pointer (some ⟨g1, 0, none⟩)), (4, .bool false), (0, uc x), (1, uc y)] [(g2, 27, bvs (rb 12 (nonceF y))), (g1, 27, bvs (rb 12 (nonceF x)))] := H.pick [0, 1, 2, 3, 4, 5, 6, 7, 8, 9, 10, 12, 13, 14, 15, 16] [0, 1] rfl
    refine pl_does (does_assign rfl rfl) rfl rfl rfl rfl H ?_
    try clear H a W
    intro a W H
    refine pl_end ?_
    refine blk_normal ?_
    refine hK8 _ _ ?_
    clear hK8
    refine rg_plain ?_
    refine pl_does (does_move rfl rfl) rfl rfl rfl rfl H ?_
    try clear H a W
    intro a W H
    refine pl_does (does_binOp rfl rfl rfl (i_dec hkj _ _)) rfl rfl rfl rfl H ?_
    try clear H a W
    intro a W H
    replace H : St 60 w a W [(16, .int .i64 (7 - ((k + 1 : Nat) : Int))), (15, .int .i64 ((j : Nat) : Int)), (7, uc (NK x (k + 1))), (24, uc (NK x (k + 1))), (23, uc (((nonceF x) (4 + j)).toNat)), (22, bv ((nonceF x) (4 + j))), (21, .pointer (some ⟨g1, 4 + j, none⟩)), (20, .int .i64 ((4 + j : Nat) : Int)), (19, .int .i64 ((j : Nat) : Int)), (18, uc (NK x k * 256)), (17, uc (NK x k)), (14, .bool true), (13, .int .i64 ((j : Nat) : Int)), (6, .pointer (some ⟨g2, 0, none⟩)), (5, .pointer (some ⟨g1, 0, none⟩)), (4, .bool false), (0, uc x), (1, uc y)] [(g2, 27, bvs (rb 12 (nonceF y))), (g1, 27, bvs (rb 12 (nonceF x)))] := H.pick [0, 1, 2, 3, 4, 5, 6, 7, 8, 9, 10, 11, 12, 14, 15, 16, 17, 18] [0, 1] rfl
    refine pl_does (does_assign rfl rfl) rfl rfl rfl rfl H ?_
    try clear H a W
    intro a W H
    refine pl_end ?_
    refine ⟨k + 1, by omega, by omega, ?_⟩
    show St 60 w a W [(8, .int .i64 (7 - ((k + 1 : Nat) : Int))), (7, uc (NK x (k + 1))), (6, .pointer (some ⟨g2, 0, none⟩)), (5, .pointer (some ⟨g1, 0, none⟩)), (4, .bool false), (0, uc x), (1, uc y)] [(g2, 27, bvs (rb 12 (nonceF y))), (g1, 27, bvs (rb 12 (nonceF x)))]
    exact H.pick [0, 3, 14, 15, 16, 17, 18] [0, 1] rfl
  · obtain rfl : 8 = k := by omega
    refine wp_seq_k (fun K9 hK9 => ?_)
    refine wp_seq_k (fun K10 hK10 => ?_)
    refine rg_plain ?_
    refine pl_does (does_move rfl rfl) rfl rfl rfl rfl H ?_
    try clear H a W
    intro a W H
    refine pl_does (does_binOp rfl rfl rfl (i_geqZ (decide_eq_false (by omega)) _ _)) rfl rfl rfl rfl H ?_
    try clear H a W
    intro a W H
    refine pl_end ?_
    replace H : St 60 w a W [(14, .bool false), (8, .int .i64 (7 - ((8 : Nat) : Int))), (7, uc (NK x 8)), (6, .pointer (some ⟨g2, 0, none⟩)), (5, .pointer (some ⟨g1, 0, none⟩)), (4, .bool false), (0, uc x), (1, uc y)] [(g2, 27, bvs (rb 12 (nonceF y))), (g1, 27, bvs (rb 12 (nonceF x)))] := H.pick [0, 2, 3, 4, 5, 6, 7, 8] [0, 1] rfl
    refine hK10 _ _ ?_
    clear hK10
    refine wp_cond_false (H.ev rfl) ?_
    refine wp_exit ?_
    repeat (with_reducible refine then_exit ?_)
    refine blk_exit ?_
    rw [NK_8] at H
    replace H : St 60 w a W [(14, .bool false), (8, .int .i64 (7 - ((8 : Nat) : Int))), (7, uc x), (6, .pointer (some ⟨g2, 0, none⟩)), (5, .pointer (some ⟨g1, 0, none⟩)), (4, .bool false), (0, uc x), (1, uc y)] [(g2, 27, bvs (rb 12 (nonceF y))), (g1, 27, bvs (rb 12 (nonceF x)))] := H
    refine hK4 _ _ ?_
    clear hK4
    refine wp_seq_k (fun K11 hK11 => ?_)
    refine rg_plain ?_
    refine pl_does (does_move rfl rfl) rfl rfl rfl rfl H ?_
    try clear H a W
    intro a W H
    refine pl_does (does_move rfl rfl) rfl rfl rfl rfl H ?_
    try clear H a W
    intro a W H
    refine pl_does (does_binOp rfl rfl rfl (u_eqlB (decide_eq_true rfl) _ _)) rfl rfl rfl rfl H ?_
    try clear H a W
    intro a W H
    refine pl_does (does_move rfl rfl) rfl rfl rfl rfl H ?_
    try clear H a W
    intro a W H
    refine pl_does_g (does_indexAddr rfl rfl rfl (ia_nonce (j := 0) (by omega))) (wanted_some rfl rfl rfl rfl rfl) rfl rfl rfl H ?_
    try clear H a W
    intro a W H
    refine pl_does_g (does_loadAt (v := bv ((nonceF x) 0)) rfl rfl (k := 1) rfl (ld_byte (by omega))) (wanted_some rfl rfl rfl rfl rfl) rfl rfl rfl H ?_
    try clear H a W
    intro a W H
    refine pl_does_g (does_binOp rfl rfl rfl (b_eql_yes (m := 0) (nonce_z x (by omega)) _ _)) (wanted_some rfl rfl rfl rfl rfl) rfl rfl rfl H ?_
    try clear H a W
    intro a W H
    refine pl_does (does_pick rfl rfl (fun _ => rfl) (fun hb => by cases hb)) rfl rfl rfl rfl H ?_
    try clear H a W
    intro a W H
    refine pl_does (does_move rfl rfl) rfl rfl rfl rfl H ?_
    try clear H a W
    intro a W H
    refine pl_does_g (does_indexAddr rfl rfl rfl (ia_nonce (j := 1) (by omega))) (wanted_some rfl rfl rfl rfl rfl) rfl rfl rfl H ?_
    try clear H a W
    intro a W H
    refine pl_does_g (does_loadAt (v := bv ((nonceF x) 1)) rfl rfl (k := 1) rfl (ld_byte (by omega))) (wanted_some rfl rfl rfl rfl rfl) rfl rfl rfl H ?_
    try clear H a W
    intro a W H
    refine pl_does_g (does_binOp rfl rfl rfl (b_eql_yes (m := 0) (nonce_z x (by omega)) _ _)) (wanted_some rfl rfl rfl rfl rfl) rfl rfl rfl H ?_
    try clear H a W
    intro a W H
    refine pl_does (does_pick rfl rfl (fun _ => rfl) (fun hb => by cases hb)) rfl rfl rfl rfl H ?_
    try clear H a W
    intro a W H
    refine pl_does (does_move rfl rfl) rfl rfl rfl rfl H ?_
    try clear H a W
    intro a W H
    refine pl_does_g (does_indexAddr rfl rfl rfl (ia_nonce (j := 2) (by omega))) (wanted_some rfl rfl rfl rfl rfl) rfl rfl rfl H ?_
    try clear H a W
    intro a W H
    refine pl_does_g (does_loadAt (v := bv ((nonceF x) 2)) rfl rfl (k := 1) rfl (ld_byte (by omega))) (wanted_some rfl rfl rfl rfl rfl) rfl rfl rfl H ?_
    try clear H a W
    intro a W H
    refine pl_does_g (does_binOp rfl rfl rfl (b_eql_yes (m := 0) (nonce_z x (by omega)) _ _)) (wanted_some rfl rfl rfl rfl rfl) rfl rfl rfl H ?_
    try clear H a W
    intro a W H
    refine pl_does (does_pick rfl rfl (fun _ => rfl) (fun hb => by cases hb)) rfl rfl rfl rfl H ?_
    try clear H a W
    intro a W H
    refine pl_does (does_move rfl rfl) rfl rfl rfl rfl H ?_
    try clear H a W
    intro a W H
    refine pl_does_g (does_indexAddr rfl rfl rfl (ia_nonce (j := 3) (by omega))) (wanted_some rfl rfl rfl rfl rfl) rfl rfl rfl H ?_
    try clear H a W
    intro a W H
    refine pl_does_g (does_loadAt (v := bv ((nonceF x) 3)) rfl rfl (k := 1) rfl (ld_byte (by omega))) (wanted_some rfl rfl rfl rfl rfl) rfl rfl rfl H ?_
    try clear H a W
    intro a W H
    refine pl_does_g (does_binOp rfl rfl rfl (b_eql_yes (m := 0) (nonce_z x (by omega)) _ _)) (wanted_some rfl rfl rfl rfl rfl) rfl rfl rfl H ?_
    try clear H a W
    intro a W H
    refine pl_does (does_pick rfl rfl (fun _ => rfl) (fun hb => by cases hb)) rfl rfl rfl rfl H ?_
    try clear H a W
    intro a W H
    refine pl_does (does_move rfl rfl) rfl rfl rfl rfl H ?_
    try clear H a W
    intro a W H
    refine pl_does_g (does_load rfl rfl (k := 1) rfl Tryd.underlying27 rfl (info_nonce _)) (wanted_some rfl rfl rfl rfl rfl) rfl rfl rfl H ?_
    try clear H a W
    intro a W H
    refine pl_does_g (does_load rfl rfl (k := 0) rfl Tryd.underlying27 rfl (info_nonce _)) (wanted_some rfl rfl rfl rfl rfl) rfl rfl rfl H ?_
    try clear H a W
    intro a W H
    refine pl_does_g (does_binOp rfl rfl rfl (n_eqlB (nonce_dec hx hy hbe) _ _)) (wanted_some rfl rfl rfl rfl rfl) rfl rfl rfl H ?_
    try clear H a W
    intro a W H
    refine pl_does_g (does_move rfl rfl) (wanted_some rfl rfl rfl rfl rfl) rfl rfl rfl H ?_
    try clear H a W
    intro a W H
    refine pl_does_g (does_move rfl rfl) (wanted_some rfl rfl rfl rfl rfl) rfl rfl rfl H ?_
    try clear H a W
    intro a W H
    refine pl_does_g (does_binOp rfl rfl rfl (u_eqlB hbe _ _)) (wanted_some rfl rfl rfl rfl rfl) rfl rfl rfl H ?_
    try clear H a W
    intro a W H
    refine pl_does_g (does_binOp rfl rfl rfl (s_bool _ _ _)) (wanted_some rfl rfl rfl rfl rfl) rfl rfl rfl H ?_
    try clear H a W
    intro a W H
    refine pl_does (does_pick rfl rfl (fun _ => rfl) (fun hb => by cases hb)) rfl rfl rfl rfl H ?_
    try clear H a W
    intro a W H
    refine pl_does (does_move rfl rfl) rfl rfl rfl rfl H ?_
    try clear H a W
    intro a W H
    refine pl_does_g (does_call rfl ⟨_, Tryd.func7, by kernel_rfl⟩ rfl (fun W hb => known_any W (hpg.ext hb))) (wanted_some rfl rfl rfl rfl rfl) rfl rfl rfl H ?_
    try clear H a W
    intro a W H
    refine pl_does (does_pick rfl rfl (fun _ => rfl) (fun hb => by cases hb)) rfl rfl rfl rfl H ?_
    try clear H a W
    intro a W H
    replace H : St 60 w a W [(59, .bool true), (58, .bool true), (57, .bool true), (56, .bool true), (55, .bool true), (54, .bool be), (53, uc y), (52, uc x), (51, .bool be), (50, .agg (bvs (rb 12 (nonceF y)))), (49, .agg (bvs (rb 12 (nonceF x)))), (48, .bool true), (47, .bool true), (46, .bool true), (45, bv ((nonceF x) 3)), (44, .pointer (some ⟨g1, 3, none⟩)), (43, .bool true), (42, .bool true), (41, .bool true), (40, bv ((nonceF x) 2)), (39, .pointer (some ⟨g1, 2, none⟩)), (38, .bool true), (37, .bool true), (36, .bool true), (35, bv ((nonceF x) 1)), (34, .pointer (some ⟨g1, 1, none⟩)), (33, .bool true), (32, .bool true), (31, .bool true), (30, bv ((nonceF x) 0)), (29, .pointer (some ⟨g1, 0, none⟩)), (28, .bool true), (27, .bool true), (26, uc x), (25, uc x), (14, .bool false), (8, .int .i64 (7 - ((8 : Nat) : Int))), (7, uc x), (6, .pointer (some ⟨g2, 0, none⟩)), (5, .pointer (some ⟨g1, 0, none⟩)), (0, uc x), (1, uc y)] [(g2, 27, bvs (rb 12 (nonceF y))), (g1, 27, bvs (rb 12 (nonceF x)))] := H.pick [0, 1, 2, 3, 4, 5, 6, 7, 8, 9, 10, 11, 12, 13, 14, 15, 16, 17, 18, 19, 20, 21, 22, 23, 24, 25, 26, 27, 28, 29, 30, 31, 32, 33, 34, 35, 36, 37, 38, 39, 41, 42] [0, 1] rfl
    refine pl_does (does_assign rfl rfl) rfl rfl rfl rfl H ?_
    try clear H a W
    intro a W H
    refine pl_end ?_
    replace H : St 60 w a W [(4, .bool true)] [(g2, 27, bvs (rb 12 (nonceF y))), (g1, 27, bvs (rb 12 (nonceF x)))] := H.pick [0] [0, 1] rfl
    refine hK11 _ _ ?_
    clear hK11
    refine wp_ret ?_
    repeat (first | (with_reducible refine then_ret ?_) | (with_reducible refine blk_ret ?_))
    refine end_tmp (p := 4) rfl rfl H (fun hb => ?_)
    exact ⟨rfl, hb⟩
set_option maxHeartbeats 4000000 in
theorem seals_a {va vp : Value} {la lp : List UInt8} (kk : Nat → UInt8) (x : Nat) (w : World) (hpg : PG w) (hva : BF la va w) (hvp : BF lp vp w) (h1 : 400 < la.length) : Calls Tryd.prog 3 #[.agg (bvs (rb 32 kk)), uc x, va, vp] w (fun rr w' => rr = .returned (.bool true) ∧ Below w.heap.size w w') := by
  obtain ⟨Aa, na, ca, rfl, hba⟩ := id hva
  have hna := hba.len
  obtain ⟨Ap, np, cp, rfl, hbp⟩ := id hvp
  have hnp := hbp.len
  refine calls_st (vs := [.agg (bvs (rb 32 kk)), uc x, .slice Aa na ca, .slice Ap np cp]) 76 Tryd.func3 rfl Tryd.ntmps3 rfl (fun a W H => ?_)
  replace H : St 76 w a W [(0, .agg (bvs (rb 32 kk))), (1, uc x), (2, .slice Aa na ca), (3, .slice Ap np cp)] [] := H
  refine wp_seq_k (fun K1 hK1 => ?_)
  refine rg_plain ?_
  refine pl_box rfl rfl (bx_key kk) rfl rfl rfl rfl H ?_
  try clear H a W
  intro g1 a W H
  refine pl_does (does_assign rfl rfl) rfl rfl rfl rfl H ?_
  try clear H a W
  intro a W H
  refine pl_end ?_
  replace H : St 76 w a W [(8, .bool false), (4, .pointer (some ⟨g1, 0, none⟩)), (1, uc x), (2, .slice Aa na ca), (3, .slice Ap np cp)] [(g1, 23, bvs (rb 32 kk))] := H.pick [0, 1, 3, 4, 5] [0] rfl
  refine hK1 _ _ ?_
  clear hK1
  refine wp_seq_k (fun K2 hK2 => ?_)
  refine wp_seq_k (fun K3 hK3 => ?_)
  refine rg_plain ?_
  refine pl_does (does_move rfl rfl) rfl rfl rfl rfl H ?_
  try clear H a W
  intro a W H
  refine pl_does (does_len Tryd.underlying25 rfl rfl) rfl rfl rfl rfl H ?_
  try clear H a W
  intro a W H
  refine pl_does (does_binOp rfl rfl rfl (i_gtrB (k := na) (m := 400) (decide_eq_true (by omega)) _ _)) rfl rfl rfl rfl H ?_
  try clear H a W
  intro a W H
  refine pl_does (does_move rfl rfl) rfl rfl rfl rfl H ?_
  try clear H a W
  intro a W H
  refine pl_skip (wanted_some rfl rfl rfl rfl rfl) rfl rfl rfl H ?_
  try clear H a W
  intro a W H
  refine pl_skip (wanted_some rfl rfl rfl rfl rfl) rfl rfl rfl H ?_
  try clear H a W
  intro a W H
  refine pl_skip (wanted_some rfl rfl rfl rfl rfl) rfl rfl rfl H ?_
  try clear H a W
  intro a W H
  refine pl_does (does_pick rfl rfl (fun _ => rfl) (fun hb => by cases hb)) rfl rfl rfl rfl H ?_
  try clear H a W
  intro a W H
  refine pl_end ?_
  replace H : St 76 w a W [(21, .bool true), (8, .bool false), (4, .pointer (some ⟨g1, 0, none⟩)), (1, uc x), (2, .slice Aa na ca), (3, .slice Ap np cp)] [(g1, 23, bvs (rb 32 kk))] := H.pick [0, 8, 9, 10, 11, 12] [0] rfl
  refine hK3 _ _ ?_
  clear hK3
  refine wp_cond_true (H.ev rfl) ?_
  refine wp_seq_k (fun K4 hK4 => ?_)
  refine rg_plain ?_
  refine pl_does (does_call rfl ⟨_, Tryd.func7, by kernel_rfl⟩ rfl (fun W hb => known_any W (hpg.ext hb))) rfl rfl rfl rfl H ?_
  try clear H a W
  intro a W H
  replace H : St 76 w a W [(22, .bool true), (21, .bool true), (4, .pointer (some ⟨g1, 0, none⟩)), (1, uc x), (2, .slice Aa na ca), (3, .slice Ap np cp)] [(g1, 23, bvs (rb 32 kk))] := H.pick [0, 1, 3, 4, 5, 6] [0] rfl
  refine pl_does (does_assign rfl rfl) rfl rfl rfl rfl H ?_
  try clear H a W
  intro a W H
  refine pl_end ?_
  replace H : St 76 w a W [(8, .bool true), (4, .pointer (some ⟨g1, 0, none⟩)), (1, uc x), (2, .slice Aa na ca), (3, .slice Ap np cp)] [(g1, 23, bvs (rb 32 kk))] := H.pick [0, 3, 4, 5, 6] [0] rfl
  refine hK4 _ _ ?_
  clear hK4
  refine wp_ret ?_
  repeat (first | (with_reducible refine then_ret ?_) | (with_reducible refine blk_ret ?_))
  refine end_tmp (p := 8) rfl rfl H (fun hb => ?_)
  exact ⟨rfl, hb⟩
set_option maxHeartbeats 4000000 in
theorem seals_b {va vp : Value} {la lp : List UInt8} (kk : Nat → UInt8) (x : Nat) (w : World) (hpg : PG w) (hva : BF la va w) (hvp : BF lp vp w) (h1 : la.length ≤ 400) (h2 : 400 < lp.length) : Calls Tryd.prog 3 #[.agg (bvs (rb 32 kk)), uc x, va, vp] w (fun rr w' => rr = .returned (.bool true) ∧ Below w.heap.size w w') := by
  obtain ⟨Aa, na, ca, rfl, hba⟩ := id hva
  have hna := hba.len
  obtain ⟨Ap, np, cp, rfl, hbp⟩ := id hvp
  have hnp := hbp.len
  refine calls_st (vs := [.agg (bvs (rb 32 kk)), uc x, .slice Aa na ca, .slice Ap np cp]) 76 Tryd.func3 rfl Tryd.ntmps3 rfl (fun a W H => ?_)
  replace H : St 76 w a W [(0, .agg (bvs (rb 32 kk))), (1, uc x), (2, .slice Aa na ca), (3, .slice Ap np cp)] [] := H
  refine wp_seq_k (fun K1 hK1 => ?_)
  refine rg_plain ?_
  refine pl_box rfl rfl (bx_key kk) rfl rfl rfl rfl H ?_
  try clear H a W
  intro g1 a W H
  refine pl_does (does_assign rfl rfl) rfl rfl rfl rfl H ?_
  try clear H a W
  intro a W H
  refine pl_end ?_
  replace H : St 76 w a W [(8, .bool false), (4, .pointer (some ⟨g1, 0, none⟩)), (1, uc x), (2, .slice Aa na ca), (3, .slice Ap np cp)] [(g1, 23, bvs (rb 32 kk))] := H.pick [0, 1, 3, 4, 5] [0] rfl
  refine hK1 _ _ ?_
  clear hK1
  refine wp_seq_k (fun K2 hK2 => ?_)
  refine wp_seq_k (fun K3 hK3 => ?_)
  refine rg_plain ?_
  refine pl_does (does_move rfl rfl) rfl rfl rfl rfl H ?_
  try clear H a W
  intro a W H
  refine pl_does (does_len Tryd.underlying25 rfl rfl) rfl rfl rfl rfl H ?_
  try clear H a W
  intro a W H
  refine pl_does (does_binOp rfl rfl rfl (i_gtrB (k := na) (m := 400) (decide_eq_false (by omega)) _ _)) rfl rfl rfl rfl H ?_
  try clear H a W
  intro a W H
  refine pl_does (does_move rfl rfl) rfl rfl rfl rfl H ?_
  try clear H a W
  intro a W H
  refine pl_does_g (does_move rfl rfl) (wanted_some rfl rfl rfl rfl rfl) rfl rfl rfl H ?_
  try clear H a W
  intro a W H
  refine pl_does_g (does_len Tryd.underlying25 rfl rfl) (wanted_some rfl rfl rfl rfl rfl) rfl rfl rfl H ?_
  try clear H a W
  intro a W H
  refine pl_does_g (does_binOp rfl rfl rfl (i_gtrB (k := np) (m := 400) (decide_eq_true (by omega)) _ _)) (wanted_some rfl rfl rfl rfl rfl) rfl rfl rfl H ?_
  try clear H a W
  intro a W H
  refine pl_does (does_pick rfl rfl (fun hb => by cases hb) (fun _ => rfl)) rfl rfl rfl rfl H ?_
  try clear H a W
  intro a W H
  refine pl_end ?_
  replace H : St 76 w a W [(21, .bool true), (8, .bool false), (4, .pointer (some ⟨g1, 0, none⟩)), (1, uc x), (2, .slice Aa na ca), (3, .slice Ap np cp)] [(g1, 23, bvs (rb 32 kk))] := H.pick [0, 8, 9, 10, 11, 12] [0] rfl
  refine hK3 _ _ ?_
  clear hK3
  refine wp_cond_true (H.ev rfl) ?_
  refine wp_seq_k (fun K4 hK4 => ?_)
  refine rg_plain ?_
  refine pl_does (does_call rfl ⟨_, Tryd.func7, by kernel_rfl⟩ rfl (fun W hb => known_any W (hpg.ext hb))) rfl rfl rfl rfl H ?_
  try clear H a W
  intro a W H
  replace H : St 76 w a W [(22, .bool true), (21, .bool true), (4, .pointer (some ⟨g1, 0, none⟩)), (1, uc x), (2, .slice Aa na ca), (3, .slice Ap np cp)] [(g1, 23, bvs (rb 32 kk))] := H.pick [0, 1, 3, 4, 5, 6] [0] rfl
  refine pl_does (does_assign rfl rfl) rfl rfl rfl rfl H ?_
  try clear H a W
  intro a W H
  refine pl_end ?_
  replace H : St 76 w a W [(8, .bool true), (4, .pointer (some ⟨g1, 0, none⟩)), (1, uc x), (2, .slice Aa na ca), (3, .slice Ap np cp)] [(g1, 23, bvs (rb 32 kk))] := H.pick [0, 3, 4, 5, 6] [0] rfl
  refine hK4 _ _ ?_
  clear hK4
  refine wp_ret ?_
  repeat (first | (with_reducible refine then_ret ?_) | (with_reducible refine blk_ret ?_))
  refine end_tmp (p := 8) rfl rfl H (fun hb => ?_)
  exact ⟨rfl, hb⟩
set_option maxHeartbeats 4000000 in
theorem seals_c {va vp : Value} {la lp : List UInt8} (kk : Nat → UInt8) (x : Nat) (w : World) (hpg : PG w) (hva : BF la va w) (hvp : BF lp vp w) (h1 : la.length ≤ 400) (h2 : lp.length ≤ 400) : Calls Tryd.prog 3 #[.agg (bvs (rb 32 kk)), uc x, va, vp] w (fun rr w' => rr = .returned (.bool true) ∧ Below w.heap.size w w') := by
  obtain ⟨Aa, na, ca, rfl, hba⟩ := id hva
  have hna := hba.len
  obtain ⟨Ap, np, cp, rfl, hbp⟩ := id hvp
  have hnp := hbp.len
  refine calls_st (vs := [.agg (bvs (rb 32 kk)), uc x, .slice Aa na ca, .slice Ap np cp]) 76 Tryd.func3 rfl Tryd.ntmps3 rfl (fun a W H => ?_)
  replace H : St 76 w a W [(0, .agg (bvs (rb 32 kk))), (1, uc x), (2, .slice Aa na ca), (3, .slice Ap np cp)] [] := H
  refine wp_seq_k (fun K1 hK1 => ?_)
  refine rg_plain ?_
  refine pl_box rfl rfl (bx_key kk) rfl rfl rfl rfl H ?_
  try clear H a W
  intro g1 a W H
  refine pl_does (does_assign rfl rfl) rfl rfl rfl rfl H ?_
  try clear H a W
  intro a W H
  refine pl_end ?_
  replace H : St 76 w a W [(8, .bool false), (4, .pointer (some ⟨g1, 0, none⟩)), (1, uc x), (2, .slice Aa na ca), (3, .slice Ap np cp)] [(g1, 23, bvs (rb 32 kk))] := H.pick [0, 1, 3, 4, 5] [0] rfl
  refine hK1 _ _ ?_
  clear hK1
  refine wp_seq_k (fun K2 hK2 => ?_)
  refine wp_seq_k (fun K3 hK3 => ?_)
  refine rg_plain ?_
  refine pl_does (does_move rfl rfl) rfl rfl rfl rfl H ?_
  try clear H a W
  intro a W H
  refine pl_does (does_len Tryd.underlying25 rfl rfl) rfl rfl rfl rfl H ?_
  try clear H a W
  intro a W H
  refine pl_does (does_binOp rfl rfl rfl (i_gtrB (k := na) (m := 400) (decide_eq_false (by omega)) _ _)) rfl rfl rfl rfl H ?_
  try clear H a W
  intro a W H
  refine pl_does (does_move rfl rfl) rfl rfl rfl rfl H ?_
  try clear H a W
  intro a W H
  refine pl_does_g (does_move rfl rfl) (wanted_some rfl rfl rfl rfl rfl) rfl rfl rfl H ?_
  try clear H a W
  intro a W H
  refine pl_does_g (does_len Tryd.underlying25 rfl rfl) (wanted_some rfl rfl rfl rfl rfl) rfl rfl rfl H ?_
  try clear H a W
  intro a W H
  refine pl_does_g (does_binOp rfl rfl rfl (i_gtrB (k := np) (m := 400) (decide_eq_false (by omega)) _ _)) (wanted_some rfl rfl rfl rfl rfl) rfl rfl rfl H ?_
  try clear H a W
  intro a W H
  refine pl_does (does_pick rfl rfl (fun hb => by cases hb) (fun _ => rfl)) rfl rfl rfl rfl H ?_
  try clear H a W
  intro a W H
  refine pl_end ?_
  replace H : St 76 w a W [(21, .bool false), (8, .bool false), (4, .pointer (some ⟨g1, 0, none⟩)), (1, uc x), (2, .slice Aa na ca), (3, .slice Ap np cp)] [(g1, 23, bvs (rb 32 kk))] := H.pick [0, 8, 9, 10, 11, 12] [0] rfl
  refine hK3 _ _ ?_
  clear hK3
  refine wp_cond_false (H.ev rfl) ?_
  refine wp_skip ?_
  refine hK2 _ _ ?_
  clear hK2
  refine wp_seq_k (fun K4 hK4 => ?_)
  refine rg_plain ?_
  refine pl_does (does_move rfl rfl) rfl rfl rfl rfl H ?_
  try clear H a W
  intro a W H
  refine pl_does (does_call rfl ⟨_, Tryd.func8, by kernel_rfl⟩ rfl (fun W hb => nonce_any _ W)) rfl rfl rfl rfl H ?_
  try clear H a W
  intro a W H
  refine pl_new (news_of rfl al_nonce) rfl rfl rfl rfl H ?_
  try clear H a W
  intro g2 a W H
  refine pl_store rfl rfl rfl (k := 0) rfl (info_nonce _) (size_rb _ _ _) (bvs_one _) rfl rfl H ?_
  try clear H a W
  intro a W H
  refine pl_end ?_
  replace H : St 76 w a W [(9, .pointer (some ⟨g2, 0, none⟩)), (8, .bool false), (4, .pointer (some ⟨g1, 0, none⟩)), (1, uc x), (2, .slice Aa na ca), (3, .slice Ap np cp)] [(g2, 27, bvs (rb 12 (nonceF x))), (g1, 23, bvs (rb 32 kk))] := H.pick [0, 4, 5, 6, 7, 8] [0, 1] rfl
  refine hK4 _ _ ?_
  clear hK4
  refine wp_seq_k (fun K5 hK5 => ?_)
  refine rg_plain ?_
  refine pl_does (does_move rfl rfl) rfl rfl rfl rfl H ?_
  try clear H a W
  intro a W H
  refine pl_R (R := SB) (F := OF w.heap.size [(g2, 27, bvs (rb 12 (nonceF x))), (g1, 23, bvs (rb 32 kk))] lp) sb_st (ob_app0S H (wanted_none rfl) rfl rfl (bf_old hvp H) (by omega)) rfl rfl rfl H ?_
  try clear H a W
  intro v26 a W hv26 hR_ H
  clear hR_
  replace H : St 76 w a W [(26, v26), (25, .slice Ap np cp), (9, .pointer (some ⟨g2, 0, none⟩)), (8, .bool false), (4, .pointer (some ⟨g1, 0, none⟩)), (1, uc x), (2, .slice Aa na ca), (3, .slice Ap np cp)] [(g2, 27, bvs (rb 12 (nonceF x))), (g1, 23, bvs (rb 32 kk))] := H
  refine pl_R (R := SB) (F := OF w.heap.size [(g2, 27, bvs (rb 12 (nonceF x))), (g1, 23, bvs (rb 32 kk))] lp) sb_st (ob_assignS H (wanted_none rfl) rfl rfl hv26) rfl rfl rfl H ?_
  try clear H a
  intro v10 a W hv10 hR_ H
  replace hv26 := OF.sb _ _ _ hv26 hR_
  clear hR_
  replace H : St 76 w a W [(10, v10), (26, v26), (25, .slice Ap np cp), (9, .pointer (some ⟨g2, 0, none⟩)), (8, .bool false), (4, .pointer (some ⟨g1, 0, none⟩)), (1, uc x), (2, .slice Aa na ca), (3, .slice Ap np cp)] [(g2, 27, bvs (rb 12 (nonceF x))), (g1, 23, bvs (rb 32 kk))] := H
  refine pl_end ?_
  replace H : St 76 w a W [(10, v10), (9, .pointer (some ⟨g2, 0, none⟩)), (8, .bool false), (4, .pointer (some ⟨g1, 0, none⟩)), (1, uc x), (2, .slice Aa na ca), (3, .slice Ap np cp)] [(g2, 27, bvs (rb 12 (nonceF x))), (g1, 23, bvs (rb 32 kk))] := H.pick [0, 3, 4, 5, 6, 7, 8] [0, 1] rfl
  refine hK5 _ _ ?_
  clear hK5
  refine wp_seq_k (fun K6 hK6 => ?_)
  refine rg_plain ?_
  refine pl_R (R := SB) (F := fun u_ _ => u_ = .agg (bvs (rb 32 kk))) sb_st (ob_valS H (wanted_none rfl) (does_load rfl rfl (k := 1) rfl Tryd.underlying23 rfl (info_key _))) rfl rfl rfl H ?_
  try clear H a
  rintro _ a W rfl hR_ H
  replace hv10 := OF.sb _ _ _ hv10 hR_
  clear hR_
  replace H : St 76 w a W [(27, .agg (bvs (rb 32 kk))), (10, v10), (9, .pointer (some ⟨g2, 0, none⟩)), (8, .bool false), (4, .pointer (some ⟨g1, 0, none⟩)), (1, uc x), (2, .slice Aa na ca), (3, .slice Ap np cp)] [(g2, 27, bvs (rb 12 (nonceF x))), (g1, 23, bvs (rb 32 kk))] := H
  refine pl_R (R := SB) (F := fun u_ _ => u_ = .agg (bvs (rb 12 (nonceF x)))) sb_st (ob_valS H (wanted_none rfl) (does_load rfl rfl (k := 0) rfl Tryd.underlying27 rfl (info_nonce _))) rfl rfl rfl H ?_
  try clear H a
  rintro _ a W rfl hR_ H
  replace hv10 := OF.sb _ _ _ hv10 hR_
  clear hR_
  replace H : St 76 w a W [(28, .agg (bvs (rb 12 (nonceF x)))), (27, .agg (bvs (rb 32 kk))), (10, v10), (9, .pointer (some ⟨g2, 0, none⟩)), (8, .bool false), (4, .pointer (some ⟨g1, 0, none⟩)), (1, uc x), (2, .slice Aa na ca), (3, .slice Ap np cp)] [(g2, 27, bvs (rb 12 (nonceF x))), (g1, 23, bvs (rb 32 kk))] := H
  refine pl_R (R := SB) (F := fun u_ _ => u_ = .slice Aa na ca) sb_st (ob_valS H (wanted_none rfl) (does_move rfl rfl)) rfl rfl rfl H ?_
  try clear H a
  rintro _ a W rfl hR_ H
  replace hv10 := OF.sb _ _ _ hv10 hR_
  clear hR_
  replace H : St 76 w a W [(29, .slice Aa na ca), (28, .agg (bvs (rb 12 (nonceF x)))), (27, .agg (bvs (rb 32 kk))), (10, v10), (9, .pointer (some ⟨g2, 0, none⟩)), (8, .bool false), (4, .pointer (some ⟨g1, 0, none⟩)), (1, uc x), (2, .slice Aa na ca), (3, .slice Ap np cp)] [(g2, 27, bvs (rb 12 (nonceF x))), (g1, 23, bvs (rb 32 kk))] := H
  refine pl_R (R := SB) (F := OF w.heap.size [(g2, 27, bvs (rb 12 (nonceF x))), (g1, 23, bvs (rb 32 kk))] lp) sb_st (ob_moveS H (wanted_none rfl) rfl rfl hv10) rfl rfl rfl H ?_
  try clear H a
  intro v30 a W hv30 hR_ H
  replace hv10 := OF.sb _ _ _ hv10 hR_
  clear hR_
  replace H : St 76 w a W [(30, v30), (29, .slice Aa na ca), (28, .agg (bvs (rb 12 (nonceF x)))), (27, .agg (bvs (rb 32 kk))), (10, v10), (9, .pointer (some ⟨g2, 0, none⟩)), (8, .bool false), (4, .pointer (some ⟨g1, 0, none⟩)), (1, uc x), (2, .slice Aa na ca), (3, .slice Ap np cp)] [(g2, 27, bvs (rb 12 (nonceF x))), (g1, 23, bvs (rb 32 kk))] := H
  refine pl_R (R := SB) (F := OF w.heap.size [(g2, 27, bvs (rb 12 (nonceF x))), (g1, 23, bvs (rb 32 kk))] (sealB kk (nonceF x) la lp)) sb_st (ob_callS H (wanted_none rfl) rfl ⟨_, Tryd.func9, by kernel_rfl⟩ rfl (of_call H (seal_any kk (nonceF x) _ (hpg.ext H.below) (bf_old hva H) hv30.bf (by omega) (by omega)))) rfl rfl rfl H ?_
  try clear H a
  intro v31 a W hv31 hR_ H
  replace hv30 := OF.sb _ _ _ hv30 hR_
  replace hv10 := OF.sb _ _ _ hv10 hR_
  clear hR_
  replace H : St 76 w a W [(31, v31), (30, v30), (29, .slice Aa na ca), (28, .agg (bvs (rb 12 (nonceF x)))), (27, .agg (bvs (rb 32 kk))), (10, v10), (9, .pointer (some ⟨g2, 0, none⟩)), (8, .bool false), (4, .pointer (some ⟨g1, 0, none⟩)), (1, uc x), (2, .slice Aa na ca), (3, .slice Ap np cp)] [(g2, 27, bvs (rb 12 (nonceF x))), (g1, 23, bvs (rb 32 kk))] := H
  refine pl_R (R := SB) (F := OF w.heap.size [(g2, 27, bvs (rb 12 (nonceF x))), (g1, 23, bvs (rb 32 kk))] (sealB kk (nonceF x) la lp)) sb_st (ob_assignS H (wanted_none rfl) rfl rfl hv31) rfl rfl rfl H ?_
  try clear H a
  intro v11 a W hv11 hR_ H
  replace hv31 := OF.sb _ _ _ hv31 hR_
  replace hv30 := OF.sb _ _ _ hv30 hR_
  replace hv10 := OF.sb _ _ _ hv10 hR_
  clear hR_
  replace H : St 76 w a W [(11, v11), (31, v31), (30, v30), (29, .slice Aa na ca), (28, .agg (bvs (rb 12 (nonceF x)))), (27, .agg (bvs (rb 32 kk))), (10, v10), (9, .pointer (some ⟨g2, 0, none⟩)), (8, .bool false), (4, .pointer (some ⟨g1, 0, none⟩)), (1, uc x), (2, .slice Aa na ca), (3, .slice Ap np cp)] [(g2, 27, bvs (rb 12 (nonceF x))), (g1, 23, bvs (rb 32 kk))] := H
  refine pl_end ?_
  replace H : St 76 w a W [(11, v11), (10, v10), (9, .pointer (some ⟨g2, 0, none⟩)), (8, .bool false), (4, .pointer (some ⟨g1, 0, none⟩)), (1, uc x), (2, .slice Aa na ca), (3, .slice Ap np cp)] [(g2, 27, bvs (rb 12 (nonceF x))), (g1, 23, bvs (rb 32 kk))] := H.pick [0, 6, 7, 8, 9, 10, 11, 12] [0, 1] rfl
  refine hK6 _ _ ?_
  clear hK6
  refine wp_seq_k (fun K7 hK7 => ?_)
  refine rg_plain ?_
  refine pl_R (R := SB) (F := fun u_ _ => u_ = .agg (bvs (rb 32 kk))) sb_st (ob_valS H (wanted_none rfl) (does_load rfl rfl (k := 1) rfl Tryd.underlying23 rfl (info_key _))) rfl rfl rfl H ?_
  try clear H a
  rintro _ a W rfl hR_ H
  replace hv11 := OF.sb _ _ _ hv11 hR_
  replace hv10 := OF.sb _ _ _ hv10 hR_
  clear hR_
  replace H : St 76 w a W [(33, .agg (bvs (rb 32 kk))), (11, v11), (10, v10), (9, .pointer (some ⟨g2, 0, none⟩)), (8, .bool false), (4, .pointer (some ⟨g1, 0, none⟩)), (1, uc x), (2, .slice Aa na ca), (3, .slice Ap np cp)] [(g2, 27, bvs (rb 12 (nonceF x))), (g1, 23, bvs (rb 32 kk))] := H
  refine pl_R (R := SB) (F := fun u_ _ => u_ = .agg (bvs (rb 12 (nonceF x)))) sb_st (ob_valS H (wanted_none rfl) (does_load rfl rfl (k := 0) rfl Tryd.underlying27 rfl (info_nonce _))) rfl rfl rfl H ?_
  try clear H a
  rintro _ a W rfl hR_ H
  replace hv11 := OF.sb _ _ _ hv11 hR_
  replace hv10 := OF.sb _ _ _ hv10 hR_
  clear hR_
  replace H : St 76 w a W [(34, .agg (bvs (rb 12 (nonceF x)))), (33, .agg (bvs (rb 32 kk))), (11, v11), (10, v10), (9, .pointer (some ⟨g2, 0, none⟩)), (8, .bool false), (4, .pointer (some ⟨g1, 0, none⟩)), (1, uc x), (2, .slice Aa na ca), (3, .slice Ap np cp)] [(g2, 27, bvs (rb 12 (nonceF x))), (g1, 23, bvs (rb 32 kk))] := H
  refine pl_R (R := SB) (F := fun u_ _ => u_ = .slice Aa na ca) sb_st (ob_valS H (wanted_none rfl) (does_move rfl rfl)) rfl rfl rfl H ?_
  try clear H a
  rintro _ a W rfl hR_ H
  replace hv11 := OF.sb _ _ _ hv11 hR_
  replace hv10 := OF.sb _ _ _ hv10 hR_
  clear hR_
  replace H : St 76 w a W [(35, .slice Aa na ca), (34, .agg (bvs (rb 12 (nonceF x)))), (33, .agg (bvs (rb 32 kk))), (11, v11), (10, v10), (9, .pointer (some ⟨g2, 0, none⟩)), (8, .bool false), (4, .pointer (some ⟨g1, 0, none⟩)), (1, uc x), (2, .slice Aa na ca), (3, .slice Ap np cp)] [(g2, 27, bvs (rb 12 (nonceF x))), (g1, 23, bvs (rb 32 kk))] := H
  refine pl_R (R := SB) (F := OF w.heap.size [(g2, 27, bvs (rb 12 (nonceF x))), (g1, 23, bvs (rb 32 kk))] (sealB kk (nonceF x) la lp)) sb_st (ob_moveS H (wanted_none rfl) rfl rfl hv11) rfl rfl rfl H ?_
  try clear H a
  intro v36 a W hv36 hR_ H
  replace hv11 := OF.sb _ _ _ hv11 hR_
  replace hv10 := OF.sb _ _ _ hv10 hR_
  clear hR_
  replace H : St 76 w a W [(36, v36), (35, .slice Aa na ca), (34, .agg (bvs (rb 12 (nonceF x)))), (33, .agg (bvs (rb 32 kk))), (11, v11), (10, v10), (9, .pointer (some ⟨g2, 0, none⟩)), (8, .bool false), (4, .pointer (some ⟨g1, 0, none⟩)), (1, uc x), (2, .slice Aa na ca), (3, .slice Ap np cp)] [(g2, 27, bvs (rb 12 (nonceF x))), (g1, 23, bvs (rb 32 kk))] := H
  refine pl_R (R := SB) (F := TF lp (.int .i64 0)) sb_st (ob_callS H (wanted_none rfl) rfl ⟨_, Tryd.func10, by kernel_rfl⟩ rfl (open_seal kk (nonceF x) _ (hpg.ext H.below) (bf_old hva H) hv36.bf (by omega) (by omega))) rfl rfl rfl H ?_
  try clear H a
  intro v37 a W hv37 hR_ H
  replace hv36 := OF.sb _ _ _ hv36 hR_
  replace hv11 := OF.sb _ _ _ hv11 hR_
  replace hv10 := OF.sb _ _ _ hv10 hR_
  clear hR_
  replace H : St 76 w a W [(37, v37), (36, v36), (35, .slice Aa na ca), (34, .agg (bvs (rb 12 (nonceF x)))), (33, .agg (bvs (rb 32 kk))), (11, v11), (10, v10), (9, .pointer (some ⟨g2, 0, none⟩)), (8, .bool false), (4, .pointer (some ⟨g1, 0, none⟩)), (1, uc x), (2, .slice Aa na ca), (3, .slice Ap np cp)] [(g2, 27, bvs (rb 12 (nonceF x))), (g1, 23, bvs (rb 32 kk))] := H
  obtain ⟨u0, rfl, hu0⟩ := hv37
  replace H : St 76 w a W [(37, .tuple #[u0, .int .i64 0]), (36, v36), (35, .slice Aa na ca), (34, .agg (bvs (rb 12 (nonceF x)))), (33, .agg (bvs (rb 32 kk))), (11, v11), (10, v10), (9, .pointer (some ⟨g2, 0, none⟩)), (8, .bool false), (4, .pointer (some ⟨g1, 0, none⟩)), (1, uc x), (2, .slice Aa na ca), (3, .slice Ap np cp)] [(g2, 27, bvs (rb 12 (nonceF x))), (g1, 23, bvs (rb 32 kk))] := H
  refine pl_R (R := SB) (F := fun u_ _ => u_ = .tuple #[u0, .int .i64 0]) sb_st (ob_valS H (wanted_none rfl) (does_move rfl rfl)) rfl rfl rfl H ?_
  try clear H a
  rintro _ a W rfl hR_ H
  replace hv36 := OF.sb _ _ _ hv36 hR_
  replace hv11 := OF.sb _ _ _ hv11 hR_
  replace hv10 := OF.sb _ _ _ hv10 hR_
  replace hu0 := BF.sb _ _ _ hu0 hR_
  clear hR_
  replace H : St 76 w a W [(32, .tuple #[u0, .int .i64 0]), (37, .tuple #[u0, .int .i64 0]), (36, v36), (35, .slice Aa na ca), (34, .agg (bvs (rb 12 (nonceF x)))), (33, .agg (bvs (rb 32 kk))), (11, v11), (10, v10), (9, .pointer (some ⟨g2, 0, none⟩)), (8, .bool false), (4, .pointer (some ⟨g1, 0, none⟩)), (1, uc x), (2, .slice Aa na ca), (3, .slice Ap np cp)] [(g2, 27, bvs (rb 12 (nonceF x))), (g1, 23, bvs (rb 32 kk))] := H
  refine pl_R (R := SB) (F := fun u_ _ => u_ = u0) sb_st (ob_valS H (wanted_none rfl) (does_extract rfl rfl (fun _ => rfl))) rfl rfl rfl H ?_
  try clear H a
  intro y_ a W hy_ hR_ H
  replace hy_ := hy_.symm
  subst hy_
  replace hv36 := OF.sb _ _ _ hv36 hR_
  replace hv11 := OF.sb _ _ _ hv11 hR_
  replace hv10 := OF.sb _ _ _ hv10 hR_
  replace hu0 := BF.sb _ _ _ hu0 hR_
  clear hR_
  replace H : St 76 w a W [(38, u0), (32, .tuple #[u0, .int .i64 0]), (37, .tuple #[u0, .int .i64 0]), (36, v36), (35, .slice Aa na ca), (34, .agg (bvs (rb 12 (nonceF x)))), (33, .agg (bvs (rb 32 kk))), (11, v11), (10, v10), (9, .pointer (some ⟨g2, 0, none⟩)), (8, .bool false), (4, .pointer (some ⟨g1, 0, none⟩)), (1, uc x), (2, .slice Aa na ca), (3, .slice Ap np cp)] [(g2, 27, bvs (rb 12 (nonceF x))), (g1, 23, bvs (rb 32 kk))] := H
  refine pl_R (R := SB) (F := fun u_ _ => u_ = .int .i64 0) sb_st (ob_valS H (wanted_none rfl) (does_extract rfl rfl (fun _ => rfl))) rfl rfl rfl H ?_
  try clear H a
  rintro _ a W rfl hR_ H
  replace hu0 := BF.sb _ _ _ hu0 hR_
  replace hv36 := OF.sb _ _ _ hv36 hR_
  replace hv11 := OF.sb _ _ _ hv11 hR_
  replace hv10 := OF.sb _ _ _ hv10 hR_
  clear hR_
  replace H : St 76 w a W [(39, .int .i64 0), (38, u0), (32, .tuple #[u0, .int .i64 0]), (37, .tuple #[u0, .int .i64 0]), (36, v36), (35, .slice Aa na ca), (34, .agg (bvs (rb 12 (nonceF x)))), (33, .agg (bvs (rb 32 kk))), (11, v11), (10, v10), (9, .pointer (some ⟨g2, 0, none⟩)), (8, .bool false), (4, .pointer (some ⟨g1, 0, none⟩)), (1, uc x), (2, .slice Aa na ca), (3, .slice Ap np cp)] [(g2, 27, bvs (rb 12 (nonceF x))), (g1, 23, bvs (rb 32 kk))] := H
  refine pl_R (R := SB) (F := BF lp) sb_st (ob_assignS H (wanted_none rfl) rfl rfl hu0) rfl rfl rfl H ?_
  try clear H a
  intro v12 a W hv12 hR_ H
  replace hu0 := BF.sb _ _ _ hu0 hR_
  replace hv36 := OF.sb _ _ _ hv36 hR_
  replace hv11 := OF.sb _ _ _ hv11 hR_
  replace hv10 := OF.sb _ _ _ hv10 hR_
  clear hR_
  replace H : St 76 w a W [(12, v12), (39, .int .i64 0), (38, u0), (32, .tuple #[u0, .int .i64 0]), (37, .tuple #[u0, .int .i64 0]), (36, v36), (35, .slice Aa na ca), (34, .agg (bvs (rb 12 (nonceF x)))), (33, .agg (bvs (rb 32 kk))), (11, v11), (10, v10), (9, .pointer (some ⟨g2, 0, none⟩)), (8, .bool false), (4, .pointer (some ⟨g1, 0, none⟩)), (1, uc x), (2, .slice Aa na ca), (3, .slice Ap np cp)] [(g2, 27, bvs (rb 12 (nonceF x))), (g1, 23, bvs (rb 32 kk))] := H
  refine pl_R (R := SB) (F := fun u_ _ => u_ = .int .i64 0) sb_st (ob_valS H (wanted_none rfl) (does_assign rfl rfl)) rfl rfl rfl H ?_
  try clear H a
  rintro _ a W rfl hR_ H
  replace hv12 := BF.sb _ _ _ hv12 hR_
  replace hu0 := BF.sb _ _ _ hu0 hR_
  replace hv36 := OF.sb _ _ _ hv36 hR_
  replace hv11 := OF.sb _ _ _ hv11 hR_
  replace hv10 := OF.sb _ _ _ hv10 hR_
  clear hR_
  replace H : St 76 w a W [(13, .int .i64 0), (12, v12), (39, .int .i64 0), (38, u0), (32, .tuple #[u0, .int .i64 0]), (37, .tuple #[u0, .int .i64 0]), (36, v36), (35, .slice Aa na ca), (34, .agg (bvs (rb 12 (nonceF x)))), (33, .agg (bvs (rb 32 kk))), (11, v11), (10, v10), (9, .pointer (some ⟨g2, 0, none⟩)), (8, .bool false), (4, .pointer (some ⟨g1, 0, none⟩)), (1, uc x), (2, .slice Aa na ca), (3, .slice Ap np cp)] [(g2, 27, bvs (rb 12 (nonceF x))), (g1, 23, bvs (rb 32 kk))] := H
  refine pl_end ?_
  replace H : St 76 w a W [(13, .int .i64 0), (12, v12), (11, v11), (10, v10), (9, .pointer (some ⟨g2, 0, none⟩)), (8, .bool false), (4, .pointer (some ⟨g1, 0, none⟩)), (1, uc x), (2, .slice Aa na ca), (3, .slice Ap np cp)] [(g2, 27, bvs (rb 12 (nonceF x))), (g1, 23, bvs (rb 32 kk))] := H.pick [0, 1, 10, 11, 12, 13, 14, 15, 16, 17] [0, 1] rfl
  refine hK7 _ _ ?_
  clear hK7
  refine wp_seq_k (fun K8 hK8 => ?_)
  obtain ⟨ws1, H, HK1, hF10, hF11, hF12, hF13, hF14, hB1g2, hB1g1⟩ : ∃ ws, St 76 ws a W [(13, .int .i64 0), (12, v12), (11, v11), (10, v10), (9, .pointer (some ⟨g2, 0, none⟩)), (8, .bool false), (4, .pointer (some ⟨g1, 0, none⟩)), (1, uc x), (2, .slice Aa na ca), (3, .slice Ap np cp)] [] ∧ Kn w ws [(g2, 27, bvs (rb 12 (nonceF x))), (g1, 23, bvs (rb 32 kk))] ∧ BF lp v12 ws ∧ BF (sealB kk (nonceF x) la lp) v11 ws ∧ BF lp v10 ws ∧ BF la (.slice Aa na ca) ws ∧ BF lp (.slice Ap np cp) ws ∧ Blk ws g2 27 (bvs (rb 12 (nonceF x))) ∧ Blk ws g1 23 (bvs (rb 32 kk)) := ⟨W, H.rebase, H.kn, hv12, hv11.bf, hv10.bf, (bf_old hva H), (bf_old hvp H), H.blk (k := 0) rfl, H.blk (k := 1) rfl⟩
  refine drawnR SB SB (⟨40, fun u_ _ => u_ = .agg (bvs (rb 12 (nonceF x))), [], none, false⟩ :: ⟨41, fun u_ _ => u_ = uc x, [], none, false⟩ :: ⟨42, fun u_ _ => u_ = .agg (bvs (rb 12 (nonceF x))), [1], none, false⟩ :: ⟨43, fun u_ _ => u_ = .bool true, [0, 2], none, false⟩ :: ⟨44, fun u_ _ => u_ = .bool true, [3], none, false⟩ :: ⟨45, fun u_ _ => u_ = v11, [4], none, false⟩ :: ⟨46, fun u_ _ => u_ = .string (strB (sealB kk (nonceF x) la lp)), [5, 4], none, false⟩ :: ⟨47, fun u_ _ => u_ = .agg (bvs (rb 32 kk)), [4], none, false⟩ :: ⟨48, fun u_ _ => u_ = .agg (bvs (rb 12 (nonceF x))), [4], none, false⟩ :: ⟨49, fun u_ _ => u_ = .slice Aa na ca, [4], none, false⟩ :: ⟨50, fun u_ _ => u_ = .slice Ap np cp, [4], none, false⟩ :: ⟨51, BF (sealB kk (nonceF x) la lp), [7, 8, 9, 10, 4], none, false⟩ :: ⟨52, fun u_ _ => u_ = .string (strB (sealB kk (nonceF x) la lp)), [11, 4], none, false⟩ :: ⟨53, fun u_ _ => u_ = .bool true, [6, 12, 4], none, false⟩ :: ⟨54, fun u_ _ => u_ = .bool true, [4, 13], none, false⟩ :: ⟨55, fun u_ _ => u_ = .bool true, [14], none, false⟩ :: ⟨56, fun u_ _ => u_ = v10, [15], none, false⟩ :: ⟨57, fun u_ _ => u_ = .string (strB lp), [16, 15], none, false⟩ :: ⟨58, fun u_ _ => u_ = .slice Ap np cp, [15], none, false⟩ :: ⟨59, fun u_ _ => u_ = .string (strB lp), [18, 15], none, false⟩ :: ⟨60, fun u_ _ => u_ = .bool true, [17, 19, 15], none, false⟩ :: ⟨61, fun u_ _ => u_ = .bool true, [15, 20], none, false⟩ :: ⟨62, fun u_ _ => u_ = .bool true, [21], none, false⟩ :: ⟨63, fun u_ _ => u_ = .int .i64 0, [22], none, false⟩ :: ⟨64, fun u_ _ => u_ = .bool true, [23, 22], none, false⟩ :: ⟨65, fun u_ _ => u_ = .bool true, [22, 24], none, false⟩ :: ⟨66, fun u_ _ => u_ = .bool true, [25], none, false⟩ :: ⟨67, fun u_ _ => u_ = v12, [26], none, false⟩ :: ⟨68, fun u_ _ => u_ = .string (strB lp), [27, 26], none, false⟩ :: ⟨69, fun u_ _ => u_ = .slice Ap np cp, [26], none, false⟩ :: ⟨70, fun u_ _ => u_ = .string (strB lp), [29, 26], none, false⟩ :: ⟨71, fun u_ _ => u_ = .bool true, [28, 30, 26], none, false⟩ :: ⟨72, fun u_ _ => u_ = .bool true, [26, 31], none, false⟩ :: ⟨73, fun u_ _ => u_ = .bool true, [32], none, false⟩ :: ⟨74, fun u_ _ => u_ = .bool true, [33], none, false⟩ :: ⟨75, fun u_ _ => u_ = .bool true, [33, 34], none, false⟩ :: []) (0 :: 0 :: 2 :: 5 :: 12 :: 16 :: 48 :: 16 :: 16 :: 16 :: 16 :: 1936 :: 2064 :: 4176 :: 8208 :: 18432 :: 32768 :: 98304 :: 32768 :: 294912 :: 688128 :: 1081344 :: 2129920 :: 4194304 :: 12582912 :: 20971520 :: 37748736 :: 67108864 :: 201326592 :: 67108864 :: 603979776 :: 1409286144 :: 2214592512 :: 4362076160 :: 8589934592 :: 25769803776 :: 68719476735 :: []) [35] sb_st sb_st (by kernel_rfl) (by kernel_rfl) (by kernel_rfl) H ⟨⟨fun a W  H => by exact ob_valS H (wanted_none rfl) (does_loadOld rfl rfl hB1g2 Tryd.underlying27 rfl (info_nonce _)), val_grow, fun _ => val_grow⟩, ⟨fun a W  H => by exact ob_valS H (wanted_none rfl) (does_move rfl rfl), val_grow, fun _ => val_grow⟩, ⟨fun a W y1 hy1 H => by subst hy1; exact ob_calS H (wanted_none rfl) rfl ⟨_, Tryd.func11, by kernel_rfl⟩ rfl (rnonce_any _ W), val_grow, fun _ => val_grow⟩, ⟨fun a W y0 hy0 y2 hy2 H => by subst hy0; subst hy2; exact ob_valS H (wanted_none rfl) (does_binOp rfl rfl rfl (n_eqlB (decide_eq_true rfl) _ _)), val_grow, fun _ => val_grow⟩, ⟨fun a W y3 hy3 H => by subst hy3; exact ob_valS H (wanted_none rfl) (does_move rfl rfl), val_grow, fun _ => val_grow⟩, ⟨fun a W y4 hy4 H => by subst hy4; exact ob_valS H (wanted_some rfl rfl rfl rfl rfl) (does_move rfl rfl), val_grow, fun _ => val_grow⟩, ⟨fun a W y5 hy5 y4 hy4 H => by have e_ := hy5.symm; subst e_; subst hy4; exact ob_strS H (wanted_some rfl rfl rfl rfl rfl) rfl rfl (bf_old hF11 H), val_grow, fun _ => val_grow⟩, ⟨fun a W y4 hy4 H => by subst hy4; exact ob_valS H (wanted_some rfl rfl rfl rfl rfl) (does_loadOld rfl rfl hB1g1 Tryd.underlying23 rfl (info_key _)), val_grow, fun _ => val_grow⟩, ⟨fun a W y4 hy4 H => by subst hy4; exact ob_valS H (wanted_some rfl rfl rfl rfl rfl) (does_loadOld rfl rfl hB1g2 Tryd.underlying27 rfl (info_nonce _)), val_grow, fun _ => val_grow⟩, ⟨fun a W y4 hy4 H => by subst hy4; exact ob_valS H (wanted_some rfl rfl rfl rfl rfl) (does_move rfl rfl), val_grow, fun _ => val_grow⟩, ⟨fun a W y4 hy4 H => by subst hy4; exact ob_valS H (wanted_some rfl rfl rfl rfl rfl) (does_move rfl rfl), val_grow, fun _ => val_grow⟩, ⟨fun a W y7 hy7 y8 hy8 y9 hy9 y10 hy10 y4 hy4 H => by subst hy7; subst hy8; subst hy9; subst hy10; subst hy4; exact ob_callS H (wanted_some rfl rfl rfl rfl rfl) rfl ⟨_, Tryd.func12, by kernel_rfl⟩ rfl (rseal_any kk (nonceF x) _ (bf_old hF13 H) (bf_old hF14 H) (by omega) (by omega)), BF.sb, fun _ => BF.sb⟩, ⟨fun a W v51 hv51 y4 hy4 H => by subst hy4; exact ob_strS H (wanted_some rfl rfl rfl rfl rfl) rfl rfl hv51, val_grow, fun _ => val_grow⟩, ⟨fun a W y6 hy6 y12 hy12 y4 hy4 H => by subst hy6; subst hy12; subst hy4; exact ob_valS H (wanted_some rfl rfl rfl rfl rfl) (does_binOp rfl rfl rfl (s_eqlB (decide_eq_true rfl) _ _)), val_grow, fun _ => val_grow⟩, ⟨fun a W y4 hy4 y13 hy13 H => by subst hy4; subst hy13; exact ob_valS H (wanted_none rfl) (does_pick rfl rfl (fun _ => rfl) (fun hb => by cases hb)), val_grow, fun _ => val_grow⟩, ⟨fun a W y14 hy14 H => by subst hy14; exact ob_valS H (wanted_none rfl) (does_move rfl rfl), val_grow, fun _ => val_grow⟩, ⟨fun a W y15 hy15 H => by subst hy15; exact ob_valS H (wanted_some rfl rfl rfl rfl rfl) (does_move rfl rfl), val_grow, fun _ => val_grow⟩, ⟨fun a W y16 hy16 y15 hy15 H => by have e_ := hy16.symm; subst e_; subst hy15; exact ob_strS H (wanted_some rfl rfl rfl rfl rfl) rfl rfl (bf_old hF12 H), val_grow, fun _ => val_grow⟩, ⟨fun a W y15 hy15 H => by subst hy15; exact ob_valS H (wanted_some rfl rfl rfl rfl rfl) (does_move rfl rfl), val_grow, fun _ => val_grow⟩, ⟨fun a W y18 hy18 y15 hy15 H => by subst hy18; subst hy15; exact ob_strS H (wanted_some rfl rfl rfl rfl rfl) rfl rfl (bf_old hF14 H), val_grow, fun _ => val_grow⟩, ⟨fun a W y17 hy17 y19 hy19 y15 hy15 H => by subst hy17; subst hy19; subst hy15; exact ob_valS H (wanted_some rfl rfl rfl rfl rfl) (does_binOp rfl rfl rfl (s_eqlB (decide_eq_true rfl) _ _)), val_grow, fun _ => val_grow⟩, ⟨fun a W y15 hy15 y20 hy20 H => by subst hy15; subst hy20; exact ob_valS H (wanted_none rfl) (does_pick rfl rfl (fun _ => rfl) (fun hb => by cases hb)), val_grow, fun _ => val_grow⟩, ⟨fun a W y21 hy21 H => by subst hy21; exact ob_valS H (wanted_none rfl) (does_move rfl rfl), val_grow, fun _ => val_grow⟩, ⟨fun a W y22 hy22 H => by subst hy22; exact ob_valS H (wanted_some rfl rfl rfl rfl rfl) (does_move rfl rfl), val_grow, fun _ => val_grow⟩, ⟨fun a W y23 hy23 y22 hy22 H => by subst hy23; subst hy22; exact ob_valS H (wanted_some rfl rfl rfl rfl rfl) (does_binOp rfl rfl rfl (e_eql _ _ _)), val_grow, fun _ => val_grow⟩, ⟨fun a W y22 hy22 y24 hy24 H => by subst hy22; subst hy24; exact ob_valS H (wanted_none rfl) (does_pick rfl rfl (fun _ => rfl) (fun hb => by cases hb)), val_grow, fun _ => val_grow⟩, ⟨fun a W y25 hy25 H => by subst hy25; exact ob_valS H (wanted_none rfl) (does_move rfl rfl), val_grow, fun _ => val_grow⟩, ⟨fun a W y26 hy26 H => by subst hy26; exact ob_valS H (wanted_some rfl rfl rfl rfl rfl) (does_move rfl rfl), val_grow, fun _ => val_grow⟩, ⟨fun a W y27 hy27 y26 hy26 H => by have e_ := hy27.symm; subst e_; subst hy26; exact ob_strS H (wanted_some rfl rfl rfl rfl rfl) rfl rfl (bf_old hF10 H), val_grow, fun _ => val_grow⟩, ⟨fun a W y26 hy26 H => by subst hy26; exact ob_valS H (wanted_some rfl rfl rfl rfl rfl) (does_move rfl rfl), val_grow, fun _ => val_grow⟩, ⟨fun a W y29 hy29 y26 hy26 H => by subst hy29; subst hy26; exact ob_strS H (wanted_some rfl rfl rfl rfl rfl) rfl rfl (bf_old hF14 H), val_grow, fun _ => val_grow⟩, ⟨fun a W y28 hy28 y30 hy30 y26 hy26 H => by subst hy28; subst hy30; subst hy26; exact ob_valS H (wanted_some rfl rfl rfl rfl rfl) (does_binOp rfl rfl rfl (s_eqlB (decide_eq_true rfl) _ _)), val_grow, fun _ => val_grow⟩, ⟨fun a W y26 hy26 y31 hy31 H => by subst hy26; subst hy31; exact ob_valS H (wanted_none rfl) (does_pick rfl rfl (fun _ => rfl) (fun hb => by cases hb)), val_grow, fun _ => val_grow⟩, ⟨fun a W y32 hy32 H => by subst hy32; exact ob_valS H (wanted_none rfl) (does_move rfl rfl), val_grow, fun _ => val_grow⟩, ⟨fun a W y33 hy33 H => by subst hy33; exact ob_calS H (wanted_some rfl rfl rfl rfl rfl) rfl ⟨_, Tryd.func7, by kernel_rfl⟩ rfl (known_any W ((hpg.ext HK1.below).ext H.below)), val_grow, fun _ => val_grow⟩, ⟨fun a W y33 hy33 y34 hy34 H => by subst hy33; subst hy34; exact ob_valS H (wanted_none rfl) (does_pick rfl rfl (fun _ => rfl) (fun hb => by cases hb)), val_grow, fun _ => val_grow⟩, trivial⟩ (by kernel_rfl) ?_
  try clear H a W
  intro a W
  rintro _ rfl
  intro H
  replace H : St 76 ws1 a W [(75, .bool true), (13, .int .i64 0), (12, v12), (11, v11), (10, v10), (9, .pointer (some ⟨g2, 0, none⟩)), (8, .bool false), (4, .pointer (some ⟨g1, 0, none⟩)), (1, uc x), (2, .slice Aa na ca), (3, .slice Ap np cp)] [] := H
  replace H := HK1.join H
  replace H : St 76 w a W [(75, .bool true), (13, .int .i64 0), (12, v12), (11, v11), (10, v10), (9, .pointer (some ⟨g2, 0, none⟩)), (8, .bool false), (4, .pointer (some ⟨g1, 0, none⟩)), (1, uc x), (2, .slice Aa na ca), (3, .slice Ap np cp)] [(g2, 27, bvs (rb 12 (nonceF x))), (g1, 23, bvs (rb 32 kk))] := H
  replace H : St 76 w a W [(75, .bool true), (13, .int .i64 0), (12, v12), (11, v11), (10, v10), (9, .pointer (some ⟨g2, 0, none⟩)), (4, .pointer (some ⟨g1, 0, none⟩)), (1, uc x), (2, .slice Aa na ca), (3, .slice Ap np cp)] [(g2, 27, bvs (rb 12 (nonceF x))), (g1, 23, bvs (rb 32 kk))] := H.pick [0, 1, 2, 3, 4, 5, 7, 8, 9, 10] [0, 1] rfl
  refine pl_does (does_assign rfl rfl) rfl rfl rfl rfl H ?_
  try clear H a W
  intro a W H
  refine pl_end ?_
  replace H : St 76 w a W [(8, .bool true)] [(g2, 27, bvs (rb 12 (nonceF x))), (g1, 23, bvs (rb 32 kk))] := H.pick [0] [0, 1] rfl
  refine hK8 _ _ ?_
  clear hK8
  refine wp_ret ?_
  repeat (first | (with_reducible refine then_ret ?_) | (with_reducible refine blk_ret ?_))
  refine end_tmp (p := 8) rfl rfl H (fun hb => ?_)
  exact ⟨rfl, hb⟩
set_option maxHeartbeats 4000000 in
theorem opens_a {va vp : Value} {la lp : List UInt8} (kk nn : Nat → UInt8) (w : World) (hpg : PG w) (hva : BF la va w) (hvp : BF lp vp w) (h1 : 400 < la.length) : Calls Tryd.prog 4 #[.agg (bvs (rb 32 kk)), .agg (bvs (rb 12 nn)), va, vp] w (fun rr w' => rr = .returned (.bool true) ∧ Below w.heap.size w w') := by
  obtain ⟨Aa, na, ca, rfl, hba⟩ := id hva
  have hna := hba.len
  obtain ⟨Ap, np, cp, rfl, hbp⟩ := id hvp
  have hnp := hbp.len
  refine calls_st (vs := [.agg (bvs (rb 32 kk)), .agg (bvs (rb 12 nn)), .slice Aa na ca, .slice Ap np cp]) 73 Tryd.func4 rfl Tryd.ntmps4 rfl (fun a W H => ?_)
  replace H : St 73 w a W [(0, .agg (bvs (rb 32 kk))), (1, .agg (bvs (rb 12 nn))), (2, .slice Aa na ca), (3, .slice Ap np cp)] [] := H
  refine wp_seq_k (fun K1 hK1 => ?_)
  refine rg_plain ?_
  refine pl_box rfl rfl (bx_key kk) rfl rfl rfl rfl H ?_
  try clear H a W
  intro g1 a W H
  refine pl_box rfl rfl (bx_nonce nn) rfl rfl rfl rfl H ?_
  try clear H a W
  intro g2 a W H
  refine pl_does (does_assign rfl rfl) rfl rfl rfl rfl H ?_
  try clear H a W
  intro a W H
  refine pl_end ?_
  replace H : St 73 w a W [(8, .bool false), (5, .pointer (some ⟨g2, 0, none⟩)), (4, .pointer (some ⟨g1, 0, none⟩)), (2, .slice Aa na ca), (3, .slice Ap np cp)] [(g2, 27, bvs (rb 12 nn)), (g1, 23, bvs (rb 32 kk))] := H.pick [0, 1, 2, 5, 6] [0, 1] rfl
  refine hK1 _ _ ?_
  clear hK1
  refine wp_seq_k (fun K2 hK2 => ?_)
  refine wp_seq_k (fun K3 hK3 => ?_)
  refine rg_plain ?_
  refine pl_does (does_move rfl rfl) rfl rfl rfl rfl H ?_
  try clear H a W
  intro a W H
  refine pl_does (does_len Tryd.underlying25 rfl rfl) rfl rfl rfl rfl H ?_
  try clear H a W
  intro a W H
  refine pl_does (does_binOp rfl rfl rfl (i_gtrB (k := na) (m := 400) (decide_eq_true (by omega)) _ _)) rfl rfl rfl rfl H ?_
  try clear H a W
  intro a W H
  refine pl_does (does_move rfl rfl) rfl rfl rfl rfl H ?_
  try clear H a W
  intro a W H
  refine pl_skip (wanted_some rfl rfl rfl rfl rfl) rfl rfl rfl H ?_
  try clear H a W
  intro a W H
  refine pl_skip (wanted_some rfl rfl rfl rfl rfl) rfl rfl rfl H ?_
  try clear H a W
  intro a W H
  refine pl_skip (wanted_some rfl rfl rfl rfl rfl) rfl rfl rfl H ?_
  try clear H a W
  intro a W H
  refine pl_does (does_pick rfl rfl (fun _ => rfl) (fun hb => by cases hb)) rfl rfl rfl rfl H ?_
  try clear H a W
  intro a W H
  refine pl_end ?_
  replace H : St 73 w a W [(20, .bool true), (8, .bool false), (5, .pointer (some ⟨g2, 0, none⟩)), (4, .pointer (some ⟨g1, 0, none⟩)), (2, .slice Aa na ca), (3, .slice Ap np cp)] [(g2, 27, bvs (rb 12 nn)), (g1, 23, bvs (rb 32 kk))] := H.pick [0, 8, 9, 10, 11, 12] [0, 1] rfl
  refine hK3 _ _ ?_
  clear hK3
  refine wp_cond_true (H.ev rfl) ?_
  refine wp_seq_k (fun K4 hK4 => ?_)
  refine rg_plain ?_
  refine pl_does (does_call rfl ⟨_, Tryd.func7, by kernel_rfl⟩ rfl (fun W hb => known_any W (hpg.ext hb))) rfl rfl rfl rfl H ?_
  try clear H a W
  intro a W H
  replace H : St 73 w a W [(21, .bool true), (20, .bool true), (5, .pointer (some ⟨g2, 0, none⟩)), (4, .pointer (some ⟨g1, 0, none⟩)), (2, .slice Aa na ca), (3, .slice Ap np cp)] [(g2, 27, bvs (rb 12 nn)), (g1, 23, bvs (rb 32 kk))] := H.pick [0, 1, 3, 4, 5, 6] [0, 1] rfl
  refine pl_does (does_assign rfl rfl) rfl rfl rfl rfl H ?_
  try clear H a W
  intro a W H
  refine pl_end ?_
  replace H : St 73 w a W [(8, .bool true), (5, .pointer (some ⟨g2, 0, none⟩)), (4, .pointer (some ⟨g1, 0, none⟩)), (2, .slice Aa na ca), (3, .slice Ap np cp)] [(g2, 27, bvs (rb 12 nn)), (g1, 23, bvs (rb 32 kk))] := H.pick [0, 3, 4, 5, 6] [0, 1] rfl
  refine hK4 _ _ ?_
  clear hK4
  refine wp_ret ?_
  repeat (first | (with_reducible refine then_ret ?_) | (with_reducible refine blk_ret ?_))
  refine end_tmp (p := 8) rfl rfl H (fun hb => ?_)
  exact ⟨rfl, hb⟩
set_option maxHeartbeats 4000000 in
theorem opens_b {va vp : Value} {la lp : List UInt8} (kk nn : Nat → UInt8) (w : World) (hpg : PG w) (hva : BF la va w) (hvp : BF lp vp w) (h1 : la.length ≤ 400) (h2 : 400 < lp.length) : Calls Tryd.prog 4 #[.agg (bvs (rb 32 kk)), .agg (bvs (rb 12 nn)), va, vp] w (fun rr w' => rr = .returned (.bool true) ∧ Below w.heap.size w w') := by
  obtain ⟨Aa, na, ca, rfl, hba⟩ := id hva
  have hna := hba.len
  obtain ⟨Ap, np, cp, rfl, hbp⟩ := id hvp
  have hnp := hbp.len
  refine calls_st (vs := [.agg (bvs (rb 32 kk)), .agg (bvs (rb 12 nn)), .slice Aa na ca, .slice Ap np cp]) 73 Tryd.func4 rfl Tryd.ntmps4 rfl (fun a W H => ?_)
  replace H : St 73 w a W [(0, .agg (bvs (rb 32 kk))), (1, .agg (bvs (rb 12 nn))), (2, .slice Aa na ca), (3, .slice Ap np cp)] [] := H
  refine wp_seq_k (fun K1 hK1 => ?_)
  refine rg_plain ?_
  refine pl_box rfl rfl (bx_key kk) rfl rfl rfl rfl H ?_
  try clear H a W
  intro g1 a W H
  refine pl_box rfl rfl (bx_nonce nn) rfl rfl rfl rfl H ?_
  try clear H a W
  intro g2 a W H
  refine pl_does (does_assign rfl rfl) rfl rfl rfl rfl H ?_
  try clear H a W
  intro a W H
  refine pl_end ?_
  replace H : St 73 w a W [(8, .bool false), (5, .pointer (some ⟨g2, 0, none⟩)), (4, .pointer (some ⟨g1, 0, none⟩)), (2, .slice Aa na ca), (3, .slice Ap np cp)] [(g2, 27, bvs (rb 12 nn)), (g1, 23, bvs (rb 32 kk))] := H.pick [0, 1, 2, 5, 6] [0, 1] rfl
  refine hK1 _ _ ?_
  clear hK1
  refine wp_seq_k (fun K2 hK2 => ?_)
  refine wp_seq_k (fun K3 hK3 => ?_)
  refine rg_plain ?_
  refine pl_does (does_move rfl rfl) rfl rfl rfl rfl H ?_
  try clear H a W
  intro a W H
  refine pl_does (does_len Tryd.underlying25 rfl rfl) rfl rfl rfl rfl H ?_
  try clear H a W
  intro a W H
  refine pl_does (does_binOp rfl rfl rfl (i_gtrB (k := na) (m := 400) (decide_eq_false (by omega)) _ _)) rfl rfl rfl rfl H ?_
  try clear H a W
  intro a W H
  refine pl_does (does_move rfl rfl) rfl rfl rfl rfl H ?_
  try clear H a W
  intro a W H
  refine pl_does_g (does_move rfl rfl) (wanted_some rfl rfl rfl rfl rfl) rfl rfl rfl H ?_
  try clear H a W
  intro a W H
  refine pl_does_g (does_len Tryd.underlying25 rfl rfl) (wanted_some rfl rfl rfl rfl rfl) rfl rfl rfl H ?_
  try clear H a W
  intro a W H
  refine pl_does_g (does_binOp rfl rfl rfl (i_gtrB (k := np) (m := 400) (decide_eq_true (by omega)) _ _)) (wanted_some rfl rfl rfl rfl rfl) rfl rfl rfl H ?_
  try clear H a W
  intro a W H
  refine pl_does (does_pick rfl rfl (fun hb => by cases hb) (fun _ => rfl)) rfl rfl rfl rfl H ?_
  try clear H a W
  intro a W H
  refine pl_end ?_
  replace H : St 73 w a W [(20, .bool true), (8, .bool false), (5, .pointer (some ⟨g2, 0, none⟩)), (4, .pointer (some ⟨g1, 0, none⟩)), (2, .slice Aa na ca), (3, .slice Ap np cp)] [(g2, 27, bvs (rb 12 nn)), (g1, 23, bvs (rb 32 kk))] := H.pick [0, 8, 9, 10, 11, 12] [0, 1] rfl
  refine hK3 _ _ ?_
  clear hK3
  refine wp_cond_true (H.ev rfl) ?_
  refine wp_seq_k (fun K4 hK4 => ?_)
  refine rg_plain ?_
  refine pl_does (does_call rfl ⟨_, Tryd.func7, by kernel_rfl⟩ rfl (fun W hb => known_any W (hpg.ext hb))) rfl rfl rfl rfl H ?_
  try clear H a W
  intro a W H
  replace H : St 73 w a W [(21, .bool true), (20, .bool true), (5, .pointer (some ⟨g2, 0, none⟩)), (4, .pointer (some ⟨g1, 0, none⟩)), (2, .slice Aa na ca), (3, .slice Ap np cp)] [(g2, 27, bvs (rb 12 nn)), (g1, 23, bvs (rb 32 kk))] := H.pick [0, 1, 3, 4, 5, 6] [0, 1] rfl
  refine pl_does (does_assign rfl rfl) rfl rfl rfl rfl H ?_
  try clear H a W
  intro a W H
  refine pl_end ?_
  replace H : St 73 w a W [(8, .bool true), (5, .pointer (some ⟨g2, 0, none⟩)), (4, .pointer (some ⟨g1, 0, none⟩)), (2, .slice Aa na ca), (3, .slice Ap np cp)] [(g2, 27, bvs (rb 12 nn)), (g1, 23, bvs (rb 32 kk))] := H.pick [0, 3, 4, 5, 6] [0, 1] rfl
  refine hK4 _ _ ?_
  clear hK4
  refine wp_ret ?_
  repeat (first | (with_reducible refine then_ret ?_) | (with_reducible refine blk_ret ?_))
  refine end_tmp (p := 8) rfl rfl H (fun hb => ?_)
  exact ⟨rfl, hb⟩
set_option maxHeartbeats 4000000 in
theorem opens_c {va vp : Value} {la lp : List UInt8} (kk nn : Nat → UInt8) (w : World) (hpg : PG w) (hva : BF la va w) (hvp : BF lp vp w) (h1 : la.length ≤ 400) (h2 : lp.length ≤ 400) (h3 : lp.length < 16) : Calls Tryd.prog 4 #[.agg (bvs (rb 32 kk)), .agg (bvs (rb 12 nn)), va, vp] w (fun rr w' => rr = .returned (.bool true) ∧ Below w.heap.size w w') := by
  obtain ⟨Aa, na, ca, rfl, hba⟩ := id hva
  have hna := hba.len
  obtain ⟨Ap, np, cp, rfl, hbp⟩ := id hvp
  have hnp := hbp.len
  refine calls_st (vs := [.agg (bvs (rb 32 kk)), .agg (bvs (rb 12 nn)), .slice Aa na ca, .slice Ap np cp]) 73 Tryd.func4 rfl Tryd.ntmps4 rfl (fun a W H => ?_)
  replace H : St 73 w a W [(0, .agg (bvs (rb 32 kk))), (1, .agg (bvs (rb 12 nn))), (2, .slice Aa na ca), (3, .slice Ap np cp)] [] := H
  refine wp_seq_k (fun K1 hK1 => ?_)
  refine rg_plain ?_
  refine pl_box rfl rfl (bx_key kk) rfl rfl rfl rfl H ?_
  try clear H a W
  intro g1 a W H
  refine pl_box rfl rfl (bx_nonce nn) rfl rfl rfl rfl H ?_
  try clear H a W
  intro g2 a W H
  refine pl_does (does_assign rfl rfl) rfl rfl rfl rfl H ?_
  try clear H a W
  intro a W H
  refine pl_end ?_
  replace H : St 73 w a W [(8, .bool false), (5, .pointer (some ⟨g2, 0, none⟩)), (4, .pointer (some ⟨g1, 0, none⟩)), (2, .slice Aa na ca), (3, .slice Ap np cp)] [(g2, 27, bvs (rb 12 nn)), (g1, 23, bvs (rb 32 kk))] := H.pick [0, 1, 2, 5, 6] [0, 1] rfl
  refine hK1 _ _ ?_
  clear hK1
  refine wp_seq_k (fun K2 hK2 => ?_)
  refine wp_seq_k (fun K3 hK3 => ?_)
  refine rg_plain ?_
  refine pl_does (does_move rfl rfl) rfl rfl rfl rfl H ?_
  try clear H a W
  intro a W H
  refine pl_does (does_len Tryd.underlying25 rfl rfl) rfl rfl rfl rfl H ?_
  try clear H a W
  intro a W H
  refine pl_does (does_binOp rfl rfl rfl (i_gtrB (k := na) (m := 400) (decide_eq_false (by omega)) _ _)) rfl rfl rfl rfl H ?_
  try clear H a W
  intro a W H
  refine pl_does (does_move rfl rfl) rfl rfl rfl rfl H ?_
  try clear H a W
  intro a W H
  refine pl_does_g (does_move rfl rfl) (wanted_some rfl rfl rfl rfl rfl) rfl rfl rfl H ?_
  try clear H a W
  intro a W H
  refine pl_does_g (does_len Tryd.underlying25 rfl rfl) (wanted_some rfl rfl rfl rfl rfl) rfl rfl rfl H ?_
  try clear H a W
  intro a W H
  refine pl_does_g (does_binOp rfl rfl rfl (i_gtrB (k := np) (m := 400) (decide_eq_false (by omega)) _ _)) (wanted_some rfl rfl rfl rfl rfl) rfl rfl rfl H ?_
  try clear H a W
  intro a W H
  refine pl_does (does_pick rfl rfl (fun hb => by cases hb) (fun _ => rfl)) rfl rfl rfl rfl H ?_
  try clear H a W
  intro a W H
  refine pl_end ?_
  replace H : St 73 w a W [(20, .bool false), (8, .bool false), (5, .pointer (some ⟨g2, 0, none⟩)), (4, .pointer (some ⟨g1, 0, none⟩)), (2, .slice Aa na ca), (3, .slice Ap np cp)] [(g2, 27, bvs (rb 12 nn)), (g1, 23, bvs (rb 32 kk))] := H.pick [0, 8, 9, 10, 11, 12] [0, 1] rfl
  refine hK3 _ _ ?_
  clear hK3
  refine wp_cond_false (H.ev rfl) ?_
  refine wp_skip ?_
  refine hK2 _ _ ?_
  clear hK2
  refine wp_seq_k (fun K4 hK4 => ?_)
  refine rg_plain ?_
  refine pl_does (does_load rfl rfl (k := 1) rfl Tryd.underlying23 rfl (info_key _)) rfl rfl rfl rfl H ?_
  try clear H a W
  intro a W H
  refine pl_does (does_load rfl rfl (k := 0) rfl Tryd.underlying27 rfl (info_nonce _)) rfl rfl rfl rfl H ?_
  try clear H a W
  intro a W H
  refine pl_does (does_move rfl rfl) rfl rfl rfl rfl H ?_
  try clear H a W
  intro a W H
  refine pl_does (does_move rfl rfl) rfl rfl rfl rfl H ?_
  try clear H a W
  intro a W H
  refine pl_R (R := SB) (F := fun u_ _ => u_ = .tuple #[.slice none 0 0, .int .i64 8]) sb_st (ob_calS H (wanted_none rfl) rfl ⟨_, Tryd.func10, by kernel_rfl⟩ rfl (open_short kk nn _ (bf_old hva H) (bf_old hvp H) h3)) rfl rfl rfl H ?_
  try clear H a W
  rintro _ a W rfl hR_ H
  clear hR_
  replace H : St 73 w a W [(27, .tuple #[.slice none 0 0, .int .i64 8]), (26, .slice Ap np cp), (25, .slice Aa na ca), (24, .agg (bvs (rb 12 nn))), (23, .agg (bvs (rb 32 kk))), (20, .bool false), (8, .bool false), (5, .pointer (some ⟨g2, 0, none⟩)), (4, .pointer (some ⟨g1, 0, none⟩)), (2, .slice Aa na ca), (3, .slice Ap np cp)] [(g2, 27, bvs (rb 12 nn)), (g1, 23, bvs (rb 32 kk))] := H
  refine pl_does (does_move rfl rfl) rfl rfl rfl rfl H ?_
  try clear H a W
  intro a W H
  refine pl_does (does_extract rfl rfl (fun _ => rfl)) rfl rfl rfl rfl H ?_
  try clear H a W
  intro a W H
  refine pl_does (does_extract rfl rfl (fun _ => rfl)) rfl rfl rfl rfl H ?_
  try clear H a W
  intro a W H
  refine pl_does (does_assign rfl rfl) rfl rfl rfl rfl H ?_
  try clear H a W
  intro a W H
  refine pl_does (does_assign rfl rfl) rfl rfl rfl rfl H ?_
  try clear H a W
  intro a W H
  refine pl_end ?_
  replace H : St 73 w a W [(10, .int .i64 8), (9, .slice none 0 0), (8, .bool false), (5, .pointer (some ⟨g2, 0, none⟩)), (4, .pointer (some ⟨g1, 0, none⟩)), (2, .slice Aa na ca), (3, .slice Ap np cp)] [(g2, 27, bvs (rb 12 nn)), (g1, 23, bvs (rb 32 kk))] := H.pick [0, 1, 11, 12, 13, 14, 15] [0, 1] rfl
  refine hK4 _ _ ?_
  clear hK4
  refine wp_seq_k (fun K5 hK5 => ?_)
  refine rg_plain ?_
  refine pl_does (does_load rfl rfl (k := 1) rfl Tryd.underlying23 rfl (info_key _)) rfl rfl rfl rfl H ?_
  try clear H a W
  intro a W H
  refine pl_does (does_load rfl rfl (k := 0) rfl Tryd.underlying27 rfl (info_nonce _)) rfl rfl rfl rfl H ?_
  try clear H a W
  intro a W H
  refine pl_does (does_move rfl rfl) rfl rfl rfl rfl H ?_
  try clear H a W
  intro a W H
  refine pl_does (does_move rfl rfl) rfl rfl rfl rfl H ?_
  try clear H a W
  intro a W H
  refine pl_R (R := SB) (F := fun u_ _ => u_ = .tuple #[.slice none 0 0, .bool false]) sb_st (ob_calS H (wanted_none rfl) rfl ⟨_, Tryd.func13, by kernel_rfl⟩ rfl (ropen_short kk nn _ (bf_old hva H) (bf_old hvp H) h3)) rfl rfl rfl H ?_
  try clear H a W
  rintro _ a W rfl hR_ H
  clear hR_
  replace H : St 73 w a W [(35, .tuple #[.slice none 0 0, .bool false]), (34, .slice Ap np cp), (33, .slice Aa na ca), (32, .agg (bvs (rb 12 nn))), (31, .agg (bvs (rb 32 kk))), (10, .int .i64 8), (9, .slice none 0 0), (8, .bool false), (5, .pointer (some ⟨g2, 0, none⟩)), (4, .pointer (some ⟨g1, 0, none⟩)), (2, .slice Aa na ca), (3, .slice Ap np cp)] [(g2, 27, bvs (rb 12 nn)), (g1, 23, bvs (rb 32 kk))] := H
  refine pl_does (does_move rfl rfl) rfl rfl rfl rfl H ?_
  try clear H a W
  intro a W H
  refine pl_does (does_extract rfl rfl (fun _ => rfl)) rfl rfl rfl rfl H ?_
  try clear H a W
  intro a W H
  refine pl_does (does_extract rfl rfl (fun _ => rfl)) rfl rfl rfl rfl H ?_
  try clear H a W
  intro a W H
  refine pl_does (does_assign rfl rfl) rfl rfl rfl rfl H ?_
  try clear H a W
  intro a W H
  refine pl_does (does_assign rfl rfl) rfl rfl rfl rfl H ?_
  try clear H a W
  intro a W H
  refine pl_end ?_
  replace H : St 73 w a W [(12, .bool false), (11, .slice none 0 0), (10, .int .i64 8), (9, .slice none 0 0), (8, .bool false), (5, .pointer (some ⟨g2, 0, none⟩)), (4, .pointer (some ⟨g1, 0, none⟩)), (2, .slice Aa na ca), (3, .slice Ap np cp)] [(g2, 27, bvs (rb 12 nn)), (g1, 23, bvs (rb 32 kk))] := H.pick [0, 1, 10, 11, 12, 13, 14, 15, 16] [0, 1] rfl
  refine hK5 _ _ ?_
  clear hK5
  refine wp_seq_k (fun K6 hK6 => ?_)
  refine wp_seq_k (fun K7 hK7 => ?_)
  refine rg_plain ?_
  refine pl_does (does_move rfl rfl) rfl rfl rfl rfl H ?_
  try clear H a W
  intro a W H
  refine pl_does (does_unOp rfl rfl (fun _ => rfl)) rfl rfl rfl rfl H ?_
  try clear H a W
  intro a W H
  refine pl_end ?_
  replace H : St 73 w a W [(39, .bool true), (11, .slice none 0 0), (10, .int .i64 8), (9, .slice none 0 0), (8, .bool false), (5, .pointer (some ⟨g2, 0, none⟩)), (4, .pointer (some ⟨g1, 0, none⟩)), (2, .slice Aa na ca), (3, .slice Ap np cp)] [(g2, 27, bvs (rb 12 nn)), (g1, 23, bvs (rb 32 kk))] := H.pick [0, 3, 4, 5, 6, 7, 8, 9, 10] [0, 1] rfl
  refine hK7 _ _ ?_
  clear hK7
  refine wp_cond_true (H.ev rfl) ?_
  refine wp_seq_k (fun K8 hK8 => ?_)
  refine rg_plain ?_
  refine pl_does (does_move rfl rfl) rfl rfl rfl rfl H ?_
  try clear H a W
  intro a W H
  refine pl_does (does_binOp rfl rfl rfl (e_eql _ _ _)) rfl rfl rfl rfl H ?_
  try clear H a W
  intro a W H
  refine pl_does (does_move rfl rfl) rfl rfl rfl rfl H ?_
  try clear H a W
  intro a W H
  refine pl_does_g (does_move rfl rfl) (wanted_some rfl rfl rfl rfl rfl) rfl rfl rfl H ?_
  try clear H a W
  intro a W H
  refine pl_does_g (does_len Tryd.underlying25 rfl rfl) (wanted_some rfl rfl rfl rfl rfl) rfl rfl rfl H ?_
  try clear H a W
  intro a W H
  refine pl_does_g (does_binOp rfl rfl rfl (i_eqlI _ _ _)) (wanted_some rfl rfl rfl rfl rfl) rfl rfl rfl H ?_
  try clear H a W
  intro a W H
  refine pl_does (does_pick rfl rfl (fun _ => rfl) (fun hb => by cases hb)) rfl rfl rfl rfl H ?_
  try clear H a W
  intro a W H
  refine pl_does (does_move rfl rfl) rfl rfl rfl rfl H ?_
  try clear H a W
  intro a W H
  refine pl_does_g (does_call rfl ⟨_, Tryd.func7, by kernel_rfl⟩ rfl (fun W hb => known_any W (hpg.ext hb))) (wanted_some rfl rfl rfl rfl rfl) rfl rfl rfl H ?_
  try clear H a W
  intro a W H
  refine pl_does (does_pick rfl rfl (fun _ => rfl) (fun hb => by cases hb)) rfl rfl rfl rfl H ?_
  try clear H a W
  intro a W H
  replace H : St 73 w a W [(49, .bool true), (48, .bool true), (47, .bool true), (46, .bool true), (45, .bool true), (44, .int .i64 ((0 : Nat) : Int)), (43, .slice none 0 0), (42, .bool true), (41, .bool true), (40, .int .i64 8), (39, .bool true), (11, .slice none 0 0), (10, .int .i64 8), (9, .slice none 0 0), (5, .pointer (some ⟨g2, 0, none⟩)), (4, .pointer (some ⟨g1, 0, none⟩)), (2, .slice Aa na ca), (3, .slice Ap np cp)] [(g2, 27, bvs (rb 12 nn)), (g1, 23, bvs (rb 32 kk))] := H.pick [0, 1, 2, 3, 4, 5, 6, 7, 8, 9, 10, 11, 12, 13, 15, 16, 17, 18] [0, 1] rfl
  refine pl_does (does_assign rfl rfl) rfl rfl rfl rfl H ?_
  try clear H a W
  intro a W H
  refine pl_end ?_
  replace H : St 73 w a W [(8, .bool true), (11, .slice none 0 0), (10, .int .i64 8), (9, .slice none 0 0), (5, .pointer (some ⟨g2, 0, none⟩)), (4, .pointer (some ⟨g1, 0, none⟩)), (2, .slice Aa na ca), (3, .slice Ap np cp)] [(g2, 27, bvs (rb 12 nn)), (g1, 23, bvs (rb 32 kk))] := H.pick [0, 12, 13, 14, 15, 16, 17, 18] [0, 1] rfl
  refine hK8 _ _ ?_
  clear hK8
  refine wp_ret ?_
  repeat (first | (with_reducible refine then_ret ?_) | (with_reducible refine blk_ret ?_))
  refine end_tmp (p := 8) rfl rfl H (fun hb => ?_)
  exact ⟨rfl, hb⟩
set_option maxHeartbeats 4000000 in
theorem opens_d {va vp : Value} {la lp : List UInt8} (kk nn : Nat → UInt8) (w : World) (hpg : PG w) (hva : BF la va w) (hvp : BF lp vp w) (h1 : la.length ≤ 400) (h2 : lp.length ≤ 400) {m : Nat} (hl : lp.length = m + 16) (hq : decide (rb 16 (endF lp m) = rb 16 (tagF (blockF kk 0 nn) (macB la (lp.take m)))) = false) : Calls Tryd.prog 4 #[.agg (bvs (rb 32 kk)), .agg (bvs (rb 12 nn)), va, vp] w (fun rr w' => rr = .returned (.bool true) ∧ Below w.heap.size w w') := by
  obtain ⟨Aa, na, ca, rfl, hba⟩ := id hva
  have hna := hba.len
  obtain ⟨Ap, np, cp, rfl, hbp⟩ := id hvp
  have hnp := hbp.len
  refine calls_st (vs := [.agg (bvs (rb 32 kk)), .agg (bvs (rb 12 nn)), .slice Aa na ca, .slice Ap np cp]) 73 Tryd.func4 rfl Tryd.ntmps4 rfl (fun a W H => ?_)
  replace H : St 73 w a W [(0, .agg (bvs (rb 32 kk))), (1, .agg (bvs (rb 12 nn))), (2, .slice Aa na ca), (3, .slice Ap np cp)] [] := H
  refine wp_seq_k (fun K1 hK1 => ?_)
  refine rg_plain ?_
  refine pl_box rfl rfl (bx_key kk) rfl rfl rfl rfl H ?_
  try clear H a W
  intro g1 a W H
  refine pl_box rfl rfl (bx_nonce nn) rfl rfl rfl rfl H ?_
  try clear H a W
  intro g2 a W H
  refine pl_does (does_assign rfl rfl) rfl rfl rfl rfl H ?_
  try clear H a W
  intro a W H
  refine pl_end ?_
  replace H : St 73 w a W [(8, .bool false), (5, .pointer (some ⟨g2, 0, none⟩)), (4, .pointer (some ⟨g1, 0, none⟩)), (2, .slice Aa na ca), (3, .slice Ap np cp)] [(g2, 27, bvs (rb 12 nn)), (g1, 23, bvs (rb 32 kk))] := H.pick [0, 1, 2, 5, 6] [0, 1] rfl
  refine hK1 _ _ ?_
  clear hK1
  refine wp_seq_k (fun K2 hK2 => ?_)
  refine wp_seq_k (fun K3 hK3 => ?_)
  refine rg_plain ?_
  refine pl_does (does_move rfl rfl) rfl rfl rfl rfl H ?_
  try clear H a W
  intro a W H
  refine pl_does (does_len Tryd.underlying25 rfl rfl) rfl rfl rfl rfl H ?_
  try clear H a W
  intro a W H
  refine pl_does (does_binOp rfl rfl rfl (i_gtrB (k := na) (m := 400) (decide_eq_false (by omega)) _ _)) rfl rfl rfl rfl H ?_
  try clear H a W
  intro a W H
  refine pl_does (does_move rfl rfl) rfl rfl rfl rfl H ?_
  try clear H a W
  intro a W H
  refine pl_does_g (does_move rfl rfl) (wanted_some rfl rfl rfl rfl rfl) rfl rfl rfl H ?_
  try clear H a W
  intro a W H
  refine pl_does_g (does_len Tryd.underlying25 rfl rfl) (wanted_some rfl rfl rfl rfl rfl) rfl rfl rfl H ?_
  try clear H a W
  intro a W H
  refine pl_does_g (does_binOp rfl rfl rfl (i_gtrB (k := np) (m := 400) (decide_eq_false (by omega)) _ _)) (wanted_some rfl rfl rfl rfl rfl) rfl rfl rfl H ?_
  try clear H a W
  intro a W H
  refine pl_does (does_pick rfl rfl (fun hb => by cases hb) (fun _ => rfl)) rfl rfl rfl rfl H ?_
  try clear H a W
  intro a W H
  refine pl_end ?_
  replace H : St 73 w a W [(20, .bool false), (8, .bool false), (5, .pointer (some ⟨g2, 0, none⟩)), (4, .pointer (some ⟨g1, 0, none⟩)), (2, .slice Aa na ca), (3, .slice Ap np cp)] [(g2, 27, bvs (rb 12 nn)), (g1, 23, bvs (rb 32 kk))] := H.pick [0, 8, 9, 10, 11, 12] [0, 1] rfl
  refine hK3 _ _ ?_
  clear hK3
  refine wp_cond_false (H.ev rfl) ?_
  refine wp_skip ?_
  refine hK2 _ _ ?_
  clear hK2
  refine wp_seq_k (fun K4 hK4 => ?_)
  refine rg_plain ?_
  refine pl_does (does_load rfl rfl (k := 1) rfl Tryd.underlying23 rfl (info_key _)) rfl rfl rfl rfl H ?_
  try clear H a W
  intro a W H
  refine pl_does (does_load rfl rfl (k := 0) rfl Tryd.underlying27 rfl (info_nonce _)) rfl rfl rfl rfl H ?_
  try clear H a W
  intro a W H
  refine pl_does (does_move rfl rfl) rfl rfl rfl rfl H ?_
  try clear H a W
  intro a W H
  refine pl_does (does_move rfl rfl) rfl rfl rfl rfl H ?_
  try clear H a W
  intro a W H
  refine pl_R (R := SB) (F := fun u_ _ => u_ = .tuple #[.slice none 0 0, .int .i64 8]) sb_st (ob_calS H (wanted_none rfl) rfl ⟨_, Tryd.func10, by kernel_rfl⟩ rfl (open_no (m := m) kk nn _ (hpg.ext H.below) (bf_old hva H) (bf_old hvp H) (by omega) hl (by omega) hq)) rfl rfl rfl H ?_
  try clear H a W
  rintro _ a W rfl hR_ H
  clear hR_
  replace H : St 73 w a W [(27, .tuple #[.slice none 0 0, .int .i64 8]), (26, .slice Ap np cp), (25, .slice Aa na ca), (24, .agg (bvs (rb 12 nn))), (23, .agg (bvs (rb 32 kk))), (20, .bool false), (8, .bool false), (5, .pointer (some ⟨g2, 0, none⟩)), (4, .pointer (some ⟨g1, 0, none⟩)), (2, .slice Aa na ca), (3, .slice Ap np cp)] [(g2, 27, bvs (rb 12 nn)), (g1, 23, bvs (rb 32 kk))] := H
  refine pl_does (does_move rfl rfl) rfl rfl rfl rfl H ?_
  try clear H a W
  intro a W H
  refine pl_does (does_extract rfl rfl (fun _ => rfl)) rfl rfl rfl rfl H ?_
  try clear H a W
  intro a W H
  refine pl_does (does_extract rfl rfl (fun _ => rfl)) rfl rfl rfl rfl H ?_
  try clear H a W
  intro a W H
  refine pl_does (does_assign rfl rfl) rfl rfl rfl rfl H ?_
  try clear H a W
  intro a W H
  refine pl_does (does_assign rfl rfl) rfl rfl rfl rfl H ?_
  try clear H a W
  intro a W H
  refine pl_end ?_
  replace H : St 73 w a W [(10, .int .i64 8), (9, .slice none 0 0), (8, .bool false), (5, .pointer (some ⟨g2, 0, none⟩)), (4, .pointer (some ⟨g1, 0, none⟩)), (2, .slice Aa na ca), (3, .slice Ap np cp)] [(g2, 27, bvs (rb 12 nn)), (g1, 23, bvs (rb 32 kk))] := H.pick [0, 1, 11, 12, 13, 14, 15] [0, 1] rfl
  refine hK4 _ _ ?_
  clear hK4
  refine wp_seq_k (fun K5 hK5 => ?_)
  refine rg_plain ?_
  refine pl_does (does_load rfl rfl (k := 1) rfl Tryd.underlying23 rfl (info_key _)) rfl rfl rfl rfl H ?_
  try clear H a W
  intro a W H
  refine pl_does (does_load rfl rfl (k := 0) rfl Tryd.underlying27 rfl (info_nonce _)) rfl rfl rfl rfl H ?_
  try clear H a W
  intro a W H
  refine pl_does (does_move rfl rfl) rfl rfl rfl rfl H ?_
  try clear H a W
  intro a W H
  refine pl_does (does_move rfl rfl) rfl rfl rfl rfl H ?_
  try clear H a W
  intro a W H
  refine pl_R (R := SB) (F := fun u_ _ => u_ = .tuple #[.slice none 0 0, .bool false]) sb_st (ob_calS H (wanted_none rfl) rfl ⟨_, Tryd.func13, by kernel_rfl⟩ rfl (ropen_no (m := m) kk nn _ (bf_old hva H) (bf_old hvp H) (by omega) hl (by omega) (mark_look hl hq))) rfl rfl rfl H ?_
  try clear H a W
  rintro _ a W rfl hR_ H
  clear hR_
  replace H : St 73 w a W [(35, .tuple #[.slice none 0 0, .bool false]), (34, .slice Ap np cp), (33, .slice Aa na ca), (32, .agg (bvs (rb 12 nn))), (31, .agg (bvs (rb 32 kk))), (10, .int .i64 8), (9, .slice none 0 0), (8, .bool false), (5, .pointer (some ⟨g2, 0, none⟩)), (4, .pointer (some ⟨g1, 0, none⟩)), (2, .slice Aa na ca), (3, .slice Ap np cp)] [(g2, 27, bvs (rb 12 nn)), (g1, 23, bvs (rb 32 kk))] := H
  refine pl_does (does_move rfl rfl) rfl rfl rfl rfl H ?_
  try clear H a W
  intro a W H
  refine pl_does (does_extract rfl rfl (fun _ => rfl)) rfl rfl rfl rfl H ?_
  try clear H a W
  intro a W H
  refine pl_does (does_extract rfl rfl (fun _ => rfl)) rfl rfl rfl rfl H ?_
  try clear H a W
  intro a W H
  refine pl_does (does_assign rfl rfl) rfl rfl rfl rfl H ?_
  try clear H a W
  intro a W H
  refine pl_does (does_assign rfl rfl) rfl rfl rfl rfl H ?_
  try clear H a W
  intro a W H
  refine pl_end ?_
  replace H : St 73 w a W [(12, .bool false), (11, .slice none 0 0), (10, .int .i64 8), (9, .slice none 0 0), (8, .bool false), (5, .pointer (some ⟨g2, 0, none⟩)), (4, .pointer (some ⟨g1, 0, none⟩)), (2, .slice Aa na ca), (3, .slice Ap np cp)] [(g2, 27, bvs (rb 12 nn)), (g1, 23, bvs (rb 32 kk))] := H.pick [0, 1, 10, 11, 12, 13, 14, 15, 16] [0, 1] rfl
  refine hK5 _ _ ?_
  clear hK5
  refine wp_seq_k (fun K6 hK6 => ?_)
  refine wp_seq_k (fun K7 hK7 => ?_)
  refine rg_plain ?_
  refine pl_does (does_move rfl rfl) rfl rfl rfl rfl H ?_
  try clear H a W
  intro a W H
  refine pl_does (does_unOp rfl rfl (fun _ => rfl)) rfl rfl rfl rfl H ?_
  try clear H a W
  intro a W H
  refine pl_end ?_
  replace H : St 73 w a W [(39, .bool true), (11, .slice none 0 0), (10, .int .i64 8), (9, .slice none 0 0), (8, .bool false), (5, .pointer (some ⟨g2, 0, none⟩)), (4, .pointer (some ⟨g1, 0, none⟩)), (2, .slice Aa na ca), (3, .slice Ap np cp)] [(g2, 27, bvs (rb 12 nn)), (g1, 23, bvs (rb 32 kk))] := H.pick [0, 3, 4, 5, 6, 7, 8, 9, 10] [0, 1] rfl
  refine hK7 _ _ ?_
  clear hK7
  refine wp_cond_true (H.ev rfl) ?_
  refine wp_seq_k (fun K8 hK8 => ?_)
  refine rg_plain ?_
  refine pl_does (does_move rfl rfl) rfl rfl rfl rfl H ?_
  try clear H a W
  intro a W H
  refine pl_does (does_binOp rfl rfl rfl (e_eql _ _ _)) rfl rfl rfl rfl H ?_
  try clear H a W
  intro a W H
  refine pl_does (does_move rfl rfl) rfl rfl rfl rfl H ?_
  try clear H a W
  intro a W H
  refine pl_does_g (does_move rfl rfl) (wanted_some rfl rfl rfl rfl rfl) rfl rfl rfl H ?_
  try clear H a W
  intro a W H
  refine pl_does_g (does_len Tryd.underlying25 rfl rfl) (wanted_some rfl rfl rfl rfl rfl) rfl rfl rfl H ?_
  try clear H a W
  intro a W H
  refine pl_does_g (does_binOp rfl rfl rfl (i_eqlI _ _ _)) (wanted_some rfl rfl rfl rfl rfl) rfl rfl rfl H ?_
  try clear H a W
  intro a W H
  refine pl_does (does_pick rfl rfl (fun _ => rfl) (fun hb => by cases hb)) rfl rfl rfl rfl H ?_
  try clear H a W
  intro a W H
  refine pl_does (does_move rfl rfl) rfl rfl rfl rfl H ?_
  try clear H a W
  intro a W H
  refine pl_does_g (does_call rfl ⟨_, Tryd.func7, by kernel_rfl⟩ rfl (fun W hb => known_any W (hpg.ext hb))) (wanted_some rfl rfl rfl rfl rfl) rfl rfl rfl H ?_
  try clear H a W
  intro a W H
  refine pl_does (does_pick rfl rfl (fun _ => rfl) (fun hb => by cases hb)) rfl rfl rfl rfl H ?_
  try clear H a W
  intro a W H
  replace H : St 73 w a W [(49, .bool true), (48, .bool true), (47, .bool true), (46, .bool true), (45, .bool true), (44, .int .i64 ((0 : Nat) : Int)), (43, .slice none 0 0), (42, .bool true), (41, .bool true), (40, .int .i64 8), (39, .bool true), (11, .slice none 0 0), (10, .int .i64 8), (9, .slice none 0 0), (5, .pointer (some ⟨g2, 0, none⟩)), (4, .pointer (some ⟨g1, 0, none⟩)), (2, .slice Aa na ca), (3, .slice Ap np cp)] [(g2, 27, bvs (rb 12 nn)), (g1, 23, bvs (rb 32 kk))] := H.pick [0, 1, 2, 3, 4, 5, 6, 7, 8, 9, 10, 11, 12, 13, 15, 16, 17, 18] [0, 1] rfl
  refine pl_does (does_assign rfl rfl) rfl rfl rfl rfl H ?_
  try clear H a W
  intro a W H
  refine pl_end ?_
  replace H : St 73 w a W [(8, .bool true), (11, .slice none 0 0), (10, .int .i64 8), (9, .slice none 0 0), (5, .pointer (some ⟨g2, 0, none⟩)), (4, .pointer (some ⟨g1, 0, none⟩)), (2, .slice Aa na ca), (3, .slice Ap np cp)] [(g2, 27, bvs (rb 12 nn)), (g1, 23, bvs (rb 32 kk))] := H.pick [0, 12, 13, 14, 15, 16, 17, 18] [0, 1] rfl
  refine hK8 _ _ ?_
  clear hK8
  refine wp_ret ?_
  repeat (first | (with_reducible refine then_ret ?_) | (with_reducible refine blk_ret ?_))
  refine end_tmp (p := 8) rfl rfl H (fun hb => ?_)
  exact ⟨rfl, hb⟩
set_option maxHeartbeats 4000000 in
theorem opens_e {va vp : Value} {la lp : List UInt8} (kk nn : Nat → UInt8) (w : World) (hpg : PG w) (hva : BF la va w) (hvp : BF lp vp w) (h1 : la.length ≤ 400) (h2 : lp.length ≤ 400) {m : Nat} (hl : lp.length = m + 16) (hq : decide (rb 16 (endF lp m) = rb 16 (tagF (blockF kk 0 nn) (macB la (lp.take m)))) = true) : Calls Tryd.prog 4 #[.agg (bvs (rb 32 kk)), .agg (bvs (rb 12 nn)), va, vp] w (fun rr w' => rr = .returned (.bool true) ∧ Below w.heap.size w w') := by
  obtain ⟨Aa, na, ca, rfl, hba⟩ := id hva
  have hna := hba.len
  obtain ⟨Ap, np, cp, rfl, hbp⟩ := id hvp
  have hnp := hbp.len
  refine calls_st (vs := [.agg (bvs (rb 32 kk)), .agg (bvs (rb 12 nn)), .slice Aa na ca, .slice Ap np cp]) 73 Tryd.func4 rfl Tryd.ntmps4 rfl (fun a W H => ?_)
  replace H : St 73 w a W [(0, .agg (bvs (rb 32 kk))), (1, .agg (bvs (rb 12 nn))), (2, .slice Aa na ca), (3, .slice Ap np cp)] [] := H
  refine wp_seq_k (fun K1 hK1 => ?_)
  refine rg_plain ?_
  refine pl_box rfl rfl (bx_key kk) rfl rfl rfl rfl H ?_
  try clear H a W
  intro g1 a W H
  refine pl_box rfl rfl (bx_nonce nn) rfl rfl rfl rfl H ?_
  try clear H a W
  intro g2 a W H
  refine pl_does (does_assign rfl rfl) rfl rfl rfl rfl H ?_
  try clear H a W
  intro a W H
  refine pl_end ?_
  replace H : St 73 w a W [(8, .bool false), (5, .pointer (some ⟨g2, 0, none⟩)), (4, .pointer (some ⟨g1, 0, none⟩)), (2, .slice Aa na ca), (3, .slice Ap np cp)] [(g2, 27, bvs (rb 12 nn)), (g1, 23, bvs (rb 32 kk))] := H.pick [0, 1, 2, 5, 6] [0, 1] rfl
  refine hK1 _ _ ?_
  clear hK1
  refine wp_seq_k (fun K2 hK2 => ?_)
  refine wp_seq_k (fun K3 hK3 => ?_)
  refine rg_plain ?_
  refine pl_does (does_move rfl rfl) rfl rfl rfl rfl H ?_
  try clear H a W
  intro a W H
  refine pl_does (does_len Tryd.underlying25 rfl rfl) rfl rfl rfl rfl H ?_
  try clear H a W
  intro a W H
  refine pl_does (does_binOp rfl rfl rfl (i_gtrB (k := na) (m := 400) (decide_eq_false (by omega)) _ _)) rfl rfl rfl rfl H ?_
  try clear H a W
  intro a W H
  refine pl_does (does_move rfl rfl) rfl rfl rfl rfl H ?_
  try clear H a W
  intro a W H
  refine pl_does_g (does_move rfl rfl) (wanted_some rfl rfl rfl rfl rfl) rfl rfl rfl H ?_
  try clear H a W
  intro a W H
  refine pl_does_g (does_len Tryd.underlying25 rfl rfl) (wanted_some rfl rfl rfl rfl rfl) rfl rfl rfl H ?_
  try clear H a W
  intro a W H
  refine pl_does_g (does_binOp rfl rfl rfl (i_gtrB (k := np) (m := 400) (decide_eq_false (by omega)) _ _)) (wanted_some rfl rfl rfl rfl rfl) rfl rfl rfl H ?_
  try clear H a W
  intro a W H
  refine pl_does (does_pick rfl rfl (fun hb => by cases hb) (fun _ => rfl)) rfl rfl rfl rfl H ?_
  try clear H a W
  intro a W H
  refine pl_end ?_
  replace H : St 73 w a W [(20, .bool false), (8, .bool false), (5, .pointer (some ⟨g2, 0, none⟩)), (4, .pointer (some ⟨g1, 0, none⟩)), (2, .slice Aa na ca), (3, .slice Ap np cp)] [(g2, 27, bvs (rb 12 nn)), (g1, 23, bvs (rb 32 kk))] := H.pick [0, 8, 9, 10, 11, 12] [0, 1] rfl
  refine hK3 _ _ ?_
  clear hK3
  refine wp_cond_false (H.ev rfl) ?_
  refine wp_skip ?_
  refine hK2 _ _ ?_
  clear hK2
  refine wp_seq_k (fun K4 hK4 => ?_)
  refine rg_plain ?_
  refine pl_does (does_load rfl rfl (k := 1) rfl Tryd.underlying23 rfl (info_key _)) rfl rfl rfl rfl H ?_
  try clear H a W
  intro a W H
  refine pl_does (does_load rfl rfl (k := 0) rfl Tryd.underlying27 rfl (info_nonce _)) rfl rfl rfl rfl H ?_
  try clear H a W
  intro a W H
  refine pl_does (does_move rfl rfl) rfl rfl rfl rfl H ?_
  try clear H a W
  intro a W H
  refine pl_does (does_move rfl rfl) rfl rfl rfl rfl H ?_
  try clear H a W
  intro a W H
  refine pl_R (R := SB) (F := TF (encB kk nn (lp.take m)) (.int .i64 0)) sb_st (ob_callS H (wanted_none rfl) rfl ⟨_, Tryd.func10, by kernel_rfl⟩ rfl (tf_call rfl (open_yes (m := m) kk nn _ (hpg.ext H.below) (bf_old hva H) (bf_old hvp H) (by omega) hl (by omega) hq))) rfl rfl rfl H ?_
  try clear H a W
  intro v27 a W hv27 hR_ H
  clear hR_
  replace H : St 73 w a W [(27, v27), (26, .slice Ap np cp), (25, .slice Aa na ca), (24, .agg (bvs (rb 12 nn))), (23, .agg (bvs (rb 32 kk))), (20, .bool false), (8, .bool false), (5, .pointer (some ⟨g2, 0, none⟩)), (4, .pointer (some ⟨g1, 0, none⟩)), (2, .slice Aa na ca), (3, .slice Ap np cp)] [(g2, 27, bvs (rb 12 nn)), (g1, 23, bvs (rb 32 kk))] := H
  obtain ⟨u0, rfl, hu0⟩ := hv27
  replace H : St 73 w a W [(27, .tuple #[u0, .int .i64 0]), (26, .slice Ap np cp), (25, .slice Aa na ca), (24, .agg (bvs (rb 12 nn))), (23, .agg (bvs (rb 32 kk))), (20, .bool false), (8, .bool false), (5, .pointer (some ⟨g2, 0, none⟩)), (4, .pointer (some ⟨g1, 0, none⟩)), (2, .slice Aa na ca), (3, .slice Ap np cp)] [(g2, 27, bvs (rb 12 nn)), (g1, 23, bvs (rb 32 kk))] := H
  refine pl_R (R := SB) (F := fun u_ _ => u_ = .tuple #[u0, .int .i64 0]) sb_st (ob_valS H (wanted_none rfl) (does_move rfl rfl)) rfl rfl rfl H ?_
  try clear H a
  rintro _ a W rfl hR_ H
  replace hu0 := BF.sb _ _ _ hu0 hR_
  clear hR_
  replace H : St 73 w a W [(22, .tuple #[u0, .int .i64 0]), (27, .tuple #[u0, .int .i64 0]), (26, .slice Ap np cp), (25, .slice Aa na ca), (24, .agg (bvs (rb 12 nn))), (23, .agg (bvs (rb 32 kk))), (20, .bool false), (8, .bool false), (5, .pointer (some ⟨g2, 0, none⟩)), (4, .pointer (some ⟨g1, 0, none⟩)), (2, .slice Aa na ca), (3, .slice Ap np cp)] [(g2, 27, bvs (rb 12 nn)), (g1, 23, bvs (rb 32 kk))] := H
  refine pl_R (R := SB) (F := fun u_ _ => u_ = u0) sb_st (ob_valS H (wanted_none rfl) (does_extract rfl rfl (fun _ => rfl))) rfl rfl rfl H ?_
  try clear H a
  intro y_ a W hy_ hR_ H
  replace hy_ := hy_.symm
  subst hy_
  replace hu0 := BF.sb _ _ _ hu0 hR_
  clear hR_
  replace H : St 73 w a W [(28, u0), (22, .tuple #[u0, .int .i64 0]), (27, .tuple #[u0, .int .i64 0]), (26, .slice Ap np cp), (25, .slice Aa na ca), (24, .agg (bvs (rb 12 nn))), (23, .agg (bvs (rb 32 kk))), (20, .bool false), (8, .bool false), (5, .pointer (some ⟨g2, 0, none⟩)), (4, .pointer (some ⟨g1, 0, none⟩)), (2, .slice Aa na ca), (3, .slice Ap np cp)] [(g2, 27, bvs (rb 12 nn)), (g1, 23, bvs (rb 32 kk))] := H
  refine pl_R (R := SB) (F := fun u_ _ => u_ = .int .i64 0) sb_st (ob_valS H (wanted_none rfl) (does_extract rfl rfl (fun _ => rfl))) rfl rfl rfl H ?_
  try clear H a
  rintro _ a W rfl hR_ H
  replace hu0 := BF.sb _ _ _ hu0 hR_
  clear hR_
  replace H : St 73 w a W [(29, .int .i64 0), (28, u0), (22, .tuple #[u0, .int .i64 0]), (27, .tuple #[u0, .int .i64 0]), (26, .slice Ap np cp), (25, .slice Aa na ca), (24, .agg (bvs (rb 12 nn))), (23, .agg (bvs (rb 32 kk))), (20, .bool false), (8, .bool false), (5, .pointer (some ⟨g2, 0, none⟩)), (4, .pointer (some ⟨g1, 0, none⟩)), (2, .slice Aa na ca), (3, .slice Ap np cp)] [(g2, 27, bvs (rb 12 nn)), (g1, 23, bvs (rb 32 kk))] := H
  refine pl_R (R := SB) (F := BF (encB kk nn (lp.take m))) sb_st (ob_assignS H (wanted_none rfl) rfl rfl hu0) rfl rfl rfl H ?_
  try clear H a
  intro v9 a W hv9 hR_ H
  replace hu0 := BF.sb _ _ _ hu0 hR_
  clear hR_
  replace H : St 73 w a W [(9, v9), (29, .int .i64 0), (28, u0), (22, .tuple #[u0, .int .i64 0]), (27, .tuple #[u0, .int .i64 0]), (26, .slice Ap np cp), (25, .slice Aa na ca), (24, .agg (bvs (rb 12 nn))), (23, .agg (bvs (rb 32 kk))), (20, .bool false), (8, .bool false), (5, .pointer (some ⟨g2, 0, none⟩)), (4, .pointer (some ⟨g1, 0, none⟩)), (2, .slice Aa na ca), (3, .slice Ap np cp)] [(g2, 27, bvs (rb 12 nn)), (g1, 23, bvs (rb 32 kk))] := H
  refine pl_R (R := SB) (F := fun u_ _ => u_ = .int .i64 0) sb_st (ob_valS H (wanted_none rfl) (does_assign rfl rfl)) rfl rfl rfl H ?_
  try clear H a
  rintro _ a W rfl hR_ H
  replace hv9 := BF.sb _ _ _ hv9 hR_
  replace hu0 := BF.sb _ _ _ hu0 hR_
  clear hR_
  replace H : St 73 w a W [(10, .int .i64 0), (9, v9), (29, .int .i64 0), (28, u0), (22, .tuple #[u0, .int .i64 0]), (27, .tuple #[u0, .int .i64 0]), (26, .slice Ap np cp), (25, .slice Aa na ca), (24, .agg (bvs (rb 12 nn))), (23, .agg (bvs (rb 32 kk))), (20, .bool false), (8, .bool false), (5, .pointer (some ⟨g2, 0, none⟩)), (4, .pointer (some ⟨g1, 0, none⟩)), (2, .slice Aa na ca), (3, .slice Ap np cp)] [(g2, 27, bvs (rb 12 nn)), (g1, 23, bvs (rb 32 kk))] := H
  refine pl_end ?_
  replace H : St 73 w a W [(10, .int .i64 0), (9, v9), (8, .bool false), (5, .pointer (some ⟨g2, 0, none⟩)), (4, .pointer (some ⟨g1, 0, none⟩)), (2, .slice Aa na ca), (3, .slice Ap np cp)] [(g2, 27, bvs (rb 12 nn)), (g1, 23, bvs (rb 32 kk))] := H.pick [0, 1, 11, 12, 13, 14, 15] [0, 1] rfl
  refine hK4 _ _ ?_
  clear hK4
  refine wp_seq_k (fun K5 hK5 => ?_)
  refine rg_plain ?_
  refine pl_R (R := SB) (F := fun u_ _ => u_ = .agg (bvs (rb 32 kk))) sb_st (ob_valS H (wanted_none rfl) (does_load rfl rfl (k := 1) rfl Tryd.underlying23 rfl (info_key _))) rfl rfl rfl H ?_
  try clear H a
  rintro _ a W rfl hR_ H
  replace hv9 := BF.sb _ _ _ hv9 hR_
  replace hu0 := BF.sb _ _ _ hu0 hR_
  clear hR_
  replace H : St 73 w a W [(31, .agg (bvs (rb 32 kk))), (10, .int .i64 0), (9, v9), (8, .bool false), (5, .pointer (some ⟨g2, 0, none⟩)), (4, .pointer (some ⟨g1, 0, none⟩)), (2, .slice Aa na ca), (3, .slice Ap np cp)] [(g2, 27, bvs (rb 12 nn)), (g1, 23, bvs (rb 32 kk))] := H
  refine pl_R (R := SB) (F := fun u_ _ => u_ = .agg (bvs (rb 12 nn))) sb_st (ob_valS H (wanted_none rfl) (does_load rfl rfl (k := 0) rfl Tryd.underlying27 rfl (info_nonce _))) rfl rfl rfl H ?_
  try clear H a
  rintro _ a W rfl hR_ H
  replace hv9 := BF.sb _ _ _ hv9 hR_
  replace hu0 := BF.sb _ _ _ hu0 hR_
  clear hR_
  replace H : St 73 w a W [(32, .agg (bvs (rb 12 nn))), (31, .agg (bvs (rb 32 kk))), (10, .int .i64 0), (9, v9), (8, .bool false), (5, .pointer (some ⟨g2, 0, none⟩)), (4, .pointer (some ⟨g1, 0, none⟩)), (2, .slice Aa na ca), (3, .slice Ap np cp)] [(g2, 27, bvs (rb 12 nn)), (g1, 23, bvs (rb 32 kk))] := H
  refine pl_R (R := SB) (F := fun u_ _ => u_ = .slice Aa na ca) sb_st (ob_valS H (wanted_none rfl) (does_move rfl rfl)) rfl rfl rfl H ?_
  try clear H a
  rintro _ a W rfl hR_ H
  replace hv9 := BF.sb _ _ _ hv9 hR_
  replace hu0 := BF.sb _ _ _ hu0 hR_
  clear hR_
  replace H : St 73 w a W [(33, .slice Aa na ca), (32, .agg (bvs (rb 12 nn))), (31, .agg (bvs (rb 32 kk))), (10, .int .i64 0), (9, v9), (8, .bool false), (5, .pointer (some ⟨g2, 0, none⟩)), (4, .pointer (some ⟨g1, 0, none⟩)), (2, .slice Aa na ca), (3, .slice Ap np cp)] [(g2, 27, bvs (rb 12 nn)), (g1, 23, bvs (rb 32 kk))] := H
  refine pl_R (R := SB) (F := fun u_ _ => u_ = .slice Ap np cp) sb_st (ob_valS H (wanted_none rfl) (does_move rfl rfl)) rfl rfl rfl H ?_
  try clear H a
  rintro _ a W rfl hR_ H
  replace hv9 := BF.sb _ _ _ hv9 hR_
  replace hu0 := BF.sb _ _ _ hu0 hR_
  clear hR_
  replace H : St 73 w a W [(34, .slice Ap np cp), (33, .slice Aa na ca), (32, .agg (bvs (rb 12 nn))), (31, .agg (bvs (rb 32 kk))), (10, .int .i64 0), (9, v9), (8, .bool false), (5, .pointer (some ⟨g2, 0, none⟩)), (4, .pointer (some ⟨g1, 0, none⟩)), (2, .slice Aa na ca), (3, .slice Ap np cp)] [(g2, 27, bvs (rb 12 nn)), (g1, 23, bvs (rb 32 kk))] := H
  refine pl_R (R := SB) (F := TF (encB kk nn (lp.take m)) (.bool true)) sb_st (ob_callS H (wanted_none rfl) rfl ⟨_, Tryd.func13, by kernel_rfl⟩ rfl (tf_call rfl (ropen_yes (m := m) kk nn _ (bf_old hva H) (bf_old hvp H) (by omega) hl (by omega) (mark_look hl hq)))) rfl rfl rfl H ?_
  try clear H a
  intro v35 a W hv35 hR_ H
  replace hv9 := BF.sb _ _ _ hv9 hR_
  replace hu0 := BF.sb _ _ _ hu0 hR_
  clear hR_
  replace H : St 73 w a W [(35, v35), (34, .slice Ap np cp), (33, .slice Aa na ca), (32, .agg (bvs (rb 12 nn))), (31, .agg (bvs (rb 32 kk))), (10, .int .i64 0), (9, v9), (8, .bool false), (5, .pointer (some ⟨g2, 0, none⟩)), (4, .pointer (some ⟨g1, 0, none⟩)), (2, .slice Aa na ca), (3, .slice Ap np cp)] [(g2, 27, bvs (rb 12 nn)), (g1, 23, bvs (rb 32 kk))] := H
  obtain ⟨u1, rfl, hu1⟩ := hv35
  replace H : St 73 w a W [(35, .tuple #[u1, .bool true]), (34, .slice Ap np cp), (33, .slice Aa na ca), (32, .agg (bvs (rb 12 nn))), (31, .agg (bvs (rb 32 kk))), (10, .int .i64 0), (9, v9), (8, .bool false), (5, .pointer (some ⟨g2, 0, none⟩)), (4, .pointer (some ⟨g1, 0, none⟩)), (2, .slice Aa na ca), (3, .slice Ap np cp)] [(g2, 27, bvs (rb 12 nn)), (g1, 23, bvs (rb 32 kk))] := H
  refine pl_R (R := SB) (F := fun u_ _ => u_ = .tuple #[u1, .bool true]) sb_st (ob_valS H (wanted_none rfl) (does_move rfl rfl)) rfl rfl rfl H ?_
  try clear H a
  rintro _ a W rfl hR_ H
  replace hv9 := BF.sb _ _ _ hv9 hR_
  replace hu0 := BF.sb _ _ _ hu0 hR_
  replace hu1 := BF.sb _ _ _ hu1 hR_
  clear hR_
  replace H : St 73 w a W [(30, .tuple #[u1, .bool true]), (35, .tuple #[u1, .bool true]), (34, .slice Ap np cp), (33, .slice Aa na ca), (32, .agg (bvs (rb 12 nn))), (31, .agg (bvs (rb 32 kk))), (10, .int .i64 0), (9, v9), (8, .bool false), (5, .pointer (some ⟨g2, 0, none⟩)), (4, .pointer (some ⟨g1, 0, none⟩)), (2, .slice Aa na ca), (3, .slice Ap np cp)] [(g2, 27, bvs (rb 12 nn)), (g1, 23, bvs (rb 32 kk))] := H
  refine pl_R (R := SB) (F := fun u_ _ => u_ = u1) sb_st (ob_valS H (wanted_none rfl) (does_extract rfl rfl (fun _ => rfl))) rfl rfl rfl H ?_
  try clear H a
  intro y_ a W hy_ hR_ H
  replace hy_ := hy_.symm
  subst hy_
  replace hv9 := BF.sb _ _ _ hv9 hR_
  replace hu0 := BF.sb _ _ _ hu0 hR_
  replace hu1 := BF.sb _ _ _ hu1 hR_
  clear hR_
  replace H : St 73 w a W [(36, u1), (30, .tuple #[u1, .bool true]), (35, .tuple #[u1, .bool true]), (34, .slice Ap np cp), (33, .slice Aa na ca), (32, .agg (bvs (rb 12 nn))), (31, .agg (bvs (rb 32 kk))), (10, .int .i64 0), (9, v9), (8, .bool false), (5, .pointer (some ⟨g2, 0, none⟩)), (4, .pointer (some ⟨g1, 0, none⟩)), (2, .slice Aa na ca), (3, .slice Ap np cp)] [(g2, 27, bvs (rb 12 nn)), (g1, 23, bvs (rb 32 kk))] := H
  refine pl_R (R := SB) (F := fun u_ _ => u_ = .bool true) sb_st (ob_valS H (wanted_none rfl) (does_extract rfl rfl (fun _ => rfl))) rfl rfl rfl H ?_
  try clear H a
  rintro _ a W rfl hR_ H
  replace hu1 := BF.sb _ _ _ hu1 hR_
  replace hv9 := BF.sb _ _ _ hv9 hR_
  replace hu0 := BF.sb _ _ _ hu0 hR_
  clear hR_
  replace H : St 73 w a W [(37, .bool true), (36, u1), (30, .tuple #[u1, .bool true]), (35, .tuple #[u1, .bool true]), (34, .slice Ap np cp), (33, .slice Aa na ca), (32, .agg (bvs (rb 12 nn))), (31, .agg (bvs (rb 32 kk))), (10, .int .i64 0), (9, v9), (8, .bool false), (5, .pointer (some ⟨g2, 0, none⟩)), (4, .pointer (some ⟨g1, 0, none⟩)), (2, .slice Aa na ca), (3, .slice Ap np cp)] [(g2, 27, bvs (rb 12 nn)), (g1, 23, bvs (rb 32 kk))] := H
  refine pl_R (R := SB) (F := BF (encB kk nn (lp.take m))) sb_st (ob_assignS H (wanted_none rfl) rfl rfl hu1) rfl rfl rfl H ?_
  try clear H a
  intro v11 a W hv11 hR_ H
  replace hu1 := BF.sb _ _ _ hu1 hR_
  replace hv9 := BF.sb _ _ _ hv9 hR_
  replace hu0 := BF.sb _ _ _ hu0 hR_
  clear hR_
  replace H : St 73 w a W [(11, v11), (37, .bool true), (36, u1), (30, .tuple #[u1, .bool true]), (35, .tuple #[u1, .bool true]), (34, .slice Ap np cp), (33, .slice Aa na ca), (32, .agg (bvs (rb 12 nn))), (31, .agg (bvs (rb 32 kk))), (10, .int .i64 0), (9, v9), (8, .bool false), (5, .pointer (some ⟨g2, 0, none⟩)), (4, .pointer (some ⟨g1, 0, none⟩)), (2, .slice Aa na ca), (3, .slice Ap np cp)] [(g2, 27, bvs (rb 12 nn)), (g1, 23, bvs (rb 32 kk))] := H
  refine pl_R (R := SB) (F := fun u_ _ => u_ = .bool true) sb_st (ob_valS H (wanted_none rfl) (does_assign rfl rfl)) rfl rfl rfl H ?_
  try clear H a
  rintro _ a W rfl hR_ H
  replace hv11 := BF.sb _ _ _ hv11 hR_
  replace hu1 := BF.sb _ _ _ hu1 hR_
  replace hv9 := BF.sb _ _ _ hv9 hR_
  replace hu0 := BF.sb _ _ _ hu0 hR_
  clear hR_
  replace H : St 73 w a W [(12, .bool true), (11, v11), (37, .bool true), (36, u1), (30, .tuple #[u1, .bool true]), (35, .tuple #[u1, .bool true]), (34, .slice Ap np cp), (33, .slice Aa na ca), (32, .agg (bvs (rb 12 nn))), (31, .agg (bvs (rb 32 kk))), (10, .int .i64 0), (9, v9), (8, .bool false), (5, .pointer (some ⟨g2, 0, none⟩)), (4, .pointer (some ⟨g1, 0, none⟩)), (2, .slice Aa na ca), (3, .slice Ap np cp)] [(g2, 27, bvs (rb 12 nn)), (g1, 23, bvs (rb 32 kk))] := H
  refine pl_end ?_
  replace H : St 73 w a W [(12, .bool true), (11, v11), (10, .int .i64 0), (9, v9), (8, .bool false), (5, .pointer (some ⟨g2, 0, none⟩)), (4, .pointer (some ⟨g1, 0, none⟩)), (2, .slice Aa na ca), (3, .slice Ap np cp)] [(g2, 27, bvs (rb 12 nn)), (g1, 23, bvs (rb 32 kk))] := H.pick [0, 1, 10, 11, 12, 13, 14, 15, 16] [0, 1] rfl
  refine hK5 _ _ ?_
  clear hK5
  refine wp_seq_k (fun K6 hK6 => ?_)
  refine wp_seq_k (fun K7 hK7 => ?_)
  refine rg_plain ?_
  refine pl_R (R := SB) (F := fun u_ _ => u_ = .bool true) sb_st (ob_valS H (wanted_none rfl) (does_move rfl rfl)) rfl rfl rfl H ?_
  try clear H a
  rintro _ a W rfl hR_ H
  replace hv11 := BF.sb _ _ _ hv11 hR_
  replace hv9 := BF.sb _ _ _ hv9 hR_
  clear hR_
  replace H : St 73 w a W [(38, .bool true), (12, .bool true), (11, v11), (10, .int .i64 0), (9, v9), (8, .bool false), (5, .pointer (some ⟨g2, 0, none⟩)), (4, .pointer (some ⟨g1, 0, none⟩)), (2, .slice Aa na ca), (3, .slice Ap np cp)] [(g2, 27, bvs (rb 12 nn)), (g1, 23, bvs (rb 32 kk))] := H
  refine pl_R (R := SB) (F := fun u_ _ => u_ = .bool false) sb_st (ob_valS H (wanted_none rfl) (does_unOp rfl rfl (fun _ => rfl))) rfl rfl rfl H ?_
  try clear H a
  rintro _ a W rfl hR_ H
  replace hv11 := BF.sb _ _ _ hv11 hR_
  replace hv9 := BF.sb _ _ _ hv9 hR_
  clear hR_
  replace H : St 73 w a W [(39, .bool false), (38, .bool true), (12, .bool true), (11, v11), (10, .int .i64 0), (9, v9), (8, .bool false), (5, .pointer (some ⟨g2, 0, none⟩)), (4, .pointer (some ⟨g1, 0, none⟩)), (2, .slice Aa na ca), (3, .slice Ap np cp)] [(g2, 27, bvs (rb 12 nn)), (g1, 23, bvs (rb 32 kk))] := H
  refine pl_end ?_
  replace H : St 73 w a W [(39, .bool false), (11, v11), (10, .int .i64 0), (9, v9), (8, .bool false), (5, .pointer (some ⟨g2, 0, none⟩)), (4, .pointer (some ⟨g1, 0, none⟩)), (2, .slice Aa na ca), (3, .slice Ap np cp)] [(g2, 27, bvs (rb 12 nn)), (g1, 23, bvs (rb 32 kk))] := H.pick [0, 3, 4, 5, 6, 7, 8, 9, 10] [0, 1] rfl
  refine hK7 _ _ ?_
  clear hK7
  refine wp_cond_false (H.ev rfl) ?_
  refine wp_skip ?_
  refine hK6 _ _ ?_
  clear hK6
  refine wp_seq_k (fun K8 hK8 => ?_)
  obtain ⟨ws1, H, HK1, hF10, hF11, hF12, hF13, hB1g2, hB1g1⟩ : ∃ ws, St 73 ws a W [(39, .bool false), (11, v11), (10, .int .i64 0), (9, v9), (8, .bool false), (5, .pointer (some ⟨g2, 0, none⟩)), (4, .pointer (some ⟨g1, 0, none⟩)), (2, .slice Aa na ca), (3, .slice Ap np cp)] [] ∧ Kn w ws [(g2, 27, bvs (rb 12 nn)), (g1, 23, bvs (rb 32 kk))] ∧ BF (encB kk nn (lp.take m)) v11 ws ∧ BF (encB kk nn (lp.take m)) v9 ws ∧ BF la (.slice Aa na ca) ws ∧ BF lp (.slice Ap np cp) ws ∧ Blk ws g2 27 (bvs (rb 12 nn)) ∧ Blk ws g1 23 (bvs (rb 32 kk)) := ⟨W, H.rebase, H.kn, hv11, hv9, (bf_old hva H), (bf_old hvp H), H.blk (k := 0) rfl, H.blk (k := 1) rfl⟩
  refine drawnR SB SB (⟨50, fun u_ _ => u_ = .int .i64 0, [], none, false⟩ :: ⟨51, fun u_ _ => u_ = .bool true, [0], none, false⟩ :: ⟨52, fun u_ _ => u_ = .bool true, [1], none, false⟩ :: ⟨53, fun u_ _ => u_ = v9, [2], none, false⟩ :: ⟨54, fun u_ _ => u_ = .string (strB (encB kk nn (lp.take m))), [3, 2], none, false⟩ :: ⟨55, fun u_ _ => u_ = v11, [2], none, false⟩ :: ⟨56, fun u_ _ => u_ = .string (strB (encB kk nn (lp.take m))), [5, 2], none, false⟩ :: ⟨57, fun u_ _ => u_ = .bool true, [4, 6, 2], none, false⟩ :: ⟨58, fun u_ _ => u_ = .bool true, [2, 7], none, false⟩ :: ⟨59, fun u_ _ => u_ = .bool true, [8], none, false⟩ :: ⟨60, fun u_ _ => u_ = .agg (bvs (rb 32 kk)), [9], none, false⟩ :: ⟨61, fun u_ _ => u_ = .agg (bvs (rb 12 nn)), [9], none, false⟩ :: ⟨62, fun u_ _ => u_ = .slice Aa na ca, [9], none, false⟩ :: ⟨63, fun u_ _ => u_ = v9, [9], none, false⟩ :: ⟨64, OF ws1.heap.size [] lp, [10, 11, 12, 13, 9], none, false⟩ :: ⟨65, fun u_ _ => u_ = .string (strB lp), [14, 9], none, false⟩ :: ⟨66, fun u_ _ => u_ = .slice Ap np cp, [9], none, false⟩ :: ⟨67, fun u_ _ => u_ = .string (strB lp), [16, 9], none, false⟩ :: ⟨68, fun u_ _ => u_ = .bool true, [15, 17, 9], none, false⟩ :: ⟨69, fun u_ _ => u_ = .bool true, [9, 18], none, false⟩ :: ⟨70, fun u_ _ => u_ = .bool true, [19], none, false⟩ :: ⟨71, fun u_ _ => u_ = .bool true, [20], none, false⟩ :: ⟨72, fun u_ _ => u_ = .bool true, [20, 21], none, false⟩ :: []) (0 :: 1 :: 2 :: 4 :: 12 :: 4 :: 36 :: 84 :: 132 :: 260 :: 512 :: 512 :: 512 :: 512 :: 15872 :: 16896 :: 512 :: 66048 :: 164352 :: 262656 :: 540672 :: 1048576 :: 3145728 :: 8388607 :: []) [22] sb_st sb_st (by kernel_rfl) (by kernel_rfl) (by kernel_rfl) H ⟨⟨fun a W  H => by exact ob_valS H (wanted_none rfl) (does_move rfl rfl), val_grow, fun _ => val_grow⟩, ⟨fun a W y0 hy0 H => by subst hy0; exact ob_valS H (wanted_none rfl) (does_binOp rfl rfl rfl (e_eql _ _ _)), val_grow, fun _ => val_grow⟩, ⟨fun a W y1 hy1 H => by subst hy1; exact ob_valS H (wanted_none rfl) (does_move rfl rfl), val_grow, fun _ => val_grow⟩, ⟨fun a W y2 hy2 H => by subst hy2; exact ob_valS H (wanted_some rfl rfl rfl rfl rfl) (does_move rfl rfl), val_grow, fun _ => val_grow⟩, ⟨fun a W y3 hy3 y2 hy2 H => by have e_ := hy3.symm; subst e_; subst hy2; exact ob_strS H (wanted_some rfl rfl rfl rfl rfl) rfl rfl (bf_old hF11 H), val_grow, fun _ => val_grow⟩, ⟨fun a W y2 hy2 H => by subst hy2; exact ob_valS H (wanted_some rfl rfl rfl rfl rfl) (does_move rfl rfl), val_grow, fun _ => val_grow⟩, ⟨fun a W y5 hy5 y2 hy2 H => by have e_ := hy5.symm; subst e_; subst hy2; exact ob_strS H (wanted_some rfl rfl rfl rfl rfl) rfl rfl (bf_old hF10 H), val_grow, fun _ => val_grow⟩, ⟨fun a W y4 hy4 y6 hy6 y2 hy2 H => by subst hy4; subst hy6; subst hy2; exact ob_valS H (wanted_some rfl rfl rfl rfl rfl) (does_binOp rfl rfl rfl (s_eqlB (decide_eq_true rfl) _ _)), val_grow, fun _ => val_grow⟩, ⟨fun a W y2 hy2 y7 hy7 H => by subst hy2; subst hy7; exact ob_valS H (wanted_none rfl) (does_pick rfl rfl (fun _ => rfl) (fun hb => by cases hb)), val_grow, fun _ => val_grow⟩, ⟨fun a W y8 hy8 H => by subst hy8; exact ob_valS H (wanted_none rfl) (does_move rfl rfl), val_grow, fun _ => val_grow⟩, ⟨fun a W y9 hy9 H => by subst hy9; exact ob_valS H (wanted_some rfl rfl rfl rfl rfl) (does_loadOld rfl rfl hB1g1 Tryd.underlying23 rfl (info_key _)), val_grow, fun _ => val_grow⟩, ⟨fun a W y9 hy9 H => by subst hy9; exact ob_valS H (wanted_some rfl rfl rfl rfl rfl) (does_loadOld rfl rfl hB1g2 Tryd.underlying27 rfl (info_nonce _)), val_grow, fun _ => val_grow⟩, ⟨fun a W y9 hy9 H => by subst hy9; exact ob_valS H (wanted_some rfl rfl rfl rfl rfl) (does_move rfl rfl), val_grow, fun _ => val_grow⟩, ⟨fun a W y9 hy9 H => by subst hy9; exact ob_valS H (wanted_some rfl rfl rfl rfl rfl) (does_move rfl rfl), val_grow, fun _ => val_grow⟩, ⟨fun a W y10 hy10 y11 hy11 y12 hy12 y13 hy13 y9 hy9 H => by subst hy10; subst hy11; subst hy12; have e_ := hy13.symm; subst e_; subst hy9; exact ob_callS H (wanted_some rfl rfl rfl rfl rfl) rfl ⟨_, Tryd.func9, by kernel_rfl⟩ rfl (of_call H (own_same (seal_back hl hq) (seal_any kk nn _ ((hpg.ext HK1.below).ext H.below) (bf_old hF12 H) (bf_old hF11 H) (by omega) (by rw [encB_len, List.length_take]; omega)))), OF.sb, fun _ => OF.sb⟩, ⟨fun a W v64 hv64 y9 hy9 H => by subst hy9; exact ob_strS H (wanted_some rfl rfl rfl rfl rfl) rfl rfl hv64.bf, val_grow, fun _ => val_grow⟩, ⟨fun a W y9 hy9 H => by subst hy9; exact ob_valS H (wanted_some rfl rfl rfl rfl rfl) (does_move rfl rfl), val_grow, fun _ => val_grow⟩, ⟨fun a W y16 hy16 y9 hy9 H => by subst hy16; subst hy9; exact ob_strS H (wanted_some rfl rfl rfl rfl rfl) rfl rfl (bf_old hF13 H), val_grow, fun _ => val_grow⟩, ⟨fun a W y15 hy15 y17 hy17 y9 hy9 H => by subst hy15; subst hy17; subst hy9; exact ob_valS H (wanted_some rfl rfl rfl rfl rfl) (does_binOp rfl rfl rfl (s_eqlB (decide_eq_true rfl) _ _)), val_grow, fun _ => val_grow⟩, ⟨fun a W y9 hy9 y18 hy18 H => by subst hy9; subst hy18; exact ob_valS H (wanted_none rfl) (does_pick rfl rfl (fun _ => rfl) (fun hb => by cases hb)), val_grow, fun _ => val_grow⟩, ⟨fun a W y19 hy19 H => by subst hy19; exact ob_valS H (wanted_none rfl) (does_move rfl rfl), val_grow, fun _ => val_grow⟩, ⟨fun a W y20 hy20 H => by subst hy20; exact ob_calS H (wanted_some rfl rfl rfl rfl rfl) rfl ⟨_, Tryd.func7, by kernel_rfl⟩ rfl (known_any W ((hpg.ext HK1.below).ext H.below)), val_grow, fun _ => val_grow⟩, ⟨fun a W y20 hy20 y21 hy21 H => by subst hy20; subst hy21; exact ob_valS H (wanted_none rfl) (does_pick rfl rfl (fun _ => rfl) (fun hb => by cases hb)), val_grow, fun _ => val_grow⟩, trivial⟩ (by kernel_rfl) ?_
  try clear H a W
  intro a W
  rintro _ rfl
  intro H
  replace H : St 73 ws1 a W [(72, .bool true), (39, .bool false), (11, v11), (10, .int .i64 0), (9, v9), (8, .bool false), (5, .pointer (some ⟨g2, 0, none⟩)), (4, .pointer (some ⟨g1, 0, none⟩)), (2, .slice Aa na ca), (3, .slice Ap np cp)] [] := H
  replace H := HK1.join H
  replace H : St 73 w a W [(72, .bool true), (39, .bool false), (11, v11), (10, .int .i64 0), (9, v9), (8, .bool false), (5, .pointer (some ⟨g2, 0, none⟩)), (4, .pointer (some ⟨g1, 0, none⟩)), (2, .slice Aa na ca), (3, .slice Ap np cp)] [(g2, 27, bvs (rb 12 nn)), (g1, 23, bvs (rb 32 kk))] := H
  replace H : St 73 w a W [(72, .bool true), (39, .bool false), (11, v11), (10, .int .i64 0), (9, v9), (5, .pointer (some ⟨g2, 0, none⟩)), (4, .pointer (some ⟨g1, 0, none⟩)), (2, .slice Aa na ca), (3, .slice Ap np cp)] [(g2, 27, bvs (rb 12 nn)), (g1, 23, bvs (rb 32 kk))] := H.pick [0, 1, 2, 3, 4, 6, 7, 8, 9] [0, 1] rfl
  refine pl_does (does_assign rfl rfl) rfl rfl rfl rfl H ?_
  try clear H a W
  intro a W H
  refine pl_end ?_
  replace H : St 73 w a W [(8, .bool true)] [(g2, 27, bvs (rb 12 nn)), (g1, 23, bvs (rb 32 kk))] := H.pick [0] [0, 1] rfl
  refine hK8 _ _ ?_
  clear hK8
  refine wp_ret ?_
  repeat (first | (with_reducible refine then_ret ?_) | (with_reducible refine blk_ret ?_))
  refine end_tmp (p := 8) rfl rfl H (fun hb => ?_)
  exact ⟨rfl, hb⟩
set_option maxHeartbeats 4000000 in
theorem turns_a {va vp : Value} {la lp : List UInt8} (kk nn : Nat → UInt8) (w : World) (hpg : PG w) (hva : BF la va w) (hvp : BF lp vp w) (y : UInt8) (z : Int) (h1 : 400 < la.length) : Calls Tryd.prog 5 #[.agg (bvs (rb 32 kk)), .agg (bvs (rb 12 nn)), va, vp, .int .i64 z, bv y] w (fun rr w' => rr = .returned (.bool true) ∧ Below w.heap.size w w') := by
  obtain ⟨Aa, na, ca, rfl, hba⟩ := id hva
  have hna := hba.len
  obtain ⟨Ap, np, cp, rfl, hbp⟩ := id hvp
  have hnp := hbp.len
  refine calls_st (vs := [.agg (bvs (rb 32 kk)), .agg (bvs (rb 12 nn)), .slice Aa na ca, .slice Ap np cp, .int .i64 z, bv y]) 81 Tryd.func5 rfl Tryd.ntmps5 rfl (fun a W H => ?_)
  replace H : St 81 w a W [(0, .agg (bvs (rb 32 kk))), (1, .agg (bvs (rb 12 nn))), (2, .slice Aa na ca), (3, .slice Ap np cp), (4, .int .i64 z), (5, bv y)] [] := H
  refine wp_seq_k (fun K1 hK1 => ?_)
  refine rg_plain ?_
  refine pl_box rfl rfl (bx_key kk) rfl rfl rfl rfl H ?_
  try clear H a W
  intro g1 a W H
  refine pl_box rfl rfl (bx_nonce nn) rfl rfl rfl rfl H ?_
  try clear H a W
  intro g2 a W H
  refine pl_does (does_assign rfl rfl) rfl rfl rfl rfl H ?_
  try clear H a W
  intro a W H
  refine pl_end ?_
  replace H : St 81 w a W [(12, .bool false), (7, .pointer (some ⟨g2, 0, none⟩)), (6, .pointer (some ⟨g1, 0, none⟩)), (2, .slice Aa na ca), (3, .slice Ap np cp), (4, .int .i64 z), (5, bv y)] [(g2, 27, bvs (rb 12 nn)), (g1, 23, bvs (rb 32 kk))] := H.pick [0, 1, 2, 5, 6, 7, 8] [0, 1] rfl
  refine hK1 _ _ ?_
  clear hK1
  refine wp_seq_k (fun K2 hK2 => ?_)
  refine wp_seq_k (fun K3 hK3 => ?_)
  refine rg_plain ?_
  refine pl_does (does_move rfl rfl) rfl rfl rfl rfl H ?_
  try clear H a W
  intro a W H
  refine pl_does (does_len Tryd.underlying25 rfl rfl) rfl rfl rfl rfl H ?_
  try clear H a W
  intro a W H
  refine pl_does (does_binOp rfl rfl rfl (i_gtrB (k := na) (m := 400) (decide_eq_true (by omega)) _ _)) rfl rfl rfl rfl H ?_
  try clear H a W
  intro a W H
  refine pl_does (does_move rfl rfl) rfl rfl rfl rfl H ?_
  try clear H a W
  intro a W H
  refine pl_skip (wanted_some rfl rfl rfl rfl rfl) rfl rfl rfl H ?_
  try clear H a W
  intro a W H
  refine pl_skip (wanted_some rfl rfl rfl rfl rfl) rfl rfl rfl H ?_
  try clear H a W
  intro a W H
  refine pl_skip (wanted_some rfl rfl rfl rfl rfl) rfl rfl rfl H ?_
  try clear H a W
  intro a W H
  refine pl_does (does_pick rfl rfl (fun _ => rfl) (fun hb => by cases hb)) rfl rfl rfl rfl H ?_
  try clear H a W
  intro a W H
  refine pl_does (does_move rfl rfl) rfl rfl rfl rfl H ?_
  try clear H a W
  intro a W H
  refine pl_skip (wanted_some rfl rfl rfl rfl rfl) rfl rfl rfl H ?_
  try clear H a W
  intro a W H
  refine pl_skip (wanted_some rfl rfl rfl rfl rfl) rfl rfl rfl H ?_
  try clear H a W
  intro a W H
  refine pl_does (does_pick rfl rfl (fun _ => rfl) (fun hb => by cases hb)) rfl rfl rfl rfl H ?_
  try clear H a W
  intro a W H
  refine pl_does (does_move rfl rfl) rfl rfl rfl rfl H ?_
  try clear H a W
  intro a W H
  refine pl_skip (wanted_some rfl rfl rfl rfl rfl) rfl rfl rfl H ?_
  try clear H a W
  intro a W H
  refine pl_skip (wanted_some rfl rfl rfl rfl rfl) rfl rfl rfl H ?_
  try clear H a W
  intro a W H
  refine pl_does (does_pick rfl rfl (fun _ => rfl) (fun hb => by cases hb)) rfl rfl rfl rfl H ?_
  try clear H a W
  intro a W H
  refine pl_does (does_move rfl rfl) rfl rfl rfl rfl H ?_
  try clear H a W
  intro a W H
  refine pl_skip (wanted_some rfl rfl rfl rfl rfl) rfl rfl rfl H ?_
  try clear H a W
  intro a W H
  refine pl_skip (wanted_some rfl rfl rfl rfl rfl) rfl rfl rfl H ?_
  try clear H a W
  intro a W H
  refine pl_does (does_pick rfl rfl (fun _ => rfl) (fun hb => by cases hb)) rfl rfl rfl rfl H ?_
  try clear H a W
  intro a W H
  refine pl_end ?_
  replace H : St 81 w a W [(35, .bool true), (12, .bool false), (7, .pointer (some ⟨g2, 0, none⟩)), (6, .pointer (some ⟨g1, 0, none⟩)), (2, .slice Aa na ca), (3, .slice Ap np cp), (4, .int .i64 z), (5, bv y)] [(g2, 27, bvs (rb 12 nn)), (g1, 23, bvs (rb 32 kk))] := H.pick [0, 20, 21, 22, 23, 24, 25, 26] [0, 1] rfl
  refine hK3 _ _ ?_
  clear hK3
  refine wp_cond_true (H.ev rfl) ?_
  refine wp_seq_k (fun K4 hK4 => ?_)
  refine rg_plain ?_
  refine pl_does (does_call rfl ⟨_, Tryd.func7, by kernel_rfl⟩ rfl (fun W hb => known_any W (hpg.ext hb))) rfl rfl rfl rfl H ?_
  try clear H a W
  intro a W H
  replace H : St 81 w a W [(36, .bool true), (35, .bool true), (7, .pointer (some ⟨g2, 0, none⟩)), (6, .pointer (some ⟨g1, 0, none⟩)), (2, .slice Aa na ca), (3, .slice Ap np cp), (4, .int .i64 z), (5, bv y)] [(g2, 27, bvs (rb 12 nn)), (g1, 23, bvs (rb 32 kk))] := H.pick [0, 1, 3, 4, 5, 6, 7, 8] [0, 1] rfl
  refine pl_does (does_assign rfl rfl) rfl rfl rfl rfl H ?_
  try clear H a W
  intro a W H
  refine pl_end ?_
  replace H : St 81 w a W [(12, .bool true), (7, .pointer (some ⟨g2, 0, none⟩)), (6, .pointer (some ⟨g1, 0, none⟩)), (2, .slice Aa na ca), (3, .slice Ap np cp), (4, .int .i64 z), (5, bv y)] [(g2, 27, bvs (rb 12 nn)), (g1, 23, bvs (rb 32 kk))] := H.pick [0, 3, 4, 5, 6, 7, 8] [0, 1] rfl
  refine hK4 _ _ ?_
  clear hK4
  refine wp_ret ?_
  repeat (first | (with_reducible refine then_ret ?_) | (with_reducible refine blk_ret ?_))
  refine end_tmp (p := 12) rfl rfl H (fun hb => ?_)
  exact ⟨rfl, hb⟩
set_option maxHeartbeats 4000000 in
theorem turns_b {va vp : Value} {la lp : List UInt8} (kk nn : Nat → UInt8) (w : World) (hpg : PG w) (hva : BF la va w) (hvp : BF lp vp w) (y : UInt8) (z : Int) (h1 : la.length ≤ 400) (h2 : 400 < lp.length) : Calls Tryd.prog 5 #[.agg (bvs (rb 32 kk)), .agg (bvs (rb 12 nn)), va, vp, .int .i64 z, bv y] w (fun rr w' => rr = .returned (.bool true) ∧ Below w.heap.size w w') := by
  obtain ⟨Aa, na, ca, rfl, hba⟩ := id hva
  have hna := hba.len
  obtain ⟨Ap, np, cp, rfl, hbp⟩ := id hvp
  have hnp := hbp.len
  refine calls_st (vs := [.agg (bvs (rb 32 kk)), .agg (bvs (rb 12 nn)), .slice Aa na ca, .slice Ap np cp, .int .i64 z, bv y]) 81 Tryd.func5 rfl Tryd.ntmps5 rfl (fun a W H => ?_)
  replace H : St 81 w a W [(0, .agg (bvs (rb 32 kk))), (1, .agg (bvs (rb 12 nn))), (2, .slice Aa na ca), (3, .slice Ap np cp), (4, .int .i64 z), (5, bv y)] [] := H
  refine wp_seq_k (fun K1 hK1 => ?_)
  refine rg_plain ?_
  refine pl_box rfl rfl (bx_key kk) rfl rfl rfl rfl H ?_
  try clear H a W
  intro g1 a W H
  refine pl_box rfl rfl (bx_nonce nn) rfl rfl rfl rfl H ?_
  try clear H a W
  intro g2 a W H
  refine pl_does (does_assign rfl rfl) rfl rfl rfl rfl H ?_
  try clear H a W
  intro a W H
  refine pl_end ?_
  replace H : St 81 w a W [(12, .bool false), (7, .pointer (some ⟨g2, 0, none⟩)), (6, .pointer (some ⟨g1, 0, none⟩)), (2, .slice Aa na ca), (3, .slice Ap np cp), (4, .int .i64 z), (5, bv y)] [(g2, 27, bvs (rb 12 nn)), (g1, 23, bvs (rb 32 kk))] := H.pick [0, 1, 2, 5, 6, 7, 8] [0, 1] rfl
  refine hK1 _ _ ?_
  clear hK1
  refine wp_seq_k (fun K2 hK2 => ?_)
  refine wp_seq_k (fun K3 hK3 => ?_)
  refine rg_plain ?_
  refine pl_does (does_move rfl rfl) rfl rfl rfl rfl H ?_
  try clear H a W
  intro a W H
  refine pl_does (does_len Tryd.underlying25 rfl rfl) rfl rfl rfl rfl H ?_
  try clear H a W
  intro a W H
  refine pl_does (does_binOp rfl rfl rfl (i_gtrB (k := na) (m := 400) (decide_eq_false (by omega)) _ _)) rfl rfl rfl rfl H ?_
  try clear H a W
  intro a W H
  refine pl_does (does_move rfl rfl) rfl rfl rfl rfl H ?_
  try clear H a W
  intro a W H
  refine pl_does_g (does_move rfl rfl) (wanted_some rfl rfl rfl rfl rfl) rfl rfl rfl H ?_
  try clear H a W
  intro a W H
  refine pl_does_g (does_len Tryd.underlying25 rfl rfl) (wanted_some rfl rfl rfl rfl rfl) rfl rfl rfl H ?_
  try clear H a W
  intro a W H
  refine pl_does_g (does_binOp rfl rfl rfl (i_gtrB (k := np) (m := 400) (decide_eq_true (by omega)) _ _)) (wanted_some rfl rfl rfl rfl rfl) rfl rfl rfl H ?_
  try clear H a W
  intro a W H
  refine pl_does (does_pick rfl rfl (fun hb => by cases hb) (fun _ => rfl)) rfl rfl rfl rfl H ?_
  try clear H a W
  intro a W H
  refine pl_does (does_move rfl rfl) rfl rfl rfl rfl H ?_
  try clear H a W
  intro a W H
  refine pl_skip (wanted_some rfl rfl rfl rfl rfl) rfl rfl rfl H ?_
  try clear H a W
  intro a W H
  refine pl_skip (wanted_some rfl rfl rfl rfl rfl) rfl rfl rfl H ?_
  try clear H a W
  intro a W H
  refine pl_does (does_pick rfl rfl (fun _ => rfl) (fun hb => by cases hb)) rfl rfl rfl rfl H ?_
  try clear H a W
  intro a W H
  refine pl_does (does_move rfl rfl) rfl rfl rfl rfl H ?_
  try clear H a W
  intro a W H
  refine pl_skip (wanted_some rfl rfl rfl rfl rfl) rfl rfl rfl H ?_
  try clear H a W
  intro a W H
  refine pl_skip (wanted_some rfl rfl rfl rfl rfl) rfl rfl rfl H ?_
  try clear H a W
  intro a W H
  refine pl_does (does_pick rfl rfl (fun _ => rfl) (fun hb => by cases hb)) rfl rfl rfl rfl H ?_
  try clear H a W
  intro a W H
  refine pl_does (does_move rfl rfl) rfl rfl rfl rfl H ?_
  try clear H a W
  intro a W H
  refine pl_skip (wanted_some rfl rfl rfl rfl rfl) rfl rfl rfl H ?_
  try clear H a W
  intro a W H
  refine pl_skip (wanted_some rfl rfl rfl rfl rfl) rfl rfl rfl H ?_
  try clear H a W
  intro a W H
  refine pl_does (does_pick rfl rfl (fun _ => rfl) (fun hb => by cases hb)) rfl rfl rfl rfl H ?_
  try clear H a W
  intro a W H
  refine pl_end ?_
  replace H : St 81 w a W [(35, .bool true), (12, .bool false), (7, .pointer (some ⟨g2, 0, none⟩)), (6, .pointer (some ⟨g1, 0, none⟩)), (2, .slice Aa na ca), (3, .slice Ap np cp), (4, .int .i64 z), (5, bv y)] [(g2, 27, bvs (rb 12 nn)), (g1, 23, bvs (rb 32 kk))] := H.pick [0, 20, 21, 22, 23, 24, 25, 26] [0, 1] rfl
  refine hK3 _ _ ?_
  clear hK3
  refine wp_cond_true (H.ev rfl) ?_
  refine wp_seq_k (fun K4 hK4 => ?_)
  refine rg_plain ?_
  refine pl_does (does_call rfl ⟨_, Tryd.func7, by kernel_rfl⟩ rfl (fun W hb => known_any W (hpg.ext hb))) rfl rfl rfl rfl H ?_
  try clear H a W
  intro a W H
  replace H : St 81 w a W [(36, .bool true), (35, .bool true), (7, .pointer (some ⟨g2, 0, none⟩)), (6, .pointer (some ⟨g1, 0, none⟩)), (2, .slice Aa na ca), (3, .slice Ap np cp), (4, .int .i64 z), (5, bv y)] [(g2, 27, bvs (rb 12 nn)), (g1, 23, bvs (rb 32 kk))] := H.pick [0, 1, 3, 4, 5, 6, 7, 8] [0, 1] rfl
  refine pl_does (does_assign rfl rfl) rfl rfl rfl rfl H ?_
  try clear H a W
  intro a W H
  refine pl_end ?_
  replace H : St 81 w a W [(12, .bool true), (7, .pointer (some ⟨g2, 0, none⟩)), (6, .pointer (some ⟨g1, 0, none⟩)), (2, .slice Aa na ca), (3, .slice Ap np cp), (4, .int .i64 z), (5, bv y)] [(g2, 27, bvs (rb 12 nn)), (g1, 23, bvs (rb 32 kk))] := H.pick [0, 3, 4, 5, 6, 7, 8] [0, 1] rfl
  refine hK4 _ _ ?_
  clear hK4
  refine wp_ret ?_
  repeat (first | (with_reducible refine then_ret ?_) | (with_reducible refine blk_ret ?_))
  refine end_tmp (p := 12) rfl rfl H (fun hb => ?_)
  exact ⟨rfl, hb⟩
set_option maxHeartbeats 4000000 in
theorem turns_c {va vp : Value} {la lp : List UInt8} (kk nn : Nat → UInt8) (w : World) (hpg : PG w) (hva : BF la va w) (hvp : BF lp vp w) (y : UInt8) (z : Int) (h1 : la.length ≤ 400) (h2 : lp.length ≤ 400) (h3 : z < 0) : Calls Tryd.prog 5 #[.agg (bvs (rb 32 kk)), .agg (bvs (rb 12 nn)), va, vp, .int .i64 z, bv y] w (fun rr w' => rr = .returned (.bool true) ∧ Below w.heap.size w w') := by
  obtain ⟨Aa, na, ca, rfl, hba⟩ := id hva
  have hna := hba.len
  obtain ⟨Ap, np, cp, rfl, hbp⟩ := id hvp
  have hnp := hbp.len
  refine calls_st (vs := [.agg (bvs (rb 32 kk)), .agg (bvs (rb 12 nn)), .slice Aa na ca, .slice Ap np cp, .int .i64 z, bv y]) 81 Tryd.func5 rfl Tryd.ntmps5 rfl (fun a W H => ?_)
  replace H : St 81 w a W [(0, .agg (bvs (rb 32 kk))), (1, .agg (bvs (rb 12 nn))), (2, .slice Aa na ca), (3, .slice Ap np cp), (4, .int .i64 z), (5, bv y)] [] := H
  refine wp_seq_k (fun K1 hK1 => ?_)
  refine rg_plain ?_
  refine pl_box rfl rfl (bx_key kk) rfl rfl rfl rfl H ?_
  try clear H a W
  intro g1 a W H
  refine pl_box rfl rfl (bx_nonce nn) rfl rfl rfl rfl H ?_
  try clear H a W
  intro g2 a W H
  refine pl_does (does_assign rfl rfl) rfl rfl rfl rfl H ?_
  try clear H a W
  intro a W H
  refine pl_end ?_
  replace H : St 81 w a W [(12, .bool false), (7, .pointer (some ⟨g2, 0, none⟩)), (6, .pointer (some ⟨g1, 0, none⟩)), (2, .slice Aa na ca), (3, .slice Ap np cp), (4, .int .i64 z), (5, bv y)] [(g2, 27, bvs (rb 12 nn)), (g1, 23, bvs (rb 32 kk))] := H.pick [0, 1, 2, 5, 6, 7, 8] [0, 1] rfl
  refine hK1 _ _ ?_
  clear hK1
  refine wp_seq_k (fun K2 hK2 => ?_)
  refine wp_seq_k (fun K3 hK3 => ?_)
  refine rg_plain ?_
  refine pl_does (does_move rfl rfl) rfl rfl rfl rfl H ?_
  try clear H a W
  intro a W H
  refine pl_does (does_len Tryd.underlying25 rfl rfl) rfl rfl rfl rfl H ?_
  try clear H a W
  intro a W H
  refine pl_does (does_binOp rfl rfl rfl (i_gtrB (k := na) (m := 400) (decide_eq_false (by omega)) _ _)) rfl rfl rfl rfl H ?_
  try clear H a W
  intro a W H
  refine pl_does (does_move rfl rfl) rfl rfl rfl rfl H ?_
  try clear H a W
  intro a W H
  refine pl_does_g (does_move rfl rfl) (wanted_some rfl rfl rfl rfl rfl) rfl rfl rfl H ?_
  try clear H a W
  intro a W H
  refine pl_does_g (does_len Tryd.underlying25 rfl rfl) (wanted_some rfl rfl rfl rfl rfl) rfl rfl rfl H ?_
  try clear H a W
  intro a W H
  refine pl_does_g (does_binOp rfl rfl rfl (i_gtrB (k := np) (m := 400) (decide_eq_false (by omega)) _ _)) (wanted_some rfl rfl rfl rfl rfl) rfl rfl rfl H ?_
  try clear H a W
  intro a W H
  refine pl_does (does_pick rfl rfl (fun hb => by cases hb) (fun _ => rfl)) rfl rfl rfl rfl H ?_
  try clear H a W
  intro a W H
  refine pl_does (does_move rfl rfl) rfl rfl rfl rfl H ?_
  try clear H a W
  intro a W H
  refine pl_does_g (does_move rfl rfl) (wanted_some rfl rfl rfl rfl rfl) rfl rfl rfl H ?_
  try clear H a W
  intro a W H
  refine pl_does_g (does_binOp rfl rfl rfl (i_lssZ (decide_eq_true (by omega)) _ _)) (wanted_some rfl rfl rfl rfl rfl) rfl rfl rfl H ?_
  try clear H a W
  intro a W H
  refine pl_does (does_pick rfl rfl (fun hb => by cases hb) (fun _ => rfl)) rfl rfl rfl rfl H ?_
  try clear H a W
  intro a W H
  refine pl_does (does_move rfl rfl) rfl rfl rfl rfl H ?_
  try clear H a W
  intro a W H
  refine pl_skip (wanted_some rfl rfl rfl rfl rfl) rfl rfl rfl H ?_
  try clear H a W
  intro a W H
  refine pl_skip (wanted_some rfl rfl rfl rfl rfl) rfl rfl rfl H ?_
  try clear H a W
  intro a W H
  refine pl_does (does_pick rfl rfl (fun _ => rfl) (fun hb => by cases hb)) rfl rfl rfl rfl H ?_
  try clear H a W
  intro a W H
  refine pl_does (does_move rfl rfl) rfl rfl rfl rfl H ?_
  try clear H a W
  intro a W H
  refine pl_skip (wanted_some rfl rfl rfl rfl rfl) rfl rfl rfl H ?_
  try clear H a W
  intro a W H
  refine pl_skip (wanted_some rfl rfl rfl rfl rfl) rfl rfl rfl H ?_
  try clear H a W
  intro a W H
  refine pl_does (does_pick rfl rfl (fun _ => rfl) (fun hb => by cases hb)) rfl rfl rfl rfl H ?_
  try clear H a W
  intro a W H
  refine pl_end ?_
  replace H : St 81 w a W [(35, .bool true), (12, .bool false), (7, .pointer (some ⟨g2, 0, none⟩)), (6, .pointer (some ⟨g1, 0, none⟩)), (2, .slice Aa na ca), (3, .slice Ap np cp), (4, .int .i64 z), (5, bv y)] [(g2, 27, bvs (rb 12 nn)), (g1, 23, bvs (rb 32 kk))] := H.pick [0, 20, 21, 22, 23, 24, 25, 26] [0, 1] rfl
  refine hK3 _ _ ?_
  clear hK3
  refine wp_cond_true (H.ev rfl) ?_
  refine wp_seq_k (fun K4 hK4 => ?_)
  refine rg_plain ?_
  refine pl_does (does_call rfl ⟨_, Tryd.func7, by kernel_rfl⟩ rfl (fun W hb => known_any W (hpg.ext hb))) rfl rfl rfl rfl H ?_
  try clear H a W
  intro a W H
  replace H : St 81 w a W [(36, .bool true), (35, .bool true), (7, .pointer (some ⟨g2, 0, none⟩)), (6, .pointer (some ⟨g1, 0, none⟩)), (2, .slice Aa na ca), (3, .slice Ap np cp), (4, .int .i64 z), (5, bv y)] [(g2, 27, bvs (rb 12 nn)), (g1, 23, bvs (rb 32 kk))] := H.pick [0, 1, 3, 4, 5, 6, 7, 8] [0, 1] rfl
  refine pl_does (does_assign rfl rfl) rfl rfl rfl rfl H ?_
  try clear H a W
  intro a W H
  refine pl_end ?_
  replace H : St 81 w a W [(12, .bool true), (7, .pointer (some ⟨g2, 0, none⟩)), (6, .pointer (some ⟨g1, 0, none⟩)), (2, .slice Aa na ca), (3, .slice Ap np cp), (4, .int .i64 z), (5, bv y)] [(g2, 27, bvs (rb 12 nn)), (g1, 23, bvs (rb 32 kk))] := H.pick [0, 3, 4, 5, 6, 7, 8] [0, 1] rfl
  refine hK4 _ _ ?_
  clear hK4
  refine wp_ret ?_
  repeat (first | (with_reducible refine then_ret ?_) | (with_reducible refine blk_ret ?_))
  refine end_tmp (p := 12) rfl rfl H (fun hb => ?_)
  exact ⟨rfl, hb⟩
set_option maxHeartbeats 4000000 in
theorem turns_d {va vp : Value} {la lp : List UInt8} (kk nn : Nat → UInt8) (w : World) (hpg : PG w) (hva : BF la va w) (hvp : BF lp vp w) (y : UInt8) (z : Int) (h1 : la.length ≤ 400) (h2 : lp.length ≤ 400) (h3 : 15 < z) : Calls Tryd.prog 5 #[.agg (bvs (rb 32 kk)), .agg (bvs (rb 12 nn)), va, vp, .int .i64 z, bv y] w (fun rr w' => rr = .returned (.bool true) ∧ Below w.heap.size w w') := by
  obtain ⟨Aa, na, ca, rfl, hba⟩ := id hva
  have hna := hba.len
  obtain ⟨Ap, np, cp, rfl, hbp⟩ := id hvp
  have hnp := hbp.len
  refine calls_st (vs := [.agg (bvs (rb 32 kk)), .agg (bvs (rb 12 nn)), .slice Aa na ca, .slice Ap np cp, .int .i64 z, bv y]) 81 Tryd.func5 rfl Tryd.ntmps5 rfl (fun a W H => ?_)
  replace H : St 81 w a W [(0, .agg (bvs (rb 32 kk))), (1, .agg (bvs (rb 12 nn))), (2, .slice Aa na ca), (3, .slice Ap np cp), (4, .int .i64 z), (5, bv y)] [] := H
  refine wp_seq_k (fun K1 hK1 => ?_)
  refine rg_plain ?_
  refine pl_box rfl rfl (bx_key kk) rfl rfl rfl rfl H ?_
  try clear H a W
  intro g1 a W H
  refine pl_box rfl rfl (bx_nonce nn) rfl rfl rfl rfl H ?_
  try clear H a W
  intro g2 a W H
  refine pl_does (does_assign rfl rfl) rfl rfl rfl rfl H ?_
  try clear H a W
  intro a W H
  refine pl_end ?_
  replace H : St 81 w a W [(12, .bool false), (7, .pointer (some ⟨g2, 0, none⟩)), (6, .pointer (some ⟨g1, 0, none⟩)), (2, .slice Aa na ca), (3, .slice Ap np cp), (4, .int .i64 z), (5, bv y)] [(g2, 27, bvs (rb 12 nn)), (g1, 23, bvs (rb 32 kk))] := H.pick [0, 1, 2, 5, 6, 7, 8] [0, 1] rfl
  refine hK1 _ _ ?_
  clear hK1
  refine wp_seq_k (fun K2 hK2 => ?_)
  refine wp_seq_k (fun K3 hK3 => ?_)
  refine rg_plain ?_
  refine pl_does (does_move rfl rfl) rfl rfl rfl rfl H ?_
  try clear H a W
  intro a W H
  refine pl_does (does_len Tryd.underlying25 rfl rfl) rfl rfl rfl rfl H ?_
  try clear H a W
  intro a W H
  refine pl_does (does_binOp rfl rfl rfl (i_gtrB (k := na) (m := 400) (decide_eq_false (by omega)) _ _)) rfl rfl rfl rfl H ?_
  try clear H a W
  intro a W H
  refine pl_does (does_move rfl rfl) rfl rfl rfl rfl H ?_
  try clear H a W
  intro a W H
  refine pl_does_g (does_move rfl rfl) (wanted_some rfl rfl rfl rfl rfl) rfl rfl rfl H ?_
  try clear H a W
  intro a W H
  refine pl_does_g (does_len Tryd.underlying25 rfl rfl) (wanted_some rfl rfl rfl rfl rfl) rfl rfl rfl H ?_
  try clear H a W
  intro a W H
  refine pl_does_g (does_binOp rfl rfl rfl (i_gtrB (k := np) (m := 400) (decide_eq_false (by omega)) _ _)) (wanted_some rfl rfl rfl rfl rfl) rfl rfl rfl H ?_
  try clear H a W
  intro a W H
  refine pl_does (does_pick rfl rfl (fun hb => by cases hb) (fun _ => rfl)) rfl rfl rfl rfl H ?_
  try clear H a W
  intro a W H
  refine pl_does (does_move rfl rfl) rfl rfl rfl rfl H ?_
  try clear H a W
  intro a W H
  refine pl_does_g (does_move rfl rfl) (wanted_some rfl rfl rfl rfl rfl) rfl rfl rfl H ?_
  try clear H a W
  intro a W H
  refine pl_does_g (does_binOp rfl rfl rfl (i_lssZ (decide_eq_false (by omega)) _ _)) (wanted_some rfl rfl rfl rfl rfl) rfl rfl rfl H ?_
  try clear H a W
  intro a W H
  refine pl_does (does_pick rfl rfl (fun hb => by cases hb) (fun _ => rfl)) rfl rfl rfl rfl H ?_
  try clear H a W
  intro a W H
  refine pl_does (does_move rfl rfl) rfl rfl rfl rfl H ?_
  try clear H a W
  intro a W H
  refine pl_does_g (does_move rfl rfl) (wanted_some rfl rfl rfl rfl rfl) rfl rfl rfl H ?_
  try clear H a W
  intro a W H
  refine pl_does_g (does_binOp rfl rfl rfl (i_gtrZ (decide_eq_true (by omega)) _ _)) (wanted_some rfl rfl rfl rfl rfl) rfl rfl rfl H ?_
  try clear H a W
  intro a W H
  refine pl_does (does_pick rfl rfl (fun hb => by cases hb) (fun _ => rfl)) rfl rfl rfl rfl H ?_
  try clear H a W
  intro a W H
  refine pl_does (does_move rfl rfl) rfl rfl rfl rfl H ?_
  try clear H a W
  intro a W H
  refine pl_skip (wanted_some rfl rfl rfl rfl rfl) rfl rfl rfl H ?_
  try clear H a W
  intro a W H
  refine pl_skip (wanted_some rfl rfl rfl rfl rfl) rfl rfl rfl H ?_
  try clear H a W
  intro a W H
  refine pl_does (does_pick rfl rfl (fun _ => rfl) (fun hb => by cases hb)) rfl rfl rfl rfl H ?_
  try clear H a W
  intro a W H
  refine pl_end ?_
  replace H : St 81 w a W [(35, .bool true), (12, .bool false), (7, .pointer (some ⟨g2, 0, none⟩)), (6, .pointer (some ⟨g1, 0, none⟩)), (2, .slice Aa na ca), (3, .slice Ap np cp), (4, .int .i64 z), (5, bv y)] [(g2, 27, bvs (rb 12 nn)), (g1, 23, bvs (rb 32 kk))] := H.pick [0, 20, 21, 22, 23, 24, 25, 26] [0, 1] rfl
  refine hK3 _ _ ?_
  clear hK3
  refine wp_cond_true (H.ev rfl) ?_
  refine wp_seq_k (fun K4 hK4 => ?_)
  refine rg_plain ?_
  refine pl_does (does_call rfl ⟨_, Tryd.func7, by kernel_rfl⟩ rfl (fun W hb => known_any W (hpg.ext hb))) rfl rfl rfl rfl H ?_
  try clear H a W
  intro a W H
  replace H : St 81 w a W [(36, .bool true), (35, .bool true), (7, .pointer (some ⟨g2, 0, none⟩)), (6, .pointer (some ⟨g1, 0, none⟩)), (2, .slice Aa na ca), (3, .slice Ap np cp), (4, .int .i64 z), (5, bv y)] [(g2, 27, bvs (rb 12 nn)), (g1, 23, bvs (rb 32 kk))] := H.pick [0, 1, 3, 4, 5, 6, 7, 8] [0, 1] rfl
  refine pl_does (does_assign rfl rfl) rfl rfl rfl rfl H ?_
  try clear H a W
  intro a W H
  refine pl_end ?_
  replace H : St 81 w a W [(12, .bool true), (7, .pointer (some ⟨g2, 0, none⟩)), (6, .pointer (some ⟨g1, 0, none⟩)), (2, .slice Aa na ca), (3, .slice Ap np cp), (4, .int .i64 z), (5, bv y)] [(g2, 27, bvs (rb 12 nn)), (g1, 23, bvs (rb 32 kk))] := H.pick [0, 3, 4, 5, 6, 7, 8] [0, 1] rfl
  refine hK4 _ _ ?_
  clear hK4
  refine wp_ret ?_
  repeat (first | (with_reducible refine then_ret ?_) | (with_reducible refine blk_ret ?_))
  refine end_tmp (p := 12) rfl rfl H (fun hb => ?_)
  exact ⟨rfl, hb⟩
set_option maxHeartbeats 4000000 in
theorem turns_e {va vp : Value} {la lp : List UInt8} (kk nn : Nat → UInt8) (w : World) (hpg : PG w) (hva : BF la va w) (hvp : BF lp vp w) (y : UInt8) (ja : Nat) (h1 : la.length ≤ 400) (h2 : lp.length ≤ 400) (h3 : ja ≤ 15) (hy : decide (y = 0) = true) : Calls Tryd.prog 5 #[.agg (bvs (rb 32 kk)), .agg (bvs (rb 12 nn)), va, vp, .int .i64 ((ja : Nat) : Int), bv y] w (fun rr w' => rr = .returned (.bool true) ∧ Below w.heap.size w w') := by
  obtain ⟨Aa, na, ca, rfl, hba⟩ := id hva
  have hna := hba.len
  obtain ⟨Ap, np, cp, rfl, hbp⟩ := id hvp
  have hnp := hbp.len
  refine calls_st (vs := [.agg (bvs (rb 32 kk)), .agg (bvs (rb 12 nn)), .slice Aa na ca, .slice Ap np cp, .int .i64 ((ja : Nat) : Int), bv y]) 81 Tryd.func5 rfl Tryd.ntmps5 rfl (fun a W H => ?_)
  replace H : St 81 w a W [(0, .agg (bvs (rb 32 kk))), (1, .agg (bvs (rb 12 nn))), (2, .slice Aa na ca), (3, .slice Ap np cp), (4, .int .i64 ((ja : Nat) : Int)), (5, bv y)] [] := H
  refine wp_seq_k (fun K1 hK1 => ?_)
  refine rg_plain ?_
  refine pl_box rfl rfl (bx_key kk) rfl rfl rfl rfl H ?_
  try clear H a W
  intro g1 a W H
  refine pl_box rfl rfl (bx_nonce nn) rfl rfl rfl rfl H ?_
  try clear H a W
  intro g2 a W H
  refine pl_does (does_assign rfl rfl) rfl rfl rfl rfl H ?_
  try clear H a W
  intro a W H
  refine pl_end ?_
  replace H : St 81 w a W [(12, .bool false), (7, .pointer (some ⟨g2, 0, none⟩)), (6, .pointer (some ⟨g1, 0, none⟩)), (2, .slice Aa na ca), (3, .slice Ap np cp), (4, .int .i64 ((ja : Nat) : Int)), (5, bv y)] [(g2, 27, bvs (rb 12 nn)), (g1, 23, bvs (rb 32 kk))] := H.pick [0, 1, 2, 5, 6, 7, 8] [0, 1] rfl
  refine hK1 _ _ ?_
  clear hK1
  refine wp_seq_k (fun K2 hK2 => ?_)
  refine wp_seq_k (fun K3 hK3 => ?_)
  refine rg_plain ?_
  refine pl_does (does_move rfl rfl) rfl rfl rfl rfl H ?_
  try clear H a W
  intro a W H
  refine pl_does (does_len Tryd.underlying25 rfl rfl) rfl rfl rfl rfl H ?_
  try clear H a W
  intro a W H
  refine pl_does (does_binOp rfl rfl rfl (i_gtrB (k := na) (m := 400) (decide_eq_false (by omega)) _ _)) rfl rfl rfl rfl H ?_
  try clear H a W
  intro a W H
  refine pl_does (does_move rfl rfl) rfl rfl rfl rfl H ?_
  try clear H a W
  intro a W H
  refine pl_does_g (does_move rfl rfl) (wanted_some rfl rfl rfl rfl rfl) rfl rfl rfl H ?_
  try clear H a W
  intro a W H
  refine pl_does_g (does_len Tryd.underlying25 rfl rfl) (wanted_some rfl rfl rfl rfl rfl) rfl rfl rfl H ?_
  try clear H a W
  intro a W H
  refine pl_does_g (does_binOp rfl rfl rfl (i_gtrB (k := np) (m := 400) (decide_eq_false (by omega)) _ _)) (wanted_some rfl rfl rfl rfl rfl) rfl rfl rfl H ?_
  try clear H a W
  intro a W H
  refine pl_does (does_pick rfl rfl (fun hb => by cases hb) (fun _ => rfl)) rfl rfl rfl rfl H ?_
  try clear H a W
  intro a W H
  refine pl_does (does_move rfl rfl) rfl rfl rfl rfl H ?_
  try clear H a W
  intro a W H
  refine pl_does_g (does_move rfl rfl) (wanted_some rfl rfl rfl rfl rfl) rfl rfl rfl H ?_
  try clear H a W
  intro a W H
  refine pl_does_g (does_binOp rfl rfl rfl (i_lssZ (decide_eq_false (by omega)) _ _)) (wanted_some rfl rfl rfl rfl rfl) rfl rfl rfl H ?_
  try clear H a W
  intro a W H
  refine pl_does (does_pick rfl rfl (fun hb => by cases hb) (fun _ => rfl)) rfl rfl rfl rfl H ?_
  try clear H a W
  intro a W H
  refine pl_does (does_move rfl rfl) rfl rfl rfl rfl H ?_
  try clear H a W
  intro a W H
  refine pl_does_g (does_move rfl rfl) (wanted_some rfl rfl rfl rfl rfl) rfl rfl rfl H ?_
  try clear H a W
  intro a W H
  refine pl_does_g (does_binOp rfl rfl rfl (i_gtrZ (decide_eq_false (by omega)) _ _)) (wanted_some rfl rfl rfl rfl rfl) rfl rfl rfl H ?_
  try clear H a W
  intro a W H
  refine pl_does (does_pick rfl rfl (fun hb => by cases hb) (fun _ => rfl)) rfl rfl rfl rfl H ?_
  try clear H a W
  intro a W H
  refine pl_does (does_move rfl rfl) rfl rfl rfl rfl H ?_
  try clear H a W
  intro a W H
  refine pl_does_g (does_move rfl rfl) (wanted_some rfl rfl rfl rfl rfl) rfl rfl rfl H ?_
  try clear H a W
  intro a W H
  refine pl_does_g (does_binOp rfl rfl rfl (b_eqlB hy _ _)) (wanted_some rfl rfl rfl rfl rfl) rfl rfl rfl H ?_
  try clear H a W
  intro a W H
  refine pl_does (does_pick rfl rfl (fun hb => by cases hb) (fun _ => rfl)) rfl rfl rfl rfl H ?_
  try clear H a W
  intro a W H
  refine pl_end ?_
  replace H : St 81 w a W [(35, .bool true), (12, .bool false), (7, .pointer (some ⟨g2, 0, none⟩)), (6, .pointer (some ⟨g1, 0, none⟩)), (2, .slice Aa na ca), (3, .slice Ap np cp), (4, .int .i64 ((ja : Nat) : Int)), (5, bv y)] [(g2, 27, bvs (rb 12 nn)), (g1, 23, bvs (rb 32 kk))] := H.pick [0, 20, 21, 22, 23, 24, 25, 26] [0, 1] rfl
  refine hK3 _ _ ?_
  clear hK3
  refine wp_cond_true (H.ev rfl) ?_
  refine wp_seq_k (fun K4 hK4 => ?_)
  refine rg_plain ?_
  refine pl_does (does_call rfl ⟨_, Tryd.func7, by kernel_rfl⟩ rfl (fun W hb => known_any W (hpg.ext hb))) rfl rfl rfl rfl H ?_
  try clear H a W
  intro a W H
  replace H : St 81 w a W [(36, .bool true), (35, .bool true), (7, .pointer (some ⟨g2, 0, none⟩)), (6, .pointer (some ⟨g1, 0, none⟩)), (2, .slice Aa na ca), (3, .slice Ap np cp), (4, .int .i64 ((ja : Nat) : Int)), (5, bv y)] [(g2, 27, bvs (rb 12 nn)), (g1, 23, bvs (rb 32 kk))] := H.pick [0, 1, 3, 4, 5, 6, 7, 8] [0, 1] rfl
  refine pl_does (does_assign rfl rfl) rfl rfl rfl rfl H ?_
  try clear H a W
  intro a W H
  refine pl_end ?_
  replace H : St 81 w a W [(12, .bool true), (7, .pointer (some ⟨g2, 0, none⟩)), (6, .pointer (some ⟨g1, 0, none⟩)), (2, .slice Aa na ca), (3, .slice Ap np cp), (4, .int .i64 ((ja : Nat) : Int)), (5, bv y)] [(g2, 27, bvs (rb 12 nn)), (g1, 23, bvs (rb 32 kk))] := H.pick [0, 3, 4, 5, 6, 7, 8] [0, 1] rfl
  refine hK4 _ _ ?_
  clear hK4
  refine wp_ret ?_
  repeat (first | (with_reducible refine then_ret ?_) | (with_reducible refine blk_ret ?_))
  refine end_tmp (p := 12) rfl rfl H (fun hb => ?_)
  exact ⟨rfl, hb⟩
set_option maxHeartbeats 4000000 in
theorem turns_f {va vp : Value} {la lp : List UInt8} (kk nn : Nat → UInt8) (w : World) (hpg : PG w) (hva : BF la va w) (hvp : BF lp vp w) (y : UInt8) (ja : Nat) (h1 : la.length ≤ 400) (h2 : lp.length ≤ 400) (h3 : ja ≤ 15) (hy : decide (y = 0) = false) : Calls Tryd.prog 5 #[.agg (bvs (rb 32 kk)), .agg (bvs (rb 12 nn)), va, vp, .int .i64 ((ja : Nat) : Int), bv y] w (fun rr w' => rr = .returned (.bool true) ∧ Below w.heap.size w w') := by
  obtain ⟨Aa, na, ca, rfl, hba⟩ := id hva
  have hna := hba.len
  obtain ⟨Ap, np, cp, rfl, hbp⟩ := id hvp
  have hnp := hbp.len
  refine calls_st (vs := [.agg (bvs (rb 32 kk)), .agg (bvs (rb 12 nn)), .slice Aa na ca, .slice Ap np cp, .int .i64 ((ja : Nat) : Int), bv y]) 81 Tryd.func5 rfl Tryd.ntmps5 rfl (fun a W H => ?_)
  replace H : St 81 w a W [(0, .agg (bvs (rb 32 kk))), (1, .agg (bvs (rb 12 nn))), (2, .slice Aa na ca), (3, .slice Ap np cp), (4, .int .i64 ((ja : Nat) : Int)), (5, bv y)] [] := H
  refine wp_seq_k (fun K1 hK1 => ?_)
  refine rg_plain ?_
  refine pl_box rfl rfl (bx_key kk) rfl rfl rfl rfl H ?_
  try clear H a W
  intro g1 a W H
  refine pl_box rfl rfl (bx_nonce nn) rfl rfl rfl rfl H ?_
  try clear H a W
  intro g2 a W H
  refine pl_does (does_assign rfl rfl) rfl rfl rfl rfl H ?_
  try clear H a W
  intro a W H
  refine pl_end ?_
  replace H : St 81 w a W [(12, .bool false), (7, .pointer (some ⟨g2, 0, none⟩)), (6, .pointer (some ⟨g1, 0, none⟩)), (2, .slice Aa na ca), (3, .slice Ap np cp), (4, .int .i64 ((ja : Nat) : Int)), (5, bv y)] [(g2, 27, bvs (rb 12 nn)), (g1, 23, bvs (rb 32 kk))] := H.pick [0, 1, 2, 5, 6, 7, 8] [0, 1] rfl
  refine hK1 _ _ ?_
  clear hK1
  refine wp_seq_k (fun K2 hK2 => ?_)
  refine wp_seq_k (fun K3 hK3 => ?_)
  refine rg_plain ?_
  refine pl_does (does_move rfl rfl) rfl rfl rfl rfl H ?_
  try clear H a W
  intro a W H
  refine pl_does (does_len Tryd.underlying25 rfl rfl) rfl rfl rfl rfl H ?_
  try clear H a W
  intro a W H
  refine pl_does (does_binOp rfl rfl rfl (i_gtrB (k := na) (m := 400) (decide_eq_false (by omega)) _ _)) rfl rfl rfl rfl H ?_
  try clear H a W
  intro a W H
  refine pl_does (does_move rfl rfl) rfl rfl rfl rfl H ?_
  try clear H a W
  intro a W H
  refine pl_does_g (does_move rfl rfl) (wanted_some rfl rfl rfl rfl rfl) rfl rfl rfl H ?_
  try clear H a W
  intro a W H
  refine pl_does_g (does_len Tryd.underlying25 rfl rfl) (wanted_some rfl rfl rfl rfl rfl) rfl rfl rfl H ?_
  try clear H a W
  intro a W H
  refine pl_does_g (does_binOp rfl rfl rfl (i_gtrB (k := np) (m := 400) (decide_eq_false (by omega)) _ _)) (wanted_some rfl rfl rfl rfl rfl) rfl rfl rfl H ?_
  try clear H a W
  intro a W H
  refine pl_does (does_pick rfl rfl (fun hb => by cases hb) (fun _ => rfl)) rfl rfl rfl rfl H ?_
  try clear H a W
  intro a W H
  refine pl_does (does_move rfl rfl) rfl rfl rfl rfl H ?_
  try clear H a W
  intro a W H
  refine pl_does_g (does_move rfl rfl) (wanted_some rfl rfl rfl rfl rfl) rfl rfl rfl H ?_
  try clear H a W
  intro a W H
  refine pl_does_g (does_binOp rfl rfl rfl (i_lssZ (decide_eq_false (by omega)) _ _)) (wanted_some rfl rfl rfl rfl rfl) rfl rfl rfl H ?_
  try clear H a W
  intro a W H
  refine pl_does (does_pick rfl rfl (fun hb => by cases hb) (fun _ => rfl)) rfl rfl rfl rfl H ?_
  try clear H a W
  intro a W H
  refine pl_does (does_move rfl rfl) rfl rfl rfl rfl H ?_
  try clear H a W
  intro a W H
  refine pl_does_g (does_move rfl rfl) (wanted_some rfl rfl rfl rfl rfl) rfl rfl rfl H ?_
  try clear H a W
  intro a W H
  refine pl_does_g (does_binOp rfl rfl rfl (i_gtrZ (decide_eq_false (by omega)) _ _)) (wanted_some rfl rfl rfl rfl rfl) rfl rfl rfl H ?_
  try clear H a W
  intro a W H
  refine pl_does (does_pick rfl rfl (fun hb => by cases hb) (fun _ => rfl)) rfl rfl rfl rfl H ?_
  try clear H a W
  intro a W H
  refine pl_does (does_move rfl rfl) rfl rfl rfl rfl H ?_
  try clear H a W
  intro a W H
  refine pl_does_g (does_move rfl rfl) (wanted_some rfl rfl rfl rfl rfl) rfl rfl rfl H ?_
  try clear H a W
  intro a W H
  refine pl_does_g (does_binOp rfl rfl rfl (b_eqlB hy _ _)) (wanted_some rfl rfl rfl rfl rfl) rfl rfl rfl H ?_
  try clear H a W
  intro a W H
  refine pl_does (does_pick rfl rfl (fun hb => by cases hb) (fun _ => rfl)) rfl rfl rfl rfl H ?_
  try clear H a W
  intro a W H
  refine pl_end ?_
  replace H : St 81 w a W [(35, .bool false), (12, .bool false), (7, .pointer (some ⟨g2, 0, none⟩)), (6, .pointer (some ⟨g1, 0, none⟩)), (2, .slice Aa na ca), (3, .slice Ap np cp), (4, .int .i64 ((ja : Nat) : Int)), (5, bv y)] [(g2, 27, bvs (rb 12 nn)), (g1, 23, bvs (rb 32 kk))] := H.pick [0, 20, 21, 22, 23, 24, 25, 26] [0, 1] rfl
  refine hK3 _ _ ?_
  clear hK3
  refine wp_cond_false (H.ev rfl) ?_
  refine wp_skip ?_
  refine hK2 _ _ ?_
  clear hK2
  refine wp_seq_k (fun K4 hK4 => ?_)
  refine rg_plain ?_
  refine pl_does (does_load rfl rfl (k := 1) rfl Tryd.underlying23 rfl (info_key _)) rfl rfl rfl rfl H ?_
  try clear H a W
  intro a W H
  refine pl_does (does_load rfl rfl (k := 0) rfl Tryd.underlying27 rfl (info_nonce _)) rfl rfl rfl rfl H ?_
  try clear H a W
  intro a W H
  refine pl_does (does_move rfl rfl) rfl rfl rfl rfl H ?_
  try clear H a W
  intro a W H
  refine pl_does (does_move rfl rfl) rfl rfl rfl rfl H ?_
  try clear H a W
  intro a W H
  refine pl_R (R := SB) (F := OF w.heap.size [(g2, 27, bvs (rb 12 nn)), (g1, 23, bvs (rb 32 kk))] (sealB kk nn la lp)) sb_st (ob_callS H (wanted_none rfl) rfl ⟨_, Tryd.func9, by kernel_rfl⟩ rfl (of_call H (seal_any kk nn _ (hpg.ext H.below) (bf_old hva H) (bf_old hvp H) (by omega) (by omega)))) rfl rfl rfl H ?_
  try clear H a W
  intro v41 a W hv41 hR_ H
  clear hR_
  replace H : St 81 w a W [(41, v41), (40, .slice Ap np cp), (39, .slice Aa na ca), (38, .agg (bvs (rb 12 nn))), (37, .agg (bvs (rb 32 kk))), (35, .bool false), (12, .bool false), (7, .pointer (some ⟨g2, 0, none⟩)), (6, .pointer (some ⟨g1, 0, none⟩)), (2, .slice Aa na ca), (3, .slice Ap np cp), (4, .int .i64 ((ja : Nat) : Int)), (5, bv y)] [(g2, 27, bvs (rb 12 nn)), (g1, 23, bvs (rb 32 kk))] := H
  refine pl_R (R := SB) (F := OF w.heap.size [(g2, 27, bvs (rb 12 nn)), (g1, 23, bvs (rb 32 kk))] (sealB kk nn la lp)) sb_st (ob_assignS H (wanted_none rfl) rfl rfl hv41) rfl rfl rfl H ?_
  try clear H a
  intro v13 a W hv13 hR_ H
  replace hv41 := OF.sb _ _ _ hv41 hR_
  clear hR_
  replace H : St 81 w a W [(13, v13), (41, v41), (40, .slice Ap np cp), (39, .slice Aa na ca), (38, .agg (bvs (rb 12 nn))), (37, .agg (bvs (rb 32 kk))), (35, .bool false), (12, .bool false), (7, .pointer (some ⟨g2, 0, none⟩)), (6, .pointer (some ⟨g1, 0, none⟩)), (2, .slice Aa na ca), (3, .slice Ap np cp), (4, .int .i64 ((ja : Nat) : Int)), (5, bv y)] [(g2, 27, bvs (rb 12 nn)), (g1, 23, bvs (rb 32 kk))] := H
  refine pl_end ?_
  replace H : St 81 w a W [(13, v13), (12, .bool false), (7, .pointer (some ⟨g2, 0, none⟩)), (6, .pointer (some ⟨g1, 0, none⟩)), (2, .slice Aa na ca), (3, .slice Ap np cp), (4, .int .i64 ((ja : Nat) : Int)), (5, bv y)] [(g2, 27, bvs (rb 12 nn)), (g1, 23, bvs (rb 32 kk))] := H.pick [0, 7, 8, 9, 10, 11, 12, 13] [0, 1] rfl
  refine hK4 _ _ ?_
  clear hK4
  refine wp_seq_k (fun K5 hK5 => ?_)
  refine wp_seq_k (fun K6 hK6 => ?_)
  refine rg_plain ?_
  refine pl_R (R := SB) (F := OF w.heap.size [(g2, 27, bvs (rb 12 nn)), (g1, 23, bvs (rb 32 kk))] (sealB kk nn la lp)) sb_st (ob_moveS H (wanted_none rfl) rfl rfl hv13) rfl rfl rfl H ?_
  try clear H a
  intro v42 a W hv42 hR_ H
  replace hv13 := OF.sb _ _ _ hv13 hR_
  clear hR_
  replace H : St 81 w a W [(42, v42), (13, v13), (12, .bool false), (7, .pointer (some ⟨g2, 0, none⟩)), (6, .pointer (some ⟨g1, 0, none⟩)), (2, .slice Aa na ca), (3, .slice Ap np cp), (4, .int .i64 ((ja : Nat) : Int)), (5, bv y)] [(g2, 27, bvs (rb 12 nn)), (g1, 23, bvs (rb 32 kk))] := H
  refine pl_R (R := SB) (F := fun u_ _ => u_ = .int .i64 ((np + 16 : Nat) : Int)) sb_st (ob_lenS (k := np + 16) H (wanted_none rfl) rfl rfl hv42.bf (by rw [sealB_len, hnp])) rfl rfl rfl H ?_
  try clear H a
  rintro _ a W rfl hR_ H
  replace hv42 := OF.sb _ _ _ hv42 hR_
  replace hv13 := OF.sb _ _ _ hv13 hR_
  clear hR_
  replace H : St 81 w a W [(43, .int .i64 ((np + 16 : Nat) : Int)), (42, v42), (13, v13), (12, .bool false), (7, .pointer (some ⟨g2, 0, none⟩)), (6, .pointer (some ⟨g1, 0, none⟩)), (2, .slice Aa na ca), (3, .slice Ap np cp), (4, .int .i64 ((ja : Nat) : Int)), (5, bv y)] [(g2, 27, bvs (rb 12 nn)), (g1, 23, bvs (rb 32 kk))] := H
  refine pl_R (R := SB) (F := fun u_ _ => u_ = .slice Ap np cp) sb_st (ob_valS H (wanted_none rfl) (does_move rfl rfl)) rfl rfl rfl H ?_
  try clear H a
  rintro _ a W rfl hR_ H
  replace hv42 := OF.sb _ _ _ hv42 hR_
  replace hv13 := OF.sb _ _ _ hv13 hR_
  clear hR_
  replace H : St 81 w a W [(44, .slice Ap np cp), (43, .int .i64 ((np + 16 : Nat) : Int)), (42, v42), (13, v13), (12, .bool false), (7, .pointer (some ⟨g2, 0, none⟩)), (6, .pointer (some ⟨g1, 0, none⟩)), (2, .slice Aa na ca), (3, .slice Ap np cp), (4, .int .i64 ((ja : Nat) : Int)), (5, bv y)] [(g2, 27, bvs (rb 12 nn)), (g1, 23, bvs (rb 32 kk))] := H
  refine pl_R (R := SB) (F := fun u_ _ => u_ = .int .i64 ((np : Nat) : Int)) sb_st (ob_valS H (wanted_none rfl) (does_len Tryd.underlying25 rfl rfl)) rfl rfl rfl H ?_
  try clear H a
  rintro _ a W rfl hR_ H
  replace hv42 := OF.sb _ _ _ hv42 hR_
  replace hv13 := OF.sb _ _ _ hv13 hR_
  clear hR_
  replace H : St 81 w a W [(45, .int .i64 ((np : Nat) : Int)), (44, .slice Ap np cp), (43, .int .i64 ((np + 16 : Nat) : Int)), (42, v42), (13, v13), (12, .bool false), (7, .pointer (some ⟨g2, 0, none⟩)), (6, .pointer (some ⟨g1, 0, none⟩)), (2, .slice Aa na ca), (3, .slice Ap np cp), (4, .int .i64 ((ja : Nat) : Int)), (5, bv y)] [(g2, 27, bvs (rb 12 nn)), (g1, 23, bvs (rb 32 kk))] := H
  refine pl_R (R := SB) (F := fun u_ _ => u_ = .int .i64 ((np + 16 : Nat) : Int)) sb_st (ob_valS H (wanted_none rfl) (does_binOp rfl rfl rfl (i_addE2 (k := np) (m := 16) rfl (by omega) _ _))) rfl rfl rfl H ?_
  try clear H a
  rintro _ a W rfl hR_ H
  replace hv42 := OF.sb _ _ _ hv42 hR_
  replace hv13 := OF.sb _ _ _ hv13 hR_
  clear hR_
  replace H : St 81 w a W [(46, .int .i64 ((np + 16 : Nat) : Int)), (45, .int .i64 ((np : Nat) : Int)), (44, .slice Ap np cp), (43, .int .i64 ((np + 16 : Nat) : Int)), (42, v42), (13, v13), (12, .bool false), (7, .pointer (some ⟨g2, 0, none⟩)), (6, .pointer (some ⟨g1, 0, none⟩)), (2, .slice Aa na ca), (3, .slice Ap np cp), (4, .int .i64 ((ja : Nat) : Int)), (5, bv y)] [(g2, 27, bvs (rb 12 nn)), (g1, 23, bvs (rb 32 kk))] := H
  refine pl_R (R := SB) (F := fun u_ _ => u_ = .bool false) sb_st (ob_valS H (wanted_none rfl) (does_binOp rfl rfl rfl (i_neqB (k := np + 16) (m := np + 16) (decide_eq_false (by omega)) _ _))) rfl rfl rfl H ?_
  try clear H a
  rintro _ a W rfl hR_ H
  replace hv42 := OF.sb _ _ _ hv42 hR_
  replace hv13 := OF.sb _ _ _ hv13 hR_
  clear hR_
  replace H : St 81 w a W [(47, .bool false), (46, .int .i64 ((np + 16 : Nat) : Int)), (45, .int .i64 ((np : Nat) : Int)), (44, .slice Ap np cp), (43, .int .i64 ((np + 16 : Nat) : Int)), (42, v42), (13, v13), (12, .bool false), (7, .pointer (some ⟨g2, 0, none⟩)), (6, .pointer (some ⟨g1, 0, none⟩)), (2, .slice Aa na ca), (3, .slice Ap np cp), (4, .int .i64 ((ja : Nat) : Int)), (5, bv y)] [(g2, 27, bvs (rb 12 nn)), (g1, 23, bvs (rb 32 kk))] := H
  refine pl_end ?_
  replace H : St 81 w a W [(47, .bool false), (13, v13), (12, .bool false), (7, .pointer (some ⟨g2, 0, none⟩)), (6, .pointer (some ⟨g1, 0, none⟩)), (2, .slice Aa na ca), (3, .slice Ap np cp), (4, .int .i64 ((ja : Nat) : Int)), (5, bv y)] [(g2, 27, bvs (rb 12 nn)), (g1, 23, bvs (rb 32 kk))] := H.pick [0, 6, 7, 8, 9, 10, 11, 12, 13] [0, 1] rfl
  obtain ⟨gb, cap, cur, rfl, hb_, hB_, hn_, huc⟩ := OF.uc hv13 (n := np + 16) (by rw [sealB_len, hnp]) (by omega)
  replace H := H.add hb_ hB_ hn_
  clear hb_ hB_ hn_
  obtain ⟨xm, hxm⟩ : ∃ xm, (sealB kk nn la lp)[np + ja]? = some xm := ⟨_, List.getElem?_eq_getElem (by rw [sealB_len]; omega)⟩
  have hxc : cur[0 + (np + ja)]? = some (bv xm) := by
    rw [Nat.zero_add]
    exact huc.at_ (by rw [List.getElem?_map, hxm]; rfl)
  have hqm := turned_mark (kk := kk) (nn := nn) (a := la) (p := lp) (j := ja) (y := xm ^^^ y) (by omega) (by rw [hnp, hxm]; exact xor_ne (of_decide_eq_false hy))
  rw [hnp] at hqm
  have huc2 : US8 (cur.setIfInBounds (0 + (np + ja)) (bv (xm ^^^ y))) (np + 16) cap ((sealB kk nn la lp).set (np + ja) (xm ^^^ y)) := by
    rw [Nat.zero_add]
    exact uc_set huc _
  replace H : St 81 w a W [(47, .bool false), (13, .slice (some ⟨gb, 0, none⟩) (np + 16) cap), (12, .bool false), (7, .pointer (some ⟨g2, 0, none⟩)), (6, .pointer (some ⟨g1, 0, none⟩)), (2, .slice Aa na ca), (3, .slice Ap np cp), (4, .int .i64 ((ja : Nat) : Int)), (5, bv y)] [(gb, 5, cur), (g2, 27, bvs (rb 12 nn)), (g1, 23, bvs (rb 32 kk))] := H
  refine hK6 _ _ ?_
  clear hK6
  refine wp_cond_false (H.ev rfl) ?_
  refine wp_skip ?_
  refine hK5 _ _ ?_
  clear hK5
  refine wp_seq_k (fun K7 hK7 => ?_)
  refine rg_plain ?_
  refine pl_does (does_move rfl rfl) rfl rfl rfl rfl H ?_
  try clear H a W
  intro a W H
  refine pl_does (does_move rfl rfl) rfl rfl rfl rfl H ?_
  try clear H a W
  intro a W H
  refine pl_does (does_len Tryd.underlying25 rfl rfl) rfl rfl rfl rfl H ?_
  try clear H a W
  intro a W H
  refine pl_does (does_move rfl rfl) rfl rfl rfl rfl H ?_
  try clear H a W
  intro a W H
  refine pl_does (does_binOp rfl rfl rfl (i_addE2 (k := np) (m := ja) rfl (by omega) _ _)) rfl rfl rfl rfl H ?_
  try clear H a W
  intro a W H
  refine pl_does (does_move rfl rfl) rfl rfl rfl rfl H ?_
  try clear H a W
  intro a W H
  refine pl_does (does_move rfl rfl) rfl rfl rfl rfl H ?_
  try clear H a W
  intro a W H
  refine pl_does (does_len Tryd.underlying25 rfl rfl) rfl rfl rfl rfl H ?_
  try clear H a W
  intro a W H
  refine pl_does (does_move rfl rfl) rfl rfl rfl rfl H ?_
  try clear H a W
  intro a W H
  refine pl_does (does_binOp rfl rfl rfl (i_addE2 (k := np) (m := ja) rfl (by omega) _ _)) rfl rfl rfl rfl H ?_
  try clear H a W
  intro a W H
  refine pl_does (does_indexAddr rfl rfl rfl (ia_bytes (j := (np + ja)) (by omega))) rfl rfl rfl rfl H ?_
  try clear H a W
  intro a W H
  refine pl_does (does_loadAt (v := bv xm) rfl rfl (k := 0) rfl (Cha.ld_cur hxc)) rfl rfl rfl rfl H ?_
  try clear H a W
  intro a W H
  refine pl_does (does_move rfl rfl) rfl rfl rfl rfl H ?_
  try clear H a W
  intro a W H
  refine pl_does (does_binOp rfl rfl rfl (b_xor _ _ _ _)) rfl rfl rfl rfl H ?_
  try clear H a W
  intro a W H
  refine pl_does (does_indexAddr rfl rfl rfl (ia_bytes (j := (np + ja)) (by omega))) rfl rfl rfl rfl H ?_
  try clear H a W
  intro a W H
  refine pl_storeAt (c := cur.setIfInBounds (0 + (np + ja)) (bv (xm ^^^ y))) rfl rfl rfl (k := 0) rfl (st_cur hxc) rfl rfl rfl H ?_
  try clear H a W
  intro a W H
  replace H : St 81 w a W [(62, .pointer (some ⟨gb, 0 + (np + ja), none⟩)), (61, bv (xm ^^^ y)), (60, bv y), (59, bv xm), (58, .pointer (some ⟨gb, 0 + (np + ja), none⟩)), (57, .int .i64 ((np + ja : Nat) : Int)), (56, .int .i64 ((ja : Nat) : Int)), (55, .int .i64 ((np : Nat) : Int)), (54, .slice Ap np cp), (53, .slice (some ⟨gb, 0, none⟩) (np + 16) cap), (52, .int .i64 ((np + ja : Nat) : Int)), (51, .int .i64 ((ja : Nat) : Int)), (50, .int .i64 ((np : Nat) : Int)), (49, .slice Ap np cp), (48, .slice (some ⟨gb, 0, none⟩) (np + 16) cap), (47, .bool false), (13, .slice (some ⟨gb, 0, none⟩) (np + 16) cap), (12, .bool false), (7, .pointer (some ⟨g2, 0, none⟩)), (6, .pointer (some ⟨g1, 0, none⟩)), (2, .slice Aa na ca), (3, .slice Ap np cp), (4, .int .i64 ((ja : Nat) : Int)), (5, bv y)] [(gb, 5, cur.setIfInBounds (0 + (np + ja)) (bv (xm ^^^ y))), (g2, 27, bvs (rb 12 nn)), (g1, 23, bvs (rb 32 kk))] := H
  refine pl_end ?_
  replace H : St 81 w a W [(13, .slice (some ⟨gb, 0, none⟩) (np + 16) cap), (12, .bool false), (7, .pointer (some ⟨g2, 0, none⟩)), (6, .pointer (some ⟨g1, 0, none⟩)), (2, .slice Aa na ca)] [(gb, 5, cur.setIfInBounds (0 + (np + ja)) (bv (xm ^^^ y))), (g2, 27, bvs (rb 12 nn)), (g1, 23, bvs (rb 32 kk))] := H.pick [16, 17, 18, 19, 20] [0, 1, 2] rfl
  refine hK7 _ _ ?_
  clear hK7
  refine wp_seq_k (fun K8 hK8 => ?_)
  refine rg_plain ?_
  refine pl_does (does_load rfl rfl (k := 2) rfl Tryd.underlying23 rfl (info_key _)) rfl rfl rfl rfl H ?_
  try clear H a W
  intro a W H
  refine pl_does (does_load rfl rfl (k := 1) rfl Tryd.underlying27 rfl (info_nonce _)) rfl rfl rfl rfl H ?_
  try clear H a W
  intro a W H
  refine pl_does (does_move rfl rfl) rfl rfl rfl rfl H ?_
  try clear H a W
  intro a W H
  refine pl_does (does_move rfl rfl) rfl rfl rfl rfl H ?_
  try clear H a W
  intro a W H
  refine pl_R (R := SB) (F := fun u_ _ => u_ = .tuple #[.slice none 0 0, .int .i64 8]) sb_st (ob_calS H (wanted_none rfl) rfl ⟨_, Tryd.func10, by kernel_rfl⟩ rfl (open_no (m := np) kk nn _ (hpg.ext H.below) (bf_old hva H) (bf_uc (H.blk (k := 0) rfl) huc2) (by omega) (by rw [List.length_set, sealB_len, hnp]) (by omega) hqm)) rfl rfl rfl H ?_
  try clear H a W
  rintro _ a W rfl hR_ H
  clear hR_
  replace H : St 81 w a W [(68, .tuple #[.slice none 0 0, .int .i64 8]), (67, .slice (some ⟨gb, 0, none⟩) (np + 16) cap), (66, .slice Aa na ca), (65, .agg (bvs (rb 12 nn))), (64, .agg (bvs (rb 32 kk))), (13, .slice (some ⟨gb, 0, none⟩) (np + 16) cap), (12, .bool false), (7, .pointer (some ⟨g2, 0, none⟩)), (6, .pointer (some ⟨g1, 0, none⟩)), (2, .slice Aa na ca)] [(gb, 5, cur.setIfInBounds (0 + (np + ja)) (bv (xm ^^^ y))), (g2, 27, bvs (rb 12 nn)), (g1, 23, bvs (rb 32 kk))] := H
  refine pl_does (does_move rfl rfl) rfl rfl rfl rfl H ?_
  try clear H a W
  intro a W H
  refine pl_does (does_extract rfl rfl (fun _ => rfl)) rfl rfl rfl rfl H ?_
  try clear H a W
  intro a W H
  refine pl_does (does_extract rfl rfl (fun _ => rfl)) rfl rfl rfl rfl H ?_
  try clear H a W
  intro a W H
  refine pl_does (does_assign rfl rfl) rfl rfl rfl rfl H ?_
  try clear H a W
  intro a W H
  refine pl_does (does_assign rfl rfl) rfl rfl rfl rfl H ?_
  try clear H a W
  intro a W H
  refine pl_end ?_
  replace H : St 81 w a W [(15, .int .i64 8), (14, .slice none 0 0), (12, .bool false)] [(gb, 5, cur.setIfInBounds (0 + (np + ja)) (bv (xm ^^^ y))), (g2, 27, bvs (rb 12 nn)), (g1, 23, bvs (rb 32 kk))] := H.pick [0, 1, 11] [0, 1, 2] rfl
  refine hK8 _ _ ?_
  clear hK8
  refine wp_seq_k (fun K9 hK9 => ?_)
  refine rg_plain ?_
  refine pl_does (does_move rfl rfl) rfl rfl rfl rfl H ?_
  try clear H a W
  intro a W H
  refine pl_does (does_binOp rfl rfl rfl (e_eql _ _ _)) rfl rfl rfl rfl H ?_
  try clear H a W
  intro a W H
  refine pl_does (does_move rfl rfl) rfl rfl rfl rfl H ?_
  try clear H a W
  intro a W H
  refine pl_does_g (does_move rfl rfl) (wanted_some rfl rfl rfl rfl rfl) rfl rfl rfl H ?_
  try clear H a W
  intro a W H
  refine pl_does_g (does_len Tryd.underlying25 rfl rfl) (wanted_some rfl rfl rfl rfl rfl) rfl rfl rfl H ?_
  try clear H a W
  intro a W H
  refine pl_does_g (does_binOp rfl rfl rfl (i_eqlI _ _ _)) (wanted_some rfl rfl rfl rfl rfl) rfl rfl rfl H ?_
  try clear H a W
  intro a W H
  refine pl_does (does_pick rfl rfl (fun _ => rfl) (fun hb => by cases hb)) rfl rfl rfl rfl H ?_
  try clear H a W
  intro a W H
  refine pl_does (does_move rfl rfl) rfl rfl rfl rfl H ?_
  try clear H a W
  intro a W H
  refine pl_does_g (does_call rfl ⟨_, Tryd.func7, by kernel_rfl⟩ rfl (fun W hb => known_any W (hpg.ext hb))) (wanted_some rfl rfl rfl rfl rfl) rfl rfl rfl H ?_
  try clear H a W
  intro a W H
  refine pl_does (does_pick rfl rfl (fun _ => rfl) (fun hb => by cases hb)) rfl rfl rfl rfl H ?_
  try clear H a W
  intro a W H
  replace H : St 81 w a W [(80, .bool true), (79, .bool true), (78, .bool true), (77, .bool true), (76, .bool true), (75, .int .i64 ((0 : Nat) : Int)), (74, .slice none 0 0), (73, .bool true), (72, .bool true), (71, .int .i64 8), (15, .int .i64 8), (14, .slice none 0 0)] [(gb, 5, cur.setIfInBounds (0 + (np + ja)) (bv (xm ^^^ y))), (g2, 27, bvs (rb 12 nn)), (g1, 23, bvs (rb 32 kk))] := H.pick [0, 1, 2, 3, 4, 5, 6, 7, 8, 9, 10, 11] [0, 1, 2] rfl
  refine pl_does (does_assign rfl rfl) rfl rfl rfl rfl H ?_
  try clear H a W
  intro a W H
  refine pl_end ?_
  replace H : St 81 w a W [(12, .bool true)] [(gb, 5, cur.setIfInBounds (0 + (np + ja)) (bv (xm ^^^ y))), (g2, 27, bvs (rb 12 nn)), (g1, 23, bvs (rb 32 kk))] := H.pick [0] [0, 1, 2] rfl
  refine hK9 _ _ ?_
  clear hK9
  refine wp_ret ?_
  repeat (first | (with_reducible refine then_ret ?_) | (with_reducible refine blk_ret ?_))
  refine end_tmp (p := 12) rfl rfl H (fun hb => ?_)
  exact ⟨rfl, hb⟩
theorem law_seals {va vp : Value} {la lp : List UInt8} (kk : Nat → UInt8) (x : Nat) (w : World) (hpg : PG w) (hva : BF la va w) (hvp : BF lp vp w) : Calls Tryd.prog 3 #[.agg (bvs (rb 32 kk)), uc x, va, vp] w (fun rr w' => rr = .returned (.bool true) ∧ Below w.heap.size w w') := by
  by_cases h1 : 400 < la.length
  · exact seals_a kk x w hpg hva hvp h1
  by_cases h2 : 400 < lp.length
  · exact seals_b kk x w hpg hva hvp (by omega) h2
  exact seals_c kk x w hpg hva hvp (by omega) (by omega)
theorem law_opens {va vp : Value} {la lp : List UInt8} (kk nn : Nat → UInt8) (w : World) (hpg : PG w) (hva : BF la va w) (hvp : BF lp vp w) : Calls Tryd.prog 4 #[.agg (bvs (rb 32 kk)), .agg (bvs (rb 12 nn)), va, vp] w (fun rr w' => rr = .returned (.bool true) ∧ Below w.heap.size w w') := by
  by_cases h1 : 400 < la.length
  · exact opens_a kk nn w hpg hva hvp h1
  by_cases h2 : 400 < lp.length
  · exact opens_b kk nn w hpg hva hvp (by omega) h2
  by_cases h3 : lp.length < 16
  · exact opens_c kk nn w hpg hva hvp (by omega) (by omega) h3
  have hl : lp.length = (lp.length - 16) + 16 := by omega
  cases hq : decide (rb 16 (endF lp (lp.length - 16)) = rb 16 (tagF (blockF kk 0 nn) (macB la (lp.take (lp.length - 16))))) with
  | false => exact opens_d kk nn w hpg hva hvp (by omega) (by omega) hl hq
  | true => exact opens_e kk nn w hpg hva hvp (by omega) (by omega) hl hq
theorem law_turns {va vp : Value} {la lp : List UInt8} (kk nn : Nat → UInt8) (z : Int) (y : UInt8) (w : World) (hpg : PG w) (hva : BF la va w) (hvp : BF lp vp w) : Calls Tryd.prog 5 #[.agg (bvs (rb 32 kk)), .agg (bvs (rb 12 nn)), va, vp, .int .i64 z, bv y] w (fun rr w' => rr = .returned (.bool true) ∧ Below w.heap.size w w') := by
  by_cases h1 : 400 < la.length
  · exact turns_a kk nn w hpg hva hvp y z h1
  by_cases h2 : 400 < lp.length
  · exact turns_b kk nn w hpg hva hvp y z (by omega) h2
  by_cases h3 : z < 0
  · exact turns_c kk nn w hpg hva hvp y z (by omega) (by omega) h3
  by_cases h4 : 15 < z
  · exact turns_d kk nn w hpg hva hvp y z (by omega) (by omega) h4
  obtain ⟨j, rfl⟩ := Int.eq_ofNat_of_zero_le (show 0 ≤ z by omega)
  cases hy : decide (y = 0) with
  | true => exact turns_e kk nn w hpg hva hvp y j (by omega) (by omega) (by omega) hy
  | false => exact turns_f kk nn w hpg hva hvp y j (by omega) (by omega) (by omega) hy
end Go.Proofs.YtghbknebaknmjaaDoor
