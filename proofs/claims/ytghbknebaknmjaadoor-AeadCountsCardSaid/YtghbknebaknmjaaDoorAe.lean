/- The document's layer 10: the mark; what is sealed, what is opened. -/
import Derived.Test.YtghbknebaknmjaaDoorAd
namespace Go.Proofs.YtghbknebaknmjaaDoor
set_option linter.unusedVariables false
set_option linter.unusedSimpArgs false
set_option maxRecDepth 100000
open Go Go.RowKit Cha

theorem macB_eq {la lc : List UInt8} {na nc : Nat} (hna : la.length = na) (hnc : lc.length = nc) : ((padL la ++ padL lc) ++ n8 na) ++ n8 nc = macB la lc := by
  subst hna hnc
  rfl
theorem bs_tail {w : World} {B b o c m : Nat} {l : List UInt8} (h : BS w B (some ⟨b, o, none⟩) (m + 16) c l) : BS w B (some ⟨b, o + m, none⟩) 16 (c - m) (l.drop m) := by
  have hl := h.len
  have hc := h.cap
  refine ⟨by rw [List.length_drop]; omega, by omega, (by intro e; cases e), fun _ => ?_⟩
  obtain ⟨b', o', e, hb, hx⟩ := h.at_ (by omega)
  injection e with e
  injection e with e1 e2
  subst e1 e2
  refine ⟨b, o + m, rfl, hb, fun j x hj => ?_⟩
  rw [List.getElem?_drop] at hj
  rw [Nat.add_assoc]
  exact hx (m + j) x hj
attribute [local irreducible] nv bvs rb bv wc uc tagF blockF xorF n8 zs padN macB encB endF OutF padL strB
set_option maxHeartbeats 4000000 in
theorem rmark_any {va vc : Value} {la lc : List UInt8} (kk nn : Nat → UInt8) (w : World) (hva : BF la va w) (hvc : BF lc vc w) (ha : la.length ≤ 20000) (hc : lc.length ≤ 20000) : Calls Tryd.prog 20 #[.agg (bvs (rb 32 kk)), .agg (bvs (rb 12 nn)), va, vc] w (fun rr w' => rr = .returned (.agg (bvs (rb 16 (tagF (blockF kk 0 nn) (macB la lc))))) ∧ Below w.heap.size w w') := by
  obtain ⟨Aa, na, ca, rfl, hba⟩ := id hva
  have hna := hba.len
  obtain ⟨Ac, nc, cc, rfl, hbc⟩ := id hvc
  have hnc := hbc.len
  refine calls_st (vs := [.agg (bvs (rb 32 kk)), .agg (bvs (rb 12 nn)), .slice Aa na ca, .slice Ac nc cc]) 34 Tryd.func20 rfl Tryd.ntmps20 rfl (fun a W H => ?_)
  replace H : St 34 w a W [(0, .agg (bvs (rb 32 kk))), (1, .agg (bvs (rb 12 nn))), (2, .slice Aa na ca), (3, .slice Ac nc cc)] [] := H
  refine wp_seq_k (fun K1 hK1 => ?_)
  refine rg_plain ?_
  refine pl_box rfl rfl (bx_key kk) rfl rfl rfl rfl H ?_
  try clear H a W
  intro g1 a W H
  refine pl_box rfl rfl (bx_nonce nn) rfl rfl rfl rfl H ?_
  try clear H a W
  intro g2 a W H
  refine pl_new (news_of rfl al_mark) rfl rfl rfl rfl H ?_
  try clear H a W
  intro g3 a W H
  refine pl_end ?_
  replace H : St 34 w a W [(8, .pointer (some ⟨g3, 0, none⟩)), (5, .pointer (some ⟨g2, 0, none⟩)), (4, .pointer (some ⟨g1, 0, none⟩)), (2, .slice Aa na ca), (3, .slice Ac nc cc)] [(g3, 42, bvs (rb 16 b0s)), (g2, 27, bvs (rb 12 nn)), (g1, 23, bvs (rb 32 kk))] := H.pick [0, 1, 2, 5, 6] [0, 1, 2] rfl
  refine hK1 _ _ ?_
  clear hK1
  refine wp_seq_k (fun K2 hK2 => ?_)
  refine rg_plain ?_
  refine pl_does (does_load rfl rfl (k := 2) rfl Tryd.underlying23 rfl (info_key _)) rfl rfl rfl rfl H ?_
  try clear H a W
  intro a W H
  refine pl_does (does_load rfl rfl (k := 1) rfl Tryd.underlying27 rfl (info_nonce _)) rfl rfl rfl rfl H ?_
  try clear H a W
  intro a W H
  refine pl_does (does_call rfl ⟨_, Tryd.func24, by kernel_rfl⟩ rfl (fun W hb => rblock_0 kk nn W)) rfl rfl rfl rfl H ?_
  try clear H a W
  intro a W H
  refine pl_new (news_of rfl al_long) rfl rfl rfl rfl H ?_
  try clear H a W
  intro g4 a W H
  refine pl_store rfl rfl rfl (k := 0) rfl (info_long _) (size_rb _ _ _) (bvs_one _) rfl rfl H ?_
  try clear H a W
  intro a W H
  refine pl_end ?_
  replace H : St 34 w a W [(9, .pointer (some ⟨g4, 0, none⟩)), (8, .pointer (some ⟨g3, 0, none⟩)), (2, .slice Aa na ca), (3, .slice Ac nc cc)] [(g4, 49, bvs (rb 64 (blockF kk 0 nn))), (g3, 42, bvs (rb 16 b0s)), (g2, 27, bvs (rb 12 nn)), (g1, 23, bvs (rb 32 kk))] := H.pick [0, 4, 7, 8] [0, 1, 2, 3] rfl
  refine hK2 _ _ ?_
  clear hK2
  refine wp_seq_k (fun K3 hK3 => ?_)
  refine rg_plain ?_
  refine pl_new (news_of rfl al_key) rfl rfl rfl rfl H ?_
  try clear H a W
  intro g5 a W H
  refine pl_end ?_
  refine hK3 _ _ ?_
  clear hK3
  refine wp_seq_k (fun K4 hK4 => ?_)
  refine drawnR SB SB [⟨15, fun u_ _ => u_ = .slice (some ⟨g5, 0, none⟩) 32 32, [], none, false⟩, ⟨16, fun u_ _ => u_ = .slice (some ⟨g4, 0, none⟩) 32 64, [], none, false⟩] [0, 0, 3] [0, 1] sb_st sb_st (by kernel_rfl) (by kernel_rfl) (by kernel_rfl) H ⟨⟨fun a W  H => by exact ob_valS H (wanted_none rfl) (does_slice rfl rfl (vl := none) (vh := none) rfl rfl (sl_key g5)), val_grow, fun _ => val_grow⟩, ⟨fun a W  H => by exact ob_valS H (wanted_none rfl) (does_slice rfl rfl (vl := none) (vh := some (.int .i64 32)) rfl rfl (sl_l32 g4)), val_grow, fun _ => val_grow⟩, trivial⟩ (by kernel_rfl) ?_
  try clear H a W
  intro a W
  rintro _ rfl
  rintro _ rfl
  intro H
  replace H : St 34 w a W [(16, .slice (some ⟨g4, 0, none⟩) 32 64), (15, .slice (some ⟨g5, 0, none⟩) 32 32), (10, .pointer (some ⟨g5, 0, none⟩)), (9, .pointer (some ⟨g4, 0, none⟩)), (8, .pointer (some ⟨g3, 0, none⟩)), (2, .slice Aa na ca), (3, .slice Ac nc cc)] [(g5, 23, bvs (rb 32 b0s)), (g4, 49, bvs (rb 64 (blockF kk 0 nn))), (g3, 42, bvs (rb 16 b0s)), (g2, 27, bvs (rb 12 nn)), (g1, 23, bvs (rb 32 kk))] := H
  refine pl_copy rfl Tryd.underlying25 size_u8i rfl rfl (k := 0) rfl (k2 := 1) rfl (m := 32) rfl (by rw [bvs_size, rb_len]; omega) (by rw [bvs_size, rb_len]; omega) (bvs_one _) (key_copy _) rfl rfl rfl rfl H ?_
  try clear H a W
  intro a W H
  replace H : St 34 w a W [(17, .int .i64 ((32 : Nat) : Int)), (16, .slice (some ⟨g4, 0, none⟩) 32 64), (15, .slice (some ⟨g5, 0, none⟩) 32 32), (10, .pointer (some ⟨g5, 0, none⟩)), (9, .pointer (some ⟨g4, 0, none⟩)), (8, .pointer (some ⟨g3, 0, none⟩)), (2, .slice Aa na ca), (3, .slice Ac nc cc)] [(g5, 23, bvs (rb 32 (blockF kk 0 nn))), (g4, 49, bvs (rb 64 (blockF kk 0 nn))), (g3, 42, bvs (rb 16 b0s)), (g2, 27, bvs (rb 12 nn)), (g1, 23, bvs (rb 32 kk))] := H
  refine pl_end ?_
  replace H : St 34 w a W [(10, .pointer (some ⟨g5, 0, none⟩)), (8, .pointer (some ⟨g3, 0, none⟩)), (2, .slice Aa na ca), (3, .slice Ac nc cc)] [(g5, 23, bvs (rb 32 (blockF kk 0 nn))), (g4, 49, bvs (rb 64 (blockF kk 0 nn))), (g3, 42, bvs (rb 16 b0s)), (g2, 27, bvs (rb 12 nn)), (g1, 23, bvs (rb 32 kk))] := H.pick [3, 5, 6, 7] [0, 1, 2, 3, 4] rfl
  refine hK4 _ _ ?_
  clear hK4
  refine wp_seq_k (fun K5 hK5 => ?_)
  refine rg_plain ?_
  refine pl_does (does_move rfl rfl) rfl rfl rfl rfl H ?_
  try clear H a W
  intro a W H
  refine pl_R (R := SB) (F := OF w.heap.size [(g5, 23, bvs (rb 32 (blockF kk 0 nn))), (g4, 49, bvs (rb 64 (blockF kk 0 nn))), (g3, 42, bvs (rb 16 b0s)), (g2, 27, bvs (rb 12 nn)), (g1, 23, bvs (rb 32 kk))] (padL la)) sb_st (ob_callS H (wanted_none rfl) rfl ⟨_, Tryd.func25, by kernel_rfl⟩ rfl (of_call H (rpadded_any _ (bf_old hva H) (by omega)))) rfl rfl rfl H ?_
  try clear H a W
  intro v19 a W hv19 hR_ H
  clear hR_
  replace H : St 34 w a W [(19, v19), (18, .slice Aa na ca), (10, .pointer (some ⟨g5, 0, none⟩)), (8, .pointer (some ⟨g3, 0, none⟩)), (2, .slice Aa na ca), (3, .slice Ac nc cc)] [(g5, 23, bvs (rb 32 (blockF kk 0 nn))), (g4, 49, bvs (rb 64 (blockF kk 0 nn))), (g3, 42, bvs (rb 16 b0s)), (g2, 27, bvs (rb 12 nn)), (g1, 23, bvs (rb 32 kk))] := H
  refine pl_R (R := SB) (F := fun u_ _ => u_ = .slice Ac nc cc) sb_st (ob_valS H (wanted_none rfl) (does_move rfl rfl)) rfl rfl rfl H ?_
  try clear H a
  rintro _ a W rfl hR_ H
  replace hv19 := OF.sb _ _ _ hv19 hR_
  clear hR_
  replace H : St 34 w a W [(20, .slice Ac nc cc), (19, v19), (18, .slice Aa na ca), (10, .pointer (some ⟨g5, 0, none⟩)), (8, .pointer (some ⟨g3, 0, none⟩)), (2, .slice Aa na ca), (3, .slice Ac nc cc)] [(g5, 23, bvs (rb 32 (blockF kk 0 nn))), (g4, 49, bvs (rb 64 (blockF kk 0 nn))), (g3, 42, bvs (rb 16 b0s)), (g2, 27, bvs (rb 12 nn)), (g1, 23, bvs (rb 32 kk))] := H
  refine pl_R (R := SB) (F := OF w.heap.size [(g5, 23, bvs (rb 32 (blockF kk 0 nn))), (g4, 49, bvs (rb 64 (blockF kk 0 nn))), (g3, 42, bvs (rb 16 b0s)), (g2, 27, bvs (rb 12 nn)), (g1, 23, bvs (rb 32 kk))] (padL lc)) sb_st (ob_callS H (wanted_none rfl) rfl ⟨_, Tryd.func25, by kernel_rfl⟩ rfl (of_call H (rpadded_any _ (bf_old hvc H) (by omega)))) rfl rfl rfl H ?_
  try clear H a
  intro v21 a W hv21 hR_ H
  replace hv19 := OF.sb _ _ _ hv19 hR_
  clear hR_
  replace H : St 34 w a W [(21, v21), (20, .slice Ac nc cc), (19, v19), (18, .slice Aa na ca), (10, .pointer (some ⟨g5, 0, none⟩)), (8, .pointer (some ⟨g3, 0, none⟩)), (2, .slice Aa na ca), (3, .slice Ac nc cc)] [(g5, 23, bvs (rb 32 (blockF kk 0 nn))), (g4, 49, bvs (rb 64 (blockF kk 0 nn))), (g3, 42, bvs (rb 16 b0s)), (g2, 27, bvs (rb 12 nn)), (g1, 23, bvs (rb 32 kk))] := H
  refine pl_R (R := (WR w.heap.size [(g5, 23, bvs (rb 32 (blockF kk 0 nn))), (g4, 49, bvs (rb 64 (blockF kk 0 nn))), (g3, 42, bvs (rb 16 b0s)), (g2, 27, bvs (rb 12 nn)), (g1, 23, bvs (rb 32 kk))])) (F := OF w.heap.size [(g5, 23, bvs (rb 32 (blockF kk 0 nn))), (g4, 49, bvs (rb 64 (blockF kk 0 nn))), (g3, 42, bvs (rb 16 b0s)), (g2, 27, bvs (rb 12 nn)), (g1, 23, bvs (rb 32 kk))] (padL la ++ padL lc)) wr_st (ob_appW H (wanted_none rfl) rfl rfl rfl hv19 hv21.bf (by have h1 := padL_len la; have h2 := padL_len lc; omega)) rfl rfl rfl H ?_
  try clear H a
  intro v22 a W hv22 hR_ H
  clear hR_
  replace H : St 34 w a W [(22, v22), (21, v21), (20, .slice Ac nc cc), (19, v19), (18, .slice Aa na ca), (10, .pointer (some ⟨g5, 0, none⟩)), (8, .pointer (some ⟨g3, 0, none⟩)), (2, .slice Aa na ca), (3, .slice Ac nc cc)] [(g5, 23, bvs (rb 32 (blockF kk 0 nn))), (g4, 49, bvs (rb 64 (blockF kk 0 nn))), (g3, 42, bvs (rb 16 b0s)), (g2, 27, bvs (rb 12 nn)), (g1, 23, bvs (rb 32 kk))] := H
  refine pl_R (R := SB) (F := OF w.heap.size [(g5, 23, bvs (rb 32 (blockF kk 0 nn))), (g4, 49, bvs (rb 64 (blockF kk 0 nn))), (g3, 42, bvs (rb 16 b0s)), (g2, 27, bvs (rb 12 nn)), (g1, 23, bvs (rb 32 kk))] (padL la ++ padL lc)) sb_st (ob_assignS H (wanted_none rfl) rfl rfl hv22) rfl rfl rfl H ?_
  try clear H a
  intro v11 a W hv11 hR_ H
  replace hv22 := OF.sb _ _ _ hv22 hR_
  clear hR_
  replace H : St 34 w a W [(11, v11), (22, v22), (21, v21), (20, .slice Ac nc cc), (19, v19), (18, .slice Aa na ca), (10, .pointer (some ⟨g5, 0, none⟩)), (8, .pointer (some ⟨g3, 0, none⟩)), (2, .slice Aa na ca), (3, .slice Ac nc cc)] [(g5, 23, bvs (rb 32 (blockF kk 0 nn))), (g4, 49, bvs (rb 64 (blockF kk 0 nn))), (g3, 42, bvs (rb 16 b0s)), (g2, 27, bvs (rb 12 nn)), (g1, 23, bvs (rb 32 kk))] := H
  refine pl_end ?_
  replace H : St 34 w a W [(11, v11), (10, .pointer (some ⟨g5, 0, none⟩)), (8, .pointer (some ⟨g3, 0, none⟩)), (2, .slice Aa na ca), (3, .slice Ac nc cc)] [(g5, 23, bvs (rb 32 (blockF kk 0 nn))), (g4, 49, bvs (rb 64 (blockF kk 0 nn))), (g3, 42, bvs (rb 16 b0s)), (g2, 27, bvs (rb 12 nn)), (g1, 23, bvs (rb 32 kk))] := H.pick [0, 6, 7, 8, 9] [0, 1, 2, 3, 4] rfl
  refine hK5 _ _ ?_
  clear hK5
  refine wp_seq_k (fun K6 hK6 => ?_)
  refine drawnJ SB (WR w.heap.size [(g5, 23, bvs (rb 32 (blockF kk 0 nn))), (g4, 49, bvs (rb 64 (blockF kk 0 nn))), (g3, 42, bvs (rb 16 b0s)), (g2, 27, bvs (rb 12 nn)), (g1, 23, bvs (rb 32 kk))]) (OF w.heap.size [(g5, 23, bvs (rb 32 (blockF kk 0 nn))), (g4, 49, bvs (rb 64 (blockF kk 0 nn))), (g3, 42, bvs (rb 16 b0s)), (g2, 27, bvs (rb 12 nn)), (g1, 23, bvs (rb 32 kk))] (padL la ++ padL lc) v11) 5 [⟨23, fun u_ _ => u_ = .agg (bvs (rb 32 (blockF kk 0 nn))), [], none, false⟩, ⟨24, fun u_ _ => u_ = v11, [], none, false⟩, ⟨25, fun u_ _ => u_ = .slice Aa na ca, [], none, false⟩, ⟨26, fun u_ _ => u_ = .int .i64 ((na : Nat) : Int), [2], none, false⟩, ⟨27, OF w.heap.size [(g5, 23, bvs (rb 32 (blockF kk 0 nn))), (g4, 49, bvs (rb 64 (blockF kk 0 nn))), (g3, 42, bvs (rb 16 b0s)), (g2, 27, bvs (rb 12 nn)), (g1, 23, bvs (rb 32 kk))] (n8 na), [3], (some 5), false⟩, ⟨28, OF w.heap.size [(g5, 23, bvs (rb 32 (blockF kk 0 nn))), (g4, 49, bvs (rb 64 (blockF kk 0 nn))), (g3, 42, bvs (rb 16 b0s)), (g2, 27, bvs (rb 12 nn)), (g1, 23, bvs (rb 32 kk))] ((padL la ++ padL lc) ++ n8 na), [1, 4], (some 9), true⟩, ⟨29, fun u_ _ => u_ = .slice Ac nc cc, [], none, false⟩, ⟨30, fun u_ _ => u_ = .int .i64 ((nc : Nat) : Int), [6], none, false⟩, ⟨31, OF w.heap.size [(g5, 23, bvs (rb 32 (blockF kk 0 nn))), (g4, 49, bvs (rb 64 (blockF kk 0 nn))), (g3, 42, bvs (rb 16 b0s)), (g2, 27, bvs (rb 12 nn)), (g1, 23, bvs (rb 32 kk))] (n8 nc), [7], (some 9), false⟩, ⟨32, OF w.heap.size [(g5, 23, bvs (rb 32 (blockF kk 0 nn))), (g4, 49, bvs (rb 64 (blockF kk 0 nn))), (g3, 42, bvs (rb 16 b0s)), (g2, 27, bvs (rb 12 nn)), (g1, 23, bvs (rb 32 kk))] (((padL la ++ padL lc) ++ n8 na) ++ n8 nc), [5, 8], (some 10), true⟩, ⟨33, fun u_ _ => u_ = .agg (bvs (rb 16 (tagF (blockF kk 0 nn) (macB la lc)))), [0, 9], none, false⟩] [0, 0, 0, 4, 8, 18, 0, 64, 160, 288, 513, 2047] [10] (fun w_ w2_ h_ hb_ => OF.sb _ _ _ h_ hb_) sb_st wr_st (by kernel_rfl) (by kernel_rfl) (by kernel_rfl) (by kernel_rfl) H hv11 ⟨⟨fun a W H _ => ob_valS H (wanted_none rfl) (does_load rfl rfl (k := 0) rfl Tryd.underlying23 rfl (info_key _)), val_grow, fun _ => val_grow⟩, ⟨fun a W H _ => ob_valS H (wanted_none rfl) (does_move rfl rfl), val_grow, fun _ => val_grow⟩, ⟨fun a W H _ => ob_valS H (wanted_none rfl) (does_move rfl rfl), val_grow, fun _ => val_grow⟩, ⟨fun a W y2 hy2 H _ => by subst hy2; exact ob_valS H (wanted_none rfl) (does_len Tryd.underlying25 rfl rfl), val_grow, fun _ => val_grow⟩, ⟨fun a W y3 hy3 H _ => by subst hy3; exact ob_callS H (wanted_none rfl) rfl ⟨_, Tryd.func27, by kernel_rfl⟩ rfl (of_call H (rlong_any na (by omega) _)), OF.sb, fun ht_ => by cases ht_⟩, ⟨fun a W y1 hy1 v4 hv4 H hJ => by subst hy1; exact ob_appW H (wanted_none rfl) rfl rfl rfl (hJ rfl) hv4.bf (by have h1 := padL_len la; have h2 := padL_len lc; simp only [List.length_append, n8_len]; omega), OF.sb, fun ht_ => by cases ht_⟩, ⟨fun a W H _ => ob_valS H (wanted_none rfl) (does_move rfl rfl), val_grow, fun _ => val_grow⟩, ⟨fun a W y6 hy6 H _ => by subst hy6; exact ob_valS H (wanted_none rfl) (does_len Tryd.underlying25 rfl rfl), val_grow, fun _ => val_grow⟩, ⟨fun a W y7 hy7 H _ => by subst hy7; exact ob_callS H (wanted_none rfl) rfl ⟨_, Tryd.func27, by kernel_rfl⟩ rfl (of_call H (rlong_any nc (by omega) _)), OF.sb, fun ht_ => by cases ht_⟩, ⟨fun a W v5 hv5 v8 hv8 H _ => ob_appW H (wanted_none rfl) rfl rfl rfl hv5 hv8.bf (by have h1 := padL_len la; have h2 := padL_len lc; simp only [List.length_append, n8_len]; omega), OF.sb, fun ht_ => by cases ht_⟩, ⟨fun a W y0 hy0 v9 hv9 H _ => by subst hy0; exact ob_calS H (wanted_none rfl) rfl ⟨_, Tryd.func26, by kernel_rfl⟩ rfl (rtag_z (by rw [macB_eq hna hnc]) W hv9.bf (by have h1 := padL_len la; have h2 := padL_len lc; simp only [List.length_append, n8_len]; omega)), val_grow, fun _ => val_grow⟩, trivial⟩ (by kernel_rfl) ?_
  clear H a hv11
  intro a W
  rintro _ rfl
  intro H
  replace H : St 34 w a W [(33, .agg (bvs (rb 16 (tagF (blockF kk 0 nn) (macB la lc))))), (11, v11), (10, .pointer (some ⟨g5, 0, none⟩)), (8, .pointer (some ⟨g3, 0, none⟩)), (2, .slice Aa na ca), (3, .slice Ac nc cc)] [(g5, 23, bvs (rb 32 (blockF kk 0 nn))), (g4, 49, bvs (rb 64 (blockF kk 0 nn))), (g3, 42, bvs (rb 16 b0s)), (g2, 27, bvs (rb 12 nn)), (g1, 23, bvs (rb 32 kk))] := H
  refine pl_store rfl rfl rfl (k := 2) rfl (info_mark _) (size_rb _ _ _) (bvs_one _) rfl rfl H ?_
  try clear H a W
  intro a W H
  refine pl_end ?_
  replace H : St 34 w a W [(8, .pointer (some ⟨g3, 0, none⟩))] [(g5, 23, bvs (rb 32 (blockF kk 0 nn))), (g4, 49, bvs (rb 64 (blockF kk 0 nn))), (g3, 42, bvs (rb 16 (tagF (blockF kk 0 nn) (macB la lc)))), (g2, 27, bvs (rb 12 nn)), (g1, 23, bvs (rb 32 kk))] := H.pick [3] [0, 1, 2, 3, 4] rfl
  refine hK6 _ _ ?_
  clear hK6
  refine wp_ret ?_
  repeat (first | (with_reducible refine then_ret ?_) | (with_reducible refine blk_ret ?_))
  refine end_cell (p := 8) rfl rfl (k := 2) rfl Tryd.underlying42 rfl (info_mark _) H (fun hb => ?_)
  exact ⟨rfl, hb⟩
set_option maxHeartbeats 4000000 in
theorem rseal_any {va vp : Value} {la lp : List UInt8} (kk nn : Nat → UInt8) (w : World) (hva : BF la va w) (hvp : BF lp vp w) (ha : la.length ≤ 20000) (hp : lp.length ≤ 20000) : Calls Tryd.prog 12 #[.agg (bvs (rb 32 kk)), .agg (bvs (rb 12 nn)), va, vp] w (fun rr w' => ∃ u, rr = .returned u ∧ Below w.heap.size w w' ∧ BF (sealB kk nn la lp) u w') := by
  obtain ⟨Aa, na, ca, rfl, hba⟩ := id hva
  have hna := hba.len
  obtain ⟨Ap, np, cp, rfl, hbp⟩ := id hvp
  have hnp := hbp.len
  refine calls_st (vs := [.agg (bvs (rb 32 kk)), .agg (bvs (rb 12 nn)), .slice Aa na ca, .slice Ap np cp]) 24 Tryd.func12 rfl Tryd.ntmps12 rfl (fun a W H => ?_)
  replace H : St 24 w a W [(0, .agg (bvs (rb 32 kk))), (1, .agg (bvs (rb 12 nn))), (2, .slice Aa na ca), (3, .slice Ap np cp)] [] := H
  refine wp_seq_k (fun K1 hK1 => ?_)
  refine rg_plain ?_
  refine pl_box rfl rfl (bx_key kk) rfl rfl rfl rfl H ?_
  try clear H a W
  intro g1 a W H
  refine pl_box rfl rfl (bx_nonce nn) rfl rfl rfl rfl H ?_
  try clear H a W
  intro g2 a W H
  refine pl_does (does_assign rfl rfl) rfl rfl rfl rfl H ?_
  try clear H a W
  intro a W H
  refine pl_end ?_
  replace H : St 24 w a W [(8, .slice none 0 0), (5, .pointer (some ⟨g2, 0, none⟩)), (4, .pointer (some ⟨g1, 0, none⟩)), (2, .slice Aa na ca), (3, .slice Ap np cp)] [(g2, 27, bvs (rb 12 nn)), (g1, 23, bvs (rb 32 kk))] := H.pick [0, 1, 2, 5, 6] [0, 1] rfl
  refine hK1 _ _ ?_
  clear hK1
  refine wp_seq_k (fun K2 hK2 => ?_)
  refine rg_plain ?_
  refine pl_does (does_load rfl rfl (k := 1) rfl Tryd.underlying23 rfl (info_key _)) rfl rfl rfl rfl H ?_
  try clear H a W
  intro a W H
  refine pl_does (does_load rfl rfl (k := 0) rfl Tryd.underlying27 rfl (info_nonce _)) rfl rfl rfl rfl H ?_
  try clear H a W
  intro a W H
  refine pl_does (does_move rfl rfl) rfl rfl rfl rfl H ?_
  try clear H a W
  intro a W H
  refine pl_R (R := SB) (F := BF (encB kk nn lp)) sb_st (ob_callS H (wanted_none rfl) rfl ⟨_, Tryd.func19, by kernel_rfl⟩ rfl (rxor_1 _ _ _ (bf_old hvp H) (by omega))) rfl rfl rfl H ?_
  try clear H a W
  intro v14 a W hv14 hR_ H
  clear hR_
  replace H : St 24 w a W [(14, v14), (13, .slice Ap np cp), (12, .agg (bvs (rb 12 nn))), (11, .agg (bvs (rb 32 kk))), (8, .slice none 0 0), (5, .pointer (some ⟨g2, 0, none⟩)), (4, .pointer (some ⟨g1, 0, none⟩)), (2, .slice Aa na ca), (3, .slice Ap np cp)] [(g2, 27, bvs (rb 12 nn)), (g1, 23, bvs (rb 32 kk))] := H
  refine pl_R (R := SB) (F := BF (encB kk nn lp)) sb_st (ob_assignS H (wanted_none rfl) rfl rfl hv14) rfl rfl rfl H ?_
  try clear H a
  intro v9 a W hv9 hR_ H
  replace hv14 := BF.sb _ _ _ hv14 hR_
  clear hR_
  replace H : St 24 w a W [(9, v9), (14, v14), (13, .slice Ap np cp), (12, .agg (bvs (rb 12 nn))), (11, .agg (bvs (rb 32 kk))), (8, .slice none 0 0), (5, .pointer (some ⟨g2, 0, none⟩)), (4, .pointer (some ⟨g1, 0, none⟩)), (2, .slice Aa na ca), (3, .slice Ap np cp)] [(g2, 27, bvs (rb 12 nn)), (g1, 23, bvs (rb 32 kk))] := H
  refine pl_end ?_
  replace H : St 24 w a W [(9, v9), (8, .slice none 0 0), (5, .pointer (some ⟨g2, 0, none⟩)), (4, .pointer (some ⟨g1, 0, none⟩)), (2, .slice Aa na ca)] [(g2, 27, bvs (rb 12 nn)), (g1, 23, bvs (rb 32 kk))] := H.pick [0, 5, 6, 7, 8] [0, 1] rfl
  obtain ⟨ws1, H, HK1, hF10, hF11, hB1g2, hB1g1⟩ : ∃ ws1, St 24 ws1 a W [(9, v9), (8, .slice none 0 0), (5, .pointer (some ⟨g2, 0, none⟩)), (4, .pointer (some ⟨g1, 0, none⟩)), (2, .slice Aa na ca)] [] ∧ Kn w ws1 [(g2, 27, bvs (rb 12 nn)), (g1, 23, bvs (rb 32 kk))] ∧ BF (encB kk nn lp) v9 ws1 ∧ BF la (.slice Aa na ca) ws1 ∧ Blk ws1 g2 27 (bvs (rb 12 nn)) ∧ Blk ws1 g1 23 (bvs (rb 32 kk)) := ⟨W, H.rebase, H.kn, hv9, (bf_old hva H), H.blk (k := 0) rfl, H.blk (k := 1) rfl⟩
  replace H : St 24 ws1 a W [(9, v9), (8, .slice none 0 0), (5, .pointer (some ⟨g2, 0, none⟩)), (4, .pointer (some ⟨g1, 0, none⟩)), (2, .slice Aa na ca)] [] := H
  refine hK2 _ _ ?_
  clear hK2
  refine wp_seq_k (fun K3 hK3 => ?_)
  refine rg_plain ?_
  refine pl_does (does_loadOld rfl rfl hB1g1 Tryd.underlying23 rfl (info_key _)) rfl rfl rfl rfl H ?_
  try clear H a W
  intro a W H
  refine pl_does (does_loadOld rfl rfl hB1g2 Tryd.underlying27 rfl (info_nonce _)) rfl rfl rfl rfl H ?_
  try clear H a W
  intro a W H
  refine pl_does (does_move rfl rfl) rfl rfl rfl rfl H ?_
  try clear H a W
  intro a W H
  refine pl_does (does_move rfl rfl) rfl rfl rfl rfl H ?_
  try clear H a W
  intro a W H
  refine pl_R (R := SB) (F := fun u_ _ => u_ = .agg (bvs (rb 16 (tagF (blockF kk 0 nn) (macB la (encB kk nn lp)))))) sb_st (ob_calS H (wanted_none rfl) rfl ⟨_, Tryd.func20, by kernel_rfl⟩ rfl (rmark_any kk nn _ (bf_old hF11 H) (bf_old hF10 H) ha (by rw [encB_len]; omega))) rfl rfl rfl H ?_
  try clear H a W
  rintro _ a W rfl hR_ H
  clear hR_
  replace H : St 24 ws1 a W [(19, .agg (bvs (rb 16 (tagF (blockF kk 0 nn) (macB la (encB kk nn lp)))))), (18, v9), (17, .slice Aa na ca), (16, .agg (bvs (rb 12 nn))), (15, .agg (bvs (rb 32 kk))), (9, v9), (8, .slice none 0 0), (5, .pointer (some ⟨g2, 0, none⟩)), (4, .pointer (some ⟨g1, 0, none⟩)), (2, .slice Aa na ca)] [] := H
  refine pl_new (news_of rfl al_mark) rfl rfl rfl rfl H ?_
  try clear H a W
  intro g3 a W H
  refine pl_store rfl rfl rfl (k := 0) rfl (info_mark _) (size_rb _ _ _) (bvs_one _) rfl rfl H ?_
  try clear H a W
  intro a W H
  refine pl_end ?_
  replace H : St 24 ws1 a W [(10, .pointer (some ⟨g3, 0, none⟩)), (9, v9), (8, .slice none 0 0)] [(g3, 42, bvs (rb 16 (tagF (blockF kk 0 nn) (macB la (encB kk nn lp)))))] := H.pick [0, 6, 7] [0] rfl
  refine hK3 _ _ ?_
  clear hK3
  refine wp_seq_k (fun K4 hK4 => ?_)
  refine drawnR SB SB [⟨20, fun u_ _ => u_ = v9, [], none, false⟩, ⟨21, OF ws1.heap.size [(g3, 42, bvs (rb 16 (tagF (blockF kk 0 nn) (macB la (encB kk nn lp)))))] (encB kk nn lp), [0], none, false⟩, ⟨22, fun u_ _ => u_ = .slice (some ⟨g3, 0, none⟩) 16 16, [], none, false⟩] [0, 1, 0, 6, 15] [1, 2] sb_st sb_st (by kernel_rfl) (by kernel_rfl) (by kernel_rfl) H ⟨⟨fun a W  H => by exact ob_valS H (wanted_none rfl) (does_move rfl rfl), val_grow, fun _ => val_grow⟩, ⟨fun a W y0 hy0 H => by have e_ := hy0.symm; subst e_; exact ob_app0S H (wanted_none rfl) rfl rfl (bf_old hF10 H) (by simp only [encB_len, rb_len]; omega), OF.sb, fun _ => OF.sb⟩, ⟨fun a W  H => by exact ob_valS H (wanted_none rfl) (does_slice rfl rfl (vl := none) (vh := none) rfl rfl (sl_m16 g3)), val_grow, fun _ => val_grow⟩, trivial⟩ (by kernel_rfl) ?_
  try clear H a W
  intro a W
  intro v21 hv21
  rintro _ rfl
  intro H
  replace H : St 24 ws1 a W [(22, .slice (some ⟨g3, 0, none⟩) 16 16), (21, v21), (10, .pointer (some ⟨g3, 0, none⟩)), (9, v9), (8, .slice none 0 0)] [(g3, 42, bvs (rb 16 (tagF (blockF kk 0 nn) (macB la (encB kk nn lp)))))] := H
  refine pl_R (R := (WR ws1.heap.size [(g3, 42, bvs (rb 16 (tagF (blockF kk 0 nn) (macB la (encB kk nn lp)))))])) (F := OF ws1.heap.size [(g3, 42, bvs (rb 16 (tagF (blockF kk 0 nn) (macB la (encB kk nn lp)))))] ((encB kk nn lp) ++ rb 16 (tagF (blockF kk 0 nn) (macB la (encB kk nn lp))))) wr_st (ob_appW H (wanted_none rfl) rfl rfl rfl hv21 (sl_keyBF (H.blk (k := 0) rfl)) (by simp only [encB_len, rb_len]; omega)) rfl rfl rfl H ?_
  try clear H a
  intro v23 a W hv23 hR_ H
  clear hR_
  replace H : St 24 ws1 a W [(23, v23), (22, .slice (some ⟨g3, 0, none⟩) 16 16), (21, v21), (10, .pointer (some ⟨g3, 0, none⟩)), (9, v9), (8, .slice none 0 0)] [(g3, 42, bvs (rb 16 (tagF (blockF kk 0 nn) (macB la (encB kk nn lp)))))] := H
  replace H : St 24 ws1 a W [(23, v23), (22, .slice (some ⟨g3, 0, none⟩) 16 16), (21, v21), (10, .pointer (some ⟨g3, 0, none⟩)), (9, v9)] [(g3, 42, bvs (rb 16 (tagF (blockF kk 0 nn) (macB la (encB kk nn lp)))))] := H.pick [0, 1, 2, 3, 4] [0] rfl
  refine pl_R (R := SB) (F := OF ws1.heap.size [(g3, 42, bvs (rb 16 (tagF (blockF kk 0 nn) (macB la (encB kk nn lp)))))] ((encB kk nn lp) ++ rb 16 (tagF (blockF kk 0 nn) (macB la (encB kk nn lp))))) sb_st (ob_assignS H (wanted_none rfl) rfl rfl hv23) rfl rfl rfl H ?_
  try clear H a
  intro v8 a W hv8 hR_ H
  replace hv23 := OF.sb _ _ _ hv23 hR_
  clear hR_
  replace H : St 24 ws1 a W [(8, v8), (23, v23), (22, .slice (some ⟨g3, 0, none⟩) 16 16), (21, v21), (10, .pointer (some ⟨g3, 0, none⟩)), (9, v9)] [(g3, 42, bvs (rb 16 (tagF (blockF kk 0 nn) (macB la (encB kk nn lp)))))] := H
  refine pl_end ?_
  replace H : St 24 ws1 a W [(8, v8)] [(g3, 42, bvs (rb 16 (tagF (blockF kk 0 nn) (macB la (encB kk nn lp)))))] := H.pick [0] [0] rfl
  refine hK4 _ _ ?_
  clear hK4
  refine wp_ret ?_
  repeat (first | (with_reducible refine then_ret ?_) | (with_reducible refine blk_ret ?_))
  refine end_tmp (p := 8) rfl rfl H (fun hb => ?_)
  exact ⟨_, rfl, HK1.below.trans (hb.mono HK1.below.size), hv8.bf⟩
set_option maxHeartbeats 4000000 in
theorem ropen_short {va v : Value} {la l : List UInt8} (kk nn : Nat → UInt8) (w : World) (hva : BF la va w) (hv : BF l v w) (hl : l.length < 16) : Calls Tryd.prog 13 #[.agg (bvs (rb 32 kk)), .agg (bvs (rb 12 nn)), va, v] w (fun rr w' => rr = .returned (.tuple #[.slice none 0 0, .bool false]) ∧ Below w.heap.size w w') := by
  obtain ⟨Aa, na, ca, rfl, hba⟩ := id hva
  have hna := hba.len
  obtain ⟨A, n, cap, rfl, hbs⟩ := id hv
  have hn := hbs.len
  rw [hn] at hl
  refine calls_st (vs := [.agg (bvs (rb 32 kk)), .agg (bvs (rb 12 nn)), .slice Aa na ca, .slice A n cap]) 38 Tryd.func13 rfl Tryd.ntmps13 rfl (fun a W H => ?_)
  replace H : St 38 w a W [(0, .agg (bvs (rb 32 kk))), (1, .agg (bvs (rb 12 nn))), (2, .slice Aa na ca), (3, .slice A n cap)] [] := H
  refine wp_seq_k (fun K1 hK1 => ?_)
  refine rg_plain ?_
  refine pl_box rfl rfl (bx_key kk) rfl rfl rfl rfl H ?_
  try clear H a W
  intro g1 a W H
  refine pl_box rfl rfl (bx_nonce nn) rfl rfl rfl rfl H ?_
  try clear H a W
  intro g2 a W H
  refine pl_does (does_assign rfl rfl) rfl rfl rfl rfl H ?_
  try clear H a W
  intro a W H
  refine pl_does (does_assign rfl rfl) rfl rfl rfl rfl H ?_
  try clear H a W
  intro a W H
  refine pl_end ?_
  replace H : St 38 w a W [(9, .bool false), (8, .slice none 0 0), (5, .pointer (some ⟨g2, 0, none⟩)), (4, .pointer (some ⟨g1, 0, none⟩)), (2, .slice Aa na ca), (3, .slice A n cap)] [(g2, 27, bvs (rb 12 nn)), (g1, 23, bvs (rb 32 kk))] := H.pick [0, 1, 2, 3, 6, 7] [0, 1] rfl
  refine hK1 _ _ ?_
  clear hK1
  refine wp_seq_k (fun K2 hK2 => ?_)
  refine wp_seq_k (fun K3 hK3 => ?_)
  refine rg_plain ?_
  refine pl_does (does_move rfl rfl) rfl rfl rfl rfl H ?_
  try clear H a W
  intro a W H
  refine pl_does (does_len Tryd.underlying25 rfl rfl) rfl rfl rfl rfl H ?_
  try clear H a W
  intro a W H
  refine pl_does (does_binOp rfl rfl rfl (i_lssZ (decide_eq_true (by omega)) _ _)) rfl rfl rfl rfl H ?_
  try clear H a W
  intro a W H
  refine pl_end ?_
  replace H : St 38 w a W [(14, .bool true), (9, .bool false), (8, .slice none 0 0), (5, .pointer (some ⟨g2, 0, none⟩)), (4, .pointer (some ⟨g1, 0, none⟩)), (2, .slice Aa na ca), (3, .slice A n cap)] [(g2, 27, bvs (rb 12 nn)), (g1, 23, bvs (rb 32 kk))] := H.pick [0, 3, 4, 5, 6, 7, 8] [0, 1] rfl
  refine hK3 _ _ ?_
  clear hK3
  refine wp_cond_true (H.ev rfl) ?_
  refine wp_seq_k (fun K4 hK4 => ?_)
  refine rg_plain ?_
  replace H : St 38 w a W [(14, .bool true), (9, .bool false), (5, .pointer (some ⟨g2, 0, none⟩)), (4, .pointer (some ⟨g1, 0, none⟩)), (2, .slice Aa na ca), (3, .slice A n cap)] [(g2, 27, bvs (rb 12 nn)), (g1, 23, bvs (rb 32 kk))] := H.pick [0, 1, 3, 4, 5, 6] [0, 1] rfl
  refine pl_does (does_assign rfl rfl) rfl rfl rfl rfl H ?_
  try clear H a W
  intro a W H
  replace H : St 38 w a W [(8, .slice none 0 0), (14, .bool true), (5, .pointer (some ⟨g2, 0, none⟩)), (4, .pointer (some ⟨g1, 0, none⟩)), (2, .slice Aa na ca), (3, .slice A n cap)] [(g2, 27, bvs (rb 12 nn)), (g1, 23, bvs (rb 32 kk))] := H.pick [0, 1, 3, 4, 5, 6] [0, 1] rfl
  refine pl_does (does_assign rfl rfl) rfl rfl rfl rfl H ?_
  try clear H a W
  intro a W H
  refine pl_end ?_
  replace H : St 38 w a W [(9, .bool false), (8, .slice none 0 0), (5, .pointer (some ⟨g2, 0, none⟩)), (4, .pointer (some ⟨g1, 0, none⟩)), (2, .slice Aa na ca), (3, .slice A n cap)] [(g2, 27, bvs (rb 12 nn)), (g1, 23, bvs (rb 32 kk))] := H.pick [0, 1, 3, 4, 5, 6] [0, 1] rfl
  refine hK4 _ _ ?_
  clear hK4
  refine wp_ret ?_
  repeat (first | (with_reducible refine then_ret ?_) | (with_reducible refine blk_ret ?_))
  refine end_tmps (p := 8) (q := 9) rfl rfl rfl H (fun hb => ?_)
  exact ⟨rfl, hb⟩
set_option maxHeartbeats 4000000 in
theorem ropen_no {va v : Value} {la l : List UInt8} (kk nn : Nat → UInt8) (w : World) {m : Nat} (hva : BF la va w) (hv : BF l v w) (ha : la.length ≤ 20000) (hl : l.length = m + 16) (hm : m ≤ 20000) (hq : decide (rb 16 (tagF (blockF kk 0 nn) (macB la (l.take m))) = l.drop m) = false) : Calls Tryd.prog 13 #[.agg (bvs (rb 32 kk)), .agg (bvs (rb 12 nn)), va, v] w (fun rr w' => rr = .returned (.tuple #[.slice none 0 0, .bool false]) ∧ Below w.heap.size w w') := by
  obtain ⟨Aa, na, ca, rfl, hba⟩ := id hva
  have hna := hba.len
  have hnl : m ≤ 20000 := by omega
  obtain ⟨A, n, cap, rfl, hbs⟩ := id hv
  obtain rfl : m + 16 = n := by rw [← hl]; exact hbs.len
  obtain ⟨gb, ob, rfl, hgb, _⟩ := hbs.at_ (by omega)
  have hcap := hbs.cap
  have hvc : BF (l.take m) (.slice (some ⟨gb, ob, none⟩) m cap) w := ⟨_, _, _, rfl, hbs.head2 (by omega)⟩
  have hvt : BF (l.drop m) (.slice (some ⟨gb, ob + m, none⟩) 16 (cap - m)) w := ⟨_, _, _, rfl, bs_tail hbs⟩
  have hnt : (l.take m).length = m := by rw [List.length_take]; omega
  refine calls_st (vs := [.agg (bvs (rb 32 kk)), .agg (bvs (rb 12 nn)), .slice Aa na ca, .slice (some ⟨gb, ob, none⟩) (m + 16) cap]) 38 Tryd.func13 rfl Tryd.ntmps13 rfl (fun a W H => ?_)
  replace H : St 38 w a W [(0, .agg (bvs (rb 32 kk))), (1, .agg (bvs (rb 12 nn))), (2, .slice Aa na ca), (3, .slice (some ⟨gb, ob, none⟩) (m + 16) cap)] [] := H
  refine wp_seq_k (fun K1 hK1 => ?_)
  refine rg_plain ?_
  refine pl_box rfl rfl (bx_key kk) rfl rfl rfl rfl H ?_
  try clear H a W
  intro g1 a W H
  refine pl_box rfl rfl (bx_nonce nn) rfl rfl rfl rfl H ?_
  try clear H a W
  intro g2 a W H
  refine pl_does (does_assign rfl rfl) rfl rfl rfl rfl H ?_
  try clear H a W
  intro a W H
  refine pl_does (does_assign rfl rfl) rfl rfl rfl rfl H ?_
  try clear H a W
  intro a W H
  refine pl_end ?_
  replace H : St 38 w a W [(9, .bool false), (8, .slice none 0 0), (5, .pointer (some ⟨g2, 0, none⟩)), (4, .pointer (some ⟨g1, 0, none⟩)), (2, .slice Aa na ca), (3, .slice (some ⟨gb, ob, none⟩) (m + 16) cap)] [(g2, 27, bvs (rb 12 nn)), (g1, 23, bvs (rb 32 kk))] := H.pick [0, 1, 2, 3, 6, 7] [0, 1] rfl
  refine hK1 _ _ ?_
  clear hK1
  refine wp_seq_k (fun K2 hK2 => ?_)
  refine wp_seq_k (fun K3 hK3 => ?_)
  refine rg_plain ?_
  refine pl_does (does_move rfl rfl) rfl rfl rfl rfl H ?_
  try clear H a W
  intro a W H
  refine pl_does (does_len Tryd.underlying25 rfl rfl) rfl rfl rfl rfl H ?_
  try clear H a W
  intro a W H
  refine pl_does (does_binOp rfl rfl rfl (i_lssZ (decide_eq_false (by omega)) _ _)) rfl rfl rfl rfl H ?_
  try clear H a W
  intro a W H
  refine pl_end ?_
  replace H : St 38 w a W [(14, .bool false), (9, .bool false), (8, .slice none 0 0), (5, .pointer (some ⟨g2, 0, none⟩)), (4, .pointer (some ⟨g1, 0, none⟩)), (2, .slice Aa na ca), (3, .slice (some ⟨gb, ob, none⟩) (m + 16) cap)] [(g2, 27, bvs (rb 12 nn)), (g1, 23, bvs (rb 32 kk))] := H.pick [0, 3, 4, 5, 6, 7, 8] [0, 1] rfl
  refine hK3 _ _ ?_
  clear hK3
  refine wp_cond_false (H.ev rfl) ?_
  refine wp_skip ?_
  refine hK2 _ _ ?_
  clear hK2
  refine wp_seq_k (fun K4 hK4 => ?_)
  refine rg_plain ?_
  refine pl_does (does_move rfl rfl) rfl rfl rfl rfl H ?_
  try clear H a W
  intro a W H
  refine pl_does (does_len Tryd.underlying25 rfl rfl) rfl rfl rfl rfl H ?_
  try clear H a W
  intro a W H
  refine pl_does (does_binOp rfl rfl rfl (i_sub16m (by omega) _ _)) rfl rfl rfl rfl H ?_
  try clear H a W
  intro a W H
  refine pl_does (does_assign rfl rfl) rfl rfl rfl rfl H ?_
  try clear H a W
  intro a W H
  refine pl_end ?_
  replace H : St 38 w a W [(10, .int .i64 ((m : Nat) : Int)), (9, .bool false), (8, .slice none 0 0), (5, .pointer (some ⟨g2, 0, none⟩)), (4, .pointer (some ⟨g1, 0, none⟩)), (2, .slice Aa na ca), (3, .slice (some ⟨gb, ob, none⟩) (m + 16) cap)] [(g2, 27, bvs (rb 12 nn)), (g1, 23, bvs (rb 32 kk))] := H.pick [0, 5, 6, 7, 8, 9, 10] [0, 1] rfl
  refine hK4 _ _ ?_
  clear hK4
  refine wp_seq_k (fun K5 hK5 => ?_)
  refine drawnS [.val 18 (.agg (bvs (rb 32 kk))) [] [1], .val 19 (.agg (bvs (rb 12 nn))) [] [0], .val 20 (.slice Aa na ca) [] [], .val 21 (.slice (some ⟨gb, ob, none⟩) (m + 16) cap) [] [], .val 22 (.int .i64 ((m : Nat) : Int)) [] [], .val 23 (.slice (some ⟨gb, ob, none⟩) m cap) [3, 4] [], .val 24 (.agg (bvs (rb 16 (tagF (blockF kk 0 nn) (macB la (l.take m)))))) [0, 1, 2, 5] [], .new 11 42 (bvs (rb 16 b0s)), .ston 7 11 42 (bvs (rb 16 b0s)) (bvs (rb 16 (tagF (blockF kk 0 nn) (macB la (l.take m))))) [6]] [0, 0, 0, 0, 0, 24, 39, 0, 255] (by kernel_rfl) (by kernel_rfl) (by kernel_rfl) H ⟨⟨does_load rfl rfl (k := 0) rfl Tryd.underlying23 rfl (info_key _), wanted_none rfl⟩, ⟨does_load rfl rfl (k := 0) rfl Tryd.underlying27 rfl (info_nonce _), wanted_none rfl⟩, ⟨does_move rfl rfl, wanted_none rfl⟩, ⟨does_move rfl rfl, wanted_none rfl⟩, ⟨does_move rfl rfl, wanted_none rfl⟩, ⟨does_slice rfl rfl (vl := none) (vh := some (.int .i64 (m : Int))) rfl rfl (sl_lo (by omega)), wanted_none rfl⟩, ⟨does_call rfl ⟨_, Tryd.func20, by kernel_rfl⟩ rfl (fun W hb => rmark_any kk nn W (BF.below hva hb) (BF.below hvc hb) ha (by rw [hnt]; omega)), wanted_none rfl⟩, ⟨news_of rfl al_mark, rfl⟩, ⟨rfl, rfl, fun g => sto_row rfl rfl rfl (info_mark _) (size_rb _ _ _) (bvs_one _)⟩, trivial⟩ ?_
  try clear H a W
  intro G3 a W H
  replace H : St 38 w a W [(18, .agg (bvs (rb 32 kk))), (19, .agg (bvs (rb 12 nn))), (20, .slice Aa na ca), (21, .slice (some ⟨gb, ob, none⟩) (m + 16) cap), (22, .int .i64 ((m : Nat) : Int)), (23, .slice (some ⟨gb, ob, none⟩) m cap), (24, .agg (bvs (rb 16 (tagF (blockF kk 0 nn) (macB la (l.take m)))))), (11, .pointer (some ⟨(G3 7), 0, none⟩)), (10, .int .i64 ((m : Nat) : Int)), (9, .bool false), (8, .slice none 0 0), (5, .pointer (some ⟨g2, 0, none⟩)), (4, .pointer (some ⟨g1, 0, none⟩)), (2, .slice Aa na ca), (3, .slice (some ⟨gb, ob, none⟩) (m + 16) cap)] [((G3 7), 42, bvs (rb 16 (tagF (blockF kk 0 nn) (macB la (l.take m))))), (g2, 27, bvs (rb 12 nn)), (g1, 23, bvs (rb 32 kk))] := H
  replace H : St 38 w a W [(11, .pointer (some ⟨(G3 7), 0, none⟩)), (10, .int .i64 ((m : Nat) : Int)), (9, .bool false), (8, .slice none 0 0), (5, .pointer (some ⟨g2, 0, none⟩)), (4, .pointer (some ⟨g1, 0, none⟩)), (3, .slice (some ⟨gb, ob, none⟩) (m + 16) cap)] [((G3 7), 42, bvs (rb 16 (tagF (blockF kk 0 nn) (macB la (l.take m))))), (g2, 27, bvs (rb 12 nn)), (g1, 23, bvs (rb 32 kk))] := H.pick [7, 8, 9, 10, 11, 12, 14] [0, 1, 2] rfl
  refine hK5 _ _ ?_
  clear hK5
  refine wp_seq_k (fun K6 hK6 => ?_)
  refine wp_seq_k (fun K7 hK7 => ?_)
  refine drawnR SB SB [⟨25, fun u_ _ => u_ = .slice (some ⟨(G3 7), 0, none⟩) 16 16, [], none, false⟩, ⟨26, fun u_ _ => u_ = .string (strB (rb 16 (tagF (blockF kk 0 nn) (macB la (l.take m))))), [0], none, false⟩, ⟨27, fun u_ _ => u_ = .slice (some ⟨gb, ob, none⟩) (m + 16) cap, [], none, false⟩, ⟨28, fun u_ _ => u_ = .int .i64 ((m : Nat) : Int), [], none, false⟩, ⟨29, fun u_ _ => u_ = .slice (some ⟨gb, ob + m, none⟩) 16 (cap - m), [2, 3], none, false⟩, ⟨30, fun u_ _ => u_ = .string (strB (l.drop m)), [4], none, false⟩, ⟨31, fun u_ _ => u_ = .bool true, [1, 5], none, false⟩] [0, 1, 0, 0, 12, 16, 34] [6] sb_st sb_st (by kernel_rfl) (by kernel_rfl) (by kernel_rfl) H ⟨⟨fun a W  H => by exact ob_valS H (wanted_none rfl) (does_slice rfl rfl (vl := none) (vh := none) rfl rfl (sl_m16 (G3 7))), val_grow, fun _ => val_grow⟩, ⟨fun a W y0 hy0 H => by subst hy0; exact ob_strS H (wanted_none rfl) rfl rfl (sl_keyBF (H.blk (k := 0) rfl)), val_grow, fun _ => val_grow⟩, ⟨fun a W  H => by exact ob_valS H (wanted_none rfl) (does_move rfl rfl), val_grow, fun _ => val_grow⟩, ⟨fun a W  H => by exact ob_valS H (wanted_none rfl) (does_move rfl rfl), val_grow, fun _ => val_grow⟩, ⟨fun a W y2 hy2 y3 hy3 H => by subst hy2; subst hy3; exact ob_valS H (wanted_none rfl) (does_slice rfl rfl (vl := some (.int .i64 (m : Int))) (vh := none) rfl rfl (sl_hi rfl (by omega))), val_grow, fun _ => val_grow⟩, ⟨fun a W y4 hy4 H => by subst hy4; exact ob_strS H (wanted_none rfl) rfl rfl (bf_old hvt H), val_grow, fun _ => val_grow⟩, ⟨fun a W y1 hy1 y5 hy5 H => by subst hy1; subst hy5; exact ob_valS H (wanted_none rfl) (does_binOp rfl rfl rfl (s_neqB hq _ _)), val_grow, fun _ => val_grow⟩, trivial⟩ (by kernel_rfl) ?_
  try clear H a W
  intro a W
  rintro _ rfl
  intro H
  replace H : St 38 w a W [(31, .bool true), (11, .pointer (some ⟨(G3 7), 0, none⟩)), (10, .int .i64 ((m : Nat) : Int)), (9, .bool false), (8, .slice none 0 0), (5, .pointer (some ⟨g2, 0, none⟩)), (4, .pointer (some ⟨g1, 0, none⟩)), (3, .slice (some ⟨gb, ob, none⟩) (m + 16) cap)] [((G3 7), 42, bvs (rb 16 (tagF (blockF kk 0 nn) (macB la (l.take m))))), (g2, 27, bvs (rb 12 nn)), (g1, 23, bvs (rb 32 kk))] := H
  refine pl_end ?_
  replace H : St 38 w a W [(31, .bool true), (10, .int .i64 ((m : Nat) : Int)), (9, .bool false), (8, .slice none 0 0), (5, .pointer (some ⟨g2, 0, none⟩)), (4, .pointer (some ⟨g1, 0, none⟩)), (3, .slice (some ⟨gb, ob, none⟩) (m + 16) cap)] [((G3 7), 42, bvs (rb 16 (tagF (blockF kk 0 nn) (macB la (l.take m))))), (g2, 27, bvs (rb 12 nn)), (g1, 23, bvs (rb 32 kk))] := H.pick [0, 2, 3, 4, 5, 6, 7] [0, 1, 2] rfl
  refine hK7 _ _ ?_
  clear hK7
  refine wp_cond_true (H.ev rfl) ?_
  refine wp_seq_k (fun K8 hK8 => ?_)
  refine rg_plain ?_
  replace H : St 38 w a W [(31, .bool true), (10, .int .i64 ((m : Nat) : Int)), (9, .bool false), (5, .pointer (some ⟨g2, 0, none⟩)), (4, .pointer (some ⟨g1, 0, none⟩)), (3, .slice (some ⟨gb, ob, none⟩) (m + 16) cap)] [((G3 7), 42, bvs (rb 16 (tagF (blockF kk 0 nn) (macB la (l.take m))))), (g2, 27, bvs (rb 12 nn)), (g1, 23, bvs (rb 32 kk))] := H.pick [0, 1, 2, 4, 5, 6] [0, 1, 2] rfl
  refine pl_does (does_assign rfl rfl) rfl rfl rfl rfl H ?_
  try clear H a W
  intro a W H
  replace H : St 38 w a W [(8, .slice none 0 0), (31, .bool true), (10, .int .i64 ((m : Nat) : Int)), (5, .pointer (some ⟨g2, 0, none⟩)), (4, .pointer (some ⟨g1, 0, none⟩)), (3, .slice (some ⟨gb, ob, none⟩) (m + 16) cap)] [((G3 7), 42, bvs (rb 16 (tagF (blockF kk 0 nn) (macB la (l.take m))))), (g2, 27, bvs (rb 12 nn)), (g1, 23, bvs (rb 32 kk))] := H.pick [0, 1, 2, 4, 5, 6] [0, 1, 2] rfl
  refine pl_does (does_assign rfl rfl) rfl rfl rfl rfl H ?_
  try clear H a W
  intro a W H
  refine pl_end ?_
  replace H : St 38 w a W [(9, .bool false), (8, .slice none 0 0), (10, .int .i64 ((m : Nat) : Int)), (5, .pointer (some ⟨g2, 0, none⟩)), (4, .pointer (some ⟨g1, 0, none⟩)), (3, .slice (some ⟨gb, ob, none⟩) (m + 16) cap)] [((G3 7), 42, bvs (rb 16 (tagF (blockF kk 0 nn) (macB la (l.take m))))), (g2, 27, bvs (rb 12 nn)), (g1, 23, bvs (rb 32 kk))] := H.pick [0, 1, 3, 4, 5, 6] [0, 1, 2] rfl
  refine hK8 _ _ ?_
  clear hK8
  refine wp_ret ?_
  repeat (first | (with_reducible refine then_ret ?_) | (with_reducible refine blk_ret ?_))
  refine end_tmps (p := 8) (q := 9) rfl rfl rfl H (fun hb => ?_)
  exact ⟨rfl, hb⟩
set_option maxHeartbeats 4000000 in
theorem ropen_yes {va v : Value} {la l : List UInt8} (kk nn : Nat → UInt8) (w : World) {m : Nat} (hva : BF la va w) (hv : BF l v w) (ha : la.length ≤ 20000) (hl : l.length = m + 16) (hm : m ≤ 20000) (hq : decide (rb 16 (tagF (blockF kk 0 nn) (macB la (l.take m))) = l.drop m) = true) : Calls Tryd.prog 13 #[.agg (bvs (rb 32 kk)), .agg (bvs (rb 12 nn)), va, v] w (fun rr w' => ∃ u, rr = .returned (.tuple #[u, .bool true]) ∧ Below w.heap.size w w' ∧ BF (encB kk nn (l.take m)) u w') := by
  obtain ⟨Aa, na, ca, rfl, hba⟩ := id hva
  have hna := hba.len
  have hnl : m ≤ 20000 := by omega
  obtain ⟨A, n, cap, rfl, hbs⟩ := id hv
  obtain rfl : m + 16 = n := by rw [← hl]; exact hbs.len
  obtain ⟨gb, ob, rfl, hgb, _⟩ := hbs.at_ (by omega)
  have hcap := hbs.cap
  have hvc : BF (l.take m) (.slice (some ⟨gb, ob, none⟩) m cap) w := ⟨_, _, _, rfl, hbs.head2 (by omega)⟩
  have hvt : BF (l.drop m) (.slice (some ⟨gb, ob + m, none⟩) 16 (cap - m)) w := ⟨_, _, _, rfl, bs_tail hbs⟩
  have hnt : (l.take m).length = m := by rw [List.length_take]; omega
  refine calls_st (vs := [.agg (bvs (rb 32 kk)), .agg (bvs (rb 12 nn)), .slice Aa na ca, .slice (some ⟨gb, ob, none⟩) (m + 16) cap]) 38 Tryd.func13 rfl Tryd.ntmps13 rfl (fun a W H => ?_)
  replace H : St 38 w a W [(0, .agg (bvs (rb 32 kk))), (1, .agg (bvs (rb 12 nn))), (2, .slice Aa na ca), (3, .slice (some ⟨gb, ob, none⟩) (m + 16) cap)] [] := H
  refine wp_seq_k (fun K1 hK1 => ?_)
  refine rg_plain ?_
  refine pl_box rfl rfl (bx_key kk) rfl rfl rfl rfl H ?_
  try clear H a W
  intro g1 a W H
  refine pl_box rfl rfl (bx_nonce nn) rfl rfl rfl rfl H ?_
  try clear H a W
  intro g2 a W H
  refine pl_does (does_assign rfl rfl) rfl rfl rfl rfl H ?_
  try clear H a W
  intro a W H
  refine pl_does (does_assign rfl rfl) rfl rfl rfl rfl H ?_
  try clear H a W
  intro a W H
  refine pl_end ?_
  replace H : St 38 w a W [(9, .bool false), (8, .slice none 0 0), (5, .pointer (some ⟨g2, 0, none⟩)), (4, .pointer (some ⟨g1, 0, none⟩)), (2, .slice Aa na ca), (3, .slice (some ⟨gb, ob, none⟩) (m + 16) cap)] [(g2, 27, bvs (rb 12 nn)), (g1, 23, bvs (rb 32 kk))] := H.pick [0, 1, 2, 3, 6, 7] [0, 1] rfl
  refine hK1 _ _ ?_
  clear hK1
  refine wp_seq_k (fun K2 hK2 => ?_)
  refine wp_seq_k (fun K3 hK3 => ?_)
  refine rg_plain ?_
  refine pl_does (does_move rfl rfl) rfl rfl rfl rfl H ?_
  try clear H a W
  intro a W H
  refine pl_does (does_len Tryd.underlying25 rfl rfl) rfl rfl rfl rfl H ?_
  try clear H a W
  intro a W H
  refine pl_does (does_binOp rfl rfl rfl (i_lssZ (decide_eq_false (by omega)) _ _)) rfl rfl rfl rfl H ?_
  try clear H a W
  intro a W H
  refine pl_end ?_
  replace H : St 38 w a W [(14, .bool false), (9, .bool false), (8, .slice none 0 0), (5, .pointer (some ⟨g2, 0, none⟩)), (4, .pointer (some ⟨g1, 0, none⟩)), (2, .slice Aa na ca), (3, .slice (some ⟨gb, ob, none⟩) (m + 16) cap)] [(g2, 27, bvs (rb 12 nn)), (g1, 23, bvs (rb 32 kk))] := H.pick [0, 3, 4, 5, 6, 7, 8] [0, 1] rfl
  refine hK3 _ _ ?_
  clear hK3
  refine wp_cond_false (H.ev rfl) ?_
  refine wp_skip ?_
  refine hK2 _ _ ?_
  clear hK2
  refine wp_seq_k (fun K4 hK4 => ?_)
  refine rg_plain ?_
  refine pl_does (does_move rfl rfl) rfl rfl rfl rfl H ?_
  try clear H a W
  intro a W H
  refine pl_does (does_len Tryd.underlying25 rfl rfl) rfl rfl rfl rfl H ?_
  try clear H a W
  intro a W H
  refine pl_does (does_binOp rfl rfl rfl (i_sub16m (by omega) _ _)) rfl rfl rfl rfl H ?_
  try clear H a W
  intro a W H
  refine pl_does (does_assign rfl rfl) rfl rfl rfl rfl H ?_
  try clear H a W
  intro a W H
  refine pl_end ?_
  replace H : St 38 w a W [(10, .int .i64 ((m : Nat) : Int)), (9, .bool false), (8, .slice none 0 0), (5, .pointer (some ⟨g2, 0, none⟩)), (4, .pointer (some ⟨g1, 0, none⟩)), (2, .slice Aa na ca), (3, .slice (some ⟨gb, ob, none⟩) (m + 16) cap)] [(g2, 27, bvs (rb 12 nn)), (g1, 23, bvs (rb 32 kk))] := H.pick [0, 5, 6, 7, 8, 9, 10] [0, 1] rfl
  refine hK4 _ _ ?_
  clear hK4
  refine wp_seq_k (fun K5 hK5 => ?_)
  refine drawnS [.val 18 (.agg (bvs (rb 32 kk))) [] [1], .val 19 (.agg (bvs (rb 12 nn))) [] [0], .val 20 (.slice Aa na ca) [] [], .val 21 (.slice (some ⟨gb, ob, none⟩) (m + 16) cap) [] [], .val 22 (.int .i64 ((m : Nat) : Int)) [] [], .val 23 (.slice (some ⟨gb, ob, none⟩) m cap) [3, 4] [], .val 24 (.agg (bvs (rb 16 (tagF (blockF kk 0 nn) (macB la (l.take m)))))) [0, 1, 2, 5] [], .new 11 42 (bvs (rb 16 b0s)), .ston 7 11 42 (bvs (rb 16 b0s)) (bvs (rb 16 (tagF (blockF kk 0 nn) (macB la (l.take m))))) [6]] [0, 0, 0, 0, 0, 24, 39, 0, 255] (by kernel_rfl) (by kernel_rfl) (by kernel_rfl) H ⟨⟨does_load rfl rfl (k := 0) rfl Tryd.underlying23 rfl (info_key _), wanted_none rfl⟩, ⟨does_load rfl rfl (k := 0) rfl Tryd.underlying27 rfl (info_nonce _), wanted_none rfl⟩, ⟨does_move rfl rfl, wanted_none rfl⟩, ⟨does_move rfl rfl, wanted_none rfl⟩, ⟨does_move rfl rfl, wanted_none rfl⟩, ⟨does_slice rfl rfl (vl := none) (vh := some (.int .i64 (m : Int))) rfl rfl (sl_lo (by omega)), wanted_none rfl⟩, ⟨does_call rfl ⟨_, Tryd.func20, by kernel_rfl⟩ rfl (fun W hb => rmark_any kk nn W (BF.below hva hb) (BF.below hvc hb) ha (by rw [hnt]; omega)), wanted_none rfl⟩, ⟨news_of rfl al_mark, rfl⟩, ⟨rfl, rfl, fun g => sto_row rfl rfl rfl (info_mark _) (size_rb _ _ _) (bvs_one _)⟩, trivial⟩ ?_
  try clear H a W
  intro G3 a W H
  replace H : St 38 w a W [(18, .agg (bvs (rb 32 kk))), (19, .agg (bvs (rb 12 nn))), (20, .slice Aa na ca), (21, .slice (some ⟨gb, ob, none⟩) (m + 16) cap), (22, .int .i64 ((m : Nat) : Int)), (23, .slice (some ⟨gb, ob, none⟩) m cap), (24, .agg (bvs (rb 16 (tagF (blockF kk 0 nn) (macB la (l.take m)))))), (11, .pointer (some ⟨(G3 7), 0, none⟩)), (10, .int .i64 ((m : Nat) : Int)), (9, .bool false), (8, .slice none 0 0), (5, .pointer (some ⟨g2, 0, none⟩)), (4, .pointer (some ⟨g1, 0, none⟩)), (2, .slice Aa na ca), (3, .slice (some ⟨gb, ob, none⟩) (m + 16) cap)] [((G3 7), 42, bvs (rb 16 (tagF (blockF kk 0 nn) (macB la (l.take m))))), (g2, 27, bvs (rb 12 nn)), (g1, 23, bvs (rb 32 kk))] := H
  replace H : St 38 w a W [(11, .pointer (some ⟨(G3 7), 0, none⟩)), (10, .int .i64 ((m : Nat) : Int)), (9, .bool false), (8, .slice none 0 0), (5, .pointer (some ⟨g2, 0, none⟩)), (4, .pointer (some ⟨g1, 0, none⟩)), (3, .slice (some ⟨gb, ob, none⟩) (m + 16) cap)] [((G3 7), 42, bvs (rb 16 (tagF (blockF kk 0 nn) (macB la (l.take m))))), (g2, 27, bvs (rb 12 nn)), (g1, 23, bvs (rb 32 kk))] := H.pick [7, 8, 9, 10, 11, 12, 14] [0, 1, 2] rfl
  refine hK5 _ _ ?_
  clear hK5
  refine wp_seq_k (fun K6 hK6 => ?_)
  refine wp_seq_k (fun K7 hK7 => ?_)
  refine drawnR SB SB [⟨25, fun u_ _ => u_ = .slice (some ⟨(G3 7), 0, none⟩) 16 16, [], none, false⟩, ⟨26, fun u_ _ => u_ = .string (strB (rb 16 (tagF (blockF kk 0 nn) (macB la (l.take m))))), [0], none, false⟩, ⟨27, fun u_ _ => u_ = .slice (some ⟨gb, ob, none⟩) (m + 16) cap, [], none, false⟩, ⟨28, fun u_ _ => u_ = .int .i64 ((m : Nat) : Int), [], none, false⟩, ⟨29, fun u_ _ => u_ = .slice (some ⟨gb, ob + m, none⟩) 16 (cap - m), [2, 3], none, false⟩, ⟨30, fun u_ _ => u_ = .string (strB (l.drop m)), [4], none, false⟩, ⟨31, fun u_ _ => u_ = .bool false, [1, 5], none, false⟩] [0, 1, 0, 0, 12, 16, 34] [6] sb_st sb_st (by kernel_rfl) (by kernel_rfl) (by kernel_rfl) H ⟨⟨fun a W  H => by exact ob_valS H (wanted_none rfl) (does_slice rfl rfl (vl := none) (vh := none) rfl rfl (sl_m16 (G3 7))), val_grow, fun _ => val_grow⟩, ⟨fun a W y0 hy0 H => by subst hy0; exact ob_strS H (wanted_none rfl) rfl rfl (sl_keyBF (H.blk (k := 0) rfl)), val_grow, fun _ => val_grow⟩, ⟨fun a W  H => by exact ob_valS H (wanted_none rfl) (does_move rfl rfl), val_grow, fun _ => val_grow⟩, ⟨fun a W  H => by exact ob_valS H (wanted_none rfl) (does_move rfl rfl), val_grow, fun _ => val_grow⟩, ⟨fun a W y2 hy2 y3 hy3 H => by subst hy2; subst hy3; exact ob_valS H (wanted_none rfl) (does_slice rfl rfl (vl := some (.int .i64 (m : Int))) (vh := none) rfl rfl (sl_hi rfl (by omega))), val_grow, fun _ => val_grow⟩, ⟨fun a W y4 hy4 H => by subst hy4; exact ob_strS H (wanted_none rfl) rfl rfl (bf_old hvt H), val_grow, fun _ => val_grow⟩, ⟨fun a W y1 hy1 y5 hy5 H => by subst hy1; subst hy5; exact ob_valS H (wanted_none rfl) (does_binOp rfl rfl rfl (s_neqB hq _ _)), val_grow, fun _ => val_grow⟩, trivial⟩ (by kernel_rfl) ?_
  try clear H a W
  intro a W
  rintro _ rfl
  intro H
  replace H : St 38 w a W [(31, .bool false), (11, .pointer (some ⟨(G3 7), 0, none⟩)), (10, .int .i64 ((m : Nat) : Int)), (9, .bool false), (8, .slice none 0 0), (5, .pointer (some ⟨g2, 0, none⟩)), (4, .pointer (some ⟨g1, 0, none⟩)), (3, .slice (some ⟨gb, ob, none⟩) (m + 16) cap)] [((G3 7), 42, bvs (rb 16 (tagF (blockF kk 0 nn) (macB la (l.take m))))), (g2, 27, bvs (rb 12 nn)), (g1, 23, bvs (rb 32 kk))] := H
  refine pl_end ?_
  replace H : St 38 w a W [(31, .bool false), (10, .int .i64 ((m : Nat) : Int)), (9, .bool false), (8, .slice none 0 0), (5, .pointer (some ⟨g2, 0, none⟩)), (4, .pointer (some ⟨g1, 0, none⟩)), (3, .slice (some ⟨gb, ob, none⟩) (m + 16) cap)] [((G3 7), 42, bvs (rb 16 (tagF (blockF kk 0 nn) (macB la (l.take m))))), (g2, 27, bvs (rb 12 nn)), (g1, 23, bvs (rb 32 kk))] := H.pick [0, 2, 3, 4, 5, 6, 7] [0, 1, 2] rfl
  refine hK7 _ _ ?_
  clear hK7
  refine wp_cond_false (H.ev rfl) ?_
  refine wp_skip ?_
  refine hK6 _ _ ?_
  clear hK6
  refine wp_seq_k (fun K8 hK8 => ?_)
  replace H : St 38 w a W [(31, .bool false), (10, .int .i64 ((m : Nat) : Int)), (9, .bool false), (5, .pointer (some ⟨g2, 0, none⟩)), (4, .pointer (some ⟨g1, 0, none⟩)), (3, .slice (some ⟨gb, ob, none⟩) (m + 16) cap)] [((G3 7), 42, bvs (rb 16 (tagF (blockF kk 0 nn) (macB la (l.take m))))), (g2, 27, bvs (rb 12 nn)), (g1, 23, bvs (rb 32 kk))] := H.pick [0, 1, 2, 4, 5, 6] [0, 1, 2] rfl
  refine drawnR SB SB [⟨32, fun u_ _ => u_ = .agg (bvs (rb 32 kk)), [], none, false⟩, ⟨33, fun u_ _ => u_ = .agg (bvs (rb 12 nn)), [], none, false⟩, ⟨34, fun u_ _ => u_ = .slice (some ⟨gb, ob, none⟩) (m + 16) cap, [], none, false⟩, ⟨35, fun u_ _ => u_ = .int .i64 ((m : Nat) : Int), [], none, false⟩, ⟨36, fun u_ _ => u_ = .slice (some ⟨gb, ob, none⟩) m cap, [2, 3], none, false⟩, ⟨37, BF (encB kk nn (l.take m)), [0, 1, 4], none, false⟩, ⟨8, BF (encB kk nn (l.take m)), [5], none, false⟩] [0, 0, 0, 0, 12, 19, 63, 127] [6] sb_st sb_st (by kernel_rfl) (by kernel_rfl) (by kernel_rfl) H ⟨⟨fun a W  H => by exact ob_valS H (wanted_none rfl) (does_load rfl rfl (k := 2) rfl Tryd.underlying23 rfl (info_key _)), val_grow, fun _ => val_grow⟩, ⟨fun a W  H => by exact ob_valS H (wanted_none rfl) (does_load rfl rfl (k := 1) rfl Tryd.underlying27 rfl (info_nonce _)), val_grow, fun _ => val_grow⟩, ⟨fun a W  H => by exact ob_valS H (wanted_none rfl) (does_move rfl rfl), val_grow, fun _ => val_grow⟩, ⟨fun a W  H => by exact ob_valS H (wanted_none rfl) (does_move rfl rfl), val_grow, fun _ => val_grow⟩, ⟨fun a W y2 hy2 y3 hy3 H => by subst hy2; subst hy3; exact ob_valS H (wanted_none rfl) (does_slice rfl rfl (vl := none) (vh := some (.int .i64 (m : Int))) rfl rfl (sl_lo (by omega))), val_grow, fun _ => val_grow⟩, ⟨fun a W y0 hy0 y1 hy1 y4 hy4 H => by subst hy0; subst hy1; subst hy4; exact ob_callS H (wanted_none rfl) rfl ⟨_, Tryd.func19, by kernel_rfl⟩ rfl (rxor_1 _ _ _ (bf_old hvc H) (by rw [hnt]; omega)), BF.sb, fun _ => BF.sb⟩, ⟨fun a W v37 hv37 H => by exact ob_assignS H (wanted_none rfl) rfl rfl hv37, BF.sb, fun _ => BF.sb⟩, trivial⟩ (by kernel_rfl) ?_
  try clear H a W
  intro a W
  intro v8 hv8
  intro H
  replace H : St 38 w a W [(8, v8), (31, .bool false), (10, .int .i64 ((m : Nat) : Int)), (9, .bool false), (5, .pointer (some ⟨g2, 0, none⟩)), (4, .pointer (some ⟨g1, 0, none⟩)), (3, .slice (some ⟨gb, ob, none⟩) (m + 16) cap)] [((G3 7), 42, bvs (rb 16 (tagF (blockF kk 0 nn) (macB la (l.take m))))), (g2, 27, bvs (rb 12 nn)), (g1, 23, bvs (rb 32 kk))] := H
  replace H : St 38 w a W [(8, v8), (31, .bool false), (10, .int .i64 ((m : Nat) : Int)), (5, .pointer (some ⟨g2, 0, none⟩)), (4, .pointer (some ⟨g1, 0, none⟩)), (3, .slice (some ⟨gb, ob, none⟩) (m + 16) cap)] [((G3 7), 42, bvs (rb 16 (tagF (blockF kk 0 nn) (macB la (l.take m))))), (g2, 27, bvs (rb 12 nn)), (g1, 23, bvs (rb 32 kk))] := H.pick [0, 1, 2, 4, 5, 6] [0, 1, 2] rfl
  refine pl_R (R := SB) (F := fun u_ _ => u_ = .bool true) sb_st (ob_valS H (wanted_none rfl) (does_assign rfl rfl)) rfl rfl rfl H ?_
  try clear H a
  rintro _ a W rfl hR_ H
  replace hv8 := BF.sb _ _ _ hv8 hR_
  clear hR_
  replace H : St 38 w a W [(9, .bool true), (8, v8), (31, .bool false), (10, .int .i64 ((m : Nat) : Int)), (5, .pointer (some ⟨g2, 0, none⟩)), (4, .pointer (some ⟨g1, 0, none⟩)), (3, .slice (some ⟨gb, ob, none⟩) (m + 16) cap)] [((G3 7), 42, bvs (rb 16 (tagF (blockF kk 0 nn) (macB la (l.take m))))), (g2, 27, bvs (rb 12 nn)), (g1, 23, bvs (rb 32 kk))] := H
  refine pl_end ?_
  replace H : St 38 w a W [(9, .bool true), (8, v8)] [((G3 7), 42, bvs (rb 16 (tagF (blockF kk 0 nn) (macB la (l.take m))))), (g2, 27, bvs (rb 12 nn)), (g1, 23, bvs (rb 32 kk))] := H.pick [0, 1] [0, 1, 2] rfl
  refine hK8 _ _ ?_
  clear hK8
  refine wp_ret ?_
  repeat (first | (with_reducible refine then_ret ?_) | (with_reducible refine blk_ret ?_))
  refine end_tmps (p := 8) (q := 9) rfl rfl rfl H (fun hb => ?_)
  exact ⟨_, rfl, hb, hv8⟩
end Go.Proofs.YtghbknebaknmjaaDoor
