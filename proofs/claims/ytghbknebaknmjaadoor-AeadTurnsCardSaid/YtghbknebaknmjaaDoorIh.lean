/- The document's stream: its round, its block, walked. -/
import Derived.Test.YtghbknebaknmjaaDoorIg
namespace Go.Proofs.YtghbknebaknmjaaDoor.Cha
set_option linter.unusedVariables false
set_option linter.unusedSimpArgs false
set_option maxRecDepth 100000
open Go Go.RowKit

attribute [local irreducible] wv wc bvs bv rolW rb shlW shrW byteW lowB sumW begW blockF
set_option maxHeartbeats 4000000 in
theorem round_any (f : Wd) {ja jb jc jd : Nat} (ha : ja < 16) (hb : jb < 16) (hc : jc < 16) (hd : jd < 16) (w : World) : Calls Tryd.prog 38 #[.agg (wv f), .int .i64 ((ja : Nat) : Int), .int .i64 ((jb : Nat) : Int), .int .i64 ((jc : Nat) : Int), .int .i64 ((jd : Nat) : Int)] w (fun rr w' => rr = .returned (.agg (wv (quarterW f ja jb jc jd))) ∧ Below w.heap.size w w') := by
  refine calls_st (vs := [.agg (wv f), .int .i64 ((ja : Nat) : Int), .int .i64 ((jb : Nat) : Int), .int .i64 ((jc : Nat) : Int), .int .i64 ((jd : Nat) : Int)]) 88 Tryd.func38 rfl Tryd.ntmps38 rfl (fun a W H => ?_)
  replace H : St 88 w a W [(0, .agg (wv f)), (1, .int .i64 ((ja : Nat) : Int)), (2, .int .i64 ((jb : Nat) : Int)), (3, .int .i64 ((jc : Nat) : Int)), (4, .int .i64 ((jd : Nat) : Int))] [] := H
  refine wp_seq_k (fun K1 hK1 => ?_)
  refine rg_plain ?_
  refine pl_box rfl rfl (bx_w16 f) rfl rfl rfl rfl H ?_
  try clear H a W
  intro g1 a W H
  refine pl_new (news_of rfl al_w16) rfl rfl rfl rfl H ?_
  try clear H a W
  intro g2 a W H
  refine pl_end ?_
  replace H : St 88 w a W [(10, .pointer (some ⟨g2, 0, none⟩)), (5, .pointer (some ⟨g1, 0, none⟩)), (1, .int .i64 ((ja : Nat) : Int)), (2, .int .i64 ((jb : Nat) : Int)), (3, .int .i64 ((jc : Nat) : Int)), (4, .int .i64 ((jd : Nat) : Int))] [(g2, 56, wv w0s), (g1, 56, wv f)] := H.pick [0, 1, 3, 4, 5, 6] [0, 1] rfl
  refine hK1 _ _ ?_
  clear hK1
  refine wp_seq_k (fun K2 hK2 => ?_)
  refine drawnS [.val 11 (.int .i64 ((ja : Nat) : Int)) [] [], .val 12 (.int .i64 ((ja : Nat) : Int)) [] [], .val 13 (.pointer (some ⟨g1, ja, none⟩)) [1] [], .val 14 (wc (f ja)) [2] [1], .val 15 (.int .i64 ((jb : Nat) : Int)) [] [], .val 16 (.pointer (some ⟨g1, jb, none⟩)) [4] [], .val 17 (wc (f jb)) [5] [1], .val 18 (wc ((f ja) + (f jb))) [3, 6] [], .val 19 (.pointer (some ⟨g1, ja, none⟩)) [0] [], .sto 1 g1 56 (wv f) (wv (upd f ja ((f ja) + (f jb)))) [8, 7]] [0, 0, 2, 4, 0, 16, 32, 72, 255, 511] (by kernel_rfl) (by kernel_rfl) (by kernel_rfl) H ⟨⟨does_move rfl rfl, wanted_none rfl⟩, ⟨does_move rfl rfl, wanted_none rfl⟩, ⟨does_indexAddr rfl rfl rfl (ia_w16 (j := ja) ha), wanted_none rfl⟩, ⟨does_loadAt (v := wc (f ja)) rfl rfl (k := 0) rfl (ld_word ha), wanted_none rfl⟩, ⟨does_move rfl rfl, wanted_none rfl⟩, ⟨does_indexAddr rfl rfl rfl (ia_w16 (j := jb) hb), wanted_none rfl⟩, ⟨does_loadAt (v := wc (f jb)) rfl rfl (k := 0) rfl (ld_word hb), wanted_none rfl⟩, ⟨does_binOp rfl rfl rfl (w_add _ _ _ _), wanted_none rfl⟩, ⟨does_indexAddr rfl rfl rfl (ia_w16 (j := ja) ha), wanted_none rfl⟩, ⟨rfl, rfl, sto_at rfl rfl rfl (st_word ha) (sv_word rfl)⟩, trivial⟩ ?_
  try clear H a W
  intro G3 a W H
  replace H : St 88 w a W [(11, .int .i64 ((ja : Nat) : Int)), (12, .int .i64 ((ja : Nat) : Int)), (13, .pointer (some ⟨g1, ja, none⟩)), (14, wc (f ja)), (15, .int .i64 ((jb : Nat) : Int)), (16, .pointer (some ⟨g1, jb, none⟩)), (17, wc (f jb)), (18, wc ((f ja) + (f jb))), (19, .pointer (some ⟨g1, ja, none⟩)), (10, .pointer (some ⟨g2, 0, none⟩)), (5, .pointer (some ⟨g1, 0, none⟩)), (1, .int .i64 ((ja : Nat) : Int)), (2, .int .i64 ((jb : Nat) : Int)), (3, .int .i64 ((jc : Nat) : Int)), (4, .int .i64 ((jd : Nat) : Int))] [(g2, 56, wv w0s), (g1, 56, wv (upd f ja ((f ja) + (f jb))))] := H
  replace H : St 88 w a W [(10, .pointer (some ⟨g2, 0, none⟩)), (5, .pointer (some ⟨g1, 0, none⟩)), (1, .int .i64 ((ja : Nat) : Int)), (2, .int .i64 ((jb : Nat) : Int)), (3, .int .i64 ((jc : Nat) : Int)), (4, .int .i64 ((jd : Nat) : Int))] [(g2, 56, wv w0s), (g1, 56, wv (upd f ja ((f ja) + (f jb))))] := H.pick [9, 10, 11, 12, 13, 14] [0, 1] rfl
  obtain ⟨f1, e1⟩ : ∃ g : Wd, g = (upd f ja ((f ja) + (f jb))) := ⟨_, rfl⟩
  rw [← e1] at H
  replace H : St 88 w a W [(10, .pointer (some ⟨g2, 0, none⟩)), (5, .pointer (some ⟨g1, 0, none⟩)), (1, .int .i64 ((ja : Nat) : Int)), (2, .int .i64 ((jb : Nat) : Int)), (3, .int .i64 ((jc : Nat) : Int)), (4, .int .i64 ((jd : Nat) : Int))] [(g2, 56, wv w0s), (g1, 56, wv f1)] := H
  refine hK2 _ _ ?_
  clear hK2
  refine wp_seq_k (fun K3 hK3 => ?_)
  refine drawnS [.val 20 (.int .i64 ((jd : Nat) : Int)) [] [], .val 21 (.int .i64 ((jd : Nat) : Int)) [] [], .val 22 (.pointer (some ⟨g1, jd, none⟩)) [1] [], .val 23 (wc (f1 jd)) [2] [1], .val 24 (.int .i64 ((ja : Nat) : Int)) [] [], .val 25 (.pointer (some ⟨g1, ja, none⟩)) [4] [], .val 26 (wc (f1 ja)) [5] [1], .val 27 (wc ((f1 jd) ^^^ (f1 ja))) [3, 6] [], .val 28 (wc (rolW ((f1 jd) ^^^ (f1 ja)) 16)) [7] [], .val 29 (.pointer (some ⟨g1, jd, none⟩)) [0] [], .sto 1 g1 56 (wv f1) (wv (upd f1 jd (rolW ((f1 jd) ^^^ (f1 ja)) 16))) [9, 8]] [0, 0, 2, 4, 0, 16, 32, 72, 128, 511, 1023] (by kernel_rfl) (by kernel_rfl) (by kernel_rfl) H ⟨⟨does_move rfl rfl, wanted_none rfl⟩, ⟨does_move rfl rfl, wanted_none rfl⟩, ⟨does_indexAddr rfl rfl rfl (ia_w16 (j := jd) hd), wanted_none rfl⟩, ⟨does_loadAt (v := wc (f1 jd)) rfl rfl (k := 0) rfl (ld_word hd), wanted_none rfl⟩, ⟨does_move rfl rfl, wanted_none rfl⟩, ⟨does_indexAddr rfl rfl rfl (ia_w16 (j := ja) ha), wanted_none rfl⟩, ⟨does_loadAt (v := wc (f1 ja)) rfl rfl (k := 0) rfl (ld_word ha), wanted_none rfl⟩, ⟨does_binOp rfl rfl rfl (w_xor _ _ _ _), wanted_none rfl⟩, ⟨does_call rfl ⟨_, Tryd.func48, by kernel_rfl⟩ rfl (fun W hb => turn_any _ _ (by decide) W), wanted_none rfl⟩, ⟨does_indexAddr rfl rfl rfl (ia_w16 (j := jd) hd), wanted_none rfl⟩, ⟨rfl, rfl, sto_at rfl rfl rfl (st_word hd) (sv_word rfl)⟩, trivial⟩ ?_
  try clear H a W
  intro G4 a W H
  replace H : St 88 w a W [(20, .int .i64 ((jd : Nat) : Int)), (21, .int .i64 ((jd : Nat) : Int)), (22, .pointer (some ⟨g1, jd, none⟩)), (23, wc (f1 jd)), (24, .int .i64 ((ja : Nat) : Int)), (25, .pointer (some ⟨g1, ja, none⟩)), (26, wc (f1 ja)), (27, wc ((f1 jd) ^^^ (f1 ja))), (28, wc (rolW ((f1 jd) ^^^ (f1 ja)) 16)), (29, .pointer (some ⟨g1, jd, none⟩)), (10, .pointer (some ⟨g2, 0, none⟩)), (5, .pointer (some ⟨g1, 0, none⟩)), (1, .int .i64 ((ja : Nat) : Int)), (2, .int .i64 ((jb : Nat) : Int)), (3, .int .i64 ((jc : Nat) : Int)), (4, .int .i64 ((jd : Nat) : Int))] [(g2, 56, wv w0s), (g1, 56, wv (upd f1 jd (rolW ((f1 jd) ^^^ (f1 ja)) 16)))] := H
  replace H : St 88 w a W [(10, .pointer (some ⟨g2, 0, none⟩)), (5, .pointer (some ⟨g1, 0, none⟩)), (1, .int .i64 ((ja : Nat) : Int)), (2, .int .i64 ((jb : Nat) : Int)), (3, .int .i64 ((jc : Nat) : Int)), (4, .int .i64 ((jd : Nat) : Int))] [(g2, 56, wv w0s), (g1, 56, wv (upd f1 jd (rolW ((f1 jd) ^^^ (f1 ja)) 16)))] := H.pick [10, 11, 12, 13, 14, 15] [0, 1] rfl
  obtain ⟨f2, e2⟩ : ∃ g : Wd, g = (upd f1 jd (rolW ((f1 jd) ^^^ (f1 ja)) 16)) := ⟨_, rfl⟩
  rw [← e2] at H
  have h2 : f2 = stepW f ja jb jd 16 := by rw [e2, e1]; rfl
  clear e2 e1
  replace H : St 88 w a W [(10, .pointer (some ⟨g2, 0, none⟩)), (5, .pointer (some ⟨g1, 0, none⟩)), (1, .int .i64 ((ja : Nat) : Int)), (2, .int .i64 ((jb : Nat) : Int)), (3, .int .i64 ((jc : Nat) : Int)), (4, .int .i64 ((jd : Nat) : Int))] [(g2, 56, wv w0s), (g1, 56, wv f2)] := H
  refine hK3 _ _ ?_
  clear hK3
  refine wp_seq_k (fun K4 hK4 => ?_)
  refine drawnS [.val 30 (.int .i64 ((jc : Nat) : Int)) [] [], .val 31 (.int .i64 ((jc : Nat) : Int)) [] [], .val 32 (.pointer (some ⟨g1, jc, none⟩)) [1] [], .val 33 (wc (f2 jc)) [2] [1], .val 34 (.int .i64 ((jd : Nat) : Int)) [] [], .val 35 (.pointer (some ⟨g1, jd, none⟩)) [4] [], .val 36 (wc (f2 jd)) [5] [1], .val 37 (wc ((f2 jc) + (f2 jd))) [3, 6] [], .val 38 (.pointer (some ⟨g1, jc, none⟩)) [0] [], .sto 1 g1 56 (wv f2) (wv (upd f2 jc ((f2 jc) + (f2 jd)))) [8, 7]] [0, 0, 2, 4, 0, 16, 32, 72, 255, 511] (by kernel_rfl) (by kernel_rfl) (by kernel_rfl) H ⟨⟨does_move rfl rfl, wanted_none rfl⟩, ⟨does_move rfl rfl, wanted_none rfl⟩, ⟨does_indexAddr rfl rfl rfl (ia_w16 (j := jc) hc), wanted_none rfl⟩, ⟨does_loadAt (v := wc (f2 jc)) rfl rfl (k := 0) rfl (ld_word hc), wanted_none rfl⟩, ⟨does_move rfl rfl, wanted_none rfl⟩, ⟨does_indexAddr rfl rfl rfl (ia_w16 (j := jd) hd), wanted_none rfl⟩, ⟨does_loadAt (v := wc (f2 jd)) rfl rfl (k := 0) rfl (ld_word hd), wanted_none rfl⟩, ⟨does_binOp rfl rfl rfl (w_add _ _ _ _), wanted_none rfl⟩, ⟨does_indexAddr rfl rfl rfl (ia_w16 (j := jc) hc), wanted_none rfl⟩, ⟨rfl, rfl, sto_at rfl rfl rfl (st_word hc) (sv_word rfl)⟩, trivial⟩ ?_
  try clear H a W
  intro G5 a W H
  replace H : St 88 w a W [(30, .int .i64 ((jc : Nat) : Int)), (31, .int .i64 ((jc : Nat) : Int)), (32, .pointer (some ⟨g1, jc, none⟩)), (33, wc (f2 jc)), (34, .int .i64 ((jd : Nat) : Int)), (35, .pointer (some ⟨g1, jd, none⟩)), (36, wc (f2 jd)), (37, wc ((f2 jc) + (f2 jd))), (38, .pointer (some ⟨g1, jc, none⟩)), (10, .pointer (some ⟨g2, 0, none⟩)), (5, .pointer (some ⟨g1, 0, none⟩)), (1, .int .i64 ((ja : Nat) : Int)), (2, .int .i64 ((jb : Nat) : Int)), (3, .int .i64 ((jc : Nat) : Int)), (4, .int .i64 ((jd : Nat) : Int))] [(g2, 56, wv w0s), (g1, 56, wv (upd f2 jc ((f2 jc) + (f2 jd))))] := H
  replace H : St 88 w a W [(10, .pointer (some ⟨g2, 0, none⟩)), (5, .pointer (some ⟨g1, 0, none⟩)), (1, .int .i64 ((ja : Nat) : Int)), (2, .int .i64 ((jb : Nat) : Int)), (3, .int .i64 ((jc : Nat) : Int)), (4, .int .i64 ((jd : Nat) : Int))] [(g2, 56, wv w0s), (g1, 56, wv (upd f2 jc ((f2 jc) + (f2 jd))))] := H.pick [9, 10, 11, 12, 13, 14] [0, 1] rfl
  obtain ⟨f3, e3⟩ : ∃ g : Wd, g = (upd f2 jc ((f2 jc) + (f2 jd))) := ⟨_, rfl⟩
  rw [← e3] at H
  replace H : St 88 w a W [(10, .pointer (some ⟨g2, 0, none⟩)), (5, .pointer (some ⟨g1, 0, none⟩)), (1, .int .i64 ((ja : Nat) : Int)), (2, .int .i64 ((jb : Nat) : Int)), (3, .int .i64 ((jc : Nat) : Int)), (4, .int .i64 ((jd : Nat) : Int))] [(g2, 56, wv w0s), (g1, 56, wv f3)] := H
  refine hK4 _ _ ?_
  clear hK4
  refine wp_seq_k (fun K5 hK5 => ?_)
  refine drawnS [.val 39 (.int .i64 ((jb : Nat) : Int)) [] [], .val 40 (.int .i64 ((jb : Nat) : Int)) [] [], .val 41 (.pointer (some ⟨g1, jb, none⟩)) [1] [], .val 42 (wc (f3 jb)) [2] [1], .val 43 (.int .i64 ((jc : Nat) : Int)) [] [], .val 44 (.pointer (some ⟨g1, jc, none⟩)) [4] [], .val 45 (wc (f3 jc)) [5] [1], .val 46 (wc ((f3 jb) ^^^ (f3 jc))) [3, 6] [], .val 47 (wc (rolW ((f3 jb) ^^^ (f3 jc)) 12)) [7] [], .val 48 (.pointer (some ⟨g1, jb, none⟩)) [0] [], .sto 1 g1 56 (wv f3) (wv (upd f3 jb (rolW ((f3 jb) ^^^ (f3 jc)) 12))) [9, 8]] [0, 0, 2, 4, 0, 16, 32, 72, 128, 511, 1023] (by kernel_rfl) (by kernel_rfl) (by kernel_rfl) H ⟨⟨does_move rfl rfl, wanted_none rfl⟩, ⟨does_move rfl rfl, wanted_none rfl⟩, ⟨does_indexAddr rfl rfl rfl (ia_w16 (j := jb) hb), wanted_none rfl⟩, ⟨does_loadAt (v := wc (f3 jb)) rfl rfl (k := 0) rfl (ld_word hb), wanted_none rfl⟩, ⟨does_move rfl rfl, wanted_none rfl⟩, ⟨does_indexAddr rfl rfl rfl (ia_w16 (j := jc) hc), wanted_none rfl⟩, ⟨does_loadAt (v := wc (f3 jc)) rfl rfl (k := 0) rfl (ld_word hc), wanted_none rfl⟩, ⟨does_binOp rfl rfl rfl (w_xor _ _ _ _), wanted_none rfl⟩, ⟨does_call rfl ⟨_, Tryd.func48, by kernel_rfl⟩ rfl (fun W hb => turn_any _ _ (by decide) W), wanted_none rfl⟩, ⟨does_indexAddr rfl rfl rfl (ia_w16 (j := jb) hb), wanted_none rfl⟩, ⟨rfl, rfl, sto_at rfl rfl rfl (st_word hb) (sv_word rfl)⟩, trivial⟩ ?_
  try clear H a W
  intro G6 a W H
  replace H : St 88 w a W [(39, .int .i64 ((jb : Nat) : Int)), (40, .int .i64 ((jb : Nat) : Int)), (41, .pointer (some ⟨g1, jb, none⟩)), (42, wc (f3 jb)), (43, .int .i64 ((jc : Nat) : Int)), (44, .pointer (some ⟨g1, jc, none⟩)), (45, wc (f3 jc)), (46, wc ((f3 jb) ^^^ (f3 jc))), (47, wc (rolW ((f3 jb) ^^^ (f3 jc)) 12)), (48, .pointer (some ⟨g1, jb, none⟩)), (10, .pointer (some ⟨g2, 0, none⟩)), (5, .pointer (some ⟨g1, 0, none⟩)), (1, .int .i64 ((ja : Nat) : Int)), (2, .int .i64 ((jb : Nat) : Int)), (3, .int .i64 ((jc : Nat) : Int)), (4, .int .i64 ((jd : Nat) : Int))] [(g2, 56, wv w0s), (g1, 56, wv (upd f3 jb (rolW ((f3 jb) ^^^ (f3 jc)) 12)))] := H
  replace H : St 88 w a W [(10, .pointer (some ⟨g2, 0, none⟩)), (5, .pointer (some ⟨g1, 0, none⟩)), (1, .int .i64 ((ja : Nat) : Int)), (2, .int .i64 ((jb : Nat) : Int)), (3, .int .i64 ((jc : Nat) : Int)), (4, .int .i64 ((jd : Nat) : Int))] [(g2, 56, wv w0s), (g1, 56, wv (upd f3 jb (rolW ((f3 jb) ^^^ (f3 jc)) 12)))] := H.pick [10, 11, 12, 13, 14, 15] [0, 1] rfl
  obtain ⟨f4, e4⟩ : ∃ g : Wd, g = (upd f3 jb (rolW ((f3 jb) ^^^ (f3 jc)) 12)) := ⟨_, rfl⟩
  rw [← e4] at H
  have h4 : f4 = stepW f2 jc jd jb 12 := by rw [e4, e3]; rfl
  clear e4 e3
  replace H : St 88 w a W [(10, .pointer (some ⟨g2, 0, none⟩)), (5, .pointer (some ⟨g1, 0, none⟩)), (1, .int .i64 ((ja : Nat) : Int)), (2, .int .i64 ((jb : Nat) : Int)), (3, .int .i64 ((jc : Nat) : Int)), (4, .int .i64 ((jd : Nat) : Int))] [(g2, 56, wv w0s), (g1, 56, wv f4)] := H
  refine hK5 _ _ ?_
  clear hK5
  refine wp_seq_k (fun K6 hK6 => ?_)
  refine drawnS [.val 49 (.int .i64 ((ja : Nat) : Int)) [] [], .val 50 (.int .i64 ((ja : Nat) : Int)) [] [], .val 51 (.pointer (some ⟨g1, ja, none⟩)) [1] [], .val 52 (wc (f4 ja)) [2] [1], .val 53 (.int .i64 ((jb : Nat) : Int)) [] [], .val 54 (.pointer (some ⟨g1, jb, none⟩)) [4] [], .val 55 (wc (f4 jb)) [5] [1], .val 56 (wc ((f4 ja) + (f4 jb))) [3, 6] [], .val 57 (.pointer (some ⟨g1, ja, none⟩)) [0] [], .sto 1 g1 56 (wv f4) (wv (upd f4 ja ((f4 ja) + (f4 jb)))) [8, 7]] [0, 0, 2, 4, 0, 16, 32, 72, 255, 511] (by kernel_rfl) (by kernel_rfl) (by kernel_rfl) H ⟨⟨does_move rfl rfl, wanted_none rfl⟩, ⟨does_move rfl rfl, wanted_none rfl⟩, ⟨does_indexAddr rfl rfl rfl (ia_w16 (j := ja) ha), wanted_none rfl⟩, ⟨does_loadAt (v := wc (f4 ja)) rfl rfl (k := 0) rfl (ld_word ha), wanted_none rfl⟩, ⟨does_move rfl rfl, wanted_none rfl⟩, ⟨does_indexAddr rfl rfl rfl (ia_w16 (j := jb) hb), wanted_none rfl⟩, ⟨does_loadAt (v := wc (f4 jb)) rfl rfl (k := 0) rfl (ld_word hb), wanted_none rfl⟩, ⟨does_binOp rfl rfl rfl (w_add _ _ _ _), wanted_none rfl⟩, ⟨does_indexAddr rfl rfl rfl (ia_w16 (j := ja) ha), wanted_none rfl⟩, ⟨rfl, rfl, sto_at rfl rfl rfl (st_word ha) (sv_word rfl)⟩, trivial⟩ ?_
  try clear H a W
  intro G7 a W H
  replace H : St 88 w a W [(49, .int .i64 ((ja : Nat) : Int)), (50, .int .i64 ((ja : Nat) : Int)), (51, .pointer (some ⟨g1, ja, none⟩)), (52, wc (f4 ja)), (53, .int .i64 ((jb : Nat) : Int)), (54, .pointer (some ⟨g1, jb, none⟩)), (55, wc (f4 jb)), (56, wc ((f4 ja) + (f4 jb))), (57, .pointer (some ⟨g1, ja, none⟩)), (10, .pointer (some ⟨g2, 0, none⟩)), (5, .pointer (some ⟨g1, 0, none⟩)), (1, .int .i64 ((ja : Nat) : Int)), (2, .int .i64 ((jb : Nat) : Int)), (3, .int .i64 ((jc : Nat) : Int)), (4, .int .i64 ((jd : Nat) : Int))] [(g2, 56, wv w0s), (g1, 56, wv (upd f4 ja ((f4 ja) + (f4 jb))))] := H
  replace H : St 88 w a W [(10, .pointer (some ⟨g2, 0, none⟩)), (5, .pointer (some ⟨g1, 0, none⟩)), (1, .int .i64 ((ja : Nat) : Int)), (2, .int .i64 ((jb : Nat) : Int)), (3, .int .i64 ((jc : Nat) : Int)), (4, .int .i64 ((jd : Nat) : Int))] [(g2, 56, wv w0s), (g1, 56, wv (upd f4 ja ((f4 ja) + (f4 jb))))] := H.pick [9, 10, 11, 12, 13, 14] [0, 1] rfl
  obtain ⟨f5, e5⟩ : ∃ g : Wd, g = (upd f4 ja ((f4 ja) + (f4 jb))) := ⟨_, rfl⟩
  rw [← e5] at H
  replace H : St 88 w a W [(10, .pointer (some ⟨g2, 0, none⟩)), (5, .pointer (some ⟨g1, 0, none⟩)), (1, .int .i64 ((ja : Nat) : Int)), (2, .int .i64 ((jb : Nat) : Int)), (3, .int .i64 ((jc : Nat) : Int)), (4, .int .i64 ((jd : Nat) : Int))] [(g2, 56, wv w0s), (g1, 56, wv f5)] := H
  refine hK6 _ _ ?_
  clear hK6
  refine wp_seq_k (fun K7 hK7 => ?_)
  refine drawnS [.val 58 (.int .i64 ((jd : Nat) : Int)) [] [], .val 59 (.int .i64 ((jd : Nat) : Int)) [] [], .val 60 (.pointer (some ⟨g1, jd, none⟩)) [1] [], .val 61 (wc (f5 jd)) [2] [1], .val 62 (.int .i64 ((ja : Nat) : Int)) [] [], .val 63 (.pointer (some ⟨g1, ja, none⟩)) [4] [], .val 64 (wc (f5 ja)) [5] [1], .val 65 (wc ((f5 jd) ^^^ (f5 ja))) [3, 6] [], .val 66 (wc (rolW ((f5 jd) ^^^ (f5 ja)) 8)) [7] [], .val 67 (.pointer (some ⟨g1, jd, none⟩)) [0] [], .sto 1 g1 56 (wv f5) (wv (upd f5 jd (rolW ((f5 jd) ^^^ (f5 ja)) 8))) [9, 8]] [0, 0, 2, 4, 0, 16, 32, 72, 128, 511, 1023] (by kernel_rfl) (by kernel_rfl) (by kernel_rfl) H ⟨⟨does_move rfl rfl, wanted_none rfl⟩, ⟨does_move rfl rfl, wanted_none rfl⟩, ⟨does_indexAddr rfl rfl rfl (ia_w16 (j := jd) hd), wanted_none rfl⟩, ⟨does_loadAt (v := wc (f5 jd)) rfl rfl (k := 0) rfl (ld_word hd), wanted_none rfl⟩, ⟨does_move rfl rfl, wanted_none rfl⟩, ⟨does_indexAddr rfl rfl rfl (ia_w16 (j := ja) ha), wanted_none rfl⟩, ⟨does_loadAt (v := wc (f5 ja)) rfl rfl (k := 0) rfl (ld_word ha), wanted_none rfl⟩, ⟨does_binOp rfl rfl rfl (w_xor _ _ _ _), wanted_none rfl⟩, ⟨does_call rfl ⟨_, Tryd.func48, by kernel_rfl⟩ rfl (fun W hb => turn_any _ _ (by decide) W), wanted_none rfl⟩, ⟨does_indexAddr rfl rfl rfl (ia_w16 (j := jd) hd), wanted_none rfl⟩, ⟨rfl, rfl, sto_at rfl rfl rfl (st_word hd) (sv_word rfl)⟩, trivial⟩ ?_
  try clear H a W
  intro G8 a W H
  replace H : St 88 w a W [(58, .int .i64 ((jd : Nat) : Int)), (59, .int .i64 ((jd : Nat) : Int)), (60, .pointer (some ⟨g1, jd, none⟩)), (61, wc (f5 jd)), (62, .int .i64 ((ja : Nat) : Int)), (63, .pointer (some ⟨g1, ja, none⟩)), (64, wc (f5 ja)), (65, wc ((f5 jd) ^^^ (f5 ja))), (66, wc (rolW ((f5 jd) ^^^ (f5 ja)) 8)), (67, .pointer (some ⟨g1, jd, none⟩)), (10, .pointer (some ⟨g2, 0, none⟩)), (5, .pointer (some ⟨g1, 0, none⟩)), (1, .int .i64 ((ja : Nat) : Int)), (2, .int .i64 ((jb : Nat) : Int)), (3, .int .i64 ((jc : Nat) : Int)), (4, .int .i64 ((jd : Nat) : Int))] [(g2, 56, wv w0s), (g1, 56, wv (upd f5 jd (rolW ((f5 jd) ^^^ (f5 ja)) 8)))] := H
  replace H : St 88 w a W [(10, .pointer (some ⟨g2, 0, none⟩)), (5, .pointer (some ⟨g1, 0, none⟩)), (2, .int .i64 ((jb : Nat) : Int)), (3, .int .i64 ((jc : Nat) : Int)), (4, .int .i64 ((jd : Nat) : Int))] [(g2, 56, wv w0s), (g1, 56, wv (upd f5 jd (rolW ((f5 jd) ^^^ (f5 ja)) 8)))] := H.pick [10, 11, 13, 14, 15] [0, 1] rfl
  obtain ⟨f6, e6⟩ : ∃ g : Wd, g = (upd f5 jd (rolW ((f5 jd) ^^^ (f5 ja)) 8)) := ⟨_, rfl⟩
  rw [← e6] at H
  have h6 : f6 = stepW f4 ja jb jd 8 := by rw [e6, e5]; rfl
  clear e6 e5
  replace H : St 88 w a W [(10, .pointer (some ⟨g2, 0, none⟩)), (5, .pointer (some ⟨g1, 0, none⟩)), (2, .int .i64 ((jb : Nat) : Int)), (3, .int .i64 ((jc : Nat) : Int)), (4, .int .i64 ((jd : Nat) : Int))] [(g2, 56, wv w0s), (g1, 56, wv f6)] := H
  refine hK7 _ _ ?_
  clear hK7
  refine wp_seq_k (fun K8 hK8 => ?_)
  refine drawnS [.val 68 (.int .i64 ((jc : Nat) : Int)) [] [], .val 69 (.int .i64 ((jc : Nat) : Int)) [] [], .val 70 (.pointer (some ⟨g1, jc, none⟩)) [1] [], .val 71 (wc (f6 jc)) [2] [1], .val 72 (.int .i64 ((jd : Nat) : Int)) [] [], .val 73 (.pointer (some ⟨g1, jd, none⟩)) [4] [], .val 74 (wc (f6 jd)) [5] [1], .val 75 (wc ((f6 jc) + (f6 jd))) [3, 6] [], .val 76 (.pointer (some ⟨g1, jc, none⟩)) [0] [], .sto 1 g1 56 (wv f6) (wv (upd f6 jc ((f6 jc) + (f6 jd)))) [8, 7]] [0, 0, 2, 4, 0, 16, 32, 72, 255, 511] (by kernel_rfl) (by kernel_rfl) (by kernel_rfl) H ⟨⟨does_move rfl rfl, wanted_none rfl⟩, ⟨does_move rfl rfl, wanted_none rfl⟩, ⟨does_indexAddr rfl rfl rfl (ia_w16 (j := jc) hc), wanted_none rfl⟩, ⟨does_loadAt (v := wc (f6 jc)) rfl rfl (k := 0) rfl (ld_word hc), wanted_none rfl⟩, ⟨does_move rfl rfl, wanted_none rfl⟩, ⟨does_indexAddr rfl rfl rfl (ia_w16 (j := jd) hd), wanted_none rfl⟩, ⟨does_loadAt (v := wc (f6 jd)) rfl rfl (k := 0) rfl (ld_word hd), wanted_none rfl⟩, ⟨does_binOp rfl rfl rfl (w_add _ _ _ _), wanted_none rfl⟩, ⟨does_indexAddr rfl rfl rfl (ia_w16 (j := jc) hc), wanted_none rfl⟩, ⟨rfl, rfl, sto_at rfl rfl rfl (st_word hc) (sv_word rfl)⟩, trivial⟩ ?_
  try clear H a W
  intro G9 a W H
  replace H : St 88 w a W [(68, .int .i64 ((jc : Nat) : Int)), (69, .int .i64 ((jc : Nat) : Int)), (70, .pointer (some ⟨g1, jc, none⟩)), (71, wc (f6 jc)), (72, .int .i64 ((jd : Nat) : Int)), (73, .pointer (some ⟨g1, jd, none⟩)), (74, wc (f6 jd)), (75, wc ((f6 jc) + (f6 jd))), (76, .pointer (some ⟨g1, jc, none⟩)), (10, .pointer (some ⟨g2, 0, none⟩)), (5, .pointer (some ⟨g1, 0, none⟩)), (2, .int .i64 ((jb : Nat) : Int)), (3, .int .i64 ((jc : Nat) : Int)), (4, .int .i64 ((jd : Nat) : Int))] [(g2, 56, wv w0s), (g1, 56, wv (upd f6 jc ((f6 jc) + (f6 jd))))] := H
  replace H : St 88 w a W [(10, .pointer (some ⟨g2, 0, none⟩)), (5, .pointer (some ⟨g1, 0, none⟩)), (2, .int .i64 ((jb : Nat) : Int)), (3, .int .i64 ((jc : Nat) : Int))] [(g2, 56, wv w0s), (g1, 56, wv (upd f6 jc ((f6 jc) + (f6 jd))))] := H.pick [9, 10, 11, 12] [0, 1] rfl
  obtain ⟨f7, e7⟩ : ∃ g : Wd, g = (upd f6 jc ((f6 jc) + (f6 jd))) := ⟨_, rfl⟩
  rw [← e7] at H
  replace H : St 88 w a W [(10, .pointer (some ⟨g2, 0, none⟩)), (5, .pointer (some ⟨g1, 0, none⟩)), (2, .int .i64 ((jb : Nat) : Int)), (3, .int .i64 ((jc : Nat) : Int))] [(g2, 56, wv w0s), (g1, 56, wv f7)] := H
  refine hK8 _ _ ?_
  clear hK8
  refine wp_seq_k (fun K9 hK9 => ?_)
  refine drawnS [.val 77 (.int .i64 ((jb : Nat) : Int)) [] [], .val 78 (.int .i64 ((jb : Nat) : Int)) [] [], .val 79 (.pointer (some ⟨g1, jb, none⟩)) [1] [], .val 80 (wc (f7 jb)) [2] [1], .val 81 (.int .i64 ((jc : Nat) : Int)) [] [], .val 82 (.pointer (some ⟨g1, jc, none⟩)) [4] [], .val 83 (wc (f7 jc)) [5] [1], .val 84 (wc ((f7 jb) ^^^ (f7 jc))) [3, 6] [], .val 85 (wc (rolW ((f7 jb) ^^^ (f7 jc)) 7)) [7] [], .val 86 (.pointer (some ⟨g1, jb, none⟩)) [0] [], .sto 1 g1 56 (wv f7) (wv (upd f7 jb (rolW ((f7 jb) ^^^ (f7 jc)) 7))) [9, 8]] [0, 0, 2, 4, 0, 16, 32, 72, 128, 511, 1023] (by kernel_rfl) (by kernel_rfl) (by kernel_rfl) H ⟨⟨does_move rfl rfl, wanted_none rfl⟩, ⟨does_move rfl rfl, wanted_none rfl⟩, ⟨does_indexAddr rfl rfl rfl (ia_w16 (j := jb) hb), wanted_none rfl⟩, ⟨does_loadAt (v := wc (f7 jb)) rfl rfl (k := 0) rfl (ld_word hb), wanted_none rfl⟩, ⟨does_move rfl rfl, wanted_none rfl⟩, ⟨does_indexAddr rfl rfl rfl (ia_w16 (j := jc) hc), wanted_none rfl⟩, ⟨does_loadAt (v := wc (f7 jc)) rfl rfl (k := 0) rfl (ld_word hc), wanted_none rfl⟩, ⟨does_binOp rfl rfl rfl (w_xor _ _ _ _), wanted_none rfl⟩, ⟨does_call rfl ⟨_, Tryd.func48, by kernel_rfl⟩ rfl (fun W hb => turn_any _ _ (by decide) W), wanted_none rfl⟩, ⟨does_indexAddr rfl rfl rfl (ia_w16 (j := jb) hb), wanted_none rfl⟩, ⟨rfl, rfl, sto_at rfl rfl rfl (st_word hb) (sv_word rfl)⟩, trivial⟩ ?_
  try clear H a W
  intro G10 a W H
  replace H : St 88 w a W [(77, .int .i64 ((jb : Nat) : Int)), (78, .int .i64 ((jb : Nat) : Int)), (79, .pointer (some ⟨g1, jb, none⟩)), (80, wc (f7 jb)), (81, .int .i64 ((jc : Nat) : Int)), (82, .pointer (some ⟨g1, jc, none⟩)), (83, wc (f7 jc)), (84, wc ((f7 jb) ^^^ (f7 jc))), (85, wc (rolW ((f7 jb) ^^^ (f7 jc)) 7)), (86, .pointer (some ⟨g1, jb, none⟩)), (10, .pointer (some ⟨g2, 0, none⟩)), (5, .pointer (some ⟨g1, 0, none⟩)), (2, .int .i64 ((jb : Nat) : Int)), (3, .int .i64 ((jc : Nat) : Int))] [(g2, 56, wv w0s), (g1, 56, wv (upd f7 jb (rolW ((f7 jb) ^^^ (f7 jc)) 7)))] := H
  replace H : St 88 w a W [(10, .pointer (some ⟨g2, 0, none⟩)), (5, .pointer (some ⟨g1, 0, none⟩))] [(g2, 56, wv w0s), (g1, 56, wv (upd f7 jb (rolW ((f7 jb) ^^^ (f7 jc)) 7)))] := H.pick [10, 11] [0, 1] rfl
  obtain ⟨f8, e8⟩ : ∃ g : Wd, g = (upd f7 jb (rolW ((f7 jb) ^^^ (f7 jc)) 7)) := ⟨_, rfl⟩
  rw [← e8] at H
  have h8 : f8 = stepW f6 jc jd jb 7 := by rw [e8, e7]; rfl
  clear e8 e7
  replace H : St 88 w a W [(10, .pointer (some ⟨g2, 0, none⟩)), (5, .pointer (some ⟨g1, 0, none⟩))] [(g2, 56, wv w0s), (g1, 56, wv f8)] := H
  refine hK9 _ _ ?_
  clear hK9
  refine wp_seq_k (fun K10 hK10 => ?_)
  refine rg_plain ?_
  refine pl_does (does_load rfl rfl (k := 1) rfl Tryd.underlying56 rfl (info_w16 _)) rfl rfl rfl rfl H ?_
  try clear H a W
  intro a W H
  refine pl_store rfl rfl rfl (k := 0) rfl (info_w16 _) (size_wv _ _) (wv_one _) rfl rfl H ?_
  try clear H a W
  intro a W H
  refine pl_end ?_
  replace H : St 88 w a W [(10, .pointer (some ⟨g2, 0, none⟩))] [(g2, 56, wv f8), (g1, 56, wv f8)] := H.pick [1] [0, 1] rfl
  refine hK10 _ _ ?_
  clear hK10
  refine wp_ret ?_
  repeat (first | (with_reducible refine then_ret ?_) | (with_reducible refine blk_ret ?_))
  refine end_cell (p := 10) rfl rfl (k := 0) rfl Tryd.underlying56 rfl (info_w16 _) H (fun hb => ?_)
  exact ⟨by rw [h8, h6, h4, h2]; rfl, hb⟩
set_option maxHeartbeats 4000000 in
theorem rblock_any (kk : Nat → UInt8) (c : UInt32) (nn : Nat → UInt8) (w : World) : Calls Tryd.prog 24 #[.agg (bvs (rb 32 kk)), wc c, .agg (bvs (rb 12 nn))] w (fun rr w' => rr = .returned (.agg (bvs (rb 64 (blockF kk c nn)))) ∧ Below w.heap.size w w') := by
  refine calls_st (vs := [.agg (bvs (rb 32 kk)), wc c, .agg (bvs (rb 12 nn))]) 98 Tryd.func24 rfl Tryd.ntmps24 rfl (fun a W H => ?_)
  replace H : St 98 w a W [(0, .agg (bvs (rb 32 kk))), (1, wc c), (2, .agg (bvs (rb 12 nn)))] [] := H
  refine wp_seq_k (fun K1 hK1 => ?_)
  refine rg_plain ?_
  refine pl_box rfl rfl (bx_key kk) rfl rfl rfl rfl H ?_
  try clear H a W
  intro g1 a W H
  refine pl_box rfl rfl (bx_nonce nn) rfl rfl rfl rfl H ?_
  try clear H a W
  intro g2 a W H
  refine pl_new (news_of rfl al_long) rfl rfl rfl rfl H ?_
  try clear H a W
  intro g3 a W H
  refine pl_end ?_
  replace H : St 98 w a W [(6, .pointer (some ⟨g3, 0, none⟩)), (5, .pointer (some ⟨g2, 0, none⟩)), (3, .pointer (some ⟨g1, 0, none⟩)), (1, wc c)] [(g3, 49, bvs (rb 64 b0s)), (g2, 27, bvs (rb 12 nn)), (g1, 23, bvs (rb 32 kk))] := H.pick [0, 1, 2, 4] [0, 1, 2] rfl
  refine hK1 _ _ ?_
  clear hK1
  refine wp_seq_k (fun K2 hK2 => ?_)
  refine rg_plain ?_
  refine pl_new (news_of rfl al_w16) rfl rfl rfl rfl H ?_
  try clear H a W
  intro g4 a W H
  refine pl_end ?_
  refine hK2 _ _ ?_
  clear hK2
  refine wp_seq_k (fun K3 hK3 => ?_)
  refine rg_plain ?_
  refine pl_does (does_assign rfl rfl) rfl rfl rfl rfl H ?_
  try clear H a W
  intro a W H
  refine pl_end ?_
  refine hK3 _ _ ?_
  clear hK3
  refine wp_seq_k (fun K4 hK4 => ?_)
  refine rg_plain ?_
  refine pl_does (does_assign rfl rfl) rfl rfl rfl rfl H ?_
  try clear H a W
  intro a W H
  refine pl_end ?_
  refine hK4 _ _ ?_
  clear hK4
  refine wp_seq_k (fun K5 hK5 => ?_)
  refine drawnR SB SB [⟨15, fun u_ _ => u_ = .slice none 0 0, [], none, false⟩, ⟨16, fun u_ _ => u_ = .string { data := #[101, 120, 112, 97, 110, 100, 32, 51, 50, 45, 98, 121, 116, 101, 32, 107] }, [], none, false⟩, ⟨17, OF w.heap.size [(g4, 56, wv w0s), (g3, 49, bvs (rb 64 b0s)), (g2, 27, bvs (rb 12 nn)), (g1, 23, bvs (rb 32 kk))] textB, [0, 1], none, false⟩, ⟨18, fun u_ _ => u_ = .slice (some ⟨g1, 0, none⟩) 32 32, [], none, false⟩] [0, 0, 3, 0, 12, 31] [2, 3] sb_st sb_st (by kernel_rfl) (by kernel_rfl) (by kernel_rfl) H ⟨⟨fun a W  H => by exact ob_valS H (wanted_none rfl) (does_move rfl rfl), val_grow, fun _ => val_grow⟩, ⟨fun a W  H => by exact ob_valS H (wanted_none rfl) (does_move rfl rfl), val_grow, fun _ => val_grow⟩, ⟨fun a W y0 hy0 y1 hy1 H => by subst hy0; subst hy1; exact ob_appStrS H (wanted_none rfl) rfl rfl rfl rfl (by decide), OF.sb, fun _ => OF.sb⟩, ⟨fun a W  H => by exact ob_valS H (wanted_none rfl) (does_slice rfl rfl (vl := none) (vh := none) rfl rfl (sl_key g1)), val_grow, fun _ => val_grow⟩, trivial⟩ (by kernel_rfl) ?_
  try clear H a W
  intro a W
  intro v17 hv17
  rintro _ rfl
  intro H
  replace H : St 98 w a W [(18, .slice (some ⟨g1, 0, none⟩) 32 32), (17, v17), (9, .slice none 0 0), (8, .string { data := #[101, 120, 112, 97, 110, 100, 32, 51, 50, 45, 98, 121, 116, 101, 32, 107] }), (7, .pointer (some ⟨g4, 0, none⟩)), (6, .pointer (some ⟨g3, 0, none⟩)), (5, .pointer (some ⟨g2, 0, none⟩)), (3, .pointer (some ⟨g1, 0, none⟩)), (1, wc c)] [(g4, 56, wv w0s), (g3, 49, bvs (rb 64 b0s)), (g2, 27, bvs (rb 12 nn)), (g1, 23, bvs (rb 32 kk))] := H
  refine pl_R (R := (WR w.heap.size [(g4, 56, wv w0s), (g3, 49, bvs (rb 64 b0s)), (g2, 27, bvs (rb 12 nn)), (g1, 23, bvs (rb 32 kk))])) (F := OF w.heap.size [(g4, 56, wv w0s), (g3, 49, bvs (rb 64 b0s)), (g2, 27, bvs (rb 12 nn)), (g1, 23, bvs (rb 32 kk))] (textB ++ (rb 32 kk))) wr_st (ob_appW H (wanted_none rfl) rfl rfl rfl hv17 (sl_keyBF (H.blk (k := 3) rfl)) (by simp only [List.length_append, rb_len, List.length_cons, List.length_nil, textB]; omega)) rfl rfl rfl H ?_
  try clear H a
  intro v19 a W hv19 hR_ H
  clear hR_
  replace H : St 98 w a W [(19, v19), (18, .slice (some ⟨g1, 0, none⟩) 32 32), (17, v17), (9, .slice none 0 0), (8, .string { data := #[101, 120, 112, 97, 110, 100, 32, 51, 50, 45, 98, 121, 116, 101, 32, 107] }), (7, .pointer (some ⟨g4, 0, none⟩)), (6, .pointer (some ⟨g3, 0, none⟩)), (5, .pointer (some ⟨g2, 0, none⟩)), (3, .pointer (some ⟨g1, 0, none⟩)), (1, wc c)] [(g4, 56, wv w0s), (g3, 49, bvs (rb 64 b0s)), (g2, 27, bvs (rb 12 nn)), (g1, 23, bvs (rb 32 kk))] := H
  replace H : St 98 w a W [(19, v19), (18, .slice (some ⟨g1, 0, none⟩) 32 32), (17, v17), (8, .string { data := #[101, 120, 112, 97, 110, 100, 32, 51, 50, 45, 98, 121, 116, 101, 32, 107] }), (7, .pointer (some ⟨g4, 0, none⟩)), (6, .pointer (some ⟨g3, 0, none⟩)), (5, .pointer (some ⟨g2, 0, none⟩)), (3, .pointer (some ⟨g1, 0, none⟩)), (1, wc c)] [(g4, 56, wv w0s), (g3, 49, bvs (rb 64 b0s)), (g2, 27, bvs (rb 12 nn)), (g1, 23, bvs (rb 32 kk))] := H.pick [0, 1, 2, 4, 5, 6, 7, 8, 9] [0, 1, 2, 3] rfl
  refine pl_R (R := SB) (F := OF w.heap.size [(g4, 56, wv w0s), (g3, 49, bvs (rb 64 b0s)), (g2, 27, bvs (rb 12 nn)), (g1, 23, bvs (rb 32 kk))] (textB ++ (rb 32 kk))) sb_st (ob_assignS H (wanted_none rfl) rfl rfl hv19) rfl rfl rfl H ?_
  try clear H a
  intro v9 a W hv9 hR_ H
  replace hv19 := OF.sb _ _ _ hv19 hR_
  clear hR_
  replace H : St 98 w a W [(9, v9), (19, v19), (18, .slice (some ⟨g1, 0, none⟩) 32 32), (17, v17), (8, .string { data := #[101, 120, 112, 97, 110, 100, 32, 51, 50, 45, 98, 121, 116, 101, 32, 107] }), (7, .pointer (some ⟨g4, 0, none⟩)), (6, .pointer (some ⟨g3, 0, none⟩)), (5, .pointer (some ⟨g2, 0, none⟩)), (3, .pointer (some ⟨g1, 0, none⟩)), (1, wc c)] [(g4, 56, wv w0s), (g3, 49, bvs (rb 64 b0s)), (g2, 27, bvs (rb 12 nn)), (g1, 23, bvs (rb 32 kk))] := H
  refine pl_end ?_
  replace H : St 98 w a W [(9, v9), (7, .pointer (some ⟨g4, 0, none⟩)), (6, .pointer (some ⟨g3, 0, none⟩)), (5, .pointer (some ⟨g2, 0, none⟩)), (1, wc c)] [(g4, 56, wv w0s), (g3, 49, bvs (rb 64 b0s)), (g2, 27, bvs (rb 12 nn)), (g1, 23, bvs (rb 32 kk))] := H.pick [0, 5, 6, 7, 9] [0, 1, 2, 3] rfl
  refine hK5 _ _ ?_
  clear hK5
  refine wp_seq_k (fun K6 hK6 => ?_)
  refine rg_plain ?_
  refine pl_R (R := SB) (F := OF w.heap.size [(g4, 56, wv w0s), (g3, 49, bvs (rb 64 b0s)), (g2, 27, bvs (rb 12 nn)), (g1, 23, bvs (rb 32 kk))] (textB ++ (rb 32 kk))) sb_st (ob_moveS H (wanted_none rfl) rfl rfl hv9) rfl rfl rfl H ?_
  try clear H a
  intro v20 a W hv20 hR_ H
  replace hv9 := OF.sb _ _ _ hv9 hR_
  clear hR_
  replace H : St 98 w a W [(20, v20), (9, v9), (7, .pointer (some ⟨g4, 0, none⟩)), (6, .pointer (some ⟨g3, 0, none⟩)), (5, .pointer (some ⟨g2, 0, none⟩)), (1, wc c)] [(g4, 56, wv w0s), (g3, 49, bvs (rb 64 b0s)), (g2, 27, bvs (rb 12 nn)), (g1, 23, bvs (rb 32 kk))] := H
  refine pl_R (R := SB) (F := fun u_ _ => u_ = wc c) sb_st (ob_valS H (wanted_none rfl) (does_move rfl rfl)) rfl rfl rfl H ?_
  try clear H a
  rintro _ a W rfl hR_ H
  replace hv20 := OF.sb _ _ _ hv20 hR_
  replace hv9 := OF.sb _ _ _ hv9 hR_
  clear hR_
  replace H : St 98 w a W [(21, wc c), (20, v20), (9, v9), (7, .pointer (some ⟨g4, 0, none⟩)), (6, .pointer (some ⟨g3, 0, none⟩)), (5, .pointer (some ⟨g2, 0, none⟩)), (1, wc c)] [(g4, 56, wv w0s), (g3, 49, bvs (rb 64 b0s)), (g2, 27, bvs (rb 12 nn)), (g1, 23, bvs (rb 32 kk))] := H
  refine pl_R (R := SB) (F := fun u_ _ => u_ = bv (lowB (c))) sb_st (ob_valS H (wanted_none rfl) (does_convert rfl rfl (cv_wb _))) rfl rfl rfl H ?_
  try clear H a
  rintro _ a W rfl hR_ H
  replace hv20 := OF.sb _ _ _ hv20 hR_
  replace hv9 := OF.sb _ _ _ hv9 hR_
  clear hR_
  replace H : St 98 w a W [(22, bv (lowB (c))), (21, wc c), (20, v20), (9, v9), (7, .pointer (some ⟨g4, 0, none⟩)), (6, .pointer (some ⟨g3, 0, none⟩)), (5, .pointer (some ⟨g2, 0, none⟩)), (1, wc c)] [(g4, 56, wv w0s), (g3, 49, bvs (rb 64 b0s)), (g2, 27, bvs (rb 12 nn)), (g1, 23, bvs (rb 32 kk))] := H
  refine pl_R (R := SB) (F := fun u_ _ => u_ = wc c) sb_st (ob_valS H (wanted_none rfl) (does_move rfl rfl)) rfl rfl rfl H ?_
  try clear H a
  rintro _ a W rfl hR_ H
  replace hv20 := OF.sb _ _ _ hv20 hR_
  replace hv9 := OF.sb _ _ _ hv9 hR_
  clear hR_
  replace H : St 98 w a W [(23, wc c), (22, bv (lowB (c))), (21, wc c), (20, v20), (9, v9), (7, .pointer (some ⟨g4, 0, none⟩)), (6, .pointer (some ⟨g3, 0, none⟩)), (5, .pointer (some ⟨g2, 0, none⟩)), (1, wc c)] [(g4, 56, wv w0s), (g3, 49, bvs (rb 64 b0s)), (g2, 27, bvs (rb 12 nn)), (g1, 23, bvs (rb 32 kk))] := H
  refine pl_R (R := SB) (F := fun u_ _ => u_ = wc (shrW c 8)) sb_st (ob_valS H (wanted_none rfl) (does_binOp rfl rfl rfl (w_shru (s := 8) (by omega) _ _))) rfl rfl rfl H ?_
  try clear H a
  rintro _ a W rfl hR_ H
  replace hv20 := OF.sb _ _ _ hv20 hR_
  replace hv9 := OF.sb _ _ _ hv9 hR_
  clear hR_
  replace H : St 98 w a W [(24, wc (shrW c 8)), (23, wc c), (22, bv (lowB (c))), (21, wc c), (20, v20), (9, v9), (7, .pointer (some ⟨g4, 0, none⟩)), (6, .pointer (some ⟨g3, 0, none⟩)), (5, .pointer (some ⟨g2, 0, none⟩)), (1, wc c)] [(g4, 56, wv w0s), (g3, 49, bvs (rb 64 b0s)), (g2, 27, bvs (rb 12 nn)), (g1, 23, bvs (rb 32 kk))] := H
  refine pl_R (R := SB) (F := fun u_ _ => u_ = bv (lowB (shrW c 8))) sb_st (ob_valS H (wanted_none rfl) (does_convert rfl rfl (cv_wb _))) rfl rfl rfl H ?_
  try clear H a
  rintro _ a W rfl hR_ H
  replace hv20 := OF.sb _ _ _ hv20 hR_
  replace hv9 := OF.sb _ _ _ hv9 hR_
  clear hR_
  replace H : St 98 w a W [(25, bv (lowB (shrW c 8))), (24, wc (shrW c 8)), (23, wc c), (22, bv (lowB (c))), (21, wc c), (20, v20), (9, v9), (7, .pointer (some ⟨g4, 0, none⟩)), (6, .pointer (some ⟨g3, 0, none⟩)), (5, .pointer (some ⟨g2, 0, none⟩)), (1, wc c)] [(g4, 56, wv w0s), (g3, 49, bvs (rb 64 b0s)), (g2, 27, bvs (rb 12 nn)), (g1, 23, bvs (rb 32 kk))] := H
  refine pl_R (R := SB) (F := fun u_ _ => u_ = wc c) sb_st (ob_valS H (wanted_none rfl) (does_move rfl rfl)) rfl rfl rfl H ?_
  try clear H a
  rintro _ a W rfl hR_ H
  replace hv20 := OF.sb _ _ _ hv20 hR_
  replace hv9 := OF.sb _ _ _ hv9 hR_
  clear hR_
  replace H : St 98 w a W [(26, wc c), (25, bv (lowB (shrW c 8))), (24, wc (shrW c 8)), (23, wc c), (22, bv (lowB (c))), (21, wc c), (20, v20), (9, v9), (7, .pointer (some ⟨g4, 0, none⟩)), (6, .pointer (some ⟨g3, 0, none⟩)), (5, .pointer (some ⟨g2, 0, none⟩)), (1, wc c)] [(g4, 56, wv w0s), (g3, 49, bvs (rb 64 b0s)), (g2, 27, bvs (rb 12 nn)), (g1, 23, bvs (rb 32 kk))] := H
  refine pl_R (R := SB) (F := fun u_ _ => u_ = wc (shrW c 16)) sb_st (ob_valS H (wanted_none rfl) (does_binOp rfl rfl rfl (w_shru (s := 16) (by omega) _ _))) rfl rfl rfl H ?_
  try clear H a
  rintro _ a W rfl hR_ H
  replace hv20 := OF.sb _ _ _ hv20 hR_
  replace hv9 := OF.sb _ _ _ hv9 hR_
  clear hR_
  replace H : St 98 w a W [(27, wc (shrW c 16)), (26, wc c), (25, bv (lowB (shrW c 8))), (24, wc (shrW c 8)), (23, wc c), (22, bv (lowB (c))), (21, wc c), (20, v20), (9, v9), (7, .pointer (some ⟨g4, 0, none⟩)), (6, .pointer (some ⟨g3, 0, none⟩)), (5, .pointer (some ⟨g2, 0, none⟩)), (1, wc c)] [(g4, 56, wv w0s), (g3, 49, bvs (rb 64 b0s)), (g2, 27, bvs (rb 12 nn)), (g1, 23, bvs (rb 32 kk))] := H
  refine pl_R (R := SB) (F := fun u_ _ => u_ = bv (lowB (shrW c 16))) sb_st (ob_valS H (wanted_none rfl) (does_convert rfl rfl (cv_wb _))) rfl rfl rfl H ?_
  try clear H a
  rintro _ a W rfl hR_ H
  replace hv20 := OF.sb _ _ _ hv20 hR_
  replace hv9 := OF.sb _ _ _ hv9 hR_
  clear hR_
  replace H : St 98 w a W [(28, bv (lowB (shrW c 16))), (27, wc (shrW c 16)), (26, wc c), (25, bv (lowB (shrW c 8))), (24, wc (shrW c 8)), (23, wc c), (22, bv (lowB (c))), (21, wc c), (20, v20), (9, v9), (7, .pointer (some ⟨g4, 0, none⟩)), (6, .pointer (some ⟨g3, 0, none⟩)), (5, .pointer (some ⟨g2, 0, none⟩)), (1, wc c)] [(g4, 56, wv w0s), (g3, 49, bvs (rb 64 b0s)), (g2, 27, bvs (rb 12 nn)), (g1, 23, bvs (rb 32 kk))] := H
  refine pl_R (R := SB) (F := fun u_ _ => u_ = wc c) sb_st (ob_valS H (wanted_none rfl) (does_move rfl rfl)) rfl rfl rfl H ?_
  try clear H a
  rintro _ a W rfl hR_ H
  replace hv20 := OF.sb _ _ _ hv20 hR_
  replace hv9 := OF.sb _ _ _ hv9 hR_
  clear hR_
  replace H : St 98 w a W [(29, wc c), (28, bv (lowB (shrW c 16))), (27, wc (shrW c 16)), (26, wc c), (25, bv (lowB (shrW c 8))), (24, wc (shrW c 8)), (23, wc c), (22, bv (lowB (c))), (21, wc c), (20, v20), (9, v9), (7, .pointer (some ⟨g4, 0, none⟩)), (6, .pointer (some ⟨g3, 0, none⟩)), (5, .pointer (some ⟨g2, 0, none⟩)), (1, wc c)] [(g4, 56, wv w0s), (g3, 49, bvs (rb 64 b0s)), (g2, 27, bvs (rb 12 nn)), (g1, 23, bvs (rb 32 kk))] := H
  refine pl_R (R := SB) (F := fun u_ _ => u_ = wc (shrW c 24)) sb_st (ob_valS H (wanted_none rfl) (does_binOp rfl rfl rfl (w_shru (s := 24) (by omega) _ _))) rfl rfl rfl H ?_
  try clear H a
  rintro _ a W rfl hR_ H
  replace hv20 := OF.sb _ _ _ hv20 hR_
  replace hv9 := OF.sb _ _ _ hv9 hR_
  clear hR_
  replace H : St 98 w a W [(30, wc (shrW c 24)), (29, wc c), (28, bv (lowB (shrW c 16))), (27, wc (shrW c 16)), (26, wc c), (25, bv (lowB (shrW c 8))), (24, wc (shrW c 8)), (23, wc c), (22, bv (lowB (c))), (21, wc c), (20, v20), (9, v9), (7, .pointer (some ⟨g4, 0, none⟩)), (6, .pointer (some ⟨g3, 0, none⟩)), (5, .pointer (some ⟨g2, 0, none⟩)), (1, wc c)] [(g4, 56, wv w0s), (g3, 49, bvs (rb 64 b0s)), (g2, 27, bvs (rb 12 nn)), (g1, 23, bvs (rb 32 kk))] := H
  refine pl_R (R := SB) (F := fun u_ _ => u_ = bv (lowB (shrW c 24))) sb_st (ob_valS H (wanted_none rfl) (does_convert rfl rfl (cv_wb _))) rfl rfl rfl H ?_
  try clear H a
  rintro _ a W rfl hR_ H
  replace hv20 := OF.sb _ _ _ hv20 hR_
  replace hv9 := OF.sb _ _ _ hv9 hR_
  clear hR_
  replace H : St 98 w a W [(31, bv (lowB (shrW c 24))), (30, wc (shrW c 24)), (29, wc c), (28, bv (lowB (shrW c 16))), (27, wc (shrW c 16)), (26, wc c), (25, bv (lowB (shrW c 8))), (24, wc (shrW c 8)), (23, wc c), (22, bv (lowB (c))), (21, wc c), (20, v20), (9, v9), (7, .pointer (some ⟨g4, 0, none⟩)), (6, .pointer (some ⟨g3, 0, none⟩)), (5, .pointer (some ⟨g2, 0, none⟩)), (1, wc c)] [(g4, 56, wv w0s), (g3, 49, bvs (rb 64 b0s)), (g2, 27, bvs (rb 12 nn)), (g1, 23, bvs (rb 32 kk))] := H
  refine pl_R (R := SB) (F := BF [lowB (c), lowB (shrW c 8), lowB (shrW c 16), lowB (shrW c 24)]) sb_st (ob_bytes4S H (wanted_none rfl) rfl rfl rfl rfl rfl ) rfl rfl rfl H ?_
  try clear H a
  intro v32 a W hv32 hR_ H
  replace hv20 := OF.sb _ _ _ hv20 hR_
  replace hv9 := OF.sb _ _ _ hv9 hR_
  clear hR_
  replace H : St 98 w a W [(32, v32), (31, bv (lowB (shrW c 24))), (30, wc (shrW c 24)), (29, wc c), (28, bv (lowB (shrW c 16))), (27, wc (shrW c 16)), (26, wc c), (25, bv (lowB (shrW c 8))), (24, wc (shrW c 8)), (23, wc c), (22, bv (lowB (c))), (21, wc c), (20, v20), (9, v9), (7, .pointer (some ⟨g4, 0, none⟩)), (6, .pointer (some ⟨g3, 0, none⟩)), (5, .pointer (some ⟨g2, 0, none⟩)), (1, wc c)] [(g4, 56, wv w0s), (g3, 49, bvs (rb 64 b0s)), (g2, 27, bvs (rb 12 nn)), (g1, 23, bvs (rb 32 kk))] := H
  refine pl_R (R := (WR w.heap.size [(g4, 56, wv w0s), (g3, 49, bvs (rb 64 b0s)), (g2, 27, bvs (rb 12 nn)), (g1, 23, bvs (rb 32 kk))])) (F := OF w.heap.size [(g4, 56, wv w0s), (g3, 49, bvs (rb 64 b0s)), (g2, 27, bvs (rb 12 nn)), (g1, 23, bvs (rb 32 kk))] ((textB ++ (rb 32 kk)) ++ [lowB (c), lowB (shrW c 8), lowB (shrW c 16), lowB (shrW c 24)])) wr_st (ob_appW H (wanted_none rfl) rfl rfl rfl hv20 hv32 (by simp only [List.length_append, rb_len, List.length_cons, List.length_nil, textB]; omega)) rfl rfl rfl H ?_
  try clear H a
  intro v33 a W hv33 hR_ H
  clear hR_
  replace H : St 98 w a W [(33, v33), (32, v32), (31, bv (lowB (shrW c 24))), (30, wc (shrW c 24)), (29, wc c), (28, bv (lowB (shrW c 16))), (27, wc (shrW c 16)), (26, wc c), (25, bv (lowB (shrW c 8))), (24, wc (shrW c 8)), (23, wc c), (22, bv (lowB (c))), (21, wc c), (20, v20), (9, v9), (7, .pointer (some ⟨g4, 0, none⟩)), (6, .pointer (some ⟨g3, 0, none⟩)), (5, .pointer (some ⟨g2, 0, none⟩)), (1, wc c)] [(g4, 56, wv w0s), (g3, 49, bvs (rb 64 b0s)), (g2, 27, bvs (rb 12 nn)), (g1, 23, bvs (rb 32 kk))] := H
  replace H : St 98 w a W [(33, v33), (32, v32), (31, bv (lowB (shrW c 24))), (30, wc (shrW c 24)), (29, wc c), (28, bv (lowB (shrW c 16))), (27, wc (shrW c 16)), (26, wc c), (25, bv (lowB (shrW c 8))), (24, wc (shrW c 8)), (23, wc c), (22, bv (lowB (c))), (21, wc c), (20, v20), (7, .pointer (some ⟨g4, 0, none⟩)), (6, .pointer (some ⟨g3, 0, none⟩)), (5, .pointer (some ⟨g2, 0, none⟩)), (1, wc c)] [(g4, 56, wv w0s), (g3, 49, bvs (rb 64 b0s)), (g2, 27, bvs (rb 12 nn)), (g1, 23, bvs (rb 32 kk))] := H.pick [0, 1, 2, 3, 4, 5, 6, 7, 8, 9, 10, 11, 12, 13, 15, 16, 17, 18] [0, 1, 2, 3] rfl
  refine pl_R (R := SB) (F := OF w.heap.size [(g4, 56, wv w0s), (g3, 49, bvs (rb 64 b0s)), (g2, 27, bvs (rb 12 nn)), (g1, 23, bvs (rb 32 kk))] ((textB ++ (rb 32 kk)) ++ [lowB (c), lowB (shrW c 8), lowB (shrW c 16), lowB (shrW c 24)])) sb_st (ob_assignS H (wanted_none rfl) rfl rfl hv33) rfl rfl rfl H ?_
  try clear H a
  intro v9 a W hv9 hR_ H
  replace hv33 := OF.sb _ _ _ hv33 hR_
  clear hR_
  replace H : St 98 w a W [(9, v9), (33, v33), (32, v32), (31, bv (lowB (shrW c 24))), (30, wc (shrW c 24)), (29, wc c), (28, bv (lowB (shrW c 16))), (27, wc (shrW c 16)), (26, wc c), (25, bv (lowB (shrW c 8))), (24, wc (shrW c 8)), (23, wc c), (22, bv (lowB (c))), (21, wc c), (20, v20), (7, .pointer (some ⟨g4, 0, none⟩)), (6, .pointer (some ⟨g3, 0, none⟩)), (5, .pointer (some ⟨g2, 0, none⟩)), (1, wc c)] [(g4, 56, wv w0s), (g3, 49, bvs (rb 64 b0s)), (g2, 27, bvs (rb 12 nn)), (g1, 23, bvs (rb 32 kk))] := H
  refine pl_end ?_
  replace H : St 98 w a W [(9, v9), (7, .pointer (some ⟨g4, 0, none⟩)), (6, .pointer (some ⟨g3, 0, none⟩)), (5, .pointer (some ⟨g2, 0, none⟩))] [(g4, 56, wv w0s), (g3, 49, bvs (rb 64 b0s)), (g2, 27, bvs (rb 12 nn)), (g1, 23, bvs (rb 32 kk))] := H.pick [0, 15, 16, 17] [0, 1, 2, 3] rfl
  refine hK6 _ _ ?_
  clear hK6
  refine wp_seq_k (fun K7 hK7 => ?_)
  refine rg_plain ?_
  refine pl_R (R := SB) (F := OF w.heap.size [(g4, 56, wv w0s), (g3, 49, bvs (rb 64 b0s)), (g2, 27, bvs (rb 12 nn)), (g1, 23, bvs (rb 32 kk))] ((textB ++ (rb 32 kk)) ++ [lowB (c), lowB (shrW c 8), lowB (shrW c 16), lowB (shrW c 24)])) sb_st (ob_moveS H (wanted_none rfl) rfl rfl hv9) rfl rfl rfl H ?_
  try clear H a
  intro v34 a W hv34 hR_ H
  replace hv9 := OF.sb _ _ _ hv9 hR_
  clear hR_
  replace H : St 98 w a W [(34, v34), (9, v9), (7, .pointer (some ⟨g4, 0, none⟩)), (6, .pointer (some ⟨g3, 0, none⟩)), (5, .pointer (some ⟨g2, 0, none⟩))] [(g4, 56, wv w0s), (g3, 49, bvs (rb 64 b0s)), (g2, 27, bvs (rb 12 nn)), (g1, 23, bvs (rb 32 kk))] := H
  refine pl_R (R := SB) (F := fun u_ _ => u_ = .slice (some ⟨g2, 0, none⟩) 12 12) sb_st (ob_valS H (wanted_none rfl) (does_slice rfl rfl (vl := none) (vh := none) rfl rfl (sl_nonce g2))) rfl rfl rfl H ?_
  try clear H a
  rintro _ a W rfl hR_ H
  replace hv34 := OF.sb _ _ _ hv34 hR_
  replace hv9 := OF.sb _ _ _ hv9 hR_
  clear hR_
  replace H : St 98 w a W [(35, .slice (some ⟨g2, 0, none⟩) 12 12), (34, v34), (9, v9), (7, .pointer (some ⟨g4, 0, none⟩)), (6, .pointer (some ⟨g3, 0, none⟩)), (5, .pointer (some ⟨g2, 0, none⟩))] [(g4, 56, wv w0s), (g3, 49, bvs (rb 64 b0s)), (g2, 27, bvs (rb 12 nn)), (g1, 23, bvs (rb 32 kk))] := H
  refine pl_R (R := (WR w.heap.size [(g4, 56, wv w0s), (g3, 49, bvs (rb 64 b0s)), (g2, 27, bvs (rb 12 nn)), (g1, 23, bvs (rb 32 kk))])) (F := OF w.heap.size [(g4, 56, wv w0s), (g3, 49, bvs (rb 64 b0s)), (g2, 27, bvs (rb 12 nn)), (g1, 23, bvs (rb 32 kk))] (((textB ++ (rb 32 kk)) ++ [lowB (c), lowB (shrW c 8), lowB (shrW c 16), lowB (shrW c 24)]) ++ (rb 12 nn))) wr_st (ob_appW H (wanted_none rfl) rfl rfl rfl hv34 (sl_keyBF (H.blk (k := 2) rfl)) (by simp only [List.length_append, rb_len, List.length_cons, List.length_nil, textB]; omega)) rfl rfl rfl H ?_
  try clear H a
  intro v36 a W hv36 hR_ H
  clear hR_
  replace H : St 98 w a W [(36, v36), (35, .slice (some ⟨g2, 0, none⟩) 12 12), (34, v34), (9, v9), (7, .pointer (some ⟨g4, 0, none⟩)), (6, .pointer (some ⟨g3, 0, none⟩)), (5, .pointer (some ⟨g2, 0, none⟩))] [(g4, 56, wv w0s), (g3, 49, bvs (rb 64 b0s)), (g2, 27, bvs (rb 12 nn)), (g1, 23, bvs (rb 32 kk))] := H
  replace H : St 98 w a W [(36, v36), (35, .slice (some ⟨g2, 0, none⟩) 12 12), (34, v34), (7, .pointer (some ⟨g4, 0, none⟩)), (6, .pointer (some ⟨g3, 0, none⟩)), (5, .pointer (some ⟨g2, 0, none⟩))] [(g4, 56, wv w0s), (g3, 49, bvs (rb 64 b0s)), (g2, 27, bvs (rb 12 nn)), (g1, 23, bvs (rb 32 kk))] := H.pick [0, 1, 2, 4, 5, 6] [0, 1, 2, 3] rfl
  refine pl_R (R := SB) (F := OF w.heap.size [(g4, 56, wv w0s), (g3, 49, bvs (rb 64 b0s)), (g2, 27, bvs (rb 12 nn)), (g1, 23, bvs (rb 32 kk))] (((textB ++ (rb 32 kk)) ++ [lowB (c), lowB (shrW c 8), lowB (shrW c 16), lowB (shrW c 24)]) ++ (rb 12 nn))) sb_st (ob_assignS H (wanted_none rfl) rfl rfl hv36) rfl rfl rfl H ?_
  try clear H a
  intro v9 a W hv9 hR_ H
  replace hv36 := OF.sb _ _ _ hv36 hR_
  clear hR_
  replace H : St 98 w a W [(9, v9), (36, v36), (35, .slice (some ⟨g2, 0, none⟩) 12 12), (34, v34), (7, .pointer (some ⟨g4, 0, none⟩)), (6, .pointer (some ⟨g3, 0, none⟩)), (5, .pointer (some ⟨g2, 0, none⟩))] [(g4, 56, wv w0s), (g3, 49, bvs (rb 64 b0s)), (g2, 27, bvs (rb 12 nn)), (g1, 23, bvs (rb 32 kk))] := H
  refine pl_end ?_
  replace H : St 98 w a W [(9, v9), (7, .pointer (some ⟨g4, 0, none⟩)), (6, .pointer (some ⟨g3, 0, none⟩))] [(g4, 56, wv w0s), (g3, 49, bvs (rb 64 b0s)), (g2, 27, bvs (rb 12 nn)), (g1, 23, bvs (rb 32 kk))] := H.pick [0, 4, 5] [0, 1, 2, 3] rfl
  refine hK7 _ _ ?_
  clear hK7
  refine wp_seq_k (fun K8 hK8 => ?_)
  refine wp_seq_k (fun K9 hK9 => ?_)
  refine rg_plain ?_
  refine pl_R (R := SB) (F := fun u_ _ => u_ = .int .i64 63) sb_st (ob_valS H (wanted_none rfl) (does_assign rfl rfl)) rfl rfl rfl H ?_
  try clear H a
  rintro _ a W rfl hR_ H
  replace hv9 := OF.sb _ _ _ hv9 hR_
  clear hR_
  replace H : St 98 w a W [(10, .int .i64 63), (9, v9), (7, .pointer (some ⟨g4, 0, none⟩)), (6, .pointer (some ⟨g3, 0, none⟩))] [(g4, 56, wv w0s), (g3, 49, bvs (rb 64 b0s)), (g2, 27, bvs (rb 12 nn)), (g1, 23, bvs (rb 32 kk))] := H
  refine pl_end ?_
  refine hK9 _ _ ?_
  clear hK9
  obtain ⟨gB, cap, cur, rfl, hbB, hoB, hnB, huB⟩ := hv9.uc (n := 64) (b64_len kk c nn) (by omega)
  have hcur : ∀ {i : Nat}, i < 64 → cur[i]? = some (bv (bF kk c nn i)) := fun hi => cur_at huB hi
  replace H := H.add hbB hoB hnB
  clear hbB hoB hnB
  replace H : St 98 w a W [(10, .int .i64 63), (9, .slice (some ⟨gB, 0, none⟩) 64 cap), (7, .pointer (some ⟨g4, 0, none⟩)), (6, .pointer (some ⟨g3, 0, none⟩))] [(gB, 5, cur), (g4, 56, wv w0s), (g3, 49, bvs (rb 64 b0s)), (g2, 27, bvs (rb 12 nn)), (g1, 23, bvs (rb 32 kk))] := H
  refine wp_block ?_
  replace H : St 98 w a W [(10, .int .i64 (63 - ((0 : Nat) : Int))), (9, .slice (some ⟨gB, 0, none⟩) 64 cap), (7, .pointer (some ⟨g4, 0, none⟩)), (6, .pointer (some ⟨g3, 0, none⟩))] [(gB, 5, cur), (g4, 56, wv (hornW (bF kk c nn) 0)), (g3, 49, bvs (rb 64 b0s)), (g2, 27, bvs (rb 12 nn)), (g1, 23, bvs (rb 32 kk))] := H.pick [0, 1, 2, 3] [0, 1, 2, 3, 4] rfl
  refine wp_rounds 64 (fun k a W => St 98 w a W [(10, .int .i64 (63 - ((k : Nat) : Int))), (9, .slice (some ⟨gB, 0, none⟩) 64 cap), (7, .pointer (some ⟨g4, 0, none⟩)), (6, .pointer (some ⟨g3, 0, none⟩))] [(gB, 5, cur), (g4, 56, wv (hornW (bF kk c nn) k)), (g3, 49, bvs (rb 64 b0s)), (g2, 27, bvs (rb 12 nn)), (g1, 23, bvs (rb 32 kk))]) (k0 := 0) H (by omega) ?_
  try clear H a W
  intro k a W hk H
  by_cases hk2 : k < 64
  · obtain ⟨i, hi⟩ : ∃ i : Nat, i = 63 - k := ⟨_, rfl⟩
    have hi1 : i < 64 := by omega
    rw [show (63 - ((k : Nat) : Int)) = ((i : Nat) : Int) by omega] at H
    have hh : hornW (bF kk c nn) (k + 1) = upd (hornW (bF kk c nn) k) (i / 4) (hornW (bF kk c nn) k (i / 4) * 256 + byteW (bF kk c nn i)) := by rw [hi]; rfl
    refine wp_seq_k (fun K10 hK10 => ?_)
    refine wp_seq_k (fun K11 hK11 => ?_)
    refine rg_plain ?_
    refine pl_does (does_move rfl rfl) rfl rfl rfl rfl H ?_
    try clear H a W
    intro a W H
    refine pl_does (does_binOp rfl rfl rfl (i_geq_yes _ _)) rfl rfl rfl rfl H ?_
    try clear H a W
    intro a W H
    refine pl_end ?_
    refine hK11 _ _ ?_
    clear hK11
    refine wp_cond_true (H.ev rfl) ?_
    refine wp_skip ?_
    refine hK10 _ _ ?_
    clear hK10
    refine wp_seq_k (fun K12 hK12 => ?_)
    refine wp_block ?_
    refine drawnS [.val 41 (.int .i64 ((i : Nat) : Int)) [] [], .val 42 (.int .i64 ((i / 4 : Nat) : Int)) [0] [], .val 43 (.int .i64 ((i : Nat) : Int)) [] [], .val 44 (.int .i64 ((i / 4 : Nat) : Int)) [2] [], .val 45 (.pointer (some ⟨g4, i / 4, none⟩)) [3] [], .val 46 (wc ((hornW (bF kk c nn) k) (i / 4))) [4] [1], .val 47 (wc (((hornW (bF kk c nn) k) (i / 4)) * 256)) [5] [], .val 48 (.slice (some ⟨gB, 0, none⟩) 64 cap) [] [], .val 49 (.int .i64 ((i : Nat) : Int)) [] [], .val 50 (.pointer (some ⟨gB, 0 + i, none⟩)) [7, 8] [], .val 51 (bv (bF kk c nn (0 + i))) [9] [0], .val 52 (wc (byteW (bF kk c nn (0 + i)))) [10] [], .val 53 (wc ((((hornW (bF kk c nn) k) (i / 4)) * 256) + (byteW (bF kk c nn (0 + i))))) [6, 11] [], .val 54 (.pointer (some ⟨g4, i / 4, none⟩)) [1] [], .sto 1 g4 56 (wv (hornW (bF kk c nn) k)) (wv (upd (hornW (bF kk c nn) k) (i / 4) ((((hornW (bF kk c nn) k) (i / 4)) * 256) + (byteW (bF kk c nn (0 + i)))))) [13, 12]] [0, 1, 0, 4, 8, 16, 32, 0, 0, 384, 512, 1024, 2112, 8191, 16383] (by kernel_rfl) (by kernel_rfl) (by kernel_rfl) H ⟨⟨does_move rfl rfl, wanted_none rfl⟩, ⟨does_binOp rfl rfl rfl (i_quo (k := i) (m := 4) (by omega) (by omega) (by omega) _ _), wanted_none rfl⟩, ⟨does_move rfl rfl, wanted_none rfl⟩, ⟨does_binOp rfl rfl rfl (i_quo (k := i) (m := 4) (by omega) (by omega) (by omega) _ _), wanted_none rfl⟩, ⟨does_indexAddr rfl rfl rfl (ia_w16 (j := (i / 4)) (by omega)), wanted_none rfl⟩, ⟨does_loadAt (v := wc ((hornW (bF kk c nn) k) (i / 4))) rfl rfl (k := 0) rfl (ld_word (by omega)), wanted_none rfl⟩, ⟨does_binOp rfl rfl rfl (w_mul256 _ _ _), wanted_none rfl⟩, ⟨does_move rfl rfl, wanted_none rfl⟩, ⟨does_move rfl rfl, wanted_none rfl⟩, ⟨does_indexAddr rfl rfl rfl (ia_bytes (j := i) (by omega)), wanted_none rfl⟩, ⟨does_loadAt (v := bv (bF kk c nn (0 + i))) rfl rfl (k := 0) rfl (ld_cur (hcur (by omega))), wanted_none rfl⟩, ⟨does_convert rfl rfl (cv_bw _), wanted_none rfl⟩, ⟨does_binOp rfl rfl rfl (w_add _ _ _ _), wanted_none rfl⟩, ⟨does_indexAddr rfl rfl rfl (ia_w16 (j := (i / 4)) (by omega)), wanted_none rfl⟩, ⟨rfl, rfl, sto_at rfl rfl rfl (st_word (by omega)) (sv_word rfl)⟩, trivial⟩ ?_
    try clear H a W
    intro G5 a W H
    replace H : St 98 w a W [(41, .int .i64 ((i : Nat) : Int)), (42, .int .i64 ((i / 4 : Nat) : Int)), (43, .int .i64 ((i : Nat) : Int)), (44, .int .i64 ((i / 4 : Nat) : Int)), (45, .pointer (some ⟨g4, i / 4, none⟩)), (46, wc ((hornW (bF kk c nn) k) (i / 4))), (47, wc (((hornW (bF kk c nn) k) (i / 4)) * 256)), (48, .slice (some ⟨gB, 0, none⟩) 64 cap), (49, .int .i64 ((i : Nat) : Int)), (50, .pointer (some ⟨gB, 0 + i, none⟩)), (51, bv (bF kk c nn (0 + i))), (52, wc (byteW (bF kk c nn (0 + i)))), (53, wc ((((hornW (bF kk c nn) k) (i / 4)) * 256) + (byteW (bF kk c nn (0 + i))))), (54, .pointer (some ⟨g4, i / 4, none⟩)), (38, .bool true), (37, .int .i64 ((i : Nat) : Int)), (10, .int .i64 ((i : Nat) : Int)), (9, .slice (some ⟨gB, 0, none⟩) 64 cap), (7, .pointer (some ⟨g4, 0, none⟩)), (6, .pointer (some ⟨g3, 0, none⟩))] [(gB, 5, cur), (g4, 56, wv (upd (hornW (bF kk c nn) k) (i / 4) ((((hornW (bF kk c nn) k) (i / 4)) * 256) + (byteW (bF kk c nn (0 + i)))))), (g3, 49, bvs (rb 64 b0s)), (g2, 27, bvs (rb 12 nn)), (g1, 23, bvs (rb 32 kk))] := H
    refine blk_normal ?_
    refine hK12 _ _ ?_
    clear hK12
    refine rg_plain ?_
    refine pl_does (does_move rfl rfl) rfl rfl rfl rfl H ?_
    try clear H a W
    intro a W H
    refine pl_does (does_binOp rfl rfl rfl (i_sub _ _ (by omega) _ _)) rfl rfl rfl rfl H ?_
    try clear H a W
    intro a W H
    replace H : St 98 w a W [(40, .int .i64 (((i : Nat) : Int) - 1)), (39, .int .i64 ((i : Nat) : Int)), (41, .int .i64 ((i : Nat) : Int)), (42, .int .i64 ((i / 4 : Nat) : Int)), (43, .int .i64 ((i : Nat) : Int)), (44, .int .i64 ((i / 4 : Nat) : Int)), (45, .pointer (some ⟨g4, i / 4, none⟩)), (46, wc ((hornW (bF kk c nn) k) (i / 4))), (47, wc (((hornW (bF kk c nn) k) (i / 4)) * 256)), (48, .slice (some ⟨gB, 0, none⟩) 64 cap), (49, .int .i64 ((i : Nat) : Int)), (50, .pointer (some ⟨gB, 0 + i, none⟩)), (51, bv (bF kk c nn (0 + i))), (52, wc (byteW (bF kk c nn (0 + i)))), (53, wc ((((hornW (bF kk c nn) k) (i / 4)) * 256) + (byteW (bF kk c nn (0 + i))))), (54, .pointer (some ⟨g4, i / 4, none⟩)), (38, .bool true), (37, .int .i64 ((i : Nat) : Int)), (9, .slice (some ⟨gB, 0, none⟩) 64 cap), (7, .pointer (some ⟨g4, 0, none⟩)), (6, .pointer (some ⟨g3, 0, none⟩))] [(gB, 5, cur), (g4, 56, wv (upd (hornW (bF kk c nn) k) (i / 4) ((((hornW (bF kk c nn) k) (i / 4)) * 256) + (byteW (bF kk c nn (0 + i)))))), (g3, 49, bvs (rb 64 b0s)), (g2, 27, bvs (rb 12 nn)), (g1, 23, bvs (rb 32 kk))] := H.pick [0, 1, 2, 3, 4, 5, 6, 7, 8, 9, 10, 11, 12, 13, 14, 15, 16, 17, 19, 20, 21] [0, 1, 2, 3, 4] rfl
    refine pl_does (does_assign rfl rfl) rfl rfl rfl rfl H ?_
    try clear H a W
    intro a W H
    refine pl_end ?_
    refine ⟨k + 1, by omega, by omega, ?_⟩
    show St 98 w a W [(10, .int .i64 (63 - ((k + 1 : Nat) : Int))), (9, .slice (some ⟨gB, 0, none⟩) 64 cap), (7, .pointer (some ⟨g4, 0, none⟩)), (6, .pointer (some ⟨g3, 0, none⟩))] [(gB, 5, cur), (g4, 56, wv (hornW (bF kk c nn) (k + 1))), (g3, 49, bvs (rb 64 b0s)), (g2, 27, bvs (rb 12 nn)), (g1, 23, bvs (rb 32 kk))]
    rw [Nat.zero_add] at H
    rw [hh, show (63 - (((k + 1) : Nat) : Int)) = ((i : Nat) : Int) - 1 by omega]
    exact H.pick [0, 19, 20, 21] [0, 1, 2, 3, 4] rfl
  · obtain rfl : 64 = k := by omega
    refine wp_seq_k (fun K13 hK13 => ?_)
    refine wp_seq_k (fun K14 hK14 => ?_)
    refine rg_plain ?_
    refine pl_does (does_move rfl rfl) rfl rfl rfl rfl H ?_
    try clear H a W
    intro a W H
    refine pl_does (does_binOp rfl rfl rfl (i_geq_no (by omega) _ _)) rfl rfl rfl rfl H ?_
    try clear H a W
    intro a W H
    refine pl_end ?_
    replace H : St 98 w a W [(38, .bool false), (10, .int .i64 (63 - ((64 : Nat) : Int))), (9, .slice (some ⟨gB, 0, none⟩) 64 cap), (7, .pointer (some ⟨g4, 0, none⟩)), (6, .pointer (some ⟨g3, 0, none⟩))] [(gB, 5, cur), (g4, 56, wv (hornW (bF kk c nn) 64)), (g3, 49, bvs (rb 64 b0s)), (g2, 27, bvs (rb 12 nn)), (g1, 23, bvs (rb 32 kk))] := H.pick [0, 2, 3, 4, 5] [0, 1, 2, 3, 4] rfl
    refine hK14 _ _ ?_
    clear hK14
    refine wp_cond_false (H.ev rfl) ?_
    refine wp_exit ?_
    repeat (with_reducible refine then_exit ?_)
    refine blk_exit ?_
    rw [horn_all] at H
    refine hK8 _ _ ?_
    clear hK8
    refine wp_seq_k (fun K15 hK15 => ?_)
    refine rg_plain ?_
    refine pl_does (does_load rfl rfl (k := 1) rfl Tryd.underlying56 rfl (info_w16 _)) rfl rfl rfl rfl H ?_
    try clear H a W
    intro a W H
    refine pl_new (news_of rfl al_w16) rfl rfl rfl rfl H ?_
    try clear H a W
    intro g6 a W H
    refine pl_store rfl rfl rfl (k := 0) rfl (info_w16 _) (size_wv _ _) (wv_one _) rfl rfl H ?_
    try clear H a W
    intro a W H
    refine pl_end ?_
    replace H : St 98 w a W [(11, .pointer (some ⟨g6, 0, none⟩)), (7, .pointer (some ⟨g4, 0, none⟩)), (6, .pointer (some ⟨g3, 0, none⟩))] [(g6, 56, wv (begW kk c nn)), (gB, 5, cur), (g4, 56, wv (begW kk c nn)), (g3, 49, bvs (rb 64 b0s)), (g2, 27, bvs (rb 12 nn)), (g1, 23, bvs (rb 32 kk))] := H.pick [0, 5, 6] [0, 1, 2, 3, 4, 5] rfl
    refine hK15 _ _ ?_
    clear hK15
    refine wp_seq_k (fun K16 hK16 => ?_)
    refine wp_seq_k (fun K17 hK17 => ?_)
    refine rg_plain ?_
    refine pl_does (does_assign rfl rfl) rfl rfl rfl rfl H ?_
    try clear H a W
    intro a W H
    refine pl_end ?_
    refine hK17 _ _ ?_
    clear hK17
    refine wp_block ?_
    replace H : St 98 w a W [(12, .int .i64 ((0 : Nat) : Int)), (11, .pointer (some ⟨g6, 0, none⟩)), (7, .pointer (some ⟨g4, 0, none⟩)), (6, .pointer (some ⟨g3, 0, none⟩))] [(g6, 56, wv (mixW (begW kk c nn) 0)), (gB, 5, cur), (g4, 56, wv (begW kk c nn)), (g3, 49, bvs (rb 64 b0s)), (g2, 27, bvs (rb 12 nn)), (g1, 23, bvs (rb 32 kk))] := H.pick [0, 1, 2, 3] [0, 1, 2, 3, 4, 5] rfl
    refine wp_rounds 10 (fun k a W => St 98 w a W [(12, .int .i64 ((k : Nat) : Int)), (11, .pointer (some ⟨g6, 0, none⟩)), (7, .pointer (some ⟨g4, 0, none⟩)), (6, .pointer (some ⟨g3, 0, none⟩))] [(g6, 56, wv (mixW (begW kk c nn) k)), (gB, 5, cur), (g4, 56, wv (begW kk c nn)), (g3, 49, bvs (rb 64 b0s)), (g2, 27, bvs (rb 12 nn)), (g1, 23, bvs (rb 32 kk))]) (k0 := 0) H (by omega) ?_
    try clear H a W
    intro k a W hk H
    by_cases hk2 : k < 10
    · refine wp_seq_k (fun K18 hK18 => ?_)
      refine wp_seq_k (fun K19 hK19 => ?_)
      refine rg_plain ?_
      refine pl_does (does_move rfl rfl) rfl rfl rfl rfl H ?_
      try clear H a W
      intro a W H
      refine pl_does (does_binOp rfl rfl rfl (i_lss_yes (k := k) (m := 10) (by omega) _ _)) rfl rfl rfl rfl H ?_
      try clear H a W
      intro a W H
      refine pl_end ?_
      refine hK19 _ _ ?_
      clear hK19
      refine wp_cond_true (H.ev rfl) ?_
      refine wp_skip ?_
      refine hK18 _ _ ?_
      clear hK18
      refine wp_seq_k (fun K20 hK20 => ?_)
      refine wp_block ?_
      refine wp_seq_k (fun K21 hK21 => ?_)
      refine rg_plain ?_
      refine pl_does (does_load rfl rfl (k := 0) rfl Tryd.underlying56 rfl (info_w16 _)) rfl rfl rfl rfl H ?_
      try clear H a W
      intro a W H
      refine pl_does (does_call rfl ⟨_, Tryd.func38, by kernel_rfl⟩ rfl (fun W hb => round_any _ (ja := 0) (jb := 4) (jc := 8) (jd := 12) (by omega) (by omega) (by omega) (by omega) W)) rfl rfl rfl rfl H ?_
      try clear H a W
      intro a W H
      refine pl_store rfl rfl rfl (k := 0) rfl (info_w16 _) (size_wv _ _) (wv_one _) rfl rfl H ?_
      try clear H a W
      intro a W H
      refine pl_end ?_
      refine hK21 _ _ ?_
      clear hK21
      refine wp_seq_k (fun K22 hK22 => ?_)
      refine rg_plain ?_
      refine pl_does (does_load rfl rfl (k := 0) rfl Tryd.underlying56 rfl (info_w16 _)) rfl rfl rfl rfl H ?_
      try clear H a W
      intro a W H
      refine pl_does (does_call rfl ⟨_, Tryd.func38, by kernel_rfl⟩ rfl (fun W hb => round_any _ (ja := 1) (jb := 5) (jc := 9) (jd := 13) (by omega) (by omega) (by omega) (by omega) W)) rfl rfl rfl rfl H ?_
      try clear H a W
      intro a W H
      refine pl_store rfl rfl rfl (k := 0) rfl (info_w16 _) (size_wv _ _) (wv_one _) rfl rfl H ?_
      try clear H a W
      intro a W H
      refine pl_end ?_
      refine hK22 _ _ ?_
      clear hK22
      refine wp_seq_k (fun K23 hK23 => ?_)
      refine rg_plain ?_
      refine pl_does (does_load rfl rfl (k := 0) rfl Tryd.underlying56 rfl (info_w16 _)) rfl rfl rfl rfl H ?_
      try clear H a W
      intro a W H
      refine pl_does (does_call rfl ⟨_, Tryd.func38, by kernel_rfl⟩ rfl (fun W hb => round_any _ (ja := 2) (jb := 6) (jc := 10) (jd := 14) (by omega) (by omega) (by omega) (by omega) W)) rfl rfl rfl rfl H ?_
      try clear H a W
      intro a W H
      refine pl_store rfl rfl rfl (k := 0) rfl (info_w16 _) (size_wv _ _) (wv_one _) rfl rfl H ?_
      try clear H a W
      intro a W H
      refine pl_end ?_
      refine hK23 _ _ ?_
      clear hK23
      refine wp_seq_k (fun K24 hK24 => ?_)
      refine rg_plain ?_
      refine pl_does (does_load rfl rfl (k := 0) rfl Tryd.underlying56 rfl (info_w16 _)) rfl rfl rfl rfl H ?_
      try clear H a W
      intro a W H
      refine pl_does (does_call rfl ⟨_, Tryd.func38, by kernel_rfl⟩ rfl (fun W hb => round_any _ (ja := 3) (jb := 7) (jc := 11) (jd := 15) (by omega) (by omega) (by omega) (by omega) W)) rfl rfl rfl rfl H ?_
      try clear H a W
      intro a W H
      refine pl_store rfl rfl rfl (k := 0) rfl (info_w16 _) (size_wv _ _) (wv_one _) rfl rfl H ?_
      try clear H a W
      intro a W H
      refine pl_end ?_
      refine hK24 _ _ ?_
      clear hK24
      refine wp_seq_k (fun K25 hK25 => ?_)
      refine rg_plain ?_
      refine pl_does (does_load rfl rfl (k := 0) rfl Tryd.underlying56 rfl (info_w16 _)) rfl rfl rfl rfl H ?_
      try clear H a W
      intro a W H
      refine pl_does (does_call rfl ⟨_, Tryd.func38, by kernel_rfl⟩ rfl (fun W hb => round_any _ (ja := 0) (jb := 5) (jc := 10) (jd := 15) (by omega) (by omega) (by omega) (by omega) W)) rfl rfl rfl rfl H ?_
      try clear H a W
      intro a W H
      refine pl_store rfl rfl rfl (k := 0) rfl (info_w16 _) (size_wv _ _) (wv_one _) rfl rfl H ?_
      try clear H a W
      intro a W H
      refine pl_end ?_
      refine hK25 _ _ ?_
      clear hK25
      refine wp_seq_k (fun K26 hK26 => ?_)
      refine rg_plain ?_
      refine pl_does (does_load rfl rfl (k := 0) rfl Tryd.underlying56 rfl (info_w16 _)) rfl rfl rfl rfl H ?_
      try clear H a W
      intro a W H
      refine pl_does (does_call rfl ⟨_, Tryd.func38, by kernel_rfl⟩ rfl (fun W hb => round_any _ (ja := 1) (jb := 6) (jc := 11) (jd := 12) (by omega) (by omega) (by omega) (by omega) W)) rfl rfl rfl rfl H ?_
      try clear H a W
      intro a W H
      refine pl_store rfl rfl rfl (k := 0) rfl (info_w16 _) (size_wv _ _) (wv_one _) rfl rfl H ?_
      try clear H a W
      intro a W H
      refine pl_end ?_
      refine hK26 _ _ ?_
      clear hK26
      refine wp_seq_k (fun K27 hK27 => ?_)
      refine rg_plain ?_
      refine pl_does (does_load rfl rfl (k := 0) rfl Tryd.underlying56 rfl (info_w16 _)) rfl rfl rfl rfl H ?_
      try clear H a W
      intro a W H
      refine pl_does (does_call rfl ⟨_, Tryd.func38, by kernel_rfl⟩ rfl (fun W hb => round_any _ (ja := 2) (jb := 7) (jc := 8) (jd := 13) (by omega) (by omega) (by omega) (by omega) W)) rfl rfl rfl rfl H ?_
      try clear H a W
      intro a W H
      refine pl_store rfl rfl rfl (k := 0) rfl (info_w16 _) (size_wv _ _) (wv_one _) rfl rfl H ?_
      try clear H a W
      intro a W H
      refine pl_end ?_
      refine hK27 _ _ ?_
      clear hK27
      refine rg_plain ?_
      refine pl_does (does_load rfl rfl (k := 0) rfl Tryd.underlying56 rfl (info_w16 _)) rfl rfl rfl rfl H ?_
      try clear H a W
      intro a W H
      refine pl_does (does_call rfl ⟨_, Tryd.func38, by kernel_rfl⟩ rfl (fun W hb => round_any _ (ja := 3) (jb := 4) (jc := 9) (jd := 14) (by omega) (by omega) (by omega) (by omega) W)) rfl rfl rfl rfl H ?_
      try clear H a W
      intro a W H
      refine pl_store rfl rfl rfl (k := 0) rfl (info_w16 _) (size_wv _ _) (wv_one _) rfl rfl H ?_
      try clear H a W
      intro a W H
      refine pl_end ?_
      refine blk_normal ?_
      refine hK20 _ _ ?_
      clear hK20
      refine rg_plain ?_
      refine pl_does (does_move rfl rfl) rfl rfl rfl rfl H ?_
      try clear H a W
      intro a W H
      refine pl_does (does_binOp rfl rfl rfl (i_inc (by omega) _ _)) rfl rfl rfl rfl H ?_
      try clear H a W
      intro a W H
      replace H : St 98 w a W [(59, .int .i64 ((k + 1 : Nat) : Int)), (58, .int .i64 ((k : Nat) : Int)), (75, .agg (wv (quarterW (quarterW (quarterW (quarterW (quarterW (quarterW (quarterW (quarterW (mixW (begW kk c nn) k) 0 4 8 12) 1 5 9 13) 2 6 10 14) 3 7 11 15) 0 5 10 15) 1 6 11 12) 2 7 8 13) 3 4 9 14))), (74, .agg (wv (quarterW (quarterW (quarterW (quarterW (quarterW (quarterW (quarterW (mixW (begW kk c nn) k) 0 4 8 12) 1 5 9 13) 2 6 10 14) 3 7 11 15) 0 5 10 15) 1 6 11 12) 2 7 8 13))), (73, .agg (wv (quarterW (quarterW (quarterW (quarterW (quarterW (quarterW (quarterW (mixW (begW kk c nn) k) 0 4 8 12) 1 5 9 13) 2 6 10 14) 3 7 11 15) 0 5 10 15) 1 6 11 12) 2 7 8 13))), (72, .agg (wv (quarterW (quarterW (quarterW (quarterW (quarterW (quarterW (mixW (begW kk c nn) k) 0 4 8 12) 1 5 9 13) 2 6 10 14) 3 7 11 15) 0 5 10 15) 1 6 11 12))), (71, .agg (wv (quarterW (quarterW (quarterW (quarterW (quarterW (quarterW (mixW (begW kk c nn) k) 0 4 8 12) 1 5 9 13) 2 6 10 14) 3 7 11 15) 0 5 10 15) 1 6 11 12))), (70, .agg (wv (quarterW (quarterW (quarterW (quarterW (quarterW (mixW (begW kk c nn) k) 0 4 8 12) 1 5 9 13) 2 6 10 14) 3 7 11 15) 0 5 10 15))), (69, .agg (wv (quarterW (quarterW (quarterW (quarterW (quarterW (mixW (begW kk c nn) k) 0 4 8 12) 1 5 9 13) 2 6 10 14) 3 7 11 15) 0 5 10 15))), (68, .agg (wv (quarterW (quarterW (quarterW (quarterW (mixW (begW kk c nn) k) 0 4 8 12) 1 5 9 13) 2 6 10 14) 3 7 11 15))), (67, .agg (wv (quarterW (quarterW (quarterW (quarterW (mixW (begW kk c nn) k) 0 4 8 12) 1 5 9 13) 2 6 10 14) 3 7 11 15))), (66, .agg (wv (quarterW (quarterW (quarterW (mixW (begW kk c nn) k) 0 4 8 12) 1 5 9 13) 2 6 10 14))), (65, .agg (wv (quarterW (quarterW (quarterW (mixW (begW kk c nn) k) 0 4 8 12) 1 5 9 13) 2 6 10 14))), (64, .agg (wv (quarterW (quarterW (mixW (begW kk c nn) k) 0 4 8 12) 1 5 9 13))), (63, .agg (wv (quarterW (quarterW (mixW (begW kk c nn) k) 0 4 8 12) 1 5 9 13))), (62, .agg (wv (quarterW (mixW (begW kk c nn) k) 0 4 8 12))), (61, .agg (wv (quarterW (mixW (begW kk c nn) k) 0 4 8 12))), (60, .agg (wv (mixW (begW kk c nn) k))), (57, .bool true), (56, .int .i64 ((k : Nat) : Int)), (11, .pointer (some ⟨g6, 0, none⟩)), (7, .pointer (some ⟨g4, 0, none⟩)), (6, .pointer (some ⟨g3, 0, none⟩))] [(g6, 56, wv (quarterW (quarterW (quarterW (quarterW (quarterW (quarterW (quarterW (quarterW (mixW (begW kk c nn) k) 0 4 8 12) 1 5 9 13) 2 6 10 14) 3 7 11 15) 0 5 10 15) 1 6 11 12) 2 7 8 13) 3 4 9 14)), (gB, 5, cur), (g4, 56, wv (begW kk c nn)), (g3, 49, bvs (rb 64 b0s)), (g2, 27, bvs (rb 12 nn)), (g1, 23, bvs (rb 32 kk))] := H.pick [0, 1, 2, 3, 4, 5, 6, 7, 8, 9, 10, 11, 12, 13, 14, 15, 16, 17, 18, 19, 21, 22, 23] [0, 1, 2, 3, 4, 5] rfl
      refine pl_does (does_assign rfl rfl) rfl rfl rfl rfl H ?_
      try clear H a W
      intro a W H
      refine pl_end ?_
      refine ⟨k + 1, by omega, by omega, ?_⟩
      show St 98 w a W [(12, .int .i64 ((k + 1 : Nat) : Int)), (11, .pointer (some ⟨g6, 0, none⟩)), (7, .pointer (some ⟨g4, 0, none⟩)), (6, .pointer (some ⟨g3, 0, none⟩))] [(g6, 56, wv (mixW (begW kk c nn) (k + 1))), (gB, 5, cur), (g4, 56, wv (begW kk c nn)), (g3, 49, bvs (rb 64 b0s)), (g2, 27, bvs (rb 12 nn)), (g1, 23, bvs (rb 32 kk))]
      exact H.pick [0, 21, 22, 23] [0, 1, 2, 3, 4, 5] rfl
    · obtain rfl : 10 = k := by omega
      refine wp_seq_k (fun K28 hK28 => ?_)
      refine wp_seq_k (fun K29 hK29 => ?_)
      refine rg_plain ?_
      refine pl_does (does_move rfl rfl) rfl rfl rfl rfl H ?_
      try clear H a W
      intro a W H
      refine pl_does (does_binOp rfl rfl rfl (i_lss_no (k := 10) (m := 10) (by omega) _ _)) rfl rfl rfl rfl H ?_
      try clear H a W
      intro a W H
      refine pl_end ?_
      replace H : St 98 w a W [(57, .bool false), (12, .int .i64 ((10 : Nat) : Int)), (11, .pointer (some ⟨g6, 0, none⟩)), (7, .pointer (some ⟨g4, 0, none⟩)), (6, .pointer (some ⟨g3, 0, none⟩))] [(g6, 56, wv (mixW (begW kk c nn) 10)), (gB, 5, cur), (g4, 56, wv (begW kk c nn)), (g3, 49, bvs (rb 64 b0s)), (g2, 27, bvs (rb 12 nn)), (g1, 23, bvs (rb 32 kk))] := H.pick [0, 2, 3, 4, 5] [0, 1, 2, 3, 4, 5] rfl
      refine hK29 _ _ ?_
      clear hK29
      refine wp_cond_false (H.ev rfl) ?_
      refine wp_exit ?_
      repeat (with_reducible refine then_exit ?_)
      refine blk_exit ?_
      refine hK16 _ _ ?_
      clear hK16
      refine wp_seq_k (fun K30 hK30 => ?_)
      refine rg_plain ?_
      refine pl_new (news_of rfl al_long) rfl rfl rfl rfl H ?_
      try clear H a W
      intro g7 a W H
      refine pl_end ?_
      replace H : St 98 w a W [(13, .pointer (some ⟨g7, 0, none⟩)), (11, .pointer (some ⟨g6, 0, none⟩)), (7, .pointer (some ⟨g4, 0, none⟩)), (6, .pointer (some ⟨g3, 0, none⟩))] [(g7, 49, bvs (rb 64 b0s)), (g6, 56, wv (mixW (begW kk c nn) 10)), (gB, 5, cur), (g4, 56, wv (begW kk c nn)), (g3, 49, bvs (rb 64 b0s)), (g2, 27, bvs (rb 12 nn)), (g1, 23, bvs (rb 32 kk))] := H.pick [0, 3, 4, 5] [0, 1, 2, 3, 4, 5, 6] rfl
      refine hK30 _ _ ?_
      clear hK30
      refine wp_seq_k (fun K31 hK31 => ?_)
      refine wp_seq_k (fun K32 hK32 => ?_)
      refine rg_plain ?_
      refine pl_does (does_assign rfl rfl) rfl rfl rfl rfl H ?_
      try clear H a W
      intro a W H
      refine pl_end ?_
      refine hK32 _ _ ?_
      clear hK32
      refine wp_block ?_
      replace H : St 98 w a W [(14, .int .i64 ((0 : Nat) : Int)), (13, .pointer (some ⟨g7, 0, none⟩)), (11, .pointer (some ⟨g6, 0, none⟩)), (7, .pointer (some ⟨g4, 0, none⟩)), (6, .pointer (some ⟨g3, 0, none⟩))] [(g7, 49, bvs (rb 64 (fillB (outR (begW kk c nn) (mixW (begW kk c nn) 10)) 0))), (g6, 56, wv (mixW (begW kk c nn) 10)), (gB, 5, cur), (g4, 56, wv (begW kk c nn)), (g3, 49, bvs (rb 64 b0s)), (g2, 27, bvs (rb 12 nn)), (g1, 23, bvs (rb 32 kk))] := H.pick [0, 1, 2, 3, 4] [0, 1, 2, 3, 4, 5, 6] rfl
      refine wp_rounds 64 (fun k a W => St 98 w a W [(14, .int .i64 ((k : Nat) : Int)), (13, .pointer (some ⟨g7, 0, none⟩)), (11, .pointer (some ⟨g6, 0, none⟩)), (7, .pointer (some ⟨g4, 0, none⟩)), (6, .pointer (some ⟨g3, 0, none⟩))] [(g7, 49, bvs (rb 64 (fillB (outR (begW kk c nn) (mixW (begW kk c nn) 10)) k))), (g6, 56, wv (mixW (begW kk c nn) 10)), (gB, 5, cur), (g4, 56, wv (begW kk c nn)), (g3, 49, bvs (rb 64 b0s)), (g2, 27, bvs (rb 12 nn)), (g1, 23, bvs (rb 32 kk))]) (k0 := 0) H (by omega) ?_
      try clear H a W
      intro k a W hk H
      by_cases hk2 : k < 64
      · refine wp_seq_k (fun K33 hK33 => ?_)
        refine wp_seq_k (fun K34 hK34 => ?_)
        refine rg_plain ?_
        refine pl_does (does_move rfl rfl) rfl rfl rfl rfl H ?_
        try clear H a W
        intro a W H
        refine pl_does (does_binOp rfl rfl rfl (i_lss_yes (k := k) (m := 64) (by omega) _ _)) rfl rfl rfl rfl H ?_
        try clear H a W
        intro a W H
        refine pl_end ?_
        refine hK34 _ _ ?_
        clear hK34
        refine wp_cond_true (H.ev rfl) ?_
        refine wp_skip ?_
        refine hK33 _ _ ?_
        clear hK33
        refine wp_seq_k (fun K35 hK35 => ?_)
        refine wp_block ?_
        refine drawnS [.val 80 (.int .i64 ((k : Nat) : Int)) [] [], .val 81 (.int .i64 ((k : Nat) : Int)) [] [], .val 82 (.int .i64 ((k / 4 : Nat) : Int)) [1] [], .val 83 (.pointer (some ⟨g4, k / 4, none⟩)) [2] [], .val 84 (wc ((begW kk c nn) (k / 4))) [3] [3], .val 85 (.int .i64 ((k : Nat) : Int)) [] [], .val 86 (.int .i64 ((k / 4 : Nat) : Int)) [5] [], .val 87 (.pointer (some ⟨g6, k / 4, none⟩)) [6] [], .val 88 (wc ((mixW (begW kk c nn) 10) (k / 4))) [7] [1], .val 89 (wc (((begW kk c nn) (k / 4)) + ((mixW (begW kk c nn) 10) (k / 4)))) [4, 8] [], .val 90 (.int .i64 ((k : Nat) : Int)) [] [], .val 91 (.int .i64 ((k % 4 : Nat) : Int)) [10] [], .val 92 (.int .i64 ((8 * (k % 4) : Nat) : Int)) [11] [], .val 93 (.int .u64 ((8 * (k % 4) : Nat) : Int)) [12] [], .val 94 (wc (shrW (((begW kk c nn) (k / 4)) + ((mixW (begW kk c nn) 10) (k / 4))) (8 * (k % 4)))) [9, 13] [], .val 95 (bv (lowB (shrW (((begW kk c nn) (k / 4)) + ((mixW (begW kk c nn) 10) (k / 4))) (8 * (k % 4))))) [14] [], .val 96 (.pointer (some ⟨g7, k, none⟩)) [0] [], .sto 0 g7 49 (bvs (rb 64 (fillB (outR (begW kk c nn) (mixW (begW kk c nn) 10)) k))) (bvs (rb 64 (updB (fillB (outR (begW kk c nn) (mixW (begW kk c nn) 10)) k) k (lowB (shrW (((begW kk c nn) (k / 4)) + ((mixW (begW kk c nn) 10) (k / 4))) (8 * (k % 4))))))) [16, 15]] [0, 0, 2, 4, 8, 0, 32, 64, 128, 272, 0, 1024, 2048, 4096, 8704, 16384, 65535, 131071] (by kernel_rfl) (by kernel_rfl) (by kernel_rfl) H ⟨⟨does_move rfl rfl, wanted_none rfl⟩, ⟨does_move rfl rfl, wanted_none rfl⟩, ⟨does_binOp rfl rfl rfl (i_quo (k := k) (m := 4) (by omega) (by omega) (by omega) _ _), wanted_none rfl⟩, ⟨does_indexAddr rfl rfl rfl (ia_w16 (j := (k / 4)) (by omega)), wanted_none rfl⟩, ⟨does_loadAt (v := wc ((begW kk c nn) (k / 4))) rfl rfl (k := 0) rfl (ld_word (by omega)), wanted_none rfl⟩, ⟨does_move rfl rfl, wanted_none rfl⟩, ⟨does_binOp rfl rfl rfl (i_quo (k := k) (m := 4) (by omega) (by omega) (by omega) _ _), wanted_none rfl⟩, ⟨does_indexAddr rfl rfl rfl (ia_w16 (j := (k / 4)) (by omega)), wanted_none rfl⟩, ⟨does_loadAt (v := wc ((mixW (begW kk c nn) 10) (k / 4))) rfl rfl (k := 0) rfl (ld_word (by omega)), wanted_none rfl⟩, ⟨does_binOp rfl rfl rfl (w_add _ _ _ _), wanted_none rfl⟩, ⟨does_move rfl rfl, wanted_none rfl⟩, ⟨does_binOp rfl rfl rfl (i_rem (k := k) (m := 4) (by omega) _ _), wanted_none rfl⟩, ⟨does_binOp rfl rfl rfl (i_mul (k := 8) (m := (k % 4)) (by omega) _ _), wanted_none rfl⟩, ⟨does_convert rfl rfl (cv_iu (by omega)), wanted_none rfl⟩, ⟨does_binOp rfl rfl rfl (w_shru (s := (8 * (k % 4))) (by omega) _ _), wanted_none rfl⟩, ⟨does_convert rfl rfl (cv_wb _), wanted_none rfl⟩, ⟨does_indexAddr rfl rfl rfl (ia_long (j := k) (by omega)), wanted_none rfl⟩, ⟨rfl, rfl, sto_at rfl rfl rfl (st_byte (by omega)) (sv_byte rfl)⟩, trivial⟩ ?_
        try clear H a W
        intro G8 a W H
        replace H : St 98 w a W [(80, .int .i64 ((k : Nat) : Int)), (81, .int .i64 ((k : Nat) : Int)), (82, .int .i64 ((k / 4 : Nat) : Int)), (83, .pointer (some ⟨g4, k / 4, none⟩)), (84, wc ((begW kk c nn) (k / 4))), (85, .int .i64 ((k : Nat) : Int)), (86, .int .i64 ((k / 4 : Nat) : Int)), (87, .pointer (some ⟨g6, k / 4, none⟩)), (88, wc ((mixW (begW kk c nn) 10) (k / 4))), (89, wc (((begW kk c nn) (k / 4)) + ((mixW (begW kk c nn) 10) (k / 4)))), (90, .int .i64 ((k : Nat) : Int)), (91, .int .i64 ((k % 4 : Nat) : Int)), (92, .int .i64 ((8 * (k % 4) : Nat) : Int)), (93, .int .u64 ((8 * (k % 4) : Nat) : Int)), (94, wc (shrW (((begW kk c nn) (k / 4)) + ((mixW (begW kk c nn) 10) (k / 4))) (8 * (k % 4)))), (95, bv (lowB (shrW (((begW kk c nn) (k / 4)) + ((mixW (begW kk c nn) 10) (k / 4))) (8 * (k % 4))))), (96, .pointer (some ⟨g7, k, none⟩)), (77, .bool true), (76, .int .i64 ((k : Nat) : Int)), (14, .int .i64 ((k : Nat) : Int)), (13, .pointer (some ⟨g7, 0, none⟩)), (11, .pointer (some ⟨g6, 0, none⟩)), (7, .pointer (some ⟨g4, 0, none⟩)), (6, .pointer (some ⟨g3, 0, none⟩))] [(g7, 49, bvs (rb 64 (updB (fillB (outR (begW kk c nn) (mixW (begW kk c nn) 10)) k) k (lowB (shrW (((begW kk c nn) (k / 4)) + ((mixW (begW kk c nn) 10) (k / 4))) (8 * (k % 4))))))), (g6, 56, wv (mixW (begW kk c nn) 10)), (gB, 5, cur), (g4, 56, wv (begW kk c nn)), (g3, 49, bvs (rb 64 b0s)), (g2, 27, bvs (rb 12 nn)), (g1, 23, bvs (rb 32 kk))] := H
        refine blk_normal ?_
        refine hK35 _ _ ?_
        clear hK35
        refine rg_plain ?_
        refine pl_does (does_move rfl rfl) rfl rfl rfl rfl H ?_
        try clear H a W
        intro a W H
        refine pl_does (does_binOp rfl rfl rfl (i_inc (by omega) _ _)) rfl rfl rfl rfl H ?_
        try clear H a W
        intro a W H
        replace H : St 98 w a W [(79, .int .i64 ((k + 1 : Nat) : Int)), (78, .int .i64 ((k : Nat) : Int)), (80, .int .i64 ((k : Nat) : Int)), (81, .int .i64 ((k : Nat) : Int)), (82, .int .i64 ((k / 4 : Nat) : Int)), (83, .pointer (some ⟨g4, k / 4, none⟩)), (84, wc ((begW kk c nn) (k / 4))), (85, .int .i64 ((k : Nat) : Int)), (86, .int .i64 ((k / 4 : Nat) : Int)), (87, .pointer (some ⟨g6, k / 4, none⟩)), (88, wc ((mixW (begW kk c nn) 10) (k / 4))), (89, wc (((begW kk c nn) (k / 4)) + ((mixW (begW kk c nn) 10) (k / 4)))), (90, .int .i64 ((k : Nat) : Int)), (91, .int .i64 ((k % 4 : Nat) : Int)), (92, .int .i64 ((8 * (k % 4) : Nat) : Int)), (93, .int .u64 ((8 * (k % 4) : Nat) : Int)), (94, wc (shrW (((begW kk c nn) (k / 4)) + ((mixW (begW kk c nn) 10) (k / 4))) (8 * (k % 4)))), (95, bv (lowB (shrW (((begW kk c nn) (k / 4)) + ((mixW (begW kk c nn) 10) (k / 4))) (8 * (k % 4))))), (96, .pointer (some ⟨g7, k, none⟩)), (77, .bool true), (76, .int .i64 ((k : Nat) : Int)), (13, .pointer (some ⟨g7, 0, none⟩)), (11, .pointer (some ⟨g6, 0, none⟩)), (7, .pointer (some ⟨g4, 0, none⟩)), (6, .pointer (some ⟨g3, 0, none⟩))] [(g7, 49, bvs (rb 64 (updB (fillB (outR (begW kk c nn) (mixW (begW kk c nn) 10)) k) k (lowB (shrW (((begW kk c nn) (k / 4)) + ((mixW (begW kk c nn) 10) (k / 4))) (8 * (k % 4))))))), (g6, 56, wv (mixW (begW kk c nn) 10)), (gB, 5, cur), (g4, 56, wv (begW kk c nn)), (g3, 49, bvs (rb 64 b0s)), (g2, 27, bvs (rb 12 nn)), (g1, 23, bvs (rb 32 kk))] := H.pick [0, 1, 2, 3, 4, 5, 6, 7, 8, 9, 10, 11, 12, 13, 14, 15, 16, 17, 18, 19, 20, 22, 23, 24, 25] [0, 1, 2, 3, 4, 5, 6] rfl
        refine pl_does (does_assign rfl rfl) rfl rfl rfl rfl H ?_
        try clear H a W
        intro a W H
        refine pl_end ?_
        refine ⟨k + 1, by omega, by omega, ?_⟩
        show St 98 w a W [(14, .int .i64 ((k + 1 : Nat) : Int)), (13, .pointer (some ⟨g7, 0, none⟩)), (11, .pointer (some ⟨g6, 0, none⟩)), (7, .pointer (some ⟨g4, 0, none⟩)), (6, .pointer (some ⟨g3, 0, none⟩))] [(g7, 49, bvs (rb 64 (fillB (outR (begW kk c nn) (mixW (begW kk c nn) 10)) (k + 1)))), (g6, 56, wv (mixW (begW kk c nn) 10)), (gB, 5, cur), (g4, 56, wv (begW kk c nn)), (g3, 49, bvs (rb 64 b0s)), (g2, 27, bvs (rb 12 nn)), (g1, 23, bvs (rb 32 kk))]
        exact H.pick [0, 22, 23, 24, 25] [0, 1, 2, 3, 4, 5, 6] rfl
      · obtain rfl : 64 = k := by omega
        refine wp_seq_k (fun K36 hK36 => ?_)
        refine wp_seq_k (fun K37 hK37 => ?_)
        refine rg_plain ?_
        refine pl_does (does_move rfl rfl) rfl rfl rfl rfl H ?_
        try clear H a W
        intro a W H
        refine pl_does (does_binOp rfl rfl rfl (i_lss_no (k := 64) (m := 64) (by omega) _ _)) rfl rfl rfl rfl H ?_
        try clear H a W
        intro a W H
        refine pl_end ?_
        replace H : St 98 w a W [(77, .bool false), (14, .int .i64 ((64 : Nat) : Int)), (13, .pointer (some ⟨g7, 0, none⟩)), (11, .pointer (some ⟨g6, 0, none⟩)), (7, .pointer (some ⟨g4, 0, none⟩)), (6, .pointer (some ⟨g3, 0, none⟩))] [(g7, 49, bvs (rb 64 (fillB (outR (begW kk c nn) (mixW (begW kk c nn) 10)) 64))), (g6, 56, wv (mixW (begW kk c nn) 10)), (gB, 5, cur), (g4, 56, wv (begW kk c nn)), (g3, 49, bvs (rb 64 b0s)), (g2, 27, bvs (rb 12 nn)), (g1, 23, bvs (rb 32 kk))] := H.pick [0, 2, 3, 4, 5, 6] [0, 1, 2, 3, 4, 5, 6] rfl
        refine hK37 _ _ ?_
        clear hK37
        refine wp_cond_false (H.ev rfl) ?_
        refine wp_exit ?_
        repeat (with_reducible refine then_exit ?_)
        refine blk_exit ?_
        rw [outR_all] at H
        refine hK31 _ _ ?_
        clear hK31
        refine wp_seq_k (fun K38 hK38 => ?_)
        refine rg_plain ?_
        refine pl_does (does_load rfl rfl (k := 0) rfl Tryd.underlying49 rfl (info_long _)) rfl rfl rfl rfl H ?_
        try clear H a W
        intro a W H
        refine pl_store rfl rfl rfl (k := 4) rfl (info_long _) (size_rb _ _ _) (bvs_one _) rfl rfl H ?_
        try clear H a W
        intro a W H
        refine pl_end ?_
        replace H : St 98 w a W [(6, .pointer (some ⟨g3, 0, none⟩))] [(g7, 49, bvs (rb 64 (blockF kk c nn))), (g6, 56, wv (mixW (begW kk c nn) 10)), (gB, 5, cur), (g4, 56, wv (begW kk c nn)), (g3, 49, bvs (rb 64 (blockF kk c nn))), (g2, 27, bvs (rb 12 nn)), (g1, 23, bvs (rb 32 kk))] := H.pick [6] [0, 1, 2, 3, 4, 5, 6] rfl
        refine hK38 _ _ ?_
        clear hK38
        refine wp_ret ?_
        repeat (first | (with_reducible refine then_ret ?_) | (with_reducible refine blk_ret ?_))
        refine end_cell (p := 6) rfl rfl (k := 4) rfl Tryd.underlying49 rfl (info_long _) H (fun hb => ?_)
        exact ⟨rfl, hb⟩
end Go.Proofs.YtghbknebaknmjaaDoor.Cha
