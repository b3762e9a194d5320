/- Package chacha: its inner walks: words turned; the quarter round, a closure over the row. -/
import Derived.Test.YtghbknebaknmjaaDoorIc
namespace Go.Proofs.YtghbknebaknmjaaDoor.Cha
set_option linter.unusedVariables false
set_option linter.unusedSimpArgs false
set_option maxRecDepth 100000
open Go Go.RowKit

theorem rol_val (x : UInt32) (s : Nat) : bits .or .u32 (IntKind.u32.wrap ((x.toNat : Int) * 2 ^ s)) ((x.toNat : Int) / 2 ^ (32 - s)) = ((rolW x s).toNat : Int) := by
  rw [w_shl_int, w_shr_int, w_or_int]
  rfl
abbrev Turn (s : Nat) : Prop := s = 16 ∨ s = 12 ∨ s = 8 ∨ s = 7
theorem rol_any (x : UInt32) (s : Nat) (hs : Turn s) (w : World) : Calls Tryd.prog 42 #[wc x, .int .i64 (s : Int)] w (fun rr w' => rr = .returned (wc (rolW x s)) ∧ Below w.heap.size w w') := by
  have hx := w_lt x
  unfold wc
  have h := rol_val x s
  have e16 : bits .and .u64 16 31 = 16 := by decide +kernel
  have e12 : bits .and .u64 12 31 = 12 := by decide +kernel
  have e8 : bits .and .u64 8 31 = 8 := by decide +kernel
  have e7 : bits .and .u64 7 31 = 7 := by decide +kernel
  rcases hs with rfl | rfl | rfl | rfl <;>
  · go_enter Tryd.func42, Tryd.ntmps42
    go_wp2
    go_ret
    refine ⟨?_, Below.refl _ _⟩
    rw [← h]
    rfl
theorem turn_any (x : UInt32) (s : Nat) (hs : Turn s) (w : World) : Calls Tryd.prog 48 #[wc x, .int .u64 (s : Int)] w (fun rr w' => rr = .returned (wc (rolW x s)) ∧ Below w.heap.size w w') := by
  have hx := w_lt x
  unfold wc
  have h := rol_val x s
  rcases hs with rfl | rfl | rfl | rfl <;>
  · go_enter Tryd.func48, Tryd.ntmps48
    go_wp2
    go_ret
    refine ⟨?_, Below.refl _ _⟩
    rw [← h]
    rfl
theorem st_fn4 {g : Nat} {t : TypeId} {u : Value} {f : FuncId} {c : Array Value} (W : World) (h : Blk W g t #[u]) : (Instr.storeAt 79 (.pointer (some ⟨g, 0, none⟩)) (.func (.func f) #[] c)).run Tryd.prog W = .ok () (W.setCells g 0 [.func (.func f) #[] c]) := by
  have hc : W.cell? ⟨g, 0, none⟩ = some u := h.cell 0
  have hf := h.frozen 0
  have hs : (W.cell? ⟨g, 0, none⟩).isSome = true := by rw [hc]; rfl
  show _ = Result.ok () (W.setCell ⟨g, 0, none⟩ (.func (.func f) #[] c))
  go_simp
  rw [run_store _ _ _ _ _ rfl]
  go_simp
theorem ld_fn4 {g : Nat} {t : TypeId} {f : FuncId} {c : Array Value} (W : World) (h : Blk W g t #[.func (.func f) #[] c]) : (Instr.loadAt 79 (.pointer (some ⟨g, 0, none⟩))).run Tryd.prog W = .ok (.func (.func f) #[] c) W := by
  have hc : W.cell? ⟨g, 0, none⟩ = some (.func (.func f) #[] c) := h.cell 0
  go_simp
/-- The beginning's four words. -/
def seedW : Wd := fun i => match i with
  | 0 => 1634760805
  | 1 => 857760878
  | 2 => 2036477234
  | 3 => 1797285236
  | _ => 0
theorem bd_words (W : World) : (Instr.build 57 [(0, .int .u32 1634760805), (1, .int .u32 857760878), (2, .int .u32 2036477234), (3, .int .u32 1797285236)].toArray).run Tryd.prog W = .ok (.agg (wv seedW)) W := by kernel_rfl
attribute [local irreducible] wv wc bvs bv rolW
set_option maxHeartbeats 4000000 in
theorem step_any {w0 w : World} {g1 g2 g3 : Nat} {c2 : Array Value} {f : Wd} {ja jb jd s : Nat} (ha : ja < 16) (hb : jb < 16) (hd : jd < 16) (hs : Turn s) (K : Kn w0 w [(g3, 79, #[.func (.func 41) #[] #[.pointer (some ⟨g1, 0, none⟩)]]), (g2, 57, c2), (g1, 57, wv f)]) : Calls Tryd.prog 41 #[.int .i64 ((ja : Nat) : Int), .int .i64 ((jb : Nat) : Int), .int .i64 ((jd : Nat) : Int), .int .i64 ((s : Nat) : Int), .pointer (some ⟨g1, 0, none⟩)] w (fun rr w' => rr = .returned (.tuple #[]) ∧ Kn w0 w' [(g3, 79, #[.func (.func 41) #[] #[.pointer (some ⟨g1, 0, none⟩)]]), (g2, 57, c2), (g1, 57, wv (stepW f ja jb jd s))]) := by
  refine calls_kn (vs := [.int .i64 ((ja : Nat) : Int), .int .i64 ((jb : Nat) : Int), .int .i64 ((jd : Nat) : Int), .int .i64 ((s : Nat) : Int), .pointer (some ⟨g1, 0, none⟩)]) 28 Tryd.func41 rfl Tryd.ntmps41 rfl K (fun a W H => ?_)
  replace H : St 28 w0 a W [(0, .int .i64 ((ja : Nat) : Int)), (1, .int .i64 ((jb : Nat) : Int)), (2, .int .i64 ((jd : Nat) : Int)), (3, .int .i64 ((s : Nat) : Int)), (4, .pointer (some ⟨g1, 0, none⟩))] [(g3, 79, #[.func (.func 41) #[] #[.pointer (some ⟨g1, 0, none⟩)]]), (g2, 57, c2), (g1, 57, wv f)] := H
  refine wp_seq_k (fun K1 hK1 => ?_)
  refine drawnS [.val 9 (.int .i64 ((ja : Nat) : Int)) [] [], .val 10 (.pointer (some ⟨g1, ja, none⟩)) [0] [], .val 11 (wc (f ja)) [1] [2], .val 12 (.int .i64 ((jb : Nat) : Int)) [] [], .val 13 (.pointer (some ⟨g1, jb, none⟩)) [3] [], .val 14 (wc (f jb)) [4] [2], .val 15 (wc ((f ja) + (f jb))) [2, 5] [], .val 16 (.pointer (some ⟨g1, ja, none⟩)) [0] [], .sto 2 g1 57 (wv f) (wv (upd f ja ((f ja) + (f jb)))) [7, 6]] [0, 1, 2, 0, 8, 16, 36, 127, 255] (by kernel_rfl) (by kernel_rfl) (by kernel_rfl) H ⟨⟨does_move rfl rfl, wanted_none rfl⟩, ⟨does_indexAddr rfl rfl rfl (ia_words (j := ja) ha), wanted_none rfl⟩, ⟨does_loadAt (v := wc (f ja)) rfl rfl (k := 0) rfl (ld_word ha), wanted_none rfl⟩, ⟨does_move rfl rfl, wanted_none rfl⟩, ⟨does_indexAddr rfl rfl rfl (ia_words (j := jb) hb), wanted_none rfl⟩, ⟨does_loadAt (v := wc (f jb)) rfl rfl (k := 0) rfl (ld_word hb), wanted_none rfl⟩, ⟨does_binOp rfl rfl rfl (w_add _ _ _ _), wanted_none rfl⟩, ⟨does_indexAddr rfl rfl rfl (ia_words (j := ja) ha), wanted_none rfl⟩, ⟨rfl, rfl, sto_at rfl rfl rfl (st_word ha) (sv_word rfl)⟩, trivial⟩ ?_
  try clear H a W
  intro G1 a W H
  replace H : St 28 w0 a W [(9, .int .i64 ((ja : Nat) : Int)), (10, .pointer (some ⟨g1, ja, none⟩)), (11, wc (f ja)), (12, .int .i64 ((jb : Nat) : Int)), (13, .pointer (some ⟨g1, jb, none⟩)), (14, wc (f jb)), (15, wc ((f ja) + (f jb))), (16, .pointer (some ⟨g1, ja, none⟩)), (0, .int .i64 ((ja : Nat) : Int)), (1, .int .i64 ((jb : Nat) : Int)), (2, .int .i64 ((jd : Nat) : Int)), (3, .int .i64 ((s : Nat) : Int)), (4, .pointer (some ⟨g1, 0, none⟩))] [(g3, 79, #[.func (.func 41) #[] #[.pointer (some ⟨g1, 0, none⟩)]]), (g2, 57, c2), (g1, 57, wv (upd f ja ((f ja) + (f jb))))] := H
  replace H : St 28 w0 a W [(0, .int .i64 ((ja : Nat) : Int)), (2, .int .i64 ((jd : Nat) : Int)), (3, .int .i64 ((s : Nat) : Int)), (4, .pointer (some ⟨g1, 0, none⟩))] [(g3, 79, #[.func (.func 41) #[] #[.pointer (some ⟨g1, 0, none⟩)]]), (g2, 57, c2), (g1, 57, wv (upd f ja ((f ja) + (f jb))))] := H.pick [8, 10, 11, 12] [0, 1, 2] rfl
  refine hK1 _ _ ?_
  clear hK1
  refine drawnS [.val 17 (.int .i64 ((jd : Nat) : Int)) [] [], .val 18 (.int .i64 ((jd : Nat) : Int)) [] [], .val 19 (.pointer (some ⟨g1, jd, none⟩)) [1] [], .val 20 (wc ((upd f ja ((f ja) + (f jb))) jd)) [2] [2], .val 21 (.int .i64 ((ja : Nat) : Int)) [] [], .val 22 (.pointer (some ⟨g1, ja, none⟩)) [4] [], .val 23 (wc ((upd f ja ((f ja) + (f jb))) ja)) [5] [2], .val 24 (wc (((upd f ja ((f ja) + (f jb))) jd) ^^^ ((upd f ja ((f ja) + (f jb))) ja))) [3, 6] [], .val 25 (.int .i64 ((s : Nat) : Int)) [] [], .val 26 (wc (rolW (((upd f ja ((f ja) + (f jb))) jd) ^^^ ((upd f ja ((f ja) + (f jb))) ja)) s)) [7, 8] [], .val 27 (.pointer (some ⟨g1, jd, none⟩)) [0] [], .sto 2 g1 57 (wv (upd f ja ((f ja) + (f jb)))) (wv (upd (upd f ja ((f ja) + (f jb))) jd (rolW (((upd f ja ((f ja) + (f jb))) jd) ^^^ ((upd f ja ((f ja) + (f jb))) ja)) s))) [10, 9]] [0, 0, 2, 4, 0, 16, 32, 72, 0, 384, 1023, 2047] (by kernel_rfl) (by kernel_rfl) (by kernel_rfl) H ⟨⟨does_move rfl rfl, wanted_none rfl⟩, ⟨does_move rfl rfl, wanted_none rfl⟩, ⟨does_indexAddr rfl rfl rfl (ia_words (j := jd) hd), wanted_none rfl⟩, ⟨does_loadAt (v := wc ((upd f ja ((f ja) + (f jb))) jd)) rfl rfl (k := 0) rfl (ld_word hd), wanted_none rfl⟩, ⟨does_move rfl rfl, wanted_none rfl⟩, ⟨does_indexAddr rfl rfl rfl (ia_words (j := ja) ha), wanted_none rfl⟩, ⟨does_loadAt (v := wc ((upd f ja ((f ja) + (f jb))) ja)) rfl rfl (k := 0) rfl (ld_word ha), wanted_none rfl⟩, ⟨does_binOp rfl rfl rfl (w_xor _ _ _ _), wanted_none rfl⟩, ⟨does_move rfl rfl, wanted_none rfl⟩, ⟨does_call rfl ⟨_, Tryd.func42, by kernel_rfl⟩ rfl (fun W hb => rol_any _ _ hs W), wanted_none rfl⟩, ⟨does_indexAddr rfl rfl rfl (ia_words (j := jd) hd), wanted_none rfl⟩, ⟨rfl, rfl, sto_at rfl rfl rfl (st_word hd) (sv_word rfl)⟩, trivial⟩ ?_
  try clear H a W
  intro G2 a W H
  replace H : St 28 w0 a W [(17, .int .i64 ((jd : Nat) : Int)), (18, .int .i64 ((jd : Nat) : Int)), (19, .pointer (some ⟨g1, jd, none⟩)), (20, wc ((upd f ja ((f ja) + (f jb))) jd)), (21, .int .i64 ((ja : Nat) : Int)), (22, .pointer (some ⟨g1, ja, none⟩)), (23, wc ((upd f ja ((f ja) + (f jb))) ja)), (24, wc (((upd f ja ((f ja) + (f jb))) jd) ^^^ ((upd f ja ((f ja) + (f jb))) ja))), (25, .int .i64 ((s : Nat) : Int)), (26, wc (rolW (((upd f ja ((f ja) + (f jb))) jd) ^^^ ((upd f ja ((f ja) + (f jb))) ja)) s)), (27, .pointer (some ⟨g1, jd, none⟩)), (0, .int .i64 ((ja : Nat) : Int)), (2, .int .i64 ((jd : Nat) : Int)), (3, .int .i64 ((s : Nat) : Int)), (4, .pointer (some ⟨g1, 0, none⟩))] [(g3, 79, #[.func (.func 41) #[] #[.pointer (some ⟨g1, 0, none⟩)]]), (g2, 57, c2), (g1, 57, wv (upd (upd f ja ((f ja) + (f jb))) jd (rolW (((upd f ja ((f ja) + (f jb))) jd) ^^^ ((upd f ja ((f ja) + (f jb))) ja)) s)))] := H
  replace H : St 28 w0 a W [] [(g3, 79, #[.func (.func 41) #[] #[.pointer (some ⟨g1, 0, none⟩)]]), (g2, 57, c2), (g1, 57, wv (upd (upd f ja ((f ja) + (f jb))) jd (rolW (((upd f ja ((f ja) + (f jb))) jd) ^^^ ((upd f ja ((f ja) + (f jb))) ja)) s)))] := H.pick [] [0, 1, 2] rfl
  refine end_none rfl H (fun hk => ?_)
  exact ⟨rfl, hk⟩
set_option maxHeartbeats 4000000 in
theorem quarter_any {w0 w : World} {g1 g2 g3 : Nat} {c2 : Array Value} {f : Wd} {ja jb jc jd : Nat} (ha : ja < 16) (hb : jb < 16) (hc : jc < 16) (hd : jd < 16) (K : Kn w0 w [(g3, 79, #[.func (.func 41) #[] #[.pointer (some ⟨g1, 0, none⟩)]]), (g2, 57, c2), (g1, 57, wv f)]) : Calls Tryd.prog 43 #[.int .i64 ((ja : Nat) : Int), .int .i64 ((jb : Nat) : Int), .int .i64 ((jc : Nat) : Int), .int .i64 ((jd : Nat) : Int), .pointer (some ⟨g3, 0, none⟩)] w (fun rr w' => rr = .returned (.tuple #[]) ∧ Kn w0 w' [(g3, 79, #[.func (.func 41) #[] #[.pointer (some ⟨g1, 0, none⟩)]]), (g2, 57, c2), (g1, 57, wv (quarterW f ja jb jc jd))]) := by
  refine calls_kn (vs := [.int .i64 ((ja : Nat) : Int), .int .i64 ((jb : Nat) : Int), .int .i64 ((jc : Nat) : Int), .int .i64 ((jd : Nat) : Int), .pointer (some ⟨g3, 0, none⟩)]) 29 Tryd.func43 rfl Tryd.ntmps43 rfl K (fun a W H => ?_)
  replace H : St 29 w0 a W [(0, .int .i64 ((ja : Nat) : Int)), (1, .int .i64 ((jb : Nat) : Int)), (2, .int .i64 ((jc : Nat) : Int)), (3, .int .i64 ((jd : Nat) : Int)), (4, .pointer (some ⟨g3, 0, none⟩))] [(g3, 79, #[.func (.func 41) #[] #[.pointer (some ⟨g1, 0, none⟩)]]), (g2, 57, c2), (g1, 57, wv f)] := H
  refine wp_seq_k (fun K1 hK1 => ?_)
  refine rg_plain ?_
  refine pl_does (does_loadAt (v := .func (.func 41) #[] #[.pointer (some ⟨g1, 0, none⟩)]) rfl rfl (k := 0) rfl (ld_fn4)) rfl rfl rfl rfl H ?_
  try clear H a W
  intro a W H
  refine pl_does (does_move rfl rfl) rfl rfl rfl rfl H ?_
  try clear H a W
  intro a W H
  refine pl_does (does_move rfl rfl) rfl rfl rfl rfl H ?_
  try clear H a W
  intro a W H
  refine pl_does (does_move rfl rfl) rfl rfl rfl rfl H ?_
  try clear H a W
  intro a W H
  refine pl_callK (f := 41) (caps := #[.pointer (some ⟨g1, 0, none⟩)]) (vs' := [.int .i64 ((ja : Nat) : Int), .int .i64 ((jb : Nat) : Int), .int .i64 ((jd : Nat) : Int), .int .i64 ((16 : Nat) : Int), .pointer (some ⟨g1, 0, none⟩)]) rfl ⟨_, Tryd.func41, by kernel_rfl⟩ rfl rfl rfl (fun K_ => step_any (by omega) (by omega) (by omega) (by decide) K_) rfl rfl rfl rfl H ?_
  try clear H a W
  intro a W H
  replace H : St 29 w0 a W [(13, .tuple #[]), (12, .int .i64 ((jd : Nat) : Int)), (11, .int .i64 ((jb : Nat) : Int)), (10, .int .i64 ((ja : Nat) : Int)), (9, .func (.func 41) #[] #[.pointer (some ⟨g1, 0, none⟩)]), (0, .int .i64 ((ja : Nat) : Int)), (1, .int .i64 ((jb : Nat) : Int)), (2, .int .i64 ((jc : Nat) : Int)), (3, .int .i64 ((jd : Nat) : Int)), (4, .pointer (some ⟨g3, 0, none⟩))] [(g3, 79, #[.func (.func 41) #[] #[.pointer (some ⟨g1, 0, none⟩)]]), (g2, 57, c2), (g1, 57, wv (stepW f ja jb jd 16))] := H
  refine pl_end ?_
  replace H : St 29 w0 a W [(0, .int .i64 ((ja : Nat) : Int)), (1, .int .i64 ((jb : Nat) : Int)), (2, .int .i64 ((jc : Nat) : Int)), (3, .int .i64 ((jd : Nat) : Int)), (4, .pointer (some ⟨g3, 0, none⟩))] [(g3, 79, #[.func (.func 41) #[] #[.pointer (some ⟨g1, 0, none⟩)]]), (g2, 57, c2), (g1, 57, wv (stepW f ja jb jd 16))] := H.pick [5, 6, 7, 8, 9] [0, 1, 2] rfl
  refine hK1 _ _ ?_
  clear hK1
  refine wp_seq_k (fun K2 hK2 => ?_)
  refine rg_plain ?_
  refine pl_does (does_loadAt (v := .func (.func 41) #[] #[.pointer (some ⟨g1, 0, none⟩)]) rfl rfl (k := 0) rfl (ld_fn4)) rfl rfl rfl rfl H ?_
  try clear H a W
  intro a W H
  refine pl_does (does_move rfl rfl) rfl rfl rfl rfl H ?_
  try clear H a W
  intro a W H
  refine pl_does (does_move rfl rfl) rfl rfl rfl rfl H ?_
  try clear H a W
  intro a W H
  refine pl_does (does_move rfl rfl) rfl rfl rfl rfl H ?_
  try clear H a W
  intro a W H
  refine pl_callK (f := 41) (caps := #[.pointer (some ⟨g1, 0, none⟩)]) (vs' := [.int .i64 ((jc : Nat) : Int), .int .i64 ((jd : Nat) : Int), .int .i64 ((jb : Nat) : Int), .int .i64 ((12 : Nat) : Int), .pointer (some ⟨g1, 0, none⟩)]) rfl ⟨_, Tryd.func41, by kernel_rfl⟩ rfl rfl rfl (fun K_ => step_any (by omega) (by omega) (by omega) (by decide) K_) rfl rfl rfl rfl H ?_
  try clear H a W
  intro a W H
  replace H : St 29 w0 a W [(18, .tuple #[]), (17, .int .i64 ((jb : Nat) : Int)), (16, .int .i64 ((jd : Nat) : Int)), (15, .int .i64 ((jc : Nat) : Int)), (14, .func (.func 41) #[] #[.pointer (some ⟨g1, 0, none⟩)]), (0, .int .i64 ((ja : Nat) : Int)), (1, .int .i64 ((jb : Nat) : Int)), (2, .int .i64 ((jc : Nat) : Int)), (3, .int .i64 ((jd : Nat) : Int)), (4, .pointer (some ⟨g3, 0, none⟩))] [(g3, 79, #[.func (.func 41) #[] #[.pointer (some ⟨g1, 0, none⟩)]]), (g2, 57, c2), (g1, 57, wv (stepW (stepW f ja jb jd 16) jc jd jb 12))] := H
  refine pl_end ?_
  replace H : St 29 w0 a W [(0, .int .i64 ((ja : Nat) : Int)), (1, .int .i64 ((jb : Nat) : Int)), (2, .int .i64 ((jc : Nat) : Int)), (3, .int .i64 ((jd : Nat) : Int)), (4, .pointer (some ⟨g3, 0, none⟩))] [(g3, 79, #[.func (.func 41) #[] #[.pointer (some ⟨g1, 0, none⟩)]]), (g2, 57, c2), (g1, 57, wv (stepW (stepW f ja jb jd 16) jc jd jb 12))] := H.pick [5, 6, 7, 8, 9] [0, 1, 2] rfl
  refine hK2 _ _ ?_
  clear hK2
  refine wp_seq_k (fun K3 hK3 => ?_)
  refine rg_plain ?_
  refine pl_does (does_loadAt (v := .func (.func 41) #[] #[.pointer (some ⟨g1, 0, none⟩)]) rfl rfl (k := 0) rfl (ld_fn4)) rfl rfl rfl rfl H ?_
  try clear H a W
  intro a W H
  refine pl_does (does_move rfl rfl) rfl rfl rfl rfl H ?_
  try clear H a W
  intro a W H
  refine pl_does (does_move rfl rfl) rfl rfl rfl rfl H ?_
  try clear H a W
  intro a W H
  refine pl_does (does_move rfl rfl) rfl rfl rfl rfl H ?_
  try clear H a W
  intro a W H
  refine pl_callK (f := 41) (caps := #[.pointer (some ⟨g1, 0, none⟩)]) (vs' := [.int .i64 ((ja : Nat) : Int), .int .i64 ((jb : Nat) : Int), .int .i64 ((jd : Nat) : Int), .int .i64 ((8 : Nat) : Int), .pointer (some ⟨g1, 0, none⟩)]) rfl ⟨_, Tryd.func41, by kernel_rfl⟩ rfl rfl rfl (fun K_ => step_any (by omega) (by omega) (by omega) (by decide) K_) rfl rfl rfl rfl H ?_
  try clear H a W
  intro a W H
  replace H : St 29 w0 a W [(23, .tuple #[]), (22, .int .i64 ((jd : Nat) : Int)), (21, .int .i64 ((jb : Nat) : Int)), (20, .int .i64 ((ja : Nat) : Int)), (19, .func (.func 41) #[] #[.pointer (some ⟨g1, 0, none⟩)]), (0, .int .i64 ((ja : Nat) : Int)), (1, .int .i64 ((jb : Nat) : Int)), (2, .int .i64 ((jc : Nat) : Int)), (3, .int .i64 ((jd : Nat) : Int)), (4, .pointer (some ⟨g3, 0, none⟩))] [(g3, 79, #[.func (.func 41) #[] #[.pointer (some ⟨g1, 0, none⟩)]]), (g2, 57, c2), (g1, 57, wv (stepW (stepW (stepW f ja jb jd 16) jc jd jb 12) ja jb jd 8))] := H
  refine pl_end ?_
  replace H : St 29 w0 a W [(1, .int .i64 ((jb : Nat) : Int)), (2, .int .i64 ((jc : Nat) : Int)), (3, .int .i64 ((jd : Nat) : Int)), (4, .pointer (some ⟨g3, 0, none⟩))] [(g3, 79, #[.func (.func 41) #[] #[.pointer (some ⟨g1, 0, none⟩)]]), (g2, 57, c2), (g1, 57, wv (stepW (stepW (stepW f ja jb jd 16) jc jd jb 12) ja jb jd 8))] := H.pick [6, 7, 8, 9] [0, 1, 2] rfl
  refine hK3 _ _ ?_
  clear hK3
  refine rg_plain ?_
  refine pl_does (does_loadAt (v := .func (.func 41) #[] #[.pointer (some ⟨g1, 0, none⟩)]) rfl rfl (k := 0) rfl (ld_fn4)) rfl rfl rfl rfl H ?_
  try clear H a W
  intro a W H
  refine pl_does (does_move rfl rfl) rfl rfl rfl rfl H ?_
  try clear H a W
  intro a W H
  refine pl_does (does_move rfl rfl) rfl rfl rfl rfl H ?_
  try clear H a W
  intro a W H
  refine pl_does (does_move rfl rfl) rfl rfl rfl rfl H ?_
  try clear H a W
  intro a W H
  refine pl_callK (f := 41) (caps := #[.pointer (some ⟨g1, 0, none⟩)]) (vs' := [.int .i64 ((jc : Nat) : Int), .int .i64 ((jd : Nat) : Int), .int .i64 ((jb : Nat) : Int), .int .i64 ((7 : Nat) : Int), .pointer (some ⟨g1, 0, none⟩)]) rfl ⟨_, Tryd.func41, by kernel_rfl⟩ rfl rfl rfl (fun K_ => step_any (by omega) (by omega) (by omega) (by decide) K_) rfl rfl rfl rfl H ?_
  try clear H a W
  intro a W H
  replace H : St 29 w0 a W [(28, .tuple #[]), (27, .int .i64 ((jb : Nat) : Int)), (26, .int .i64 ((jd : Nat) : Int)), (25, .int .i64 ((jc : Nat) : Int)), (24, .func (.func 41) #[] #[.pointer (some ⟨g1, 0, none⟩)]), (1, .int .i64 ((jb : Nat) : Int)), (2, .int .i64 ((jc : Nat) : Int)), (3, .int .i64 ((jd : Nat) : Int)), (4, .pointer (some ⟨g3, 0, none⟩))] [(g3, 79, #[.func (.func 41) #[] #[.pointer (some ⟨g1, 0, none⟩)]]), (g2, 57, c2), (g1, 57, wv (stepW (stepW (stepW (stepW f ja jb jd 16) jc jd jb 12) ja jb jd 8) jc jd jb 7))] := H
  refine pl_end ?_
  replace H : St 29 w0 a W [] [(g3, 79, #[.func (.func 41) #[] #[.pointer (some ⟨g1, 0, none⟩)]]), (g2, 57, c2), (g1, 57, wv (stepW (stepW (stepW (stepW f ja jb jd 16) jc jd jb 12) ja jb jd 8) jc jd jb 7))] := H.pick [] [0, 1, 2] rfl
  refine end_none rfl H (fun hk => ?_)
  exact ⟨rfl, hk⟩
set_option maxHeartbeats 4000000 in
theorem mixed_any (f : Wd) (w : World) : Calls Tryd.prog 29 #[.agg (wv f)] w (fun rr w' => rr = .returned (.agg (wv (mixW f 10))) ∧ Below w.heap.size w w') := by
  refine calls_st (vs := [.agg (wv f)]) 27 Tryd.func29 rfl Tryd.ntmps29 rfl (fun a W H => ?_)
  replace H : St 27 w a W [(0, .agg (wv f))] [] := H
  refine wp_seq_k (fun K1 hK1 => ?_)
  refine rg_plain ?_
  refine pl_box rfl rfl (bx_words f) rfl rfl rfl rfl H ?_
  try clear H a W
  intro g1 a W H
  refine pl_new (news_of rfl al_words) rfl rfl rfl rfl H ?_
  try clear H a W
  intro g2 a W H
  refine pl_end ?_
  replace H : St 27 w a W [(2, .pointer (some ⟨g2, 0, none⟩)), (1, .pointer (some ⟨g1, 0, none⟩))] [(g2, 57, wv w0s), (g1, 57, wv f)] := H.pick [0, 1] [0, 1] rfl
  refine hK1 _ _ ?_
  clear hK1
  refine wp_seq_k (fun K2 hK2 => ?_)
  refine rg_plain ?_
  refine pl_does (does_makeFunc rfl rfl) rfl rfl rfl rfl H ?_
  try clear H a W
  intro a W H
  refine pl_new (news_of rfl al_fn4) rfl rfl rfl rfl H ?_
  try clear H a W
  intro g3 a W H
  refine pl_storeAt rfl rfl rfl (k := 0) rfl st_fn4 rfl rfl rfl H ?_
  try clear H a W
  intro a W H
  refine pl_end ?_
  replace H : St 27 w a W [(3, .pointer (some ⟨g3, 0, none⟩)), (2, .pointer (some ⟨g2, 0, none⟩)), (1, .pointer (some ⟨g1, 0, none⟩))] [(g3, 79, #[.func (.func 41) #[] #[.pointer (some ⟨g1, 0, none⟩)]]), (g2, 57, wv w0s), (g1, 57, wv f)] := H.pick [0, 2, 3] [0, 1, 2] rfl
  refine hK2 _ _ ?_
  clear hK2
  refine wp_seq_k (fun K3 hK3 => ?_)
  refine rg_plain ?_
  refine pl_does (does_makeFunc rfl rfl) rfl rfl rfl rfl H ?_
  try clear H a W
  intro a W H
  refine pl_does (does_assign rfl rfl) rfl rfl rfl rfl H ?_
  try clear H a W
  intro a W H
  refine pl_end ?_
  replace H : St 27 w a W [(4, .func (.func 43) #[] #[.pointer (some ⟨g3, 0, none⟩)]), (2, .pointer (some ⟨g2, 0, none⟩)), (1, .pointer (some ⟨g1, 0, none⟩))] [(g3, 79, #[.func (.func 41) #[] #[.pointer (some ⟨g1, 0, none⟩)]]), (g2, 57, wv w0s), (g1, 57, wv f)] := H.pick [0, 3, 4] [0, 1, 2] rfl
  refine hK3 _ _ ?_
  clear hK3
  refine wp_seq_k (fun K4 hK4 => ?_)
  refine wp_seq_k (fun K5 hK5 => ?_)
  refine rg_plain ?_
  refine pl_does (does_move rfl rfl) rfl rfl rfl rfl H ?_
  try clear H a W
  intro a W H
  refine pl_end ?_
  refine hK5 _ _ ?_
  clear hK5
  refine wp_block ?_
  replace H : St 27 w a W [(7, .int .i64 ((0 : Nat) : Int)), (4, .func (.func 43) #[] #[.pointer (some ⟨g3, 0, none⟩)]), (2, .pointer (some ⟨g2, 0, none⟩)), (1, .pointer (some ⟨g1, 0, none⟩))] [(g3, 79, #[.func (.func 41) #[] #[.pointer (some ⟨g1, 0, none⟩)]]), (g2, 57, wv w0s), (g1, 57, wv (mixW f 0))] := H.pick [0, 1, 2, 3] [0, 1, 2] rfl
  refine wp_rounds 10 (fun k a W => St 27 w a W [(7, .int .i64 ((k : Nat) : Int)), (4, .func (.func 43) #[] #[.pointer (some ⟨g3, 0, none⟩)]), (2, .pointer (some ⟨g2, 0, none⟩)), (1, .pointer (some ⟨g1, 0, none⟩))] [(g3, 79, #[.func (.func 41) #[] #[.pointer (some ⟨g1, 0, none⟩)]]), (g2, 57, wv w0s), (g1, 57, wv (mixW f k))]) (k0 := 0) H (by omega) ?_
  try clear H a W
  intro k a W hk H
  by_cases hk2 : k < 10
  · refine wp_seq_k (fun K6 hK6 => ?_)
    refine rg_plain ?_
    refine pl_does (does_binOp rfl rfl rfl (i_lss_yes (k := k) (m := 10) (by omega) _ _)) rfl rfl rfl rfl H ?_
    try clear H a W
    intro a W H
    refine pl_end ?_
    refine hK6 _ _ ?_
    clear hK6
    refine wp_seq_k (fun K7 hK7 => ?_)
    refine wp_cond_true (H.ev rfl) ?_
    refine wp_skip ?_
    refine hK7 _ _ ?_
    clear hK7
    refine wp_seq_k (fun K8 hK8 => ?_)
    refine wp_block ?_
    refine wp_seq_k (fun K9 hK9 => ?_)
    refine rg_plain ?_
    refine pl_does (does_move rfl rfl) rfl rfl rfl rfl H ?_
    try clear H a W
    intro a W H
    refine pl_callK (f := 43) (caps := #[.pointer (some ⟨g3, 0, none⟩)]) (vs' := [.int .i64 ((0 : Nat) : Int), .int .i64 ((4 : Nat) : Int), .int .i64 ((8 : Nat) : Int), .int .i64 ((12 : Nat) : Int), .pointer (some ⟨g3, 0, none⟩)]) rfl ⟨_, Tryd.func43, by kernel_rfl⟩ rfl rfl rfl (fun K_ => quarter_any (by omega) (by omega) (by omega) (by omega) K_) rfl rfl rfl rfl H ?_
    try clear H a W
    intro a W H
    replace H : St 27 w a W [(10, .tuple #[]), (9, .func (.func 43) #[] #[.pointer (some ⟨g3, 0, none⟩)]), (8, .bool true), (7, .int .i64 ((k : Nat) : Int)), (4, .func (.func 43) #[] #[.pointer (some ⟨g3, 0, none⟩)]), (2, .pointer (some ⟨g2, 0, none⟩)), (1, .pointer (some ⟨g1, 0, none⟩))] [(g3, 79, #[.func (.func 41) #[] #[.pointer (some ⟨g1, 0, none⟩)]]), (g2, 57, wv w0s), (g1, 57, wv (quarterW (mixW f k) 0 4 8 12))] := H
    refine pl_end ?_
    replace H : St 27 w a W [(8, .bool true), (7, .int .i64 ((k : Nat) : Int)), (4, .func (.func 43) #[] #[.pointer (some ⟨g3, 0, none⟩)]), (2, .pointer (some ⟨g2, 0, none⟩)), (1, .pointer (some ⟨g1, 0, none⟩))] [(g3, 79, #[.func (.func 41) #[] #[.pointer (some ⟨g1, 0, none⟩)]]), (g2, 57, wv w0s), (g1, 57, wv (quarterW (mixW f k) 0 4 8 12))] := H.pick [2, 3, 4, 5, 6] [0, 1, 2] rfl
    refine hK9 _ _ ?_
    clear hK9
    refine wp_seq_k (fun K10 hK10 => ?_)
    refine rg_plain ?_
    refine pl_does (does_move rfl rfl) rfl rfl rfl rfl H ?_
    try clear H a W
    intro a W H
    refine pl_callK (f := 43) (caps := #[.pointer (some ⟨g3, 0, none⟩)]) (vs' := [.int .i64 ((1 : Nat) : Int), .int .i64 ((5 : Nat) : Int), .int .i64 ((9 : Nat) : Int), .int .i64 ((13 : Nat) : Int), .pointer (some ⟨g3, 0, none⟩)]) rfl ⟨_, Tryd.func43, by kernel_rfl⟩ rfl rfl rfl (fun K_ => quarter_any (by omega) (by omega) (by omega) (by omega) K_) rfl rfl rfl rfl H ?_
    try clear H a W
    intro a W H
    replace H : St 27 w a W [(12, .tuple #[]), (11, .func (.func 43) #[] #[.pointer (some ⟨g3, 0, none⟩)]), (8, .bool true), (7, .int .i64 ((k : Nat) : Int)), (4, .func (.func 43) #[] #[.pointer (some ⟨g3, 0, none⟩)]), (2, .pointer (some ⟨g2, 0, none⟩)), (1, .pointer (some ⟨g1, 0, none⟩))] [(g3, 79, #[.func (.func 41) #[] #[.pointer (some ⟨g1, 0, none⟩)]]), (g2, 57, wv w0s), (g1, 57, wv (quarterW (quarterW (mixW f k) 0 4 8 12) 1 5 9 13))] := H
    refine pl_end ?_
    replace H : St 27 w a W [(8, .bool true), (7, .int .i64 ((k : Nat) : Int)), (4, .func (.func 43) #[] #[.pointer (some ⟨g3, 0, none⟩)]), (2, .pointer (some ⟨g2, 0, none⟩)), (1, .pointer (some ⟨g1, 0, none⟩))] [(g3, 79, #[.func (.func 41) #[] #[.pointer (some ⟨g1, 0, none⟩)]]), (g2, 57, wv w0s), (g1, 57, wv (quarterW (quarterW (mixW f k) 0 4 8 12) 1 5 9 13))] := H.pick [2, 3, 4, 5, 6] [0, 1, 2] rfl
    refine hK10 _ _ ?_
    clear hK10
    refine wp_seq_k (fun K11 hK11 => ?_)
    refine rg_plain ?_
    refine pl_does (does_move rfl rfl) rfl rfl rfl rfl H ?_
    try clear H a W
    intro a W H
    refine pl_callK (f := 43) (caps := #[.pointer (some ⟨g3, 0, none⟩)]) (vs' := [.int .i64 ((2 : Nat) : Int), .int .i64 ((6 : Nat) : Int), .int .i64 ((10 : Nat) : Int), .int .i64 ((14 : Nat) : Int), .pointer (some ⟨g3, 0, none⟩)]) rfl ⟨_, Tryd.func43, by kernel_rfl⟩ rfl rfl rfl (fun K_ => quarter_any (by omega) (by omega) (by omega) (by omega) K_) rfl rfl rfl rfl H ?_
    try clear H a W
    intro a W H
    replace H : St 27 w a W [(14, .tuple #[]), (13, .func (.func 43) #[] #[.pointer (some ⟨g3, 0, none⟩)]), (8, .bool true), (7, .int .i64 ((k : Nat) : Int)), (4, .func (.func 43) #[] #[.pointer (some ⟨g3, 0, none⟩)]), (2, .pointer (some ⟨g2, 0, none⟩)), (1, .pointer (some ⟨g1, 0, none⟩))] [(g3, 79, #[.func (.func 41) #[] #[.pointer (some ⟨g1, 0, none⟩)]]), (g2, 57, wv w0s), (g1, 57, wv (quarterW (quarterW (quarterW (mixW f k) 0 4 8 12) 1 5 9 13) 2 6 10 14))] := H
    refine pl_end ?_
    replace H : St 27 w a W [(8, .bool true), (7, .int .i64 ((k : Nat) : Int)), (4, .func (.func 43) #[] #[.pointer (some ⟨g3, 0, none⟩)]), (2, .pointer (some ⟨g2, 0, none⟩)), (1, .pointer (some ⟨g1, 0, none⟩))] [(g3, 79, #[.func (.func 41) #[] #[.pointer (some ⟨g1, 0, none⟩)]]), (g2, 57, wv w0s), (g1, 57, wv (quarterW (quarterW (quarterW (mixW f k) 0 4 8 12) 1 5 9 13) 2 6 10 14))] := H.pick [2, 3, 4, 5, 6] [0, 1, 2] rfl
    refine hK11 _ _ ?_
    clear hK11
    refine wp_seq_k (fun K12 hK12 => ?_)
    refine rg_plain ?_
    refine pl_does (does_move rfl rfl) rfl rfl rfl rfl H ?_
    try clear H a W
    intro a W H
    refine pl_callK (f := 43) (caps := #[.pointer (some ⟨g3, 0, none⟩)]) (vs' := [.int .i64 ((3 : Nat) : Int), .int .i64 ((7 : Nat) : Int), .int .i64 ((11 : Nat) : Int), .int .i64 ((15 : Nat) : Int), .pointer (some ⟨g3, 0, none⟩)]) rfl ⟨_, Tryd.func43, by kernel_rfl⟩ rfl rfl rfl (fun K_ => quarter_any (by omega) (by omega) (by omega) (by omega) K_) rfl rfl rfl rfl H ?_
    try clear H a W
    intro a W H
    replace H : St 27 w a W [(16, .tuple #[]), (15, .func (.func 43) #[] #[.pointer (some ⟨g3, 0, none⟩)]), (8, .bool true), (7, .int .i64 ((k : Nat) : Int)), (4, .func (.func 43) #[] #[.pointer (some ⟨g3, 0, none⟩)]), (2, .pointer (some ⟨g2, 0, none⟩)), (1, .pointer (some ⟨g1, 0, none⟩))] [(g3, 79, #[.func (.func 41) #[] #[.pointer (some ⟨g1, 0, none⟩)]]), (g2, 57, wv w0s), (g1, 57, wv (quarterW (quarterW (quarterW (quarterW (mixW f k) 0 4 8 12) 1 5 9 13) 2 6 10 14) 3 7 11 15))] := H
    refine pl_end ?_
    replace H : St 27 w a W [(8, .bool true), (7, .int .i64 ((k : Nat) : Int)), (4, .func (.func 43) #[] #[.pointer (some ⟨g3, 0, none⟩)]), (2, .pointer (some ⟨g2, 0, none⟩)), (1, .pointer (some ⟨g1, 0, none⟩))] [(g3, 79, #[.func (.func 41) #[] #[.pointer (some ⟨g1, 0, none⟩)]]), (g2, 57, wv w0s), (g1, 57, wv (quarterW (quarterW (quarterW (quarterW (mixW f k) 0 4 8 12) 1 5 9 13) 2 6 10 14) 3 7 11 15))] := H.pick [2, 3, 4, 5, 6] [0, 1, 2] rfl
    refine hK12 _ _ ?_
    clear hK12
    refine wp_seq_k (fun K13 hK13 => ?_)
    refine rg_plain ?_
    refine pl_does (does_move rfl rfl) rfl rfl rfl rfl H ?_
    try clear H a W
    intro a W H
    refine pl_callK (f := 43) (caps := #[.pointer (some ⟨g3, 0, none⟩)]) (vs' := [.int .i64 ((0 : Nat) : Int), .int .i64 ((5 : Nat) : Int), .int .i64 ((10 : Nat) : Int), .int .i64 ((15 : Nat) : Int), .pointer (some ⟨g3, 0, none⟩)]) rfl ⟨_, Tryd.func43, by kernel_rfl⟩ rfl rfl rfl (fun K_ => quarter_any (by omega) (by omega) (by omega) (by omega) K_) rfl rfl rfl rfl H ?_
    try clear H a W
    intro a W H
    replace H : St 27 w a W [(18, .tuple #[]), (17, .func (.func 43) #[] #[.pointer (some ⟨g3, 0, none⟩)]), (8, .bool true), (7, .int .i64 ((k : Nat) : Int)), (4, .func (.func 43) #[] #[.pointer (some ⟨g3, 0, none⟩)]), (2, .pointer (some ⟨g2, 0, none⟩)), (1, .pointer (some ⟨g1, 0, none⟩))] [(g3, 79, #[.func (.func 41) #[] #[.pointer (some ⟨g1, 0, none⟩)]]), (g2, 57, wv w0s), (g1, 57, wv (quarterW (quarterW (quarterW (quarterW (quarterW (mixW f k) 0 4 8 12) 1 5 9 13) 2 6 10 14) 3 7 11 15) 0 5 10 15))] := H
    refine pl_end ?_
    replace H : St 27 w a W [(8, .bool true), (7, .int .i64 ((k : Nat) : Int)), (4, .func (.func 43) #[] #[.pointer (some ⟨g3, 0, none⟩)]), (2, .pointer (some ⟨g2, 0, none⟩)), (1, .pointer (some ⟨g1, 0, none⟩))] [(g3, 79, #[.func (.func 41) #[] #[.pointer (some ⟨g1, 0, none⟩)]]), (g2, 57, wv w0s), (g1, 57, wv (quarterW (quarterW (quarterW (quarterW (quarterW (mixW f k) 0 4 8 12) 1 5 9 13) 2 6 10 14) 3 7 11 15) 0 5 10 15))] := H.pick [2, 3, 4, 5, 6] [0, 1, 2] rfl
    refine hK13 _ _ ?_
    clear hK13
    refine wp_seq_k (fun K14 hK14 => ?_)
    refine rg_plain ?_
    refine pl_does (does_move rfl rfl) rfl rfl rfl rfl H ?_
    try clear H a W
    intro a W H
    refine pl_callK (f := 43) (caps := #[.pointer (some ⟨g3, 0, none⟩)]) (vs' := [.int .i64 ((1 : Nat) : Int), .int .i64 ((6 : Nat) : Int), .int .i64 ((11 : Nat) : Int), .int .i64 ((12 : Nat) : Int), .pointer (some ⟨g3, 0, none⟩)]) rfl ⟨_, Tryd.func43, by kernel_rfl⟩ rfl rfl rfl (fun K_ => quarter_any (by omega) (by omega) (by omega) (by omega) K_) rfl rfl rfl rfl H ?_
    try clear H a W
    intro a W H
    replace H : St 27 w a W [(20, .tuple #[]), (19, .func (.func 43) #[] #[.pointer (some ⟨g3, 0, none⟩)]), (8, .bool true), (7, .int .i64 ((k : Nat) : Int)), (4, .func (.func 43) #[] #[.pointer (some ⟨g3, 0, none⟩)]), (2, .pointer (some ⟨g2, 0, none⟩)), (1, .pointer (some ⟨g1, 0, none⟩))] [(g3, 79, #[.func (.func 41) #[] #[.pointer (some ⟨g1, 0, none⟩)]]), (g2, 57, wv w0s), (g1, 57, wv (quarterW (quarterW (quarterW (quarterW (quarterW (quarterW (mixW f k) 0 4 8 12) 1 5 9 13) 2 6 10 14) 3 7 11 15) 0 5 10 15) 1 6 11 12))] := H
    refine pl_end ?_
    replace H : St 27 w a W [(8, .bool true), (7, .int .i64 ((k : Nat) : Int)), (4, .func (.func 43) #[] #[.pointer (some ⟨g3, 0, none⟩)]), (2, .pointer (some ⟨g2, 0, none⟩)), (1, .pointer (some ⟨g1, 0, none⟩))] [(g3, 79, #[.func (.func 41) #[] #[.pointer (some ⟨g1, 0, none⟩)]]), (g2, 57, wv w0s), (g1, 57, wv (quarterW (quarterW (quarterW (quarterW (quarterW (quarterW (mixW f k) 0 4 8 12) 1 5 9 13) 2 6 10 14) 3 7 11 15) 0 5 10 15) 1 6 11 12))] := H.pick [2, 3, 4, 5, 6] [0, 1, 2] rfl
    refine hK14 _ _ ?_
    clear hK14
    refine wp_seq_k (fun K15 hK15 => ?_)
    refine rg_plain ?_
    refine pl_does (does_move rfl rfl) rfl rfl rfl rfl H ?_
    try clear H a W
    intro a W H
    refine pl_callK (f := 43) (caps := #[.pointer (some ⟨g3, 0, none⟩)]) (vs' := [.int .i64 ((2 : Nat) : Int), .int .i64 ((7 : Nat) : Int), .int .i64 ((8 : Nat) : Int), .int .i64 ((13 : Nat) : Int), .pointer (some ⟨g3, 0, none⟩)]) rfl ⟨_, Tryd.func43, by kernel_rfl⟩ rfl rfl rfl (fun K_ => quarter_any (by omega) (by omega) (by omega) (by omega) K_) rfl rfl rfl rfl H ?_
    try clear H a W
    intro a W H
    replace H : St 27 w a W [(22, .tuple #[]), (21, .func (.func 43) #[] #[.pointer (some ⟨g3, 0, none⟩)]), (8, .bool true), (7, .int .i64 ((k : Nat) : Int)), (4, .func (.func 43) #[] #[.pointer (some ⟨g3, 0, none⟩)]), (2, .pointer (some ⟨g2, 0, none⟩)), (1, .pointer (some ⟨g1, 0, none⟩))] [(g3, 79, #[.func (.func 41) #[] #[.pointer (some ⟨g1, 0, none⟩)]]), (g2, 57, wv w0s), (g1, 57, wv (quarterW (quarterW (quarterW (quarterW (quarterW (quarterW (quarterW (mixW f k) 0 4 8 12) 1 5 9 13) 2 6 10 14) 3 7 11 15) 0 5 10 15) 1 6 11 12) 2 7 8 13))] := H
    refine pl_end ?_
    replace H : St 27 w a W [(8, .bool true), (7, .int .i64 ((k : Nat) : Int)), (4, .func (.func 43) #[] #[.pointer (some ⟨g3, 0, none⟩)]), (2, .pointer (some ⟨g2, 0, none⟩)), (1, .pointer (some ⟨g1, 0, none⟩))] [(g3, 79, #[.func (.func 41) #[] #[.pointer (some ⟨g1, 0, none⟩)]]), (g2, 57, wv w0s), (g1, 57, wv (quarterW (quarterW (quarterW (quarterW (quarterW (quarterW (quarterW (mixW f k) 0 4 8 12) 1 5 9 13) 2 6 10 14) 3 7 11 15) 0 5 10 15) 1 6 11 12) 2 7 8 13))] := H.pick [2, 3, 4, 5, 6] [0, 1, 2] rfl
    refine hK15 _ _ ?_
    clear hK15
    refine rg_plain ?_
    refine pl_does (does_move rfl rfl) rfl rfl rfl rfl H ?_
    try clear H a W
    intro a W H
    refine pl_callK (f := 43) (caps := #[.pointer (some ⟨g3, 0, none⟩)]) (vs' := [.int .i64 ((3 : Nat) : Int), .int .i64 ((4 : Nat) : Int), .int .i64 ((9 : Nat) : Int), .int .i64 ((14 : Nat) : Int), .pointer (some ⟨g3, 0, none⟩)]) rfl ⟨_, Tryd.func43, by kernel_rfl⟩ rfl rfl rfl (fun K_ => quarter_any (by omega) (by omega) (by omega) (by omega) K_) rfl rfl rfl rfl H ?_
    try clear H a W
    intro a W H
    replace H : St 27 w a W [(24, .tuple #[]), (23, .func (.func 43) #[] #[.pointer (some ⟨g3, 0, none⟩)]), (8, .bool true), (7, .int .i64 ((k : Nat) : Int)), (4, .func (.func 43) #[] #[.pointer (some ⟨g3, 0, none⟩)]), (2, .pointer (some ⟨g2, 0, none⟩)), (1, .pointer (some ⟨g1, 0, none⟩))] [(g3, 79, #[.func (.func 41) #[] #[.pointer (some ⟨g1, 0, none⟩)]]), (g2, 57, wv w0s), (g1, 57, wv (quarterW (quarterW (quarterW (quarterW (quarterW (quarterW (quarterW (quarterW (mixW f k) 0 4 8 12) 1 5 9 13) 2 6 10 14) 3 7 11 15) 0 5 10 15) 1 6 11 12) 2 7 8 13) 3 4 9 14))] := H
    refine pl_end ?_
    replace H : St 27 w a W [(8, .bool true), (7, .int .i64 ((k : Nat) : Int)), (4, .func (.func 43) #[] #[.pointer (some ⟨g3, 0, none⟩)]), (2, .pointer (some ⟨g2, 0, none⟩)), (1, .pointer (some ⟨g1, 0, none⟩))] [(g3, 79, #[.func (.func 41) #[] #[.pointer (some ⟨g1, 0, none⟩)]]), (g2, 57, wv w0s), (g1, 57, wv (quarterW (quarterW (quarterW (quarterW (quarterW (quarterW (quarterW (quarterW (mixW f k) 0 4 8 12) 1 5 9 13) 2 6 10 14) 3 7 11 15) 0 5 10 15) 1 6 11 12) 2 7 8 13) 3 4 9 14))] := H.pick [2, 3, 4, 5, 6] [0, 1, 2] rfl
    refine blk_normal ?_
    refine hK8 _ _ ?_
    clear hK8
    refine rg_plain ?_
    refine pl_does (does_binOp rfl rfl rfl (i_inc (by omega) _ _)) rfl rfl rfl rfl H ?_
    try clear H a W
    intro a W H
    replace H : St 27 w a W [(25, .int .i64 ((k + 1 : Nat) : Int)), (8, .bool true), (4, .func (.func 43) #[] #[.pointer (some ⟨g3, 0, none⟩)]), (2, .pointer (some ⟨g2, 0, none⟩)), (1, .pointer (some ⟨g1, 0, none⟩))] [(g3, 79, #[.func (.func 41) #[] #[.pointer (some ⟨g1, 0, none⟩)]]), (g2, 57, wv w0s), (g1, 57, wv (quarterW (quarterW (quarterW (quarterW (quarterW (quarterW (quarterW (quarterW (mixW f k) 0 4 8 12) 1 5 9 13) 2 6 10 14) 3 7 11 15) 0 5 10 15) 1 6 11 12) 2 7 8 13) 3 4 9 14))] := H.pick [0, 1, 3, 4, 5] [0, 1, 2] rfl
    refine pl_does (does_move rfl rfl) rfl rfl rfl rfl H ?_
    try clear H a W
    intro a W H
    refine pl_end ?_
    refine ⟨k + 1, by omega, by omega, ?_⟩
    show St 27 w a W [(7, .int .i64 ((k + 1 : Nat) : Int)), (4, .func (.func 43) #[] #[.pointer (some ⟨g3, 0, none⟩)]), (2, .pointer (some ⟨g2, 0, none⟩)), (1, .pointer (some ⟨g1, 0, none⟩))] [(g3, 79, #[.func (.func 41) #[] #[.pointer (some ⟨g1, 0, none⟩)]]), (g2, 57, wv w0s), (g1, 57, wv (mixW f (k + 1)))]
    exact H.pick [0, 3, 4, 5] [0, 1, 2] rfl
  · obtain rfl : 10 = k := by omega
    refine wp_seq_k (fun K16 hK16 => ?_)
    refine rg_plain ?_
    refine pl_does (does_binOp rfl rfl rfl (i_lss_no (k := 10) (m := 10) (by omega) _ _)) rfl rfl rfl rfl H ?_
    try clear H a W
    intro a W H
    refine pl_end ?_
    refine hK16 _ _ ?_
    clear hK16
    refine wp_seq_k (fun K17 hK17 => ?_)
    refine wp_cond_false (H.ev rfl) ?_
    refine wp_exit ?_
    repeat (with_reducible refine then_exit ?_)
    refine blk_exit ?_
    refine hK4 _ _ ?_
    clear hK4
    refine wp_seq_k (fun K18 hK18 => ?_)
    refine rg_plain ?_
    refine pl_does (does_load rfl rfl (k := 2) rfl Tryd.underlying57 rfl (info_words _)) rfl rfl rfl rfl H ?_
    try clear H a W
    intro a W H
    refine pl_store rfl rfl rfl (k := 1) rfl (info_words _) (size_wv _ _) (wv_one _) rfl rfl H ?_
    try clear H a W
    intro a W H
    refine pl_end ?_
    replace H : St 27 w a W [(2, .pointer (some ⟨g2, 0, none⟩))] [(g3, 79, #[.func (.func 41) #[] #[.pointer (some ⟨g1, 0, none⟩)]]), (g2, 57, wv (mixW f 10)), (g1, 57, wv (mixW f 10))] := H.pick [4] [0, 1, 2] rfl
    refine hK18 _ _ ?_
    clear hK18
    refine wp_ret ?_
    repeat (first | (with_reducible refine then_ret ?_) | (with_reducible refine blk_ret ?_))
    refine end_cell (p := 2) rfl rfl (k := 1) rfl Tryd.underlying57 rfl (info_words _) H (fun hb => ?_)
    exact ⟨rfl, hb⟩
end Go.Proofs.YtghbknebaknmjaaDoor.Cha
