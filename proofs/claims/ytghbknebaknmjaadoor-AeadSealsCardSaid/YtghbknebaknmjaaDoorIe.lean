/- Package chacha: a block. -/
import Derived.Test.YtghbknebaknmjaaDoorId
namespace Go.Proofs.YtghbknebaknmjaaDoor.Cha
set_option linter.unusedVariables false
set_option linter.unusedSimpArgs false
set_option maxRecDepth 100000
open Go Go.RowKit

/-- The row while bytes are put into it, from the word o on. -/
def putW (f : Wd) (o : Nat) (b : Nat → UInt8) : Nat → Wd
  | 0 => f
  | k + 1 => upd (putW f o b k) (o + k / 4) (putW f o b k (o + k / 4) ||| shlW (byteW (b k)) (8 * (k % 4)))
/-- Bytes that are filled in one after another. -/
def fillB (F : Nat → UInt8) : Nat → Nat → UInt8
  | 0 => b0s
  | k + 1 => updB (fillB F k) k (F k)
theorem updB_self (f : Nat → UInt8) (a : Nat) (v : UInt8) : updB f a v a = v := by simp [updB]
theorem updB_ne {f : Nat → UInt8} {a i : Nat} {v : UInt8} (h : i ≠ a) : updB f a v i = f i := by
  simp only [updB, nb_ne h, cond_false]
theorem fillB_get (F : Nat → UInt8) : ∀ (k i : Nat), i < k → fillB F k i = F i
  | 0, i, h => absurd h (by omega)
  | k + 1, i, h => by
    unfold fillB
    by_cases e : i = k
    · subst e
      exact updB_self _ _ _
    · rw [updB_ne e]
      exact fillB_get F k i (by omega)
/-- The row while the beginning is added. -/
def sumK (f g : Wd) : Nat → Wd
  | 0 => g
  | k + 1 => upd (sumK f g k) k (sumK f g k k + f k)
theorem sumK_get (f g : Wd) : ∀ (k i : Nat), sumK f g k i = if i < k then g i + f i else g i
  | 0, i => rfl
  | k + 1, i => by
    unfold sumK
    by_cases e : i = k
    · subst e
      rw [upd_self, if_pos (by omega), sumK_get f g i i, if_neg (by omega)]
    · rw [upd_ne e, sumK_get f g k i]
      by_cases h : i < k
      · rw [if_pos h, if_pos (by omega)]
      · rw [if_neg h, if_neg (by omega)]
theorem sumK_all (f g : Wd) : wv (sumK f g 16) = wv (sumW f g) := wv_ext fun i hi => by
  rw [sumK_get, if_pos hi]
  rfl
theorem shl0 (x : UInt8) : shlW (byteW x) 0 = byteW x := by
  unfold shlW
  rw [Nat.pow_zero, Nat.mul_one, UInt32.ofNat_toNat]
theorem or0 (x : UInt32) : 0 ||| x = x := by simp
/-- The row, when all is put. -/
def begP (k : Nat → UInt8) (c : UInt32) (n : Nat → UInt8) : Wd := putW (upd (putW seedW 4 k 32) 12 c) 13 n 12
theorem begP_all (k : Nat → UInt8) (c : UInt32) (n : Nat → UInt8) : wv (begP k c n) = wv (begW k c n) := wv_ext fun i hi => by
  have z : ∀ x : UInt32, (0 : UInt32) ||| x = x := or0
  rcases i with _ | _ | _ | _ | _ | _ | _ | _ | _ | _ | _ | _ | _ | _ | _ | _ | i
  · rfl
  · rfl
  · rfl
  · rfl
  · show (((0 ||| shlW (byteW (k 0)) 0) ||| shlW (byteW (k 1)) 8) ||| shlW (byteW (k 2)) 16) ||| shlW (byteW (k 3)) 24 = _
    rw [z]; rfl
  · show (((0 ||| shlW (byteW (k 4)) 0) ||| shlW (byteW (k 5)) 8) ||| shlW (byteW (k 6)) 16) ||| shlW (byteW (k 7)) 24 = _
    rw [z]; rfl
  · show (((0 ||| shlW (byteW (k 8)) 0) ||| shlW (byteW (k 9)) 8) ||| shlW (byteW (k 10)) 16) ||| shlW (byteW (k 11)) 24 = _
    rw [z]; rfl
  · show (((0 ||| shlW (byteW (k 12)) 0) ||| shlW (byteW (k 13)) 8) ||| shlW (byteW (k 14)) 16) ||| shlW (byteW (k 15)) 24 = _
    rw [z]; rfl
  · show (((0 ||| shlW (byteW (k 16)) 0) ||| shlW (byteW (k 17)) 8) ||| shlW (byteW (k 18)) 16) ||| shlW (byteW (k 19)) 24 = _
    rw [z]; rfl
  · show (((0 ||| shlW (byteW (k 20)) 0) ||| shlW (byteW (k 21)) 8) ||| shlW (byteW (k 22)) 16) ||| shlW (byteW (k 23)) 24 = _
    rw [z]; rfl
  · show (((0 ||| shlW (byteW (k 24)) 0) ||| shlW (byteW (k 25)) 8) ||| shlW (byteW (k 26)) 16) ||| shlW (byteW (k 27)) 24 = _
    rw [z]; rfl
  · show (((0 ||| shlW (byteW (k 28)) 0) ||| shlW (byteW (k 29)) 8) ||| shlW (byteW (k 30)) 16) ||| shlW (byteW (k 31)) 24 = _
    rw [z]; rfl
  · rfl
  · show (((0 ||| shlW (byteW (n 0)) 0) ||| shlW (byteW (n 1)) 8) ||| shlW (byteW (n 2)) 16) ||| shlW (byteW (n 3)) 24 = _
    rw [z]; rfl
  · show (((0 ||| shlW (byteW (n 4)) 0) ||| shlW (byteW (n 5)) 8) ||| shlW (byteW (n 6)) 16) ||| shlW (byteW (n 7)) 24 = _
    rw [z]; rfl
  · show (((0 ||| shlW (byteW (n 8)) 0) ||| shlW (byteW (n 9)) 8) ||| shlW (byteW (n 10)) 16) ||| shlW (byteW (n 11)) 24 = _
    rw [z]; rfl
  · exact absurd hi (by omega)
theorem mix_ext {f g : Wd} (h : wv f = wv g) {i : Nat} (hi : i < 16) : f i = g i := by
  have e := congrArg (fun v : Array Value => v[i]?) h
  simp only [wv_get _ hi] at e
  injection e with e
  unfold wc at e
  injection e with _ e
  exact UInt32.toNat_inj.1 (by omega)
attribute [local irreducible] wv wc bvs bv rolW rb mixW shlW shrW byteW lowB sumW begW
theorem rb_fill (n : Nat) (F : Nat → UInt8) : bvs (rb n (fillB F n)) = bvs (rb n F) := by rw [rb_ext (fun i hi => fillB_get F n i hi)]
theorem outB_def (f : Wd) (i : Nat) : outB f i = lowB (shrW (f (i / 4)) (8 * (i % 4))) := rfl
theorem blockF_def (k : Nat → UInt8) (c : UInt32) (n : Nat → UInt8) : blockF k c n = outB (sumW (begW k c n) (mixW (begW k c n) 10)) := rfl
set_option maxHeartbeats 4000000 in
theorem put_key {w0 w : World} {g1 g2 g3 g4 : Nat} {f : Wd} {kk nn : Nat → UInt8} (K : Kn w0 w [(g4, 57, wv f), (g3, 57, wv w0s), (g2, 27, bvs (rb 12 nn)), (g1, 23, bvs (rb 32 kk))]) : Calls Tryd.prog 40 #[.slice (some ⟨g4, 4, none⟩) 8 12, .slice (some ⟨g1, 0, none⟩) 32 32] w (fun rr w' => rr = .returned (.tuple #[]) ∧ Kn w0 w' [(g4, 57, wv (putW f 4 kk 32)), (g3, 57, wv w0s), (g2, 27, bvs (rb 12 nn)), (g1, 23, bvs (rb 32 kk))]) := by
  refine calls_kn (vs := [.slice (some ⟨g4, 4, none⟩) 8 12, .slice (some ⟨g1, 0, none⟩) 32 32]) 27 Tryd.func40 rfl Tryd.ntmps40 rfl K (fun a W H => ?_)
  replace H : St 27 w0 a W [(0, .slice (some ⟨g4, 4, none⟩) 8 12), (1, .slice (some ⟨g1, 0, none⟩) 32 32)] [(g4, 57, wv f), (g3, 57, wv w0s), (g2, 27, bvs (rb 12 nn)), (g1, 23, bvs (rb 32 kk))] := H
  refine wp_seq_k (fun K1 hK1 => ?_)
  refine rg_plain ?_
  refine pl_does (does_move rfl rfl) rfl rfl rfl rfl H ?_
  try clear H a W
  intro a W H
  refine pl_does (does_len Tryd.underlying25 rfl rfl) rfl rfl rfl rfl H ?_
  try clear H a W
  intro a W H
  refine pl_does (does_move rfl rfl) rfl rfl rfl rfl H ?_
  try clear H a W
  intro a W H
  refine pl_end ?_
  replace H : St 27 w0 a W [(8, .int .i64 0), (7, .int .i64 ((32 : Nat) : Int)), (6, .slice (some ⟨g1, 0, none⟩) 32 32), (0, .slice (some ⟨g4, 4, none⟩) 8 12)] [(g4, 57, wv f), (g3, 57, wv w0s), (g2, 27, bvs (rb 12 nn)), (g1, 23, bvs (rb 32 kk))] := H.pick [0, 1, 2, 3] [0, 1, 2, 3] rfl
  refine hK1 _ _ ?_
  clear hK1
  refine wp_block ?_
  replace H : St 27 w0 a W [(8, .int .i64 ((0 : Nat) : Int)), (7, .int .i64 ((32 : Nat) : Int)), (6, .slice (some ⟨g1, 0, none⟩) 32 32), (0, .slice (some ⟨g4, 4, none⟩) 8 12)] [(g4, 57, wv (putW f 4 kk 0)), (g3, 57, wv w0s), (g2, 27, bvs (rb 12 nn)), (g1, 23, bvs (rb 32 kk))] := H.pick [0, 1, 2, 3] [0, 1, 2, 3] rfl
  refine wp_rounds 32 (fun k a W => St 27 w0 a W [(8, .int .i64 ((k : Nat) : Int)), (7, .int .i64 ((32 : Nat) : Int)), (6, .slice (some ⟨g1, 0, none⟩) 32 32), (0, .slice (some ⟨g4, 4, none⟩) 8 12)] [(g4, 57, wv (putW f 4 kk k)), (g3, 57, wv w0s), (g2, 27, bvs (rb 12 nn)), (g1, 23, bvs (rb 32 kk))]) (k0 := 0) H (by omega) ?_
  try clear H a W
  intro k a W hk H
  by_cases hk2 : k < 32
  · refine wp_seq_k (fun K2 hK2 => ?_)
    refine rg_plain ?_
    refine pl_does (does_binOp rfl rfl rfl (i_lss_yes (k := k) (m := 32) (by omega) _ _)) rfl rfl rfl rfl H ?_
    try clear H a W
    intro a W H
    refine pl_end ?_
    refine hK2 _ _ ?_
    clear hK2
    refine wp_seq_k (fun K3 hK3 => ?_)
    refine wp_cond_true (H.ev rfl) ?_
    refine wp_skip ?_
    refine hK3 _ _ ?_
    clear hK3
    refine wp_seq_k (fun K4 hK4 => ?_)
    refine wp_block ?_
    refine wp_seq_k (fun K5 hK5 => ?_)
    refine rg_plain ?_
    refine pl_does (does_move rfl rfl) rfl rfl rfl rfl H ?_
    try clear H a W
    intro a W H
    refine pl_does (does_indexAddr rfl rfl rfl (ia_bytes (j := k) (by omega))) rfl rfl rfl rfl H ?_
    try clear H a W
    intro a W H
    refine pl_does (does_loadAt (v := bv (kk (0 + k))) rfl rfl (k := 3) rfl (ld_byte (show 0 + k < 32 by omega))) rfl rfl rfl rfl H ?_
    try clear H a W
    intro a W H
    refine pl_does (does_assign rfl rfl) rfl rfl rfl rfl H ?_
    try clear H a W
    intro a W H
    refine pl_does (does_assign rfl rfl) rfl rfl rfl rfl H ?_
    try clear H a W
    intro a W H
    refine pl_end ?_
    refine hK5 _ _ ?_
    clear hK5
    refine drawnS [.val 13 (.slice (some ⟨g4, 4, none⟩) 8 12) [] [], .val 14 (.int .i64 ((k : Nat) : Int)) [] [], .val 15 (.int .i64 ((k / 4 : Nat) : Int)) [1] [], .val 16 (.pointer (some ⟨g4, 4 + (k / 4), none⟩)) [0, 2] [], .val 17 (wc ((putW f 4 kk k) (4 + (k / 4)))) [3] [0], .val 18 (bv (kk (0 + k))) [] [], .val 19 (wc (byteW (kk (0 + k)))) [5] [], .val 20 (.int .i64 ((k : Nat) : Int)) [] [], .val 21 (.int .i64 ((k % 4 : Nat) : Int)) [7] [], .val 22 (.int .i64 ((8 * (k % 4) : Nat) : Int)) [8] [], .val 23 (wc (shlW (byteW (kk (0 + k))) (8 * (k % 4)))) [6, 9] [], .val 24 (wc (((putW f 4 kk k) (4 + (k / 4))) ||| (shlW (byteW (kk (0 + k))) (8 * (k % 4))))) [4, 10] [], .val 25 (.pointer (some ⟨g4, 4 + (k / 4), none⟩)) [0, 2] [], .sto 0 g4 57 (wv (putW f 4 kk k)) (wv (upd (putW f 4 kk k) (4 + (k / 4)) (((putW f 4 kk k) (4 + (k / 4))) ||| (shlW (byteW (kk (0 + k))) (8 * (k % 4)))))) [12, 11]] [0, 0, 2, 5, 8, 0, 32, 0, 128, 256, 576, 1040, 4095, 8191] (by kernel_rfl) (by kernel_rfl) (by kernel_rfl) H ⟨⟨does_move rfl rfl, wanted_none rfl⟩, ⟨does_move rfl rfl, wanted_none rfl⟩, ⟨does_binOp rfl rfl rfl (i_quo (k := k) (m := 4) (by omega) (by omega) (by omega) _ _), wanted_none rfl⟩, ⟨does_indexAddr rfl rfl rfl (ia_u32s (j := (k / 4)) (by omega)), wanted_none rfl⟩, ⟨does_loadAt (v := wc ((putW f 4 kk k) (4 + (k / 4)))) rfl rfl (k := 0) rfl (ld_word (by omega)), wanted_none rfl⟩, ⟨does_move rfl rfl, wanted_none rfl⟩, ⟨does_convert rfl rfl (cv_bw _), wanted_none rfl⟩, ⟨does_move rfl rfl, wanted_none rfl⟩, ⟨does_binOp rfl rfl rfl (i_rem (k := k) (m := 4) (by omega) _ _), wanted_none rfl⟩, ⟨does_binOp rfl rfl rfl (i_mul (k := 8) (m := (k % 4)) (by omega) _ _), wanted_none rfl⟩, ⟨does_binOp rfl rfl rfl (w_shl (s := (8 * (k % 4))) (by omega) _ _), wanted_none rfl⟩, ⟨does_binOp rfl rfl rfl (w_or _ _ _ _), wanted_none rfl⟩, ⟨does_indexAddr rfl rfl rfl (ia_u32s (j := (k / 4)) (by omega)), wanted_none rfl⟩, ⟨rfl, rfl, sto_at rfl rfl rfl (st_word (by omega)) (sv_word rfl)⟩, trivial⟩ ?_
    try clear H a W
    intro G1 a W H
    replace H : St 27 w0 a W [(13, .slice (some ⟨g4, 4, none⟩) 8 12), (14, .int .i64 ((k : Nat) : Int)), (15, .int .i64 ((k / 4 : Nat) : Int)), (16, .pointer (some ⟨g4, 4 + (k / 4), none⟩)), (17, wc ((putW f 4 kk k) (4 + (k / 4)))), (18, bv (kk (0 + k))), (19, wc (byteW (kk (0 + k)))), (20, .int .i64 ((k : Nat) : Int)), (21, .int .i64 ((k % 4 : Nat) : Int)), (22, .int .i64 ((8 * (k % 4) : Nat) : Int)), (23, wc (shlW (byteW (kk (0 + k))) (8 * (k % 4)))), (24, wc (((putW f 4 kk k) (4 + (k / 4))) ||| (shlW (byteW (kk (0 + k))) (8 * (k % 4))))), (25, .pointer (some ⟨g4, 4 + (k / 4), none⟩)), (5, bv (kk (0 + k))), (4, .int .i64 ((k : Nat) : Int)), (12, bv (kk (0 + k))), (11, .pointer (some ⟨g1, 0 + k, none⟩)), (10, .int .i64 ((k : Nat) : Int)), (9, .bool true), (8, .int .i64 ((k : Nat) : Int)), (7, .int .i64 ((32 : Nat) : Int)), (6, .slice (some ⟨g1, 0, none⟩) 32 32), (0, .slice (some ⟨g4, 4, none⟩) 8 12)] [(g4, 57, wv (upd (putW f 4 kk k) (4 + (k / 4)) (((putW f 4 kk k) (4 + (k / 4))) ||| (shlW (byteW (kk (0 + k))) (8 * (k % 4)))))), (g3, 57, wv w0s), (g2, 27, bvs (rb 12 nn)), (g1, 23, bvs (rb 32 kk))] := H
    refine blk_normal ?_
    refine hK4 _ _ ?_
    clear hK4
    refine rg_plain ?_
    refine pl_does (does_binOp rfl rfl rfl (i_inc (by omega) _ _)) rfl rfl rfl rfl H ?_
    try clear H a W
    intro a W H
    replace H : St 27 w0 a W [(26, .int .i64 ((k + 1 : Nat) : Int)), (13, .slice (some ⟨g4, 4, none⟩) 8 12), (14, .int .i64 ((k : Nat) : Int)), (15, .int .i64 ((k / 4 : Nat) : Int)), (16, .pointer (some ⟨g4, 4 + (k / 4), none⟩)), (17, wc ((putW f 4 kk k) (4 + (k / 4)))), (18, bv (kk (0 + k))), (19, wc (byteW (kk (0 + k)))), (20, .int .i64 ((k : Nat) : Int)), (21, .int .i64 ((k % 4 : Nat) : Int)), (22, .int .i64 ((8 * (k % 4) : Nat) : Int)), (23, wc (shlW (byteW (kk (0 + k))) (8 * (k % 4)))), (24, wc (((putW f 4 kk k) (4 + (k / 4))) ||| (shlW (byteW (kk (0 + k))) (8 * (k % 4))))), (25, .pointer (some ⟨g4, 4 + (k / 4), none⟩)), (5, bv (kk (0 + k))), (4, .int .i64 ((k : Nat) : Int)), (12, bv (kk (0 + k))), (11, .pointer (some ⟨g1, 0 + k, none⟩)), (10, .int .i64 ((k : Nat) : Int)), (9, .bool true), (7, .int .i64 ((32 : Nat) : Int)), (6, .slice (some ⟨g1, 0, none⟩) 32 32), (0, .slice (some ⟨g4, 4, none⟩) 8 12)] [(g4, 57, wv (upd (putW f 4 kk k) (4 + (k / 4)) (((putW f 4 kk k) (4 + (k / 4))) ||| (shlW (byteW (kk (0 + k))) (8 * (k % 4)))))), (g3, 57, wv w0s), (g2, 27, bvs (rb 12 nn)), (g1, 23, bvs (rb 32 kk))] := H.pick [0, 1, 2, 3, 4, 5, 6, 7, 8, 9, 10, 11, 12, 13, 14, 15, 16, 17, 18, 19, 21, 22, 23] [0, 1, 2, 3] rfl
    refine pl_does (does_move rfl rfl) rfl rfl rfl rfl H ?_
    try clear H a W
    intro a W H
    refine pl_end ?_
    refine ⟨k + 1, by omega, by omega, ?_⟩
    show St 27 w0 a W [(8, .int .i64 ((k + 1 : Nat) : Int)), (7, .int .i64 ((32 : Nat) : Int)), (6, .slice (some ⟨g1, 0, none⟩) 32 32), (0, .slice (some ⟨g4, 4, none⟩) 8 12)] [(g4, 57, wv (putW f 4 kk (k + 1))), (g3, 57, wv w0s), (g2, 27, bvs (rb 12 nn)), (g1, 23, bvs (rb 32 kk))]
    rw [Nat.zero_add] at H
    exact H.pick [0, 21, 22, 23] [0, 1, 2, 3] rfl
  · obtain rfl : 32 = k := by omega
    refine wp_seq_k (fun K6 hK6 => ?_)
    refine rg_plain ?_
    refine pl_does (does_binOp rfl rfl rfl (i_lss_no (k := 32) (m := 32) (by omega) _ _)) rfl rfl rfl rfl H ?_
    try clear H a W
    intro a W H
    refine pl_end ?_
    replace H : St 27 w0 a W [(9, .bool false), (8, .int .i64 ((32 : Nat) : Int)), (6, .slice (some ⟨g1, 0, none⟩) 32 32), (0, .slice (some ⟨g4, 4, none⟩) 8 12)] [(g4, 57, wv (putW f 4 kk 32)), (g3, 57, wv w0s), (g2, 27, bvs (rb 12 nn)), (g1, 23, bvs (rb 32 kk))] := H.pick [0, 1, 3, 4] [0, 1, 2, 3] rfl
    refine hK6 _ _ ?_
    clear hK6
    refine wp_seq_k (fun K7 hK7 => ?_)
    refine wp_cond_false (H.ev rfl) ?_
    refine wp_exit ?_
    repeat (with_reducible refine then_exit ?_)
    refine blk_exit ?_
    refine end_none rfl H (fun hk => ?_)
    exact ⟨rfl, hk⟩
set_option maxHeartbeats 4000000 in
theorem put_nonce {w0 w : World} {g1 g2 g3 g4 : Nat} {f : Wd} {kk nn : Nat → UInt8} (K : Kn w0 w [(g4, 57, wv f), (g3, 57, wv w0s), (g2, 27, bvs (rb 12 nn)), (g1, 23, bvs (rb 32 kk))]) : Calls Tryd.prog 40 #[.slice (some ⟨g4, 13, none⟩) 3 3, .slice (some ⟨g2, 0, none⟩) 12 12] w (fun rr w' => rr = .returned (.tuple #[]) ∧ Kn w0 w' [(g4, 57, wv (putW f 13 nn 12)), (g3, 57, wv w0s), (g2, 27, bvs (rb 12 nn)), (g1, 23, bvs (rb 32 kk))]) := by
  refine calls_kn (vs := [.slice (some ⟨g4, 13, none⟩) 3 3, .slice (some ⟨g2, 0, none⟩) 12 12]) 27 Tryd.func40 rfl Tryd.ntmps40 rfl K (fun a W H => ?_)
  replace H : St 27 w0 a W [(0, .slice (some ⟨g4, 13, none⟩) 3 3), (1, .slice (some ⟨g2, 0, none⟩) 12 12)] [(g4, 57, wv f), (g3, 57, wv w0s), (g2, 27, bvs (rb 12 nn)), (g1, 23, bvs (rb 32 kk))] := H
  refine wp_seq_k (fun K1 hK1 => ?_)
  refine rg_plain ?_
  refine pl_does (does_move rfl rfl) rfl rfl rfl rfl H ?_
  try clear H a W
  intro a W H
  refine pl_does (does_len Tryd.underlying25 rfl rfl) rfl rfl rfl rfl H ?_
  try clear H a W
  intro a W H
  refine pl_does (does_move rfl rfl) rfl rfl rfl rfl H ?_
  try clear H a W
  intro a W H
  refine pl_end ?_
  replace H : St 27 w0 a W [(8, .int .i64 0), (7, .int .i64 ((12 : Nat) : Int)), (6, .slice (some ⟨g2, 0, none⟩) 12 12), (0, .slice (some ⟨g4, 13, none⟩) 3 3)] [(g4, 57, wv f), (g3, 57, wv w0s), (g2, 27, bvs (rb 12 nn)), (g1, 23, bvs (rb 32 kk))] := H.pick [0, 1, 2, 3] [0, 1, 2, 3] rfl
  refine hK1 _ _ ?_
  clear hK1
  refine wp_block ?_
  replace H : St 27 w0 a W [(8, .int .i64 ((0 : Nat) : Int)), (7, .int .i64 ((12 : Nat) : Int)), (6, .slice (some ⟨g2, 0, none⟩) 12 12), (0, .slice (some ⟨g4, 13, none⟩) 3 3)] [(g4, 57, wv (putW f 13 nn 0)), (g3, 57, wv w0s), (g2, 27, bvs (rb 12 nn)), (g1, 23, bvs (rb 32 kk))] := H.pick [0, 1, 2, 3] [0, 1, 2, 3] rfl
  refine wp_rounds 12 (fun k a W => St 27 w0 a W [(8, .int .i64 ((k : Nat) : Int)), (7, .int .i64 ((12 : Nat) : Int)), (6, .slice (some ⟨g2, 0, none⟩) 12 12), (0, .slice (some ⟨g4, 13, none⟩) 3 3)] [(g4, 57, wv (putW f 13 nn k)), (g3, 57, wv w0s), (g2, 27, bvs (rb 12 nn)), (g1, 23, bvs (rb 32 kk))]) (k0 := 0) H (by omega) ?_
  try clear H a W
  intro k a W hk H
  by_cases hk2 : k < 12
  · refine wp_seq_k (fun K2 hK2 => ?_)
    refine rg_plain ?_
    refine pl_does (does_binOp rfl rfl rfl (i_lss_yes (k := k) (m := 12) (by omega) _ _)) rfl rfl rfl rfl H ?_
    try clear H a W
    intro a W H
    refine pl_end ?_
    refine hK2 _ _ ?_
    clear hK2
    refine wp_seq_k (fun K3 hK3 => ?_)
    refine wp_cond_true (H.ev rfl) ?_
    refine wp_skip ?_
    refine hK3 _ _ ?_
    clear hK3
    refine wp_seq_k (fun K4 hK4 => ?_)
    refine wp_block ?_
    refine wp_seq_k (fun K5 hK5 => ?_)
    refine rg_plain ?_
    refine pl_does (does_move rfl rfl) rfl rfl rfl rfl H ?_
    try clear H a W
    intro a W H
    refine pl_does (does_indexAddr rfl rfl rfl (ia_bytes (j := k) (by omega))) rfl rfl rfl rfl H ?_
    try clear H a W
    intro a W H
    refine pl_does (does_loadAt (v := bv (nn (0 + k))) rfl rfl (k := 2) rfl (ld_byte (show 0 + k < 12 by omega))) rfl rfl rfl rfl H ?_
    try clear H a W
    intro a W H
    refine pl_does (does_assign rfl rfl) rfl rfl rfl rfl H ?_
    try clear H a W
    intro a W H
    refine pl_does (does_assign rfl rfl) rfl rfl rfl rfl H ?_
    try clear H a W
    intro a W H
    refine pl_end ?_
    refine hK5 _ _ ?_
    clear hK5
    refine drawnS [.val 13 (.slice (some ⟨g4, 13, none⟩) 3 3) [] [], .val 14 (.int .i64 ((k : Nat) : Int)) [] [], .val 15 (.int .i64 ((k / 4 : Nat) : Int)) [1] [], .val 16 (.pointer (some ⟨g4, 13 + (k / 4), none⟩)) [0, 2] [], .val 17 (wc ((putW f 13 nn k) (13 + (k / 4)))) [3] [0], .val 18 (bv (nn (0 + k))) [] [], .val 19 (wc (byteW (nn (0 + k)))) [5] [], .val 20 (.int .i64 ((k : Nat) : Int)) [] [], .val 21 (.int .i64 ((k % 4 : Nat) : Int)) [7] [], .val 22 (.int .i64 ((8 * (k % 4) : Nat) : Int)) [8] [], .val 23 (wc (shlW (byteW (nn (0 + k))) (8 * (k % 4)))) [6, 9] [], .val 24 (wc (((putW f 13 nn k) (13 + (k / 4))) ||| (shlW (byteW (nn (0 + k))) (8 * (k % 4))))) [4, 10] [], .val 25 (.pointer (some ⟨g4, 13 + (k / 4), none⟩)) [0, 2] [], .sto 0 g4 57 (wv (putW f 13 nn k)) (wv (upd (putW f 13 nn k) (13 + (k / 4)) (((putW f 13 nn k) (13 + (k / 4))) ||| (shlW (byteW (nn (0 + k))) (8 * (k % 4)))))) [12, 11]] [0, 0, 2, 5, 8, 0, 32, 0, 128, 256, 576, 1040, 4095, 8191] (by kernel_rfl) (by kernel_rfl) (by kernel_rfl) H ⟨⟨does_move rfl rfl, wanted_none rfl⟩, ⟨does_move rfl rfl, wanted_none rfl⟩, ⟨does_binOp rfl rfl rfl (i_quo (k := k) (m := 4) (by omega) (by omega) (by omega) _ _), wanted_none rfl⟩, ⟨does_indexAddr rfl rfl rfl (ia_u32s (j := (k / 4)) (by omega)), wanted_none rfl⟩, ⟨does_loadAt (v := wc ((putW f 13 nn k) (13 + (k / 4)))) rfl rfl (k := 0) rfl (ld_word (by omega)), wanted_none rfl⟩, ⟨does_move rfl rfl, wanted_none rfl⟩, ⟨does_convert rfl rfl (cv_bw _), wanted_none rfl⟩, ⟨does_move rfl rfl, wanted_none rfl⟩, ⟨does_binOp rfl rfl rfl (i_rem (k := k) (m := 4) (by omega) _ _), wanted_none rfl⟩, ⟨does_binOp rfl rfl rfl (i_mul (k := 8) (m := (k % 4)) (by omega) _ _), wanted_none rfl⟩, ⟨does_binOp rfl rfl rfl (w_shl (s := (8 * (k % 4))) (by omega) _ _), wanted_none rfl⟩, ⟨does_binOp rfl rfl rfl (w_or _ _ _ _), wanted_none rfl⟩, ⟨does_indexAddr rfl rfl rfl (ia_u32s (j := (k / 4)) (by omega)), wanted_none rfl⟩, ⟨rfl, rfl, sto_at rfl rfl rfl (st_word (by omega)) (sv_word rfl)⟩, trivial⟩ ?_
    try clear H a W
    intro G1 a W H
    replace H : St 27 w0 a W [(13, .slice (some ⟨g4, 13, none⟩) 3 3), (14, .int .i64 ((k : Nat) : Int)), (15, .int .i64 ((k / 4 : Nat) : Int)), (16, .pointer (some ⟨g4, 13 + (k / 4), none⟩)), (17, wc ((putW f 13 nn k) (13 + (k / 4)))), (18, bv (nn (0 + k))), (19, wc (byteW (nn (0 + k)))), (20, .int .i64 ((k : Nat) : Int)), (21, .int .i64 ((k % 4 : Nat) : Int)), (22, .int .i64 ((8 * (k % 4) : Nat) : Int)), (23, wc (shlW (byteW (nn (0 + k))) (8 * (k % 4)))), (24, wc (((putW f 13 nn k) (13 + (k / 4))) ||| (shlW (byteW (nn (0 + k))) (8 * (k % 4))))), (25, .pointer (some ⟨g4, 13 + (k / 4), none⟩)), (5, bv (nn (0 + k))), (4, .int .i64 ((k : Nat) : Int)), (12, bv (nn (0 + k))), (11, .pointer (some ⟨g2, 0 + k, none⟩)), (10, .int .i64 ((k : Nat) : Int)), (9, .bool true), (8, .int .i64 ((k : Nat) : Int)), (7, .int .i64 ((12 : Nat) : Int)), (6, .slice (some ⟨g2, 0, none⟩) 12 12), (0, .slice (some ⟨g4, 13, none⟩) 3 3)] [(g4, 57, wv (upd (putW f 13 nn k) (13 + (k / 4)) (((putW f 13 nn k) (13 + (k / 4))) ||| (shlW (byteW (nn (0 + k))) (8 * (k % 4)))))), (g3, 57, wv w0s), (g2, 27, bvs (rb 12 nn)), (g1, 23, bvs (rb 32 kk))] := H
    refine blk_normal ?_
    refine hK4 _ _ ?_
    clear hK4
    refine rg_plain ?_
    refine pl_does (does_binOp rfl rfl rfl (i_inc (by omega) _ _)) rfl rfl rfl rfl H ?_
    try clear H a W
    intro a W H
    replace H : St 27 w0 a W [(26, .int .i64 ((k + 1 : Nat) : Int)), (13, .slice (some ⟨g4, 13, none⟩) 3 3), (14, .int .i64 ((k : Nat) : Int)), (15, .int .i64 ((k / 4 : Nat) : Int)), (16, .pointer (some ⟨g4, 13 + (k / 4), none⟩)), (17, wc ((putW f 13 nn k) (13 + (k / 4)))), (18, bv (nn (0 + k))), (19, wc (byteW (nn (0 + k)))), (20, .int .i64 ((k : Nat) : Int)), (21, .int .i64 ((k % 4 : Nat) : Int)), (22, .int .i64 ((8 * (k % 4) : Nat) : Int)), (23, wc (shlW (byteW (nn (0 + k))) (8 * (k % 4)))), (24, wc (((putW f 13 nn k) (13 + (k / 4))) ||| (shlW (byteW (nn (0 + k))) (8 * (k % 4))))), (25, .pointer (some ⟨g4, 13 + (k / 4), none⟩)), (5, bv (nn (0 + k))), (4, .int .i64 ((k : Nat) : Int)), (12, bv (nn (0 + k))), (11, .pointer (some ⟨g2, 0 + k, none⟩)), (10, .int .i64 ((k : Nat) : Int)), (9, .bool true), (7, .int .i64 ((12 : Nat) : Int)), (6, .slice (some ⟨g2, 0, none⟩) 12 12), (0, .slice (some ⟨g4, 13, none⟩) 3 3)] [(g4, 57, wv (upd (putW f 13 nn k) (13 + (k / 4)) (((putW f 13 nn k) (13 + (k / 4))) ||| (shlW (byteW (nn (0 + k))) (8 * (k % 4)))))), (g3, 57, wv w0s), (g2, 27, bvs (rb 12 nn)), (g1, 23, bvs (rb 32 kk))] := H.pick [0, 1, 2, 3, 4, 5, 6, 7, 8, 9, 10, 11, 12, 13, 14, 15, 16, 17, 18, 19, 21, 22, 23] [0, 1, 2, 3] rfl
    refine pl_does (does_move rfl rfl) rfl rfl rfl rfl H ?_
    try clear H a W
    intro a W H
    refine pl_end ?_
    refine ⟨k + 1, by omega, by omega, ?_⟩
    show St 27 w0 a W [(8, .int .i64 ((k + 1 : Nat) : Int)), (7, .int .i64 ((12 : Nat) : Int)), (6, .slice (some ⟨g2, 0, none⟩) 12 12), (0, .slice (some ⟨g4, 13, none⟩) 3 3)] [(g4, 57, wv (putW f 13 nn (k + 1))), (g3, 57, wv w0s), (g2, 27, bvs (rb 12 nn)), (g1, 23, bvs (rb 32 kk))]
    rw [Nat.zero_add] at H
    exact H.pick [0, 21, 22, 23] [0, 1, 2, 3] rfl
  · obtain rfl : 12 = k := by omega
    refine wp_seq_k (fun K6 hK6 => ?_)
    refine rg_plain ?_
    refine pl_does (does_binOp rfl rfl rfl (i_lss_no (k := 12) (m := 12) (by omega) _ _)) rfl rfl rfl rfl H ?_
    try clear H a W
    intro a W H
    refine pl_end ?_
    replace H : St 27 w0 a W [(9, .bool false), (8, .int .i64 ((12 : Nat) : Int)), (6, .slice (some ⟨g2, 0, none⟩) 12 12), (0, .slice (some ⟨g4, 13, none⟩) 3 3)] [(g4, 57, wv (putW f 13 nn 12)), (g3, 57, wv w0s), (g2, 27, bvs (rb 12 nn)), (g1, 23, bvs (rb 32 kk))] := H.pick [0, 1, 3, 4] [0, 1, 2, 3] rfl
    refine hK6 _ _ ?_
    clear hK6
    refine wp_seq_k (fun K7 hK7 => ?_)
    refine wp_cond_false (H.ev rfl) ?_
    refine wp_exit ?_
    repeat (with_reducible refine then_exit ?_)
    refine blk_exit ?_
    refine end_none rfl H (fun hk => ?_)
    exact ⟨rfl, hk⟩
set_option maxHeartbeats 4000000 in
theorem beginning_any (kk : Nat → UInt8) (c : UInt32) (nn : Nat → UInt8) (w : World) : Calls Tryd.prog 28 #[.agg (bvs (rb 32 kk)), wc c, .agg (bvs (rb 12 nn))] w (fun rr w' => rr = .returned (.agg (wv (begW kk c nn))) ∧ Below w.heap.size w w') := by
  refine calls_st (vs := [.agg (bvs (rb 32 kk)), wc c, .agg (bvs (rb 12 nn))]) 18 Tryd.func28 rfl Tryd.ntmps28 rfl (fun a W H => ?_)
  replace H : St 18 w a W [(0, .agg (bvs (rb 32 kk))), (1, wc c), (2, .agg (bvs (rb 12 nn)))] [] := H
  refine wp_seq_k (fun K1 hK1 => ?_)
  refine rg_plain ?_
  refine pl_box rfl rfl (bx_key kk) rfl rfl rfl rfl H ?_
  try clear H a W
  intro g1 a W H
  refine pl_box rfl rfl (bx_nonce nn) rfl rfl rfl rfl H ?_
  try clear H a W
  intro g2 a W H
  refine pl_new (news_of rfl al_words) rfl rfl rfl rfl H ?_
  try clear H a W
  intro g3 a W H
  refine pl_end ?_
  replace H : St 18 w a W [(6, .pointer (some ⟨g3, 0, none⟩)), (5, .pointer (some ⟨g2, 0, none⟩)), (3, .pointer (some ⟨g1, 0, none⟩)), (1, wc c)] [(g3, 57, wv w0s), (g2, 27, bvs (rb 12 nn)), (g1, 23, bvs (rb 32 kk))] := H.pick [0, 1, 2, 4] [0, 1, 2] rfl
  refine hK1 _ _ ?_
  clear hK1
  refine wp_seq_k (fun K2 hK2 => ?_)
  refine rg_plain ?_
  refine pl_does (does_build rfl rfl bd_words) rfl rfl rfl rfl H ?_
  try clear H a W
  intro a W H
  refine pl_new (news_of rfl al_words) rfl rfl rfl rfl H ?_
  try clear H a W
  intro g4 a W H
  refine pl_store rfl rfl rfl (k := 0) rfl (info_words _) (size_wv _ _) (wv_one _) rfl rfl H ?_
  try clear H a W
  intro a W H
  refine pl_end ?_
  replace H : St 18 w a W [(7, .pointer (some ⟨g4, 0, none⟩)), (6, .pointer (some ⟨g3, 0, none⟩)), (5, .pointer (some ⟨g2, 0, none⟩)), (3, .pointer (some ⟨g1, 0, none⟩)), (1, wc c)] [(g4, 57, wv seedW), (g3, 57, wv w0s), (g2, 27, bvs (rb 12 nn)), (g1, 23, bvs (rb 32 kk))] := H.pick [0, 2, 3, 4, 5] [0, 1, 2, 3] rfl
  refine hK2 _ _ ?_
  clear hK2
  refine wp_seq_k (fun K3 hK3 => ?_)
  refine drawnR SB SB [⟨9, fun u_ _ => u_ = .slice (some ⟨g4, 4, none⟩) 8 12, [], none, false⟩, ⟨10, fun u_ _ => u_ = .slice (some ⟨g1, 0, none⟩) 32 32, [], none, false⟩] [0, 0, 3] [0, 1] sb_st sb_st (by kernel_rfl) (by kernel_rfl) (by kernel_rfl) H ⟨⟨fun a W  H => by exact ob_valS H (wanted_none rfl) (does_slice rfl rfl (vl := some (.int .i64 4)) (vh := some (.int .i64 12)) rfl rfl (sl_w4 g4)), val_grow, fun _ => val_grow⟩, ⟨fun a W  H => by exact ob_valS H (wanted_none rfl) (does_slice rfl rfl (vl := none) (vh := none) rfl rfl (sl_key g1)), val_grow, fun _ => val_grow⟩, trivial⟩ (by kernel_rfl) ?_
  try clear H a W
  intro a W
  rintro _ rfl
  rintro _ rfl
  intro H
  replace H : St 18 w a W [(10, .slice (some ⟨g1, 0, none⟩) 32 32), (9, .slice (some ⟨g4, 4, none⟩) 8 12), (7, .pointer (some ⟨g4, 0, none⟩)), (6, .pointer (some ⟨g3, 0, none⟩)), (5, .pointer (some ⟨g2, 0, none⟩)), (3, .pointer (some ⟨g1, 0, none⟩)), (1, wc c)] [(g4, 57, wv seedW), (g3, 57, wv w0s), (g2, 27, bvs (rb 12 nn)), (g1, 23, bvs (rb 32 kk))] := H
  refine pl_callK (f := 40) (caps := #[]) (vs' := [.slice (some ⟨g4, 4, none⟩) 8 12, .slice (some ⟨g1, 0, none⟩) 32 32]) rfl ⟨_, Tryd.func40, by kernel_rfl⟩ rfl rfl rfl (fun K_ => put_key K_) rfl rfl rfl rfl H ?_
  try clear H a W
  intro a W H
  replace H : St 18 w a W [(11, .tuple #[]), (10, .slice (some ⟨g1, 0, none⟩) 32 32), (9, .slice (some ⟨g4, 4, none⟩) 8 12), (7, .pointer (some ⟨g4, 0, none⟩)), (6, .pointer (some ⟨g3, 0, none⟩)), (5, .pointer (some ⟨g2, 0, none⟩)), (3, .pointer (some ⟨g1, 0, none⟩)), (1, wc c)] [(g4, 57, wv (putW seedW 4 kk 32)), (g3, 57, wv w0s), (g2, 27, bvs (rb 12 nn)), (g1, 23, bvs (rb 32 kk))] := H
  refine pl_end ?_
  replace H : St 18 w a W [(7, .pointer (some ⟨g4, 0, none⟩)), (6, .pointer (some ⟨g3, 0, none⟩)), (5, .pointer (some ⟨g2, 0, none⟩)), (1, wc c)] [(g4, 57, wv (putW seedW 4 kk 32)), (g3, 57, wv w0s), (g2, 27, bvs (rb 12 nn)), (g1, 23, bvs (rb 32 kk))] := H.pick [3, 4, 5, 7] [0, 1, 2, 3] rfl
  refine hK3 _ _ ?_
  clear hK3
  refine wp_seq_k (fun K4 hK4 => ?_)
  refine rg_plain ?_
  refine pl_does (does_move rfl rfl) rfl rfl rfl rfl H ?_
  try clear H a W
  intro a W H
  refine pl_does (does_indexAddr rfl rfl rfl (ia_words (j := 12) (by omega))) rfl rfl rfl rfl H ?_
  try clear H a W
  intro a W H
  refine pl_storeAt rfl rfl rfl (k := 0) rfl (st_word (by omega)) (sv_word rfl) rfl rfl H ?_
  try clear H a W
  intro a W H
  refine pl_end ?_
  replace H : St 18 w a W [(7, .pointer (some ⟨g4, 0, none⟩)), (6, .pointer (some ⟨g3, 0, none⟩)), (5, .pointer (some ⟨g2, 0, none⟩))] [(g4, 57, wv (upd (putW seedW 4 kk 32) 12 c)), (g3, 57, wv w0s), (g2, 27, bvs (rb 12 nn)), (g1, 23, bvs (rb 32 kk))] := H.pick [2, 3, 4] [0, 1, 2, 3] rfl
  refine hK4 _ _ ?_
  clear hK4
  refine wp_seq_k (fun K5 hK5 => ?_)
  refine drawnR SB SB [⟨14, fun u_ _ => u_ = .slice (some ⟨g4, 13, none⟩) 3 3, [], none, false⟩, ⟨15, fun u_ _ => u_ = .slice (some ⟨g2, 0, none⟩) 12 12, [], none, false⟩] [0, 0, 3] [0, 1] sb_st sb_st (by kernel_rfl) (by kernel_rfl) (by kernel_rfl) H ⟨⟨fun a W  H => by exact ob_valS H (wanted_none rfl) (does_slice rfl rfl (vl := some (.int .i64 13)) (vh := none) rfl rfl (sl_w13 g4)), val_grow, fun _ => val_grow⟩, ⟨fun a W  H => by exact ob_valS H (wanted_none rfl) (does_slice rfl rfl (vl := none) (vh := none) rfl rfl (sl_nonce g2)), val_grow, fun _ => val_grow⟩, trivial⟩ (by kernel_rfl) ?_
  try clear H a W
  intro a W
  rintro _ rfl
  rintro _ rfl
  intro H
  replace H : St 18 w a W [(15, .slice (some ⟨g2, 0, none⟩) 12 12), (14, .slice (some ⟨g4, 13, none⟩) 3 3), (7, .pointer (some ⟨g4, 0, none⟩)), (6, .pointer (some ⟨g3, 0, none⟩)), (5, .pointer (some ⟨g2, 0, none⟩))] [(g4, 57, wv (upd (putW seedW 4 kk 32) 12 c)), (g3, 57, wv w0s), (g2, 27, bvs (rb 12 nn)), (g1, 23, bvs (rb 32 kk))] := H
  refine pl_callK (f := 40) (caps := #[]) (vs' := [.slice (some ⟨g4, 13, none⟩) 3 3, .slice (some ⟨g2, 0, none⟩) 12 12]) rfl ⟨_, Tryd.func40, by kernel_rfl⟩ rfl rfl rfl (fun K_ => put_nonce K_) rfl rfl rfl rfl H ?_
  try clear H a W
  intro a W H
  replace H : St 18 w a W [(16, .tuple #[]), (15, .slice (some ⟨g2, 0, none⟩) 12 12), (14, .slice (some ⟨g4, 13, none⟩) 3 3), (7, .pointer (some ⟨g4, 0, none⟩)), (6, .pointer (some ⟨g3, 0, none⟩)), (5, .pointer (some ⟨g2, 0, none⟩))] [(g4, 57, wv (putW (upd (putW seedW 4 kk 32) 12 c) 13 nn 12)), (g3, 57, wv w0s), (g2, 27, bvs (rb 12 nn)), (g1, 23, bvs (rb 32 kk))] := H
  refine pl_end ?_
  replace H : St 18 w a W [(7, .pointer (some ⟨g4, 0, none⟩)), (6, .pointer (some ⟨g3, 0, none⟩))] [(g4, 57, wv (putW (upd (putW seedW 4 kk 32) 12 c) 13 nn 12)), (g3, 57, wv w0s), (g2, 27, bvs (rb 12 nn)), (g1, 23, bvs (rb 32 kk))] := H.pick [3, 4] [0, 1, 2, 3] rfl
  refine hK5 _ _ ?_
  clear hK5
  refine wp_seq_k (fun K6 hK6 => ?_)
  refine rg_plain ?_
  refine pl_does (does_load rfl rfl (k := 0) rfl Tryd.underlying57 rfl (info_words _)) rfl rfl rfl rfl H ?_
  try clear H a W
  intro a W H
  refine pl_store rfl rfl rfl (k := 1) rfl (info_words _) (size_wv _ _) (wv_one _) rfl rfl H ?_
  try clear H a W
  intro a W H
  refine pl_end ?_
  replace H : St 18 w a W [(6, .pointer (some ⟨g3, 0, none⟩))] [(g4, 57, wv (putW (upd (putW seedW 4 kk 32) 12 c) 13 nn 12)), (g3, 57, wv (putW (upd (putW seedW 4 kk 32) 12 c) 13 nn 12)), (g2, 27, bvs (rb 12 nn)), (g1, 23, bvs (rb 32 kk))] := H.pick [2] [0, 1, 2, 3] rfl
  refine hK6 _ _ ?_
  clear hK6
  refine wp_ret ?_
  repeat (first | (with_reducible refine then_ret ?_) | (with_reducible refine blk_ret ?_))
  refine end_cell (p := 6) rfl rfl (k := 1) rfl Tryd.underlying57 rfl (info_words _) H (fun hb => ?_)
  exact ⟨by rw [← begP_all]; rfl, hb⟩
set_option maxHeartbeats 4000000 in
theorem bytesOf_any (f : Wd) (w : World) : Calls Tryd.prog 30 #[.agg (wv f)] w (fun rr w' => rr = .returned (.agg (bvs (rb 64 (outB f)))) ∧ Below w.heap.size w w') := by
  refine calls_st (vs := [.agg (wv f)]) 21 Tryd.func30 rfl Tryd.ntmps30 rfl (fun a W H => ?_)
  replace H : St 21 w a W [(0, .agg (wv f))] [] := H
  refine wp_seq_k (fun K1 hK1 => ?_)
  refine rg_plain ?_
  refine pl_box rfl rfl (bx_words f) rfl rfl rfl rfl H ?_
  try clear H a W
  intro g1 a W H
  refine pl_new (news_of rfl al_long) rfl rfl rfl rfl H ?_
  try clear H a W
  intro g2 a W H
  refine pl_end ?_
  replace H : St 21 w a W [(2, .pointer (some ⟨g2, 0, none⟩)), (1, .pointer (some ⟨g1, 0, none⟩))] [(g2, 49, bvs (rb 64 b0s)), (g1, 57, wv f)] := H.pick [0, 1] [0, 1] rfl
  refine hK1 _ _ ?_
  clear hK1
  refine wp_seq_k (fun K2 hK2 => ?_)
  refine rg_plain ?_
  refine pl_new (news_of rfl al_long) rfl rfl rfl rfl H ?_
  try clear H a W
  intro g3 a W H
  refine pl_end ?_
  refine hK2 _ _ ?_
  clear hK2
  refine wp_seq_k (fun K3 hK3 => ?_)
  refine wp_seq_k (fun K4 hK4 => ?_)
  refine rg_plain ?_
  refine pl_does (does_move rfl rfl) rfl rfl rfl rfl H ?_
  try clear H a W
  intro a W H
  refine pl_end ?_
  refine hK4 _ _ ?_
  clear hK4
  refine wp_block ?_
  replace H : St 21 w a W [(5, .int .i64 ((0 : Nat) : Int)), (3, .pointer (some ⟨g3, 0, none⟩)), (2, .pointer (some ⟨g2, 0, none⟩)), (1, .pointer (some ⟨g1, 0, none⟩))] [(g3, 49, bvs (rb 64 (fillB (outB f) 0))), (g2, 49, bvs (rb 64 b0s)), (g1, 57, wv f)] := H.pick [0, 1, 2, 3] [0, 1, 2] rfl
  refine wp_rounds 64 (fun k a W => St 21 w a W [(5, .int .i64 ((k : Nat) : Int)), (3, .pointer (some ⟨g3, 0, none⟩)), (2, .pointer (some ⟨g2, 0, none⟩)), (1, .pointer (some ⟨g1, 0, none⟩))] [(g3, 49, bvs (rb 64 (fillB (outB f) k))), (g2, 49, bvs (rb 64 b0s)), (g1, 57, wv f)]) (k0 := 0) H (by omega) ?_
  try clear H a W
  intro k a W hk H
  by_cases hk2 : k < 64
  · refine wp_seq_k (fun K5 hK5 => ?_)
    refine rg_plain ?_
    refine pl_does (does_binOp rfl rfl rfl (i_lss_yes (k := k) (m := 64) (by omega) _ _)) rfl rfl rfl rfl H ?_
    try clear H a W
    intro a W H
    refine pl_end ?_
    refine hK5 _ _ ?_
    clear hK5
    refine wp_seq_k (fun K6 hK6 => ?_)
    refine wp_cond_true (H.ev rfl) ?_
    refine wp_skip ?_
    refine hK6 _ _ ?_
    clear hK6
    refine wp_seq_k (fun K7 hK7 => ?_)
    refine wp_block ?_
    refine wp_seq_k (fun K8 hK8 => ?_)
    refine rg_plain ?_
    refine pl_does (does_move rfl rfl) rfl rfl rfl rfl H ?_
    try clear H a W
    intro a W H
    refine pl_does (does_assign rfl rfl) rfl rfl rfl rfl H ?_
    try clear H a W
    intro a W H
    refine pl_end ?_
    refine hK8 _ _ ?_
    clear hK8
    refine rg_plain ?_
    refine pl_does (does_move rfl rfl) rfl rfl rfl rfl H ?_
    try clear H a W
    intro a W H
    refine pl_does (does_move rfl rfl) rfl rfl rfl rfl H ?_
    try clear H a W
    intro a W H
    refine pl_does (does_binOp rfl rfl rfl (i_quo (k := k) (m := 4) (by omega) (by omega) (by omega) _ _)) rfl rfl rfl rfl H ?_
    try clear H a W
    intro a W H
    refine pl_does (does_indexAddr rfl rfl rfl (ia_words (j := (k / 4)) (by omega))) rfl rfl rfl rfl H ?_
    try clear H a W
    intro a W H
    refine pl_does (does_loadAt (v := wc (f (k / 4))) rfl rfl (k := 2) rfl (ld_word (by omega))) rfl rfl rfl rfl H ?_
    try clear H a W
    intro a W H
    refine pl_does (does_move rfl rfl) rfl rfl rfl rfl H ?_
    try clear H a W
    intro a W H
    refine pl_does (does_binOp rfl rfl rfl (i_rem (k := k) (m := 4) (by omega) _ _)) rfl rfl rfl rfl H ?_
    try clear H a W
    intro a W H
    refine pl_does (does_binOp rfl rfl rfl (i_mul (k := 8) (m := (k % 4)) (by omega) _ _)) rfl rfl rfl rfl H ?_
    try clear H a W
    intro a W H
    refine pl_does (does_binOp rfl rfl rfl (w_shr (s := (8 * (k % 4))) (by omega) _ _)) rfl rfl rfl rfl H ?_
    try clear H a W
    intro a W H
    refine pl_does (does_convert rfl rfl (cv_wb _)) rfl rfl rfl rfl H ?_
    try clear H a W
    intro a W H
    refine pl_does (does_indexAddr rfl rfl rfl (ia_long (j := k) (by omega))) rfl rfl rfl rfl H ?_
    try clear H a W
    intro a W H
    refine pl_storeAt rfl rfl rfl (k := 0) rfl (st_byte (by omega)) (sv_byte rfl) rfl rfl H ?_
    try clear H a W
    intro a W H
    refine pl_end ?_
    refine blk_normal ?_
    refine hK7 _ _ ?_
    clear hK7
    refine rg_plain ?_
    refine pl_does (does_binOp rfl rfl rfl (i_inc (by omega) _ _)) rfl rfl rfl rfl H ?_
    try clear H a W
    intro a W H
    replace H : St 21 w a W [(19, .int .i64 ((k + 1 : Nat) : Int)), (18, .pointer (some ⟨g3, k, none⟩)), (17, bv (lowB (shrW (f (k / 4)) (8 * (k % 4))))), (16, wc (shrW (f (k / 4)) (8 * (k % 4)))), (15, .int .i64 ((8 * (k % 4) : Nat) : Int)), (14, .int .i64 ((k % 4 : Nat) : Int)), (13, .int .i64 ((k : Nat) : Int)), (12, wc (f (k / 4))), (11, .pointer (some ⟨g1, k / 4, none⟩)), (10, .int .i64 ((k / 4 : Nat) : Int)), (9, .int .i64 ((k : Nat) : Int)), (8, .int .i64 ((k : Nat) : Int)), (4, .int .i64 ((k : Nat) : Int)), (7, .int .i64 ((k : Nat) : Int)), (6, .bool true), (3, .pointer (some ⟨g3, 0, none⟩)), (2, .pointer (some ⟨g2, 0, none⟩)), (1, .pointer (some ⟨g1, 0, none⟩))] [(g3, 49, bvs (rb 64 (updB (fillB (outB f) k) k (lowB (shrW (f (k / 4)) (8 * (k % 4))))))), (g2, 49, bvs (rb 64 b0s)), (g1, 57, wv f)] := H.pick [0, 1, 2, 3, 4, 5, 6, 7, 8, 9, 10, 11, 12, 13, 14, 16, 17, 18] [0, 1, 2] rfl
    refine pl_does (does_move rfl rfl) rfl rfl rfl rfl H ?_
    try clear H a W
    intro a W H
    refine pl_end ?_
    refine ⟨k + 1, by omega, by omega, ?_⟩
    show St 21 w a W [(5, .int .i64 ((k + 1 : Nat) : Int)), (3, .pointer (some ⟨g3, 0, none⟩)), (2, .pointer (some ⟨g2, 0, none⟩)), (1, .pointer (some ⟨g1, 0, none⟩))] [(g3, 49, bvs (rb 64 (fillB (outB f) (k + 1)))), (g2, 49, bvs (rb 64 b0s)), (g1, 57, wv f)]
    exact H.pick [0, 16, 17, 18] [0, 1, 2] rfl
  · obtain rfl : 64 = k := by omega
    refine wp_seq_k (fun K9 hK9 => ?_)
    refine rg_plain ?_
    refine pl_does (does_binOp rfl rfl rfl (i_lss_no (k := 64) (m := 64) (by omega) _ _)) rfl rfl rfl rfl H ?_
    try clear H a W
    intro a W H
    refine pl_end ?_
    refine hK9 _ _ ?_
    clear hK9
    refine wp_seq_k (fun K10 hK10 => ?_)
    refine wp_cond_false (H.ev rfl) ?_
    refine wp_exit ?_
    repeat (with_reducible refine then_exit ?_)
    refine blk_exit ?_
    refine hK3 _ _ ?_
    clear hK3
    refine wp_seq_k (fun K11 hK11 => ?_)
    refine rg_plain ?_
    refine pl_does (does_load rfl rfl (k := 0) rfl Tryd.underlying49 rfl (info_long _)) rfl rfl rfl rfl H ?_
    try clear H a W
    intro a W H
    refine pl_store rfl rfl rfl (k := 1) rfl (info_long _) (size_rb _ _ _) (bvs_one _) rfl rfl H ?_
    try clear H a W
    intro a W H
    refine pl_end ?_
    replace H : St 21 w a W [(2, .pointer (some ⟨g2, 0, none⟩))] [(g3, 49, bvs (rb 64 (fillB (outB f) 64))), (g2, 49, bvs (rb 64 (fillB (outB f) 64))), (g1, 57, wv f)] := H.pick [4] [0, 1, 2] rfl
    refine hK11 _ _ ?_
    clear hK11
    refine wp_ret ?_
    repeat (first | (with_reducible refine then_ret ?_) | (with_reducible refine blk_ret ?_))
    refine end_cell (p := 2) rfl rfl (k := 1) rfl Tryd.underlying49 rfl (info_long _) H (fun hb => ?_)
    exact ⟨by rw [rb_fill], hb⟩
set_option maxHeartbeats 4000000 in
theorem block_any (kk : Nat → UInt8) (c : UInt32) (nn : Nat → UInt8) (w : World) : Calls Tryd.prog 21 #[.agg (bvs (rb 32 kk)), wc c, .agg (bvs (rb 12 nn))] w (fun rr w' => rr = .returned (.agg (bvs (rb 64 (blockF kk c nn)))) ∧ Below w.heap.size w w') := by
  refine calls_st (vs := [.agg (bvs (rb 32 kk)), wc c, .agg (bvs (rb 12 nn))]) 30 Tryd.func21 rfl Tryd.ntmps21 rfl (fun a W H => ?_)
  replace H : St 30 w a W [(0, .agg (bvs (rb 32 kk))), (1, wc c), (2, .agg (bvs (rb 12 nn)))] [] := H
  refine wp_seq_k (fun K1 hK1 => ?_)
  refine rg_plain ?_
  refine pl_box rfl rfl (bx_key kk) rfl rfl rfl rfl H ?_
  try clear H a W
  intro g1 a W H
  refine pl_box rfl rfl (bx_nonce nn) rfl rfl rfl rfl H ?_
  try clear H a W
  intro g2 a W H
  refine pl_new (news_of rfl al_long) rfl rfl rfl rfl H ?_
  try clear H a W
  intro g3 a W H
  refine pl_end ?_
  replace H : St 30 w a W [(6, .pointer (some ⟨g3, 0, none⟩)), (5, .pointer (some ⟨g2, 0, none⟩)), (3, .pointer (some ⟨g1, 0, none⟩)), (1, wc c)] [(g3, 49, bvs (rb 64 b0s)), (g2, 27, bvs (rb 12 nn)), (g1, 23, bvs (rb 32 kk))] := H.pick [0, 1, 2, 4] [0, 1, 2] rfl
  refine hK1 _ _ ?_
  clear hK1
  refine wp_seq_k (fun K2 hK2 => ?_)
  refine rg_plain ?_
  refine pl_does (does_load rfl rfl (k := 2) rfl Tryd.underlying23 rfl (info_key _)) rfl rfl rfl rfl H ?_
  try clear H a W
  intro a W H
  refine pl_does (does_move rfl rfl) rfl rfl rfl rfl H ?_
  try clear H a W
  intro a W H
  refine pl_does (does_load rfl rfl (k := 1) rfl Tryd.underlying27 rfl (info_nonce _)) rfl rfl rfl rfl H ?_
  try clear H a W
  intro a W H
  refine pl_does (does_call rfl ⟨_, Tryd.func28, by kernel_rfl⟩ rfl (fun W hb => beginning_any kk c nn W)) rfl rfl rfl rfl H ?_
  try clear H a W
  intro a W H
  refine pl_new (news_of rfl al_words) rfl rfl rfl rfl H ?_
  try clear H a W
  intro g4 a W H
  refine pl_store rfl rfl rfl (k := 0) rfl (info_words _) (size_wv _ _) (wv_one _) rfl rfl H ?_
  try clear H a W
  intro a W H
  refine pl_end ?_
  replace H : St 30 w a W [(7, .pointer (some ⟨g4, 0, none⟩)), (6, .pointer (some ⟨g3, 0, none⟩))] [(g4, 57, wv (begW kk c nn)), (g3, 49, bvs (rb 64 b0s)), (g2, 27, bvs (rb 12 nn)), (g1, 23, bvs (rb 32 kk))] := H.pick [0, 5] [0, 1, 2, 3] rfl
  refine hK2 _ _ ?_
  clear hK2
  refine wp_seq_k (fun K3 hK3 => ?_)
  refine rg_plain ?_
  refine pl_does (does_load rfl rfl (k := 0) rfl Tryd.underlying57 rfl (info_words _)) rfl rfl rfl rfl H ?_
  try clear H a W
  intro a W H
  refine pl_does (does_call rfl ⟨_, Tryd.func29, by kernel_rfl⟩ rfl (fun W hb => mixed_any _ W)) rfl rfl rfl rfl H ?_
  try clear H a W
  intro a W H
  refine pl_new (news_of rfl al_words) rfl rfl rfl rfl H ?_
  try clear H a W
  intro g5 a W H
  refine pl_store rfl rfl rfl (k := 0) rfl (info_words _) (size_wv _ _) (wv_one _) rfl rfl H ?_
  try clear H a W
  intro a W H
  refine pl_end ?_
  replace H : St 30 w a W [(8, .pointer (some ⟨g5, 0, none⟩)), (7, .pointer (some ⟨g4, 0, none⟩)), (6, .pointer (some ⟨g3, 0, none⟩))] [(g5, 57, wv (mixW (begW kk c nn) 10)), (g4, 57, wv (begW kk c nn)), (g3, 49, bvs (rb 64 b0s)), (g2, 27, bvs (rb 12 nn)), (g1, 23, bvs (rb 32 kk))] := H.pick [0, 3, 4] [0, 1, 2, 3, 4] rfl
  refine hK3 _ _ ?_
  clear hK3
  refine wp_seq_k (fun K4 hK4 => ?_)
  refine wp_seq_k (fun K5 hK5 => ?_)
  refine rg_plain ?_
  refine pl_does (does_move rfl rfl) rfl rfl rfl rfl H ?_
  try clear H a W
  intro a W H
  refine pl_end ?_
  refine hK5 _ _ ?_
  clear hK5
  refine wp_block ?_
  replace H : St 30 w a W [(16, .int .i64 ((0 : Nat) : Int)), (8, .pointer (some ⟨g5, 0, none⟩)), (7, .pointer (some ⟨g4, 0, none⟩)), (6, .pointer (some ⟨g3, 0, none⟩))] [(g5, 57, wv (sumK (begW kk c nn) (mixW (begW kk c nn) 10) 0)), (g4, 57, wv (begW kk c nn)), (g3, 49, bvs (rb 64 b0s)), (g2, 27, bvs (rb 12 nn)), (g1, 23, bvs (rb 32 kk))] := H.pick [0, 1, 2, 3] [0, 1, 2, 3, 4] rfl
  refine wp_rounds 16 (fun k a W => St 30 w a W [(16, .int .i64 ((k : Nat) : Int)), (8, .pointer (some ⟨g5, 0, none⟩)), (7, .pointer (some ⟨g4, 0, none⟩)), (6, .pointer (some ⟨g3, 0, none⟩))] [(g5, 57, wv (sumK (begW kk c nn) (mixW (begW kk c nn) 10) k)), (g4, 57, wv (begW kk c nn)), (g3, 49, bvs (rb 64 b0s)), (g2, 27, bvs (rb 12 nn)), (g1, 23, bvs (rb 32 kk))]) (k0 := 0) H (by omega) ?_
  try clear H a W
  intro k a W hk H
  by_cases hk2 : k < 16
  · refine wp_seq_k (fun K6 hK6 => ?_)
    refine rg_plain ?_
    refine pl_does (does_binOp rfl rfl rfl (i_lss_yes (k := k) (m := 16) (by omega) _ _)) rfl rfl rfl rfl H ?_
    try clear H a W
    intro a W H
    refine pl_end ?_
    refine hK6 _ _ ?_
    clear hK6
    refine wp_seq_k (fun K7 hK7 => ?_)
    refine wp_cond_true (H.ev rfl) ?_
    refine wp_skip ?_
    refine hK7 _ _ ?_
    clear hK7
    refine wp_seq_k (fun K8 hK8 => ?_)
    refine wp_block ?_
    refine wp_seq_k (fun K9 hK9 => ?_)
    refine rg_plain ?_
    refine pl_does (does_move rfl rfl) rfl rfl rfl rfl H ?_
    try clear H a W
    intro a W H
    refine pl_does (does_assign rfl rfl) rfl rfl rfl rfl H ?_
    try clear H a W
    intro a W H
    refine pl_end ?_
    refine hK9 _ _ ?_
    clear hK9
    refine drawnS [.val 19 (.int .i64 ((k : Nat) : Int)) [] [], .val 20 (.pointer (some ⟨g5, k, none⟩)) [0] [], .val 21 (wc ((sumK (begW kk c nn) (mixW (begW kk c nn) 10) k) k)) [1] [0], .val 22 (.int .i64 ((k : Nat) : Int)) [] [], .val 23 (.pointer (some ⟨g4, k, none⟩)) [3] [], .val 24 (wc ((begW kk c nn) k)) [4] [1], .val 25 (wc (((sumK (begW kk c nn) (mixW (begW kk c nn) 10) k) k) + ((begW kk c nn) k))) [2, 5] [], .val 26 (.pointer (some ⟨g5, k, none⟩)) [0] [], .sto 0 g5 57 (wv (sumK (begW kk c nn) (mixW (begW kk c nn) 10) k)) (wv (upd (sumK (begW kk c nn) (mixW (begW kk c nn) 10) k) k (((sumK (begW kk c nn) (mixW (begW kk c nn) 10) k) k) + ((begW kk c nn) k)))) [7, 6]] [0, 1, 2, 0, 8, 16, 36, 127, 255] (by kernel_rfl) (by kernel_rfl) (by kernel_rfl) H ⟨⟨does_move rfl rfl, wanted_none rfl⟩, ⟨does_indexAddr rfl rfl rfl (ia_words (j := k) (by omega)), wanted_none rfl⟩, ⟨does_loadAt (v := wc ((sumK (begW kk c nn) (mixW (begW kk c nn) 10) k) k)) rfl rfl (k := 0) rfl (ld_word (by omega)), wanted_none rfl⟩, ⟨does_move rfl rfl, wanted_none rfl⟩, ⟨does_indexAddr rfl rfl rfl (ia_words (j := k) (by omega)), wanted_none rfl⟩, ⟨does_loadAt (v := wc ((begW kk c nn) k)) rfl rfl (k := 0) rfl (ld_word (by omega)), wanted_none rfl⟩, ⟨does_binOp rfl rfl rfl (w_add _ _ _ _), wanted_none rfl⟩, ⟨does_indexAddr rfl rfl rfl (ia_words (j := k) (by omega)), wanted_none rfl⟩, ⟨rfl, rfl, sto_at rfl rfl rfl (st_word (by omega)) (sv_word rfl)⟩, trivial⟩ ?_
    try clear H a W
    intro G6 a W H
    replace H : St 30 w a W [(19, .int .i64 ((k : Nat) : Int)), (20, .pointer (some ⟨g5, k, none⟩)), (21, wc ((sumK (begW kk c nn) (mixW (begW kk c nn) 10) k) k)), (22, .int .i64 ((k : Nat) : Int)), (23, .pointer (some ⟨g4, k, none⟩)), (24, wc ((begW kk c nn) k)), (25, wc (((sumK (begW kk c nn) (mixW (begW kk c nn) 10) k) k) + ((begW kk c nn) k))), (26, .pointer (some ⟨g5, k, none⟩)), (9, .int .i64 ((k : Nat) : Int)), (18, .int .i64 ((k : Nat) : Int)), (17, .bool true), (16, .int .i64 ((k : Nat) : Int)), (8, .pointer (some ⟨g5, 0, none⟩)), (7, .pointer (some ⟨g4, 0, none⟩)), (6, .pointer (some ⟨g3, 0, none⟩))] [(g5, 57, wv (upd (sumK (begW kk c nn) (mixW (begW kk c nn) 10) k) k (((sumK (begW kk c nn) (mixW (begW kk c nn) 10) k) k) + ((begW kk c nn) k)))), (g4, 57, wv (begW kk c nn)), (g3, 49, bvs (rb 64 b0s)), (g2, 27, bvs (rb 12 nn)), (g1, 23, bvs (rb 32 kk))] := H
    refine blk_normal ?_
    refine hK8 _ _ ?_
    clear hK8
    refine rg_plain ?_
    refine pl_does (does_binOp rfl rfl rfl (i_inc (by omega) _ _)) rfl rfl rfl rfl H ?_
    try clear H a W
    intro a W H
    replace H : St 30 w a W [(27, .int .i64 ((k + 1 : Nat) : Int)), (19, .int .i64 ((k : Nat) : Int)), (20, .pointer (some ⟨g5, k, none⟩)), (21, wc ((sumK (begW kk c nn) (mixW (begW kk c nn) 10) k) k)), (22, .int .i64 ((k : Nat) : Int)), (23, .pointer (some ⟨g4, k, none⟩)), (24, wc ((begW kk c nn) k)), (25, wc (((sumK (begW kk c nn) (mixW (begW kk c nn) 10) k) k) + ((begW kk c nn) k))), (26, .pointer (some ⟨g5, k, none⟩)), (9, .int .i64 ((k : Nat) : Int)), (18, .int .i64 ((k : Nat) : Int)), (17, .bool true), (8, .pointer (some ⟨g5, 0, none⟩)), (7, .pointer (some ⟨g4, 0, none⟩)), (6, .pointer (some ⟨g3, 0, none⟩))] [(g5, 57, wv (upd (sumK (begW kk c nn) (mixW (begW kk c nn) 10) k) k (((sumK (begW kk c nn) (mixW (begW kk c nn) 10) k) k) + ((begW kk c nn) k)))), (g4, 57, wv (begW kk c nn)), (g3, 49, bvs (rb 64 b0s)), (g2, 27, bvs (rb 12 nn)), (g1, 23, bvs (rb 32 kk))] := H.pick [0, 1, 2, 3, 4, 5, 6, 7, 8, 9, 10, 11, 13, 14, 15] [0, 1, 2, 3, 4] rfl
    refine pl_does (does_move rfl rfl) rfl rfl rfl rfl H ?_
    try clear H a W
    intro a W H
    refine pl_end ?_
    refine ⟨k + 1, by omega, by omega, ?_⟩
    show St 30 w a W [(16, .int .i64 ((k + 1 : Nat) : Int)), (8, .pointer (some ⟨g5, 0, none⟩)), (7, .pointer (some ⟨g4, 0, none⟩)), (6, .pointer (some ⟨g3, 0, none⟩))] [(g5, 57, wv (sumK (begW kk c nn) (mixW (begW kk c nn) 10) (k + 1))), (g4, 57, wv (begW kk c nn)), (g3, 49, bvs (rb 64 b0s)), (g2, 27, bvs (rb 12 nn)), (g1, 23, bvs (rb 32 kk))]
    exact H.pick [0, 13, 14, 15] [0, 1, 2, 3, 4] rfl
  · obtain rfl : 16 = k := by omega
    refine wp_seq_k (fun K10 hK10 => ?_)
    refine rg_plain ?_
    refine pl_does (does_binOp rfl rfl rfl (i_lss_no (k := 16) (m := 16) (by omega) _ _)) rfl rfl rfl rfl H ?_
    try clear H a W
    intro a W H
    refine pl_end ?_
    refine hK10 _ _ ?_
    clear hK10
    refine wp_seq_k (fun K11 hK11 => ?_)
    refine wp_cond_false (H.ev rfl) ?_
    refine wp_exit ?_
    repeat (with_reducible refine then_exit ?_)
    refine blk_exit ?_
    rw [sumK_all] at H
    refine hK4 _ _ ?_
    clear hK4
    refine wp_seq_k (fun K12 hK12 => ?_)
    refine rg_plain ?_
    refine pl_does (does_load rfl rfl (k := 0) rfl Tryd.underlying57 rfl (info_words _)) rfl rfl rfl rfl H ?_
    try clear H a W
    intro a W H
    refine pl_does (does_call rfl ⟨_, Tryd.func30, by kernel_rfl⟩ rfl (fun W hb => bytesOf_any _ W)) rfl rfl rfl rfl H ?_
    try clear H a W
    intro a W H
    refine pl_store rfl rfl rfl (k := 2) rfl (info_long _) (size_rb _ _ _) (bvs_one _) rfl rfl H ?_
    try clear H a W
    intro a W H
    refine pl_end ?_
    replace H : St 30 w a W [(6, .pointer (some ⟨g3, 0, none⟩))] [(g5, 57, wv (sumW (begW kk c nn) (mixW (begW kk c nn) 10))), (g4, 57, wv (begW kk c nn)), (g3, 49, bvs (rb 64 (outB (sumW (begW kk c nn) (mixW (begW kk c nn) 10))))), (g2, 27, bvs (rb 12 nn)), (g1, 23, bvs (rb 32 kk))] := H.pick [6] [0, 1, 2, 3, 4] rfl
    refine hK12 _ _ ?_
    clear hK12
    refine wp_ret ?_
    repeat (first | (with_reducible refine then_ret ?_) | (with_reducible refine blk_ret ?_))
    refine end_cell (p := 6) rfl rfl (k := 2) rfl Tryd.underlying49 rfl (info_long _) H (fun hb => ?_)
    exact ⟨by rw [blockF_def], hb⟩
end Go.Proofs.YtghbknebaknmjaaDoor.Cha
