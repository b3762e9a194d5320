/- Package blake: bytes that are taken; the hash; orders, the start. -/
import Derived.Test.YthjechjffhhiiaaDoorBp
namespace Go.Proofs.YthjechjffhhiiaaDoor
set_option linter.unusedVariables false
set_option linter.unusedSimpArgs false
set_option maxRecDepth 100000
open Go Go.RowKit

/-! Where a part stands. -/
def posB (L : List (List UInt8)) (k : Nat) : Nat := ((L.take k).flatten).length
theorem posB_0 (L : List (List UInt8)) : posB L 0 = 0 := rfl
theorem posB_succ {L : List (List UInt8)} {k : Nat} {l : List UInt8} (h : L[k]? = some l) : posB L (k + 1) = posB L k + l.length := by
  unfold posB
  rw [List.take_add_one, h]
  simp
theorem posB_all (L : List (List UInt8)) : posB L L.length = L.flatten.length := by
  unfold posB
  rw [List.take_length]
theorem posB_split {L : List (List UInt8)} {k : Nat} {l : List UInt8} (h : L[k]? = some l) : L.flatten = (L.take k).flatten ++ (l ++ (L.drop (k + 1)).flatten) := by
  have hk := (List.getElem?_eq_some_iff.1 h)
  conv => lhs; rw [← List.take_append_drop k L, List.flatten_append]
  rw [List.drop_eq_getElem_cons hk.1, hk.2, List.flatten_cons]
theorem posB_le {L : List (List UInt8)} {k : Nat} {l : List UInt8} (h : L[k]? = some l) : posB L k + l.length ≤ L.flatten.length := by
  rw [posB_split h]
  simp only [List.length_append, posB]
  omega
theorem posB_byte {L : List (List UInt8)} {k i : Nat} {l : List UInt8} (h : L[k]? = some l) (hi : i < l.length) : l.getD i 0 = L.flatten.getD (posB L k + i) 0 := by
  rw [posB_split h]
  unfold posB
  simp only [List.getD_eq_getElem?_getD]
  rw [List.getElem?_append_right (by omega), Nat.add_sub_cancel_left, List.getElem?_append_left hi]
theorem bs_take {l r : List UInt8} {p m : Nat} (hm : m ≤ r.length) (h : ∀ i, i < r.length → r.getD i 0 = l.getD (p + i) 0) : ((r.take m).map bv).length = m ∧ ∀ i, i < m → ((r.take m).map bv)[i]? = some (bv (l.getD (p + i) 0)) :=
  ⟨by simp; omega, fun i hi => by
    rw [List.getElem?_map, List.getElem?_take, if_pos hi, ← h i (by omega), List.getD_eq_getElem?_getD, List.getElem?_eq_getElem (by omega)]
    rfl⟩
theorem drop_byte {r l : List UInt8} {q k : Nat} (h : ∀ i, i < r.length → r.getD i 0 = l.getD (q + i) 0) : ∀ i, i < (r.drop k).length → (r.drop k).getD i 0 = l.getD (q + k + i) 0 := fun i hi => by
  rw [List.length_drop] at hi
  rw [List.getD_eq_getElem?_getD, List.getElem?_drop, ← List.getD_eq_getElem?_getD, h (k + i) (by omega), Nat.add_assoc]
theorem mQ_def (l : List UInt8) (q : Nat) : mQ l q = msg (npB l (dB q)) (bkB l q) (q - 64 * dB q) q := rfl
theorem clr_B {l : List UInt8} {n : Nat} (hn : l.length = n) (hf : n - 64 * dB n < 64) : setV (msg (npB l (dB n)) (bkB l n) (n - 64 * dB n) n) (8 + (n - 64 * dB n)) (List.replicate (64 - (n - 64 * dB n)) (bv 0)) = msg (npB l (dB n)) (blB l (dB n)) (n - 64 * dB n) n :=
  clr_msg hn (by simp) (fun i hi => by
    rw [List.length_replicate] at hi
    rw [List.getElem?_replicate, if_pos hi])
theorem clr_E {l : List UInt8} {n : Nat} (h : n - 64 * dB n = 64) : msg (npB l (dB n)) (blB l (dB n)) 64 n = msg (npB l (dB n)) (bkB l n) 64 n := by
  rw [← h]
  exact (clr_none (by omega)).symm
theorem d_le (n : Nat) : n - 64 * dB n ≤ 64 := by unfold dB; omega
theorem size_u8B : (Tryd.prog.info? 5).map (·.size) = some 1 := by kernel_rfl
attribute [local irreducible] wv wc bvs bv iv wn rorW mixB halfB leW ivB postB preB blW vB tB pK outB wrK wordsB mixR mixI msg un npB dB bkB blB mQ h0B hashB rb
set_option maxHeartbeats 4000000 in
theorem take_any {w0 w : World} {g g2 : Nat} {c2 : Array Value} {l r : List UInt8} {q n cap : Nat} {A : Option Addr} (hpg0 : PG w0) (hr : BS w0 w0.heap.size A n cap r) (hq : q + n ≤ l.length) (hlim : l.length ≤ 100000) (hl : ∀ i, i < r.length → r.getD i 0 = l.getD (q + i) 0) (K : Kn w0 w [(g, 60, mQ l (q + 0)), (g2, 25, c2)]) : Calls Tryd.prog 23 #[.pointer (some ⟨g, 0, none⟩), .slice A n cap] w (fun rr w' => rr = .returned (.tuple #[]) ∧ Kn w0 w' [(g, 60, mQ l (q + n)), (g2, 25, c2)]) := by
  have hnn := hr.len
  refine calls_kn (vs := [.pointer (some ⟨g, 0, none⟩), .slice A n cap]) 64 Tryd.func23 rfl Tryd.ntmps23 rfl K (fun a W H => ?_)
  replace H : St 64 w0 a W [(0, .pointer (some ⟨g, 0, none⟩)), (1, .slice A n cap)] [(g, 60, mQ l (q + 0)), (g2, 25, c2)] := H
  refine wp_block ?_
  refine wp_rounds n (fun k a W => ∃ Aq cq, BS w0 w0.heap.size Aq (n - k) cq (r.drop k) ∧ St 64 w0 a W [(0, .pointer (some ⟨g, 0, none⟩)), (1, .slice Aq (n - k) cq)] [(g, 60, mQ l (q + k)), (g2, 25, c2)]) (k0 := 0) (show ∃ Aq cq, BS w0 w0.heap.size Aq (n - 0) cq (r.drop 0) ∧ St 64 w0 a W [(0, .pointer (some ⟨g, 0, none⟩)), (1, .slice Aq (n - 0) cq)] [(g, 60, mQ l (q + 0)), (g2, 25, c2)] from ⟨A, cap, hr, H⟩) (by omega) ?_
  try clear H a W
  rintro k a W hk ⟨Aq, cq, hbq, H⟩
  by_cases hk2 : k < n
  · obtain ⟨p, hp⟩ : ∃ p, q + k = p := ⟨_, rfl⟩
    rw [hp, mQ_def] at H
    have hbyte := drop_byte (k := k) hl
    rw [hp] at hbyte
    have hlq := hbq.len
    have hpl : p + (n - k) ≤ l.length := by omega
    obtain ⟨m, hm⟩ : ∃ m, Nat.min (n - k) (64 - p % 64) = m := ⟨_, rfl⟩
    have hm1 : m ≤ n - k := by rw [← hm]; exact Nat.min_le_left _ _
    have hm2 : m ≤ 64 - p % 64 := by rw [← hm]; exact Nat.min_le_right _ _
    have hm0 : 0 < m := by rw [← hm]; exact Nat.lt_min.2 ⟨by omega, by omega⟩
    obtain ⟨hx1, hx2⟩ := bs_take (m := m) (by omega) hbyte
    obtain ⟨At, htl, hbt⟩ := tl_bytes hbq (k := m) hm1
    refine wp_seq_k (fun K1 hK1 => ?_)
    refine sqR H gs0 fun Z_ z_ => rS 1 rfl <| rV rfl (does_len Tryd.underlying22 rfl rfl) <| rV rfl (does_binOp rfl rfl rfl (z_gtr (k := (n - k)) (decide_eq_true (by omega)) _ _)) <| rN0 z_ ?_
    try clear H a W
    intro a W H
    refine wp_cond_true (H.ev rfl) ?_
    refine wp_skip ?_
    refine hK1 _ _ ?_
    clear hK1
    refine wp_block ?_
    refine wp_seq_k (fun K3 hK3 => ?_)
    have J3 : ∀ a W, St 64 w0 a W [(0, .pointer (some ⟨g, 0, none⟩)), (1, .slice Aq (n - k) cq)] [(g, 60, msg (npB l (p / 64)) (bkB l p) (p % 64) p), (g2, 25, c2)] → K3 a W := by
      try clear H a W
      intro a W H
      refine hK3 _ _ ?_
      clear hK3
      refine wp_seq_k (fun K4 hK4 => ?_)
      refine d2 [.v 32 _ [], .v 33 _ [0], .v 34 _ [1], .v 35 _ [], .v 36 _ [3], .v 37 _ [4], .v 38 _ [5], .v 39 _ [2, 6], .v 40 _ []] (by kernel_rfl) (by kernel_rfl) H gs0 ⟨oS rfl rfl, oV rfl (does_nilCheckB rfl rfl), oV rfl (does_fieldAddr rfl rfl fa_1), oS rfl rfl, oV rfl (does_nilCheckB rfl rfl), oV rfl (does_fieldAddr rfl rfl fa_2), oV rfl (does_loadAt (v := .int .i64 (((p % 64) : Nat) : Int)) rfl rfl (k := 0) rfl ld_msgN), oV rfl (does_slice rfl rfl (vl := some (.int .i64 (((p % 64) : Nat) : Int))) (vh := none) rfl rfl (sl_b64f (f := (p % 64)) (by omega))), oS rfl rfl, trivial⟩ (rI0 ?_)
      try clear H a W
      intro a W H
      refine pl_copyB rfl Tryd.underlying22 size_u8B rfl rfl (k := 0) rfl hbq hm hm0 (by rw [msg_size]; omega) (put_msg hm0 (by omega) hx1 hx2) rfl rfl rfl rfl H ?_
      try clear H a W
      intro a W H
      replace H : St 64 w0 a W [(41, .int .i64 ((m : Nat) : Int)), (40, .slice Aq (n - k) cq), (39, .slice (some ⟨g, 8 + (p % 64), none⟩) (64 - (p % 64)) (64 - (p % 64))), (38, .int .i64 (((p % 64) : Nat) : Int)), (37, .pointer (some ⟨g, 72, none⟩)), (36, .pointer (some ⟨g, 0, none⟩)), (35, .pointer (some ⟨g, 0, none⟩)), (34, .pointer (some ⟨g, 8, none⟩)), (33, .pointer (some ⟨g, 0, none⟩)), (32, .pointer (some ⟨g, 0, none⟩)), (0, .pointer (some ⟨g, 0, none⟩)), (1, .slice Aq (n - k) cq)] [(g, 60, msg (npB l (p / 64)) (bkB l (p + m)) (p % 64) p), (g2, 25, c2)] := H
      refine rgO H gs0 (rS 1 rfl <| rZ0 ?_)
      try clear H a W
      intro a W H
      refine hK4 _ _ ?_
      clear hK4
      refine drawnX (.val 42 (.pointer (some ⟨g, 0, none⟩)) [] [] :: .val 43 (.pointer (some ⟨g, 0, none⟩)) [] [] :: .val 44 (.pointer (some ⟨g, 0, none⟩)) [] [] :: .val 45 (.pointer (some ⟨g, 0, none⟩)) [2] [] :: .val 46 (.pointer (some ⟨g, 72, none⟩)) [3] [] :: .val 47 (.int .i64 (((p % 64) : Nat) : Int)) [4] [0] :: .val 48 (.int .i64 ((m : Nat) : Int)) [] [] :: .val 49 (.int .i64 ((p % 64 + m : Nat) : Int)) [5, 6] [] :: .val 50 (.pointer (some ⟨g, 0, none⟩)) [] [] :: .val 51 (.pointer (some ⟨g, 0, none⟩)) [8] [] :: .val 52 (.pointer (some ⟨g, 73, none⟩)) [9] [] :: .val 53 (un p) [10] [0] :: .val 54 (.int .i64 ((m : Nat) : Int)) [] [] :: .val 55 (un m) [12] [] :: .val 56 (un (p + m)) [11, 13] [] :: .val 57 (.slice Aq (n - k) cq) [] [] :: .val 58 (.int .i64 ((m : Nat) : Int)) [] [] :: .val 59 (.slice At (n - k - m) (cq - m)) [15, 16] [] :: .val 60 (.pointer (some ⟨g, 0, none⟩)) [0] [] :: .val 61 (.pointer (some ⟨g, 72, none⟩)) [18] [] :: .sto 0 g 60 (msg (npB l (p / 64)) (bkB l (p + m)) (p % 64) p) (msg (npB l (p / 64)) (bkB l (p + m)) (p % 64 + m) p) [19, 7] :: .val 62 (.pointer (some ⟨g, 0, none⟩)) [1] [] :: []) (0 :: 0 :: 0 :: 4 :: 8 :: 16 :: 0 :: 96 :: 0 :: 256 :: 512 :: 1024 :: 0 :: 4096 :: 10240 :: 0 :: 0 :: 98304 :: 2301 :: 264445 :: 526589 :: 1867775 :: 3964927 :: 6062079 :: 16777215 :: []) [15, 16, 17] (by kernel_rfl) (by kernel_rfl) (by kernel_rfl) (by kernel_rfl) (by kernel_rfl) (by kernel_rfl) (fun _ _ _ _ _ h => h) H ⟨⟨does_move rfl rfl, wanted_none rfl⟩, ⟨does_move rfl rfl, wanted_none rfl⟩, ⟨does_move rfl rfl, wanted_none rfl⟩, ⟨does_nilCheckB rfl rfl, wanted_none rfl⟩, ⟨does_fieldAddr rfl rfl fa_2, wanted_none rfl⟩, ⟨does_loadAt (v := .int .i64 (((p % 64) : Nat) : Int)) rfl rfl (k := 0) rfl ld_msgN, wanted_none rfl⟩, ⟨does_move rfl rfl, wanted_none rfl⟩, ⟨does_binOp rfl rfl rfl (z_add (k := p % 64) (m := m) (by omega) _ _), wanted_none rfl⟩, ⟨does_move rfl rfl, wanted_none rfl⟩, ⟨does_nilCheckB rfl rfl, wanted_none rfl⟩, ⟨does_fieldAddr rfl rfl fa_3, wanted_none rfl⟩, ⟨does_loadAt (v := un p) rfl rfl (k := 0) rfl ld_msgT, wanted_none rfl⟩, ⟨does_move rfl rfl, wanted_none rfl⟩, ⟨does_convert rfl rfl (cv_in (by omega)), wanted_none rfl⟩, ⟨does_binOp rfl rfl rfl (un_addB (x := p) (y := m) (by omega) _ _), wanted_none rfl⟩, ⟨does_move rfl rfl, wanted_none rfl⟩, ⟨does_move rfl rfl, wanted_none rfl⟩, ⟨(runs_slice rfl rfl (vl := some (.int .i64 ((m : Nat) : Int))) (vh := none) rfl rfl htl).does, wanted_none rfl⟩, ⟨does_nilCheckB rfl rfl, wanted_none rfl⟩, ⟨does_fieldAddr rfl rfl fa_2, wanted_none rfl⟩, ⟨rfl, rfl, sto_at rfl rfl rfl st_msgN sv_msgN⟩, ⟨does_nilCheckB rfl rfl, wanted_none rfl⟩, trivial⟩ ⟨⟨_, _, _, _, rfl, rfl, rfl, runs_move rfl rfl⟩, ⟨_, _, _, _, rfl, rfl, rfl, runs_move rfl rfl⟩, ⟨_, _, _, _, rfl, rfl, rfl, runs_slice rfl rfl (vl := some (.int .i64 ((m : Nat) : Int))) (vh := none) rfl rfl htl⟩, trivial⟩ ?_
      try clear H a W
      intro G1 a W H
      replace H : St 64 w0 a W [(42, .pointer (some ⟨g, 0, none⟩)), (43, .pointer (some ⟨g, 0, none⟩)), (44, .pointer (some ⟨g, 0, none⟩)), (45, .pointer (some ⟨g, 0, none⟩)), (46, .pointer (some ⟨g, 72, none⟩)), (47, .int .i64 (((p % 64) : Nat) : Int)), (48, .int .i64 ((m : Nat) : Int)), (49, .int .i64 ((p % 64 + m : Nat) : Int)), (50, .pointer (some ⟨g, 0, none⟩)), (51, .pointer (some ⟨g, 0, none⟩)), (52, .pointer (some ⟨g, 73, none⟩)), (53, un p), (54, .int .i64 ((m : Nat) : Int)), (55, un m), (56, un (p + m)), (57, .slice Aq (n - k) cq), (58, .int .i64 ((m : Nat) : Int)), (59, .slice At (n - k - m) (cq - m)), (60, .pointer (some ⟨g, 0, none⟩)), (61, .pointer (some ⟨g, 72, none⟩)), (62, .pointer (some ⟨g, 0, none⟩)), (4, .int .i64 ((m : Nat) : Int)), (41, .int .i64 ((m : Nat) : Int)), (40, .slice Aq (n - k) cq), (39, .slice (some ⟨g, 8 + (p % 64), none⟩) (64 - (p % 64)) (64 - (p % 64))), (38, .int .i64 (((p % 64) : Nat) : Int)), (37, .pointer (some ⟨g, 72, none⟩)), (36, .pointer (some ⟨g, 0, none⟩)), (35, .pointer (some ⟨g, 0, none⟩)), (34, .pointer (some ⟨g, 8, none⟩)), (33, .pointer (some ⟨g, 0, none⟩)), (32, .pointer (some ⟨g, 0, none⟩)), (0, .pointer (some ⟨g, 0, none⟩)), (1, .slice Aq (n - k) cq)] [(g, 60, msg (npB l (p / 64)) (bkB l (p + m)) (p % 64 + m) p), (g2, 25, c2)] := H
      refine rgO H gs0 (rV rfl (does_fieldAddr rfl rfl fa_3) <| rX [1] (c := msg (npB l (p / 64)) (bkB l (p + m)) (p % 64 + m) (p + m)) ⟨rfl, rfl⟩ rfl rfl rfl st_msgT sv_msgT <| rK [1, 1, 1, 1, 1, 1, 1, 1, 1, 1, 1, 1, 1, 1, 1, 1, 1, 1, 1, 1, 1, 1, 1, 1, 1, 1, 1, 1, 1, 1, 1, 1, 1, 1, 0] [] [] <| rS 1 rfl <| rZ0 ?_)
      try clear H a W
      intro a W H
      replace H : St 64 w0 a W [(1, .slice At (n - k - m) (cq - m)), (63, .pointer (some ⟨g, 73, none⟩)), (42, .pointer (some ⟨g, 0, none⟩)), (43, .pointer (some ⟨g, 0, none⟩)), (44, .pointer (some ⟨g, 0, none⟩)), (45, .pointer (some ⟨g, 0, none⟩)), (46, .pointer (some ⟨g, 72, none⟩)), (47, .int .i64 (((p % 64) : Nat) : Int)), (48, .int .i64 ((m : Nat) : Int)), (49, .int .i64 ((p % 64 + m : Nat) : Int)), (50, .pointer (some ⟨g, 0, none⟩)), (51, .pointer (some ⟨g, 0, none⟩)), (52, .pointer (some ⟨g, 73, none⟩)), (53, un p), (54, .int .i64 ((m : Nat) : Int)), (55, un m), (56, un (p + m)), (57, .slice Aq (n - k) cq), (58, .int .i64 ((m : Nat) : Int)), (59, .slice At (n - k - m) (cq - m)), (60, .pointer (some ⟨g, 0, none⟩)), (61, .pointer (some ⟨g, 72, none⟩)), (62, .pointer (some ⟨g, 0, none⟩)), (4, .int .i64 ((m : Nat) : Int)), (41, .int .i64 ((m : Nat) : Int)), (40, .slice Aq (n - k) cq), (39, .slice (some ⟨g, 8 + (p % 64), none⟩) (64 - (p % 64)) (64 - (p % 64))), (38, .int .i64 (((p % 64) : Nat) : Int)), (37, .pointer (some ⟨g, 72, none⟩)), (36, .pointer (some ⟨g, 0, none⟩)), (35, .pointer (some ⟨g, 0, none⟩)), (34, .pointer (some ⟨g, 8, none⟩)), (33, .pointer (some ⟨g, 0, none⟩)), (32, .pointer (some ⟨g, 0, none⟩)), (0, .pointer (some ⟨g, 0, none⟩))] [(g, 60, mQ l (p + m)), (g2, 25, c2)] := by rw [← mQ_put hm0 (by omega)]; exact H
      refine blk_normal ?_
      refine ⟨k + m, by omega, by omega, At, cq - m, ?_, ?_⟩
      · rw [show n - (k + m) = n - k - m by omega, ← List.drop_drop]
        exact hbt
      · rw [show n - (k + m) = n - k - m by omega, show q + (k + m) = p + m by omega]
        exact H.pick [34, 0] [0, 1] rfl
    clear hK3
    by_cases hfull : p - 64 * dB p = 64
    · obtain ⟨hd1, hd2, hd3⟩ := d_full hfull
      refine sqR H gs0 fun Z_ z_ => rS 1 rfl <| rV rfl (does_nilCheckB rfl rfl) <| rV rfl (does_fieldAddr rfl rfl fa_2) <| rV rfl (does_loadAt (v := .int .i64 (((p - 64 * dB p) : Nat) : Int)) rfl rfl (k := 0) rfl ld_msgN) <| rV rfl (does_binOp rfl rfl rfl (z_eql (k := p - 64 * dB p) (m := 64) (decide_eq_true (by omega)) _ _)) <| rN0 z_ ?_
      try clear H a W
      intro a W H
      refine wp_cond_true (H.ev rfl) ?_
      refine drawnX (.val 13 (.pointer (some ⟨g, 0, none⟩)) [] [] :: .val 14 (.pointer (some ⟨g, 0, none⟩)) [] [] :: .val 15 (.pointer (some ⟨g, 0, none⟩)) [] [] :: .val 16 (.pointer (some ⟨g, 0, none⟩)) [2] [] :: .val 17 (.pointer (some ⟨g, 0, none⟩)) [3] [] :: .val 18 (.agg (wn 8 (npB l (dB p)))) [4] [0] :: .val 19 (.pointer (some ⟨g, 0, none⟩)) [] [] :: .val 20 (.pointer (some ⟨g, 0, none⟩)) [6] [] :: .val 21 (.pointer (some ⟨g, 8, none⟩)) [7] [] :: .val 22 (.slice (some ⟨g, 8, none⟩) 64 64) [8] [] :: .val 23 (.pointer (some ⟨g, 0, none⟩)) [] [] :: .val 24 (.pointer (some ⟨g, 0, none⟩)) [10] [] :: .val 25 (.pointer (some ⟨g, 73, none⟩)) [11] [] :: .val 26 (un p) [12] [0] :: .val 27 (.agg (wn 8 (postB (npB l (dB p)) (mixR (wordsB (blB l (dB p))) (preB (npB l (dB p)) p false) 10)))) [5, 9, 13] [0] :: .val 28 (.pointer (some ⟨g, 0, none⟩)) [0] [] :: .val 29 (.pointer (some ⟨g, 0, none⟩)) [15] [] :: .sto 0 g 60 (msg (npB l (dB p)) (bkB l p) (p - 64 * dB p) p) (msg (postB (npB l (dB p)) (mixR (wordsB (blB l (dB p))) (preB (npB l (dB p)) p false) 10)) (bkB l p) (p - 64 * dB p) p) [16, 14] :: []) (0 :: 0 :: 0 :: 4 :: 8 :: 16 :: 0 :: 64 :: 128 :: 256 :: 0 :: 1024 :: 2048 :: 4096 :: 8736 :: 32765 :: 65533 :: 98301 :: 262143 :: 524287 :: 786431 :: []) [] (by kernel_rfl) (by kernel_rfl) (by kernel_rfl) (by kernel_rfl) (by kernel_rfl) (by kernel_rfl) (fun _ _ _ _ _ h => h) H ⟨⟨does_move rfl rfl, wanted_none rfl⟩, ⟨does_move rfl rfl, wanted_none rfl⟩, ⟨does_move rfl rfl, wanted_none rfl⟩, ⟨does_nilCheckB rfl rfl, wanted_none rfl⟩, ⟨does_fieldAddr rfl rfl fa_0, wanted_none rfl⟩, ⟨does_loadAt (v := .agg (wn 8 (npB l (dB p)))) rfl rfl (k := 0) rfl ld_msgS, wanted_none rfl⟩, ⟨does_move rfl rfl, wanted_none rfl⟩, ⟨does_nilCheckB rfl rfl, wanted_none rfl⟩, ⟨does_fieldAddr rfl rfl fa_1, wanted_none rfl⟩, ⟨does_slice rfl rfl (vl := none) (vh := none) rfl rfl sl_b64, wanted_none rfl⟩, ⟨does_move rfl rfl, wanted_none rfl⟩, ⟨does_nilCheckB rfl rfl, wanted_none rfl⟩, ⟨does_fieldAddr rfl rfl fa_3, wanted_none rfl⟩, ⟨does_loadAt (v := un p) rfl rfl (k := 0) rfl ld_msgT, wanted_none rfl⟩, ⟨does_callH rfl ⟨_, Tryd.func24, by kernel_rfl⟩ rfl (fun a W H => pressed_any _ (blB l (dB p)) false (by omega) W (hpg0.ext H.below) (bs_msgE (bk_full hfull) (H.blk (k := 0) rfl))), wanted_none rfl⟩, ⟨does_nilCheckB rfl rfl, wanted_none rfl⟩, ⟨does_fieldAddr rfl rfl fa_0, wanted_none rfl⟩, ⟨rfl, rfl, sto_at rfl rfl rfl st_msgS sv_msgS⟩, trivial⟩ trivial ?_
      try clear H a W
      intro G2 a W H
      replace H : St 64 w0 a W [(13, .pointer (some ⟨g, 0, none⟩)), (14, .pointer (some ⟨g, 0, none⟩)), (15, .pointer (some ⟨g, 0, none⟩)), (16, .pointer (some ⟨g, 0, none⟩)), (17, .pointer (some ⟨g, 0, none⟩)), (18, .agg (wn 8 (npB l (dB p)))), (19, .pointer (some ⟨g, 0, none⟩)), (20, .pointer (some ⟨g, 0, none⟩)), (21, .pointer (some ⟨g, 8, none⟩)), (22, .slice (some ⟨g, 8, none⟩) 64 64), (23, .pointer (some ⟨g, 0, none⟩)), (24, .pointer (some ⟨g, 0, none⟩)), (25, .pointer (some ⟨g, 73, none⟩)), (26, un p), (27, .agg (wn 8 (postB (npB l (dB p)) (mixR (wordsB (blB l (dB p))) (preB (npB l (dB p)) p false) 10)))), (28, .pointer (some ⟨g, 0, none⟩)), (29, .pointer (some ⟨g, 0, none⟩)), (12, .bool true), (11, .int .i64 (((p - 64 * dB p) : Nat) : Int)), (10, .pointer (some ⟨g, 72, none⟩)), (9, .pointer (some ⟨g, 0, none⟩)), (8, .pointer (some ⟨g, 0, none⟩)), (7, .bool true), (6, .int .i64 ((n - k : Nat) : Int)), (5, .slice Aq (n - k) cq), (0, .pointer (some ⟨g, 0, none⟩)), (1, .slice Aq (n - k) cq)] [(g, 60, msg (postB (npB l (dB p)) (mixR (wordsB (blB l (dB p))) (preB (npB l (dB p)) p false) 10)) (bkB l p) (p - 64 * dB p) p), (g2, 25, c2)] := H
      refine rgO H gs0 (rV rfl (does_nilCheckB rfl rfl) <| rV rfl (does_fieldAddr rfl rfl fa_2) <| rX [1] (c := msg (postB (npB l (dB p)) (mixR (wordsB (blB l (dB p))) (preB (npB l (dB p)) p false) 10)) (bkB l p) 0 p) ⟨rfl, rfl⟩ rfl rfl rfl st_msgN sv_msgN <| rZ0 ?_)
      try clear H a W
      intro a W H
      exact J3 _ _ (by rw [hd2, ← np_full hfull]; exact H.pick [27, 28] [0, 1] rfl)
    · obtain ⟨hd1, hd2⟩ := d_open hfull
      refine sqR H gs0 fun Z_ z_ => rS 1 rfl <| rV rfl (does_nilCheckB rfl rfl) <| rV rfl (does_fieldAddr rfl rfl fa_2) <| rV rfl (does_loadAt (v := .int .i64 (((p - 64 * dB p) : Nat) : Int)) rfl rfl (k := 0) rfl ld_msgN) <| rV rfl (does_binOp rfl rfl rfl (z_eql (k := p - 64 * dB p) (m := 64) (decide_eq_false (by omega)) _ _)) <| rN0 z_ ?_
      try clear H a W
      intro a W H
      refine wp_cond_false (H.ev rfl) ?_
      refine wp_skip ?_
      exact J3 _ _ (by rw [← hd1, ← hd2]; exact H.pick [8, 9] [0, 1] rfl)
  · obtain rfl : n = k := by omega
    refine wp_seq_k (fun K7 hK7 => ?_)
    refine sqR H gs0 fun Z_ z_ => rS 1 rfl <| rV rfl (does_len Tryd.underlying22 rfl rfl) <| rV rfl (does_binOp rfl rfl rfl (z_gtr (k := (n - n)) (decide_eq_false (by omega)) _ _)) <| rK [1, 0, 0] [] [] <| rN0 z_ ?_
    try clear H a W
    intro a W H
    refine wp_cond_false (H.ev rfl) ?_
    refine wp_exit ?_
    repeat (with_reducible refine then_exit ?_)
    refine blk_exit ?_
    refine end_none rfl H (fun hk_ => ?_)
    exact ⟨rfl, hk_⟩
set_option maxHeartbeats 4000000 in
theorem sum_rf {v : Value} {L : List (List UInt8)} (w : World) (hpg : PG w) (hv : RF L v w) (h1 : L.flatten.length ≤ 100000) (h2 : L.length ≤ 1000) : Calls Tryd.prog 21 #[v] w (fun rr w' => rr = .returned (.agg (bvs (rb 32 (hashB L.flatten)))) ∧ Below w.heap.size w w') := by
  obtain ⟨A, nn, cap, rfl, hrs⟩ := hv
  have hnn := hrs.len
  obtain ⟨l, hl⟩ : ∃ l, L.flatten = l := ⟨_, rfl⟩
  rw [hl] at h1 ⊢
  obtain ⟨n, hln⟩ : ∃ n, l.length = n := ⟨_, rfl⟩
  refine calls_st (vs := [.slice A nn cap]) 35 Tryd.func21 rfl Tryd.ntmps21 rfl (fun a W H => ?_)
  replace H : St 35 w a W [(0, .slice A nn cap)] [] := H
  refine sqR H gs0 fun Z_ z_ => rA rfl rfl al_keyB fun g1 => rN0 z_ ?_
  try clear H a W
  intro a W H
  refine sqR H gs0 fun Z_ z_ => rV rfl (does_loadR rfl rfl (start_range hpg) hpg.lt0 Tryd.underlying58 rfl (info_bst _)) <| rV rfl (does_build rfl rfl (bd_bmsg _)) <| rA rfl rfl al_bmsg fun g2 => rW [1] ⟨rfl, rfl⟩ rfl rfl rfl (info_bmsg _ _ _ _) (by rw [msg_size, msg_size]) (msg_one _ _ _ _) <| rK [1, 0, 0] [] [] <| rN0 z_ ?_
  try clear H a W
  intro a W H
  refine sqR H gs0 fun Z_ z_ => rV rfl (does_fieldAddr rfl rfl fa_0) <| rV rfl (does_indexAddr rfl rfl rfl (ia_bst (j := 0) (by omega))) <| rV rfl (does_loadAt (v := wc (ivB 0)) rfl rfl (k := 0) rfl (ld_msgW (by omega))) <| rV rfl (does_binOp rfl rfl rfl (w_xorC _ _ _)) <| rV rfl (does_fieldAddr rfl rfl fa_0) <| rV rfl (does_indexAddr rfl rfl rfl (ia_bst (j := 0) (by omega))) <| rX [1] (c := msg (upd ivB 0 ((ivB 0) ^^^ 16842784)) b0s 0 0) ⟨rfl, rfl⟩ rfl rfl rfl (st_msgW (by omega)) (sv_msgW (by omega)) <| rK [0, 0, 0, 0, 0, 0] [] [] <| rN0 z_ ?_
  try clear H a W
  intro a W H
  replace H : St 35 w a W [(3, .pointer (some ⟨g2, 0, none⟩)), (2, .pointer (some ⟨g1, 0, none⟩)), (0, .slice A nn cap)] [(g2, 60, mQ l (posB L 0)), (g1, 25, bvs (rb 32 b0s))] := by rw [posB_0, ← mQ_0 l]; exact H
  refine wp_seq_k (fun K4 hK4 => ?_)
  refine sqR H gs0 fun Z_ z_ => rS 1 rfl <| rV rfl (does_len Tryd.underlying40 rfl rfl) <| rS 1 rfl <| rK [1, 1, 1, 1, 1, 0] [] [] <| rN0 z_ ?_
  try clear H a W
  intro a W H
  refine wp_block ?_
  replace H : St 35 w a W [(16, .int .i64 ((0 : Nat) : Int)), (15, .int .i64 ((nn : Nat) : Int)), (14, .slice A nn cap), (3, .pointer (some ⟨g2, 0, none⟩)), (2, .pointer (some ⟨g1, 0, none⟩))] [(g2, 60, mQ l (posB L 0)), (g1, 25, bvs (rb 32 b0s))] := H.pick [0, 1, 2, 3, 4] [0, 1] rfl
  refine wp_rounds nn (fun k a W => St 35 w a W [(16, .int .i64 ((k : Nat) : Int)), (15, .int .i64 ((nn : Nat) : Int)), (14, .slice A nn cap), (3, .pointer (some ⟨g2, 0, none⟩)), (2, .pointer (some ⟨g1, 0, none⟩))] [(g2, 60, mQ l (posB L k)), (g1, 25, bvs (rb 32 b0s))]) (k0 := 0) H (by omega) ?_
  try clear H a W
  intro k a W hk H
  by_cases hk2 : k < nn
  · obtain ⟨gp, op, lp, Ab, lb, cb, rfl, hgp, hLk, hpart, hbp⟩ := hrs.at' (k := k) hk2
    have hlb := hbp.len
    have hple := posB_le hLk
    rw [hl, hlb] at hple
    refine sqR H gs0 fun Z_ z_ => rV rfl (does_binOp rfl rfl rfl (i_lss_yes (k := k) (m := nn) (by omega) _ _)) <| rN0 z_ ?_
    try clear H a W
    intro a W H
    refine cdT H rfl ?_
    refine wp_seq_k (fun K7 hK7 => ?_)
    refine wp_block ?_
    refine sqR H gs0 fun Z_ z_ => rV rfl (does_indexAddr rfl rfl rfl (ia_rowsB (j := k) (by omega))) <| rV rfl (does_loadCell rfl rfl hpart hgp ld_cellSB) <| rS 1 rfl <| rN0 z_ ?_
    try clear H a W
    intro a W H
    refine rgP H gs0 (rS 1 rfl <| rI0 ?_)
    try clear H a W
    intro a W H
    refine pl_callK (f := 23) (caps := #[]) (vs' := [.pointer (some ⟨g2, 0, none⟩), .slice Ab lb cb]) rfl ⟨_, Tryd.func23, by kernel_rfl⟩ rfl rfl rfl (fun K_ => take_any (q := posB L k) hpg hbp (by omega) (by omega) (fun i hi => by rw [← hl]; exact posB_byte hLk hi) K_) rfl rfl rfl rfl H ?_
    try clear H a W
    intro a W H
    replace H : St 35 w a W [(21, .tuple #[]), (20, .slice Ab lb cb), (5, .slice Ab lb cb), (19, .slice Ab lb cb), (18, .pointer (some ⟨gp, op + k, none⟩)), (17, .bool true), (16, .int .i64 ((k : Nat) : Int)), (15, .int .i64 ((nn : Nat) : Int)), (14, .slice (some ⟨gp, op, none⟩) nn cap), (3, .pointer (some ⟨g2, 0, none⟩)), (2, .pointer (some ⟨g1, 0, none⟩))] [(g2, 60, mQ l (posB L k + lb)), (g1, 25, bvs (rb 32 b0s))] := H
    refine rgO H gs0 (rK [0] [] [] <| rZ0 ?_)
    try clear H a W
    intro a W H
    refine blk_normal ?_
    refine hK7 _ _ ?_
    clear hK7
    refine rgP H gs0 (rV rfl (does_binOp rfl rfl rfl (i_inc (by omega) _ _)) <| rK [1, 1, 1, 1, 1, 1, 0] [] [] <| rS 1 rfl <| rZ0 ?_)
    try clear H a W
    intro a W H
    refine ⟨k + 1, by omega, by omega, ?_⟩
    show St 35 w a W [(16, .int .i64 ((k + 1 : Nat) : Int)), (15, .int .i64 ((nn : Nat) : Int)), (14, .slice (some ⟨gp, op, none⟩) nn cap), (3, .pointer (some ⟨g2, 0, none⟩)), (2, .pointer (some ⟨g1, 0, none⟩))] [(g2, 60, mQ l (posB L (k + 1))), (g1, 25, bvs (rb 32 b0s))]
    rw [posB_succ hLk, hlb]
    exact H.pick [0, 7, 8, 9, 10] [0, 1] rfl
  · obtain rfl : nn = k := by omega
    refine sqR H gs0 fun Z_ z_ => rV rfl (does_binOp rfl rfl rfl (i_lss_no (k := nn) (m := nn) (by omega) _ _)) <| rK [1, 1, 0] [] [] <| rN0 z_ ?_
    try clear H a W
    intro a W H
    refine wp_seq_k (fun K10 hK10 => ?_)
    refine wp_cond_false (H.ev rfl) ?_
    refine wp_exit ?_
    repeat (with_reducible refine then_exit ?_)
    refine blk_exit ?_
    have hend : posB L nn = n := by rw [← hnn, posB_all, hl, hln]
    rw [hend, mQ_def] at H
    have hdl := d_le n
    refine hK4 _ _ ?_
    clear hK4
    refine wp_seq_k (fun K11 hK11 => ?_)
    have J11 : ∀ a W, St 35 w a W [(3, .pointer (some ⟨g2, 0, none⟩)), (2, .pointer (some ⟨g1, 0, none⟩))] [(g2, 60, msg (npB l (dB n)) (blB l (dB n)) (n - 64 * dB n) n), (g1, 25, bvs (rb 32 b0s))] → K11 a W := by
      try clear H a W
      intro a W H
      refine hK11 _ _ ?_
      clear hK11
      refine sqD [.v 27 _ [], .v 28 _ [0], .v 29 _ [], .v 30 _ [2], .v 31 _ [], .v 32 _ [4], .v 33 _ [1, 3, 5], .v 34 _ [6]] (by kernel_rfl) (by kernel_rfl) H gs0 (fun _ => ⟨oV rfl (does_fieldAddr rfl rfl fa_0), oV rfl (does_loadAt (v := .agg (wn 8 (npB l (dB n)))) rfl rfl (k := 0) rfl ld_msgS), oV rfl (does_fieldAddr rfl rfl fa_1), oV rfl (does_slice rfl rfl (vl := none) (vh := none) rfl rfl sl_b64), oV rfl (does_fieldAddr rfl rfl fa_3), oV rfl (does_loadAt (v := un n) rfl rfl (k := 0) rfl ld_msgT), oCV rfl rfl ⟨_, Tryd.func24, by kernel_rfl⟩ rfl (fun a W H _ => (pressed_any _ (blB l (dB n)) true (by omega) W (hpg.ext H.below) (bs_msg (H.blk (k := 0) rfl)))), oV rfl (does_call rfl ⟨_, Tryd.func25, by kernel_rfl⟩ rfl (fun W hb => hash_any _ W)), trivial⟩) fun Z_ z_ => rW [0, 1] ⟨rfl, rfl⟩ rfl rfl rfl (info_key _) (size_rb _ _ _) (bvs_one _) <| rK [0, 0, 0, 0, 0, 0, 0, 0, 0] [] [] <| rN0 z_ ?_
      try clear H a W
      intro a W H
      refine wp_ret ?_
      repeat (first | (with_reducible refine then_ret ?_) | (with_reducible refine blk_ret ?_))
      refine end_cell (p := 2) rfl rfl (k := 1) rfl Tryd.underlying25 rfl (info_key _) H (fun hb => ?_)
      exact ⟨by rw [← hln, hash_end], hb⟩
    clear hK11
    by_cases hf : n - 64 * dB n < 64
    · refine rgP H gs0 (rV rfl (does_fieldAddr rfl rfl fa_1) <| rV rfl (does_fieldAddr rfl rfl fa_2) <| rV rfl (does_loadAt (v := .int .i64 (((n - 64 * dB n) : Nat) : Int)) rfl rfl (k := 0) rfl ld_msgN) <| rV rfl (does_slice rfl rfl (vl := some (.int .i64 (((n - 64 * dB n) : Nat) : Int))) (vh := none) rfl rfl (sl_b64f (f := (n - 64 * dB n)) hf)) <| rI0 ?_)
      try clear H a W
      intro a W H
      refine pl_clear rfl Tryd.underlying22 zero_u8 (bv_cells 0) (bv_one 0) rfl (k := 0) rfl (by omega) (by rw [msg_size]; omega) (clr_B hln hf) rfl rfl H ?_
      try clear H a W
      intro a W H
      replace H : St 35 w a W [(26, .slice (some ⟨g2, 8 + (n - 64 * dB n), none⟩) (64 - (n - 64 * dB n)) (64 - (n - 64 * dB n))), (25, .int .i64 (((n - 64 * dB n) : Nat) : Int)), (24, .pointer (some ⟨g2, 72, none⟩)), (23, .pointer (some ⟨g2, 8, none⟩)), (17, .bool false), (16, .int .i64 ((nn : Nat) : Int)), (14, .slice A nn cap), (3, .pointer (some ⟨g2, 0, none⟩)), (2, .pointer (some ⟨g1, 0, none⟩))] [(g2, 60, msg (npB l (dB n)) (blB l (dB n)) (n - 64 * dB n) n), (g1, 25, bvs (rb 32 b0s))] := H
      refine rgO H gs0 (rK [0, 0, 0, 0, 0, 0, 0] [] [] <| rZ0 ?_)
      try clear H a W
      intro a W H
      exact J11 _ _ (H.pick [0, 1] [0, 1] rfl)
    · have hf2 : n - 64 * dB n = 64 := by omega
      rw [hf2] at H
      refine rgP H gs0 (rV rfl (does_fieldAddr rfl rfl fa_1) <| rV rfl (does_fieldAddr rfl rfl fa_2) <| rV rfl (does_loadAt (v := .int .i64 ((64 : Nat) : Int)) rfl rfl (k := 0) rfl ld_msgN) <| rV rfl (does_slice rfl rfl (vl := some (.int .i64 ((64 : Nat) : Int))) (vh := none) rfl rfl sl_b64e) <| rI0 ?_)
      try clear H a W
      intro a W H
      refine pl_clear0 rfl Tryd.underlying22 rfl rfl rfl H ?_
      try clear H a W
      intro a W H
      replace H : St 35 w a W [(26, .slice (some ⟨g2, 8, none⟩) 0 0), (25, .int .i64 ((64 : Nat) : Int)), (24, .pointer (some ⟨g2, 72, none⟩)), (23, .pointer (some ⟨g2, 8, none⟩)), (17, .bool false), (16, .int .i64 ((nn : Nat) : Int)), (14, .slice A nn cap), (3, .pointer (some ⟨g2, 0, none⟩)), (2, .pointer (some ⟨g1, 0, none⟩))] [(g2, 60, msg (npB l (dB n)) (bkB l n) 64 n), (g1, 25, bvs (rb 32 b0s))] := H
      refine rgO H gs0 (rK [0, 0, 0, 0, 0, 0, 0] [] [] <| rZ0 ?_)
      try clear H a W
      intro a W H
      exact J11 _ _ (by rw [hf2, clr_E hf2]; exact H.pick [0, 1] [0, 1] rfl)
theorem sum_any (A : Option Addr) (n c B : Nat) (L : List (List UInt8)) (W : World) (hpg : PG W) (hr : RS W B A n c L) (hB : B ≤ W.heap.size) (h1 : L.flatten.length ≤ 100000) (h2 : L.length ≤ 1000) : Calls Tryd.prog 21 #[.slice A n c] W (fun rr w' => rr = .returned (.agg (bvs (rb 32 (hashB L.flatten)))) ∧ Below W.heap.size W w') :=
  sum_rf W hpg ⟨_, _, _, rfl, hr.more hB⟩ h1 h2
end Go.Proofs.YthjechjffhhiiaaDoor
