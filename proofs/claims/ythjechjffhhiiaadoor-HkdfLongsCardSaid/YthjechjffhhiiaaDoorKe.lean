/- The laws of layer 12: the chapter's row; macs, outputs, long keys, chains. What package hkdf answers is asked for (HK). -/
import Derived.Test.YthjechjffhhiiaaDoorKc
import Derived.Test.YthjechjffhhiiaaDoorKd
namespace Go.Proofs.YthjechjffhhiiaaDoor
set_option linter.unusedVariables false
set_option linter.unusedSimpArgs false
set_option maxRecDepth 100000
open Go Go.RowKit

/-- What package hkdf answers in every world behind w. -/
structure HK (w : World) : Prop where
  mac : ∀ (W : World), Below w.heap.size w W → ∀ {vk vp : Value} {lk : List UInt8} {L : List (List UInt8)}, BF lk vk W → RF L vp W → lk.length ≤ 1000 → L.flatten.length ≤ 1000 → L.length ≤ 100 → Calls Tryd.prog 9 #[vk, vp] W (fun rr w' => rr = .returned (.agg (bvs (rb 32 (hmacF lk L.flatten)))) ∧ Below W.heap.size W w')
  two : ∀ (W : World), Below w.heap.size w W → ∀ (c : Nat → UInt8) {v : Value} {l : List UInt8}, BF l v W → l.length ≤ 1000 → Calls Tryd.prog 11 #[.agg (bvs (rb 32 c)), v] W (fun rr w' => rr = .returned (.tuple #[.agg (bvs (rb 32 (outK c l 0))), .agg (bvs (rb 32 (outK c l 1)))]) ∧ Below W.heap.size W w')
  three : ∀ (W : World), Below w.heap.size w W → ∀ (c : Nat → UInt8) {v : Value} {l : List UInt8}, BF l v W → l.length ≤ 1000 → Calls Tryd.prog 12 #[.agg (bvs (rb 32 c)), v] W (fun rr w' => rr = .returned (.tuple #[.agg (bvs (rb 32 (outK c l 0))), .agg (bvs (rb 32 (outK c l 1))), .agg (bvs (rb 32 (outK c l 2)))]) ∧ Below W.heap.size W w')
  named : ∀ (W : World), Below w.heap.size w W → ∀ (c : Nat → UInt8) (l : List UInt8), l.length ≤ 1000 → Calls Tryd.prog 13 #[.agg (bvs (rb 32 c)), .string (strB l)] W (fun rr w' => rr = .returned (.agg (bvs (rb 32 (hmacF (rb 32 c) l)))) ∧ Below W.heap.size W w')
theorem HK.ext {w W : World} (h : HK w) (hb : Below w.heap.size w W) : HK W :=
  have tr : ∀ {W2 : World}, Below W.heap.size W W2 → Below w.heap.size w W2 := fun hb2 => hb.trans (hb2.mono hb.size)
  ⟨fun W2 hb2 => h.mac W2 (tr hb2), fun W2 hb2 => h.two W2 (tr hb2), fun W2 hb2 => h.three W2 (tr hb2), fun W2 hb2 => h.named W2 (tr hb2)⟩
theorem HK.macz {w W : World} (h : HK w) (hb : Below w.heap.size w W) {vk vp : Value} {lk l : List UInt8} {L : List (List UInt8)} (hk : BF lk vk W) (hp : RF L vp W) (e : L.flatten = l) (h1 : lk.length ≤ 1000) (h2 : l.length ≤ 1000) (h3 : L.length ≤ 100) :
    Calls Tryd.prog 9 #[vk, vp] W (fun rr w' => rr = .returned (.agg (bvs (rb 32 (hmacF lk l)))) ∧ Below W.heap.size W w') := by
  subst e
  exact h.mac W hb hk hp h1 h2 h3
theorem kf_call {n : Nat} {w0 w : World} {a : Act} {e : Env} {h : Hep} {f : FuncId} {vs : Array Value} {f0 f1 f2 : Nat → UInt8} (H : St n w0 a w e h) (hc : Calls Tryd.prog f vs w (fun rr w' => ∃ g cap cur, rr = .returned (.slice (some ⟨g, 0, none⟩) 3 cap) ∧ Below w.heap.size w w' ∧ Blk w' g 25 cur ∧ w.heap.size ≤ g ∧ ∀ (i : Nat) (f : Nat → UInt8), [f0, f1, f2][i]? = some f → ∀ j, j < 32 → cur[32 * i + j]? = some (bv (f j)))) :
    Calls Tryd.prog f vs w (fun r W' => ∃ v, r = .returned v ∧ Below w.heap.size w W' ∧ KF w0.heap.size h [f0, f1, f2] v W') := by
  refine hc.mono ?_
  rintro rr w' ⟨g, cap, cur, rfl, hb, hbl, hg, hcells⟩
  exact ⟨_, rfl, hb, g, cap, cur, rfl, hbl, Nat.le_trans H.below.size hg, fun p hp => Nat.ne_of_lt (Nat.lt_of_lt_of_le (H.heap p hp).lt hg), hcells⟩
attribute [local irreducible] bvs bv rb hashB keyF innL outL hmacF OutB OutK outK strB c1K
theorem z_gtrZ {k m : Int} {b : Bool} (h : decide (m < k) = b) (p q : Operand) (W : World) : (do eqGuard .gtr 3 p q (.int .i64 k) (.int .i64 m); binOp .gtr 3 (.int .i64 k) (.int .i64 m) : Sem Value).run Tryd.prog W = .ok (.bool b) W := by
  go_simp
  all_goals exact h
theorem z_lssZ {k m : Int} {b : Bool} (h : decide (k < m) = b) (p q : Operand) (W : World) : (do eqGuard .lss 3 p q (.int .i64 k) (.int .i64 m); binOp .lss 3 (.int .i64 k) (.int .i64 m) : Sem Value).run Tryd.prog W = .ok (.bool b) W := by
  go_simp
  all_goals exact h
set_option maxHeartbeats 4000000 in
theorem known_any (w : World) (hpk : HK w) : Calls Tryd.prog 7 #[] w (fun rr w' => rr = .returned (.bool true) ∧ Below w.heap.size w w') := by
  refine calls_st (vs := []) 37 Tryd.func7 rfl Tryd.ntmps7 rfl (fun a W H => ?_)
  replace H : St 37 w a W [] [] := H
  refine sqR H gs0 fun Z_ z_ => rS 1 rfl <| rN0 z_ ?_
  try clear H a W
  intro a W H
  refine sqR H gs0 fun Z_ z_ => rV rfl (does_build rfl rfl bd_c1) <| rO rfl (fun a W H _ => ob_byteC (c := 2) (x := 2) rfl H (wanted_none rfl) rfl rfl) fun v8 => rCV rfl rfl ⟨_, Tryd.func11, by kernel_rfl⟩ rfl (fun a W H ⟨hv8, _⟩ => (hpk.two _ H.below _ hv8 (by first | omega | (simp only [List.length_append, rb_len, List.length_cons, List.length_nil, List.length_replicate]; omega)))) <| rS 3 rfl <| rA rfl rfl al_keyK fun g1 => rA rfl rfl al_keyK fun g2 => rW [0, 1] ⟨rfl, rfl⟩ rfl rfl rfl (info_key _) (size_rb _ _ _) (bvs_one _) <| rW [1] ⟨rfl, rfl⟩ rfl rfl rfl (info_key _) (size_rb _ _ _) (bvs_one _) <| rK [1, 1, 0, 0, 0, 0, 0, 0] [] [] <| rN0 z_ ?_
  try clear H a W
  intro a W H
  refine sqR H gs0 fun Z_ z_ => rV rfl (does_build rfl rfl bd_c1) <| rO rfl (fun a W H _ => ob_byteC (c := 2) (x := 2) rfl H (wanted_none rfl) rfl rfl) fun v14 => rCV rfl rfl ⟨_, Tryd.func12, by kernel_rfl⟩ rfl (fun a W H ⟨hv14, _⟩ => (hpk.three _ H.below _ hv14 (by first | omega | (simp only [List.length_append, rb_len, List.length_cons, List.length_nil, List.length_replicate]; omega)))) <| rS 4 rfl <| rA rfl rfl al_keyK fun g3 => rA rfl rfl al_keyK fun g4 => rA rfl rfl al_keyK fun g5 => rW [0, 0, 1] ⟨rfl, rfl⟩ rfl rfl rfl (info_key _) (size_rb _ _ _) (bvs_one _) <| rW [0, 1] ⟨rfl, rfl⟩ rfl rfl rfl (info_key _) (size_rb _ _ _) (bvs_one _) <| rW [1] ⟨rfl, rfl⟩ rfl rfl rfl (info_key _) (size_rb _ _ _) (bvs_one _) <| rK [1, 1, 1, 0, 0, 0, 0, 0, 0, 0] [] [] <| rN0 z_ ?_
  try clear H a W
  intro a W H
  refine sqR H gs0 fun Z_ z_ => rV rfl (does_load rfl rfl (k := 4) rfl Tryd.underlying25 rfl (info_key _)) <| rV rfl (does_load rfl rfl (k := 2) rfl Tryd.underlying25 rfl (info_key _)) <| rV rfl (does_binOp rfl rfl rfl (k_eql (decide_eq_true rfl) _ _)) <| rS 1 rfl <| rV rfl (does_load rfl rfl (k := 3) rfl Tryd.underlying25 rfl (info_key _)) <| rV rfl (does_load rfl rfl (k := 1) rfl Tryd.underlying25 rfl (info_key _)) <| rV rfl (does_binOp rfl rfl rfl (k_eql (decide_eq_true rfl) _ _)) <| rS 2 rfl <| rV rfl (does_load rfl rfl (k := 4) rfl Tryd.underlying25 rfl (info_key _)) <| rV rfl (does_load rfl rfl (k := 3) rfl Tryd.underlying25 rfl (info_key _)) <| rV rfl (does_binOp rfl rfl rfl (k_neq kn_all.1 _ _)) <| rS 2 rfl <| rV rfl (does_load rfl rfl (k := 0) rfl Tryd.underlying25 rfl (info_key _)) <| rV rfl (does_load rfl rfl (k := 4) rfl Tryd.underlying25 rfl (info_key _)) <| rV rfl (does_binOp rfl rfl rfl (k_neq kn_all.2 _ _)) <| rS 1 rfl <| rK [1, 1, 1, 1, 1, 1, 1, 1, 1, 1, 1, 1, 1, 1, 1, 1, 1, 1, 1, 1, 1, 1, 1, 0] [] [] <| rS 1 rfl <| rK [1, 0, 0, 0, 0, 0, 0, 0, 0, 0, 0, 0, 0, 0, 0, 0, 0, 0, 0, 0, 0, 0, 0, 0] [] [] <| rN0 z_ ?_
  try clear H a W
  intro a W H
  refine wp_ret ?_
  repeat (first | (with_reducible refine then_ret ?_) | (with_reducible refine blk_ret ?_))
  refine end_tmp (p := 0) rfl rfl H (fun hb => ?_)
  exact ⟨rfl, hb⟩
set_option maxHeartbeats 4000000 in
theorem macs_a {vk vm : Value} {lk lm : List UInt8} (z : Int) (w : World) (hpk : HK w) (hvk : BF lk vk w) (hvm : BF lm vm w) (h1 : 300 < lk.length) : Calls Tryd.prog 3 #[vk, vm, .int .i64 z] w (fun rr w' => rr = .returned (.bool true) ∧ Below w.heap.size w w') := by
  obtain ⟨Ak, nk, ck, rfl, hbk⟩ := id hvk
  have hnk := hbk.len
  obtain ⟨Am, nm, cm, rfl, hbm⟩ := id hvm
  have hnm := hbm.len
  refine calls_st (vs := [.slice Ak nk ck, .slice Am nm cm, .int .i64 z]) 56 Tryd.func3 rfl Tryd.ntmps3 rfl (fun a W H => ?_)
  replace H : St 56 w a W [(0, .slice Ak nk ck), (1, .slice Am nm cm), (2, .int .i64 z)] [] := H
  refine sqR H gs0 fun Z_ z_ => rS 1 rfl <| rN0 z_ ?_
  try clear H a W
  intro a W H
  refine wp_seq_k (fun K2 hK2 => ?_)
  refine sqR H gs0 fun Z_ z_ => rS 1 rfl <| rV rfl (does_len Tryd.underlying22 rfl rfl) <| rV rfl (does_binOp rfl rfl rfl (z_gtrZ (k := ((nk : Nat) : Int)) (m := 300) (decide_eq_true (by omega)) _ _)) <| rS 5 rfl <| rK [1, 0, 0, 0, 0, 0, 0, 0] [] [] <| rN0 z_ ?_
  try clear H a W
  intro a W H
  refine wp_cond_true (H.ev rfl) ?_
  refine sqR H gs0 fun Z_ z_ => rCV rfl rfl ⟨_, Tryd.func7, by kernel_rfl⟩ rfl (fun a W H _ => (known_any _ (hpk.ext H.below))) <| rK [1, 1, 0] [] [] <| rS 1 rfl <| rK [1, 0, 0] [] [] <| rN0 z_ ?_
  try clear H a W
  intro a W H
  refine wp_ret ?_
  repeat (first | (with_reducible refine then_ret ?_) | (with_reducible refine blk_ret ?_))
  refine end_tmp (p := 6) rfl rfl H (fun hb => ?_)
  exact ⟨rfl, hb⟩
set_option maxHeartbeats 4000000 in
theorem macs_b {vk vm : Value} {lk lm : List UInt8} (z : Int) (w : World) (hpk : HK w) (hvk : BF lk vk w) (hvm : BF lm vm w) (h1 : lk.length ≤ 300) (h2 : 300 < lm.length) : Calls Tryd.prog 3 #[vk, vm, .int .i64 z] w (fun rr w' => rr = .returned (.bool true) ∧ Below w.heap.size w w') := by
  obtain ⟨Ak, nk, ck, rfl, hbk⟩ := id hvk
  have hnk := hbk.len
  obtain ⟨Am, nm, cm, rfl, hbm⟩ := id hvm
  have hnm := hbm.len
  refine calls_st (vs := [.slice Ak nk ck, .slice Am nm cm, .int .i64 z]) 56 Tryd.func3 rfl Tryd.ntmps3 rfl (fun a W H => ?_)
  replace H : St 56 w a W [(0, .slice Ak nk ck), (1, .slice Am nm cm), (2, .int .i64 z)] [] := H
  refine sqR H gs0 fun Z_ z_ => rS 1 rfl <| rN0 z_ ?_
  try clear H a W
  intro a W H
  refine wp_seq_k (fun K2 hK2 => ?_)
  refine sqR H gs0 fun Z_ z_ => rS 1 rfl <| rV rfl (does_len Tryd.underlying22 rfl rfl) <| rV rfl (does_binOp rfl rfl rfl (z_gtrZ (k := ((nk : Nat) : Int)) (m := 300) (decide_eq_false (by omega)) _ _)) <| rS 2 rfl <| rV rfl (does_len Tryd.underlying22 rfl rfl) <| rV rfl (does_binOp rfl rfl rfl (z_gtrZ (k := ((nm : Nat) : Int)) (m := 300) (decide_eq_true (by omega)) _ _)) <| rS 1 rfl <| rK [1, 0, 0, 0, 0, 0, 0, 0] [] [] <| rN0 z_ ?_
  try clear H a W
  intro a W H
  refine wp_cond_true (H.ev rfl) ?_
  refine sqR H gs0 fun Z_ z_ => rCV rfl rfl ⟨_, Tryd.func7, by kernel_rfl⟩ rfl (fun a W H _ => (known_any _ (hpk.ext H.below))) <| rK [1, 1, 0] [] [] <| rS 1 rfl <| rK [1, 0, 0] [] [] <| rN0 z_ ?_
  try clear H a W
  intro a W H
  refine wp_ret ?_
  repeat (first | (with_reducible refine then_ret ?_) | (with_reducible refine blk_ret ?_))
  refine end_tmp (p := 6) rfl rfl H (fun hb => ?_)
  exact ⟨rfl, hb⟩
set_option maxHeartbeats 4000000 in
theorem macs_c {vk vm : Value} {lk lm : List UInt8} (z : Int) (w : World) (hpk : HK w) (hvk : BF lk vk w) (hvm : BF lm vm w) (h1 : lk.length ≤ 300) (h2 : lm.length ≤ 300) : Calls Tryd.prog 3 #[vk, vm, .int .i64 z] w (fun rr w' => rr = .returned (.bool true) ∧ Below w.heap.size w w') := by
  obtain ⟨Ak, nk, ck, rfl, hbk⟩ := id hvk
  have hnk := hbk.len
  obtain ⟨Am, nm, cm, rfl, hbm⟩ := id hvm
  have hnm := hbm.len
  obtain ⟨r1, n, hr1, hr2, hr3, hrn, hnle⟩ := cut_at z nm
  obtain ⟨At, htl, hbt⟩ := tl_bytes hbm hnle
  have hvt : BF (lm.take n) (.slice Am n cm) w := ⟨_, _, _, rfl, hbm.head2 hnle⟩
  have hvd : BF (lm.drop n) (.slice At (nm - n) (cm - n)) w := ⟨_, _, _, rfl, hbt⟩
  have hcap := hbm.cap
  refine calls_st (vs := [.slice Ak nk ck, .slice Am nm cm, .int .i64 z]) 56 Tryd.func3 rfl Tryd.ntmps3 rfl (fun a W H => ?_)
  replace H : St 56 w a W [(0, .slice Ak nk ck), (1, .slice Am nm cm), (2, .int .i64 z)] [] := H
  refine sqR H gs0 fun Z_ z_ => rS 1 rfl <| rN0 z_ ?_
  try clear H a W
  intro a W H
  refine wp_seq_k (fun K2 hK2 => ?_)
  refine sqR H gs0 fun Z_ z_ => rS 1 rfl <| rV rfl (does_len Tryd.underlying22 rfl rfl) <| rV rfl (does_binOp rfl rfl rfl (z_gtrZ (k := ((nk : Nat) : Int)) (m := 300) (decide_eq_false (by omega)) _ _)) <| rS 2 rfl <| rV rfl (does_len Tryd.underlying22 rfl rfl) <| rV rfl (does_binOp rfl rfl rfl (z_gtrZ (k := ((nm : Nat) : Int)) (m := 300) (decide_eq_false (by omega)) _ _)) <| rS 1 rfl <| rK [1, 0, 0, 0, 0, 0, 0, 0] [] [] <| rN0 z_ ?_
  try clear H a W
  intro a W H
  refine wp_cond_false (H.ev rfl) ?_
  refine wp_skip ?_
  refine hK2 _ _ ?_
  clear hK2
  refine sqR H gs0 fun Z_ z_ => rS 2 rfl <| rV rfl (does_len Tryd.underlying22 rfl rfl) <| rV rfl (does_binOp rfl rfl rfl (i_inc (by omega) _ _)) <| rV rfl (does_binOp rfl rfl rfl (z_remI (by omega) hr1 _ _)) <| rS 1 rfl <| rV rfl (does_len Tryd.underlying22 rfl rfl) <| rV rfl (does_binOp rfl rfl rfl (z_addI rfl (by omega) _ _)) <| rV rfl (does_binOp rfl rfl rfl (z_addI rfl (by omega) _ _)) <| rS 1 rfl <| rV rfl (does_len Tryd.underlying22 rfl rfl) <| rV rfl (does_binOp rfl rfl rfl (i_inc (by omega) _ _)) <| rV rfl (does_binOp rfl rfl rfl (z_remI (by omega) hrn _ _)) <| rS 1 rfl <| rK [1, 0, 0, 0, 0, 0, 0, 0, 0, 0, 0, 0, 0, 0, 0, 1, 1, 1, 0] [] [] <| rN0 z_ ?_
  try clear H a W
  intro a W H
  refine sqR H gs0 fun Z_ z_ => rS 2 rfl <| rCV rfl rfl ⟨_, Tryd.func8, by kernel_rfl⟩ rfl (fun a W H _ => (rmac_any _ (bf_old hvk H) (bf_old hvm H) (by first | omega | (simp only [List.length_append, rb_len, List.length_cons, List.length_nil, List.length_replicate]; omega)) (by first | omega | (simp only [List.length_append, rb_len, List.length_cons, List.length_nil, List.length_replicate]; omega)))) <| rA rfl rfl al_keyK fun g1 => rW [1] ⟨rfl, rfl⟩ rfl rfl rfl (info_key _) (size_rb _ _ _) (bvs_one _) <| rK [1, 0, 0, 0] [] [] <| rN0 z_ ?_
  try clear H a W
  intro a W H
  refine wp_seq_k (fun K6 hK6 => ?_)
  replace H := H.km [1, 1, 0] []
  refine drawnR SB SB (⟨34, fun u_ _ => u_ = .slice Ak nk ck, [], none, false⟩ :: ⟨35, fun u_ _ => u_ = .slice Am nm cm, [], none, false⟩ :: ⟨36, LF [lm], [1], none, false⟩ :: ⟨37, fun u_ _ => u_ = .agg (bvs (rb 32 (hmacF lk lm))), [0, 2], none, false⟩ :: ⟨38, fun u_ _ => u_ = .agg (bvs (rb 32 (hmacF lk lm))), [], none, false⟩ :: ⟨39, fun u_ _ => u_ = .bool true, [3, 4], none, false⟩ :: ⟨40, fun u_ _ => u_ = .bool true, [5], none, false⟩ :: ⟨41, fun u_ _ => u_ = .slice Ak nk ck, [6], none, false⟩ :: ⟨42, fun u_ _ => u_ = .slice Am nm cm, [6], none, false⟩ :: ⟨43, fun u_ _ => u_ = .int .i64 ((n : Nat) : Int), [6], none, false⟩ :: ⟨44, fun u_ _ => u_ = .slice Am n cm, [8, 9, 6], none, false⟩ :: ⟨45, fun u_ _ => u_ = .slice Am nm cm, [6], none, false⟩ :: ⟨46, fun u_ _ => u_ = .int .i64 ((n : Nat) : Int), [6], none, false⟩ :: ⟨47, fun u_ _ => u_ = .slice At (nm - n) (cm - n), [11, 12, 6], none, false⟩ :: ⟨48, LF [lm.take n, lm.drop n], [10, 13, 6], none, false⟩ :: ⟨49, fun u_ _ => u_ = .agg (bvs (rb 32 (hmacF lk lm))), [7, 14, 6], none, false⟩ :: ⟨50, fun u_ _ => u_ = .agg (bvs (rb 32 (hmacF lk lm))), [6], none, false⟩ :: ⟨51, fun u_ _ => u_ = .bool true, [15, 16, 6], none, false⟩ :: ⟨52, fun u_ _ => u_ = .bool true, [6, 17], none, false⟩ :: ⟨53, fun u_ _ => u_ = .bool true, [18], none, false⟩ :: ⟨54, fun u_ _ => u_ = .bool true, [19], none, false⟩ :: ⟨55, fun u_ _ => u_ = .bool true, [19, 20], none, false⟩ :: []) (0 :: 0 :: 2 :: 5 :: 0 :: 24 :: 40 :: 64 :: 64 :: 64 :: 832 :: 64 :: 64 :: 6208 :: 9280 :: 16576 :: 64 :: 98368 :: 131136 :: 294912 :: 524288 :: 1572864 :: 4194303 :: []) [21] sb_st sb_st (by kernel_rfl) (by kernel_rfl) (by kernel_rfl) H ⟨⟨fun a W  H => by exact ob_valS H (wanted_none rfl) (does_move rfl rfl), val_grow, fun _ => val_grow⟩, ⟨fun a W  H => by exact ob_valS H (wanted_none rfl) (does_move rfl rfl), val_grow, fun _ => val_grow⟩, ⟨fun a W y1 hy1 H => by subst hy1; exact ob_rows1S H (wanted_none rfl) rfl rfl (bf_old hvm H), LF.sb, fun _ => LF.sb⟩, ⟨fun a W y0 hy0 v36 hv36 H => by subst hy0; exact ob_calS H (wanted_none rfl) rfl ⟨_, Tryd.func9, by kernel_rfl⟩ rfl (hpk.macz (l := lm) H.below (bf_old hvk H) hv36.rf (by simp) (by first | omega | (simp only [List.length_append, rb_len, List.length_cons, List.length_nil, List.length_replicate]; omega)) (by first | omega | (simp only [List.length_append, rb_len, List.length_cons, List.length_nil, List.length_replicate]; omega)) (by simp)), val_grow, fun _ => val_grow⟩, ⟨fun a W  H => by exact ob_valS H (wanted_none rfl) (does_load rfl rfl (k := 0) rfl Tryd.underlying25 rfl (info_key _)), val_grow, fun _ => val_grow⟩, ⟨fun a W y3 hy3 y4 hy4 H => by subst hy3; subst hy4; exact ob_valS H (wanted_none rfl) (does_binOp rfl rfl rfl (k_eql (decide_eq_true rfl) _ _)), val_grow, fun _ => val_grow⟩, ⟨fun a W y5 hy5 H => by subst hy5; exact ob_valS H (wanted_none rfl) (does_move rfl rfl), val_grow, fun _ => val_grow⟩, ⟨fun a W y6 hy6 H => by subst hy6; exact ob_valS H (wanted_some rfl rfl rfl rfl rfl) (does_move rfl rfl), val_grow, fun _ => val_grow⟩, ⟨fun a W y6 hy6 H => by subst hy6; exact ob_valS H (wanted_some rfl rfl rfl rfl rfl) (does_move rfl rfl), val_grow, fun _ => val_grow⟩, ⟨fun a W y6 hy6 H => by subst hy6; exact ob_valS H (wanted_some rfl rfl rfl rfl rfl) (does_move rfl rfl), val_grow, fun _ => val_grow⟩, ⟨fun a W y8 hy8 y9 hy9 y6 hy6 H => by subst hy8; subst hy9; subst hy6; exact ob_valS H (wanted_some rfl rfl rfl rfl rfl) (does_slice rfl rfl (vl := none) (vh := some (.int .i64 (n : Int))) rfl rfl (sl_loK (by omega))), val_grow, fun _ => val_grow⟩, ⟨fun a W y6 hy6 H => by subst hy6; exact ob_valS H (wanted_some rfl rfl rfl rfl rfl) (does_move rfl rfl), val_grow, fun _ => val_grow⟩, ⟨fun a W y6 hy6 H => by subst hy6; exact ob_valS H (wanted_some rfl rfl rfl rfl rfl) (does_move rfl rfl), val_grow, fun _ => val_grow⟩, ⟨fun a W y11 hy11 y12 hy12 y6 hy6 H => by subst hy11; subst hy12; subst hy6; exact ob_valS H (wanted_some rfl rfl rfl rfl rfl) (does_slice rfl rfl (vl := some (.int .i64 (n : Int))) (vh := none) rfl rfl htl), val_grow, fun _ => val_grow⟩, ⟨fun a W y10 hy10 y13 hy13 y6 hy6 H => by subst hy10; subst hy13; subst hy6; exact ob_rows2S H (wanted_some rfl rfl rfl rfl rfl) rfl rfl rfl (bf_old hvt H) (bf_old hvd H), LF.sb, fun _ => LF.sb⟩, ⟨fun a W y7 hy7 v48 hv48 y6 hy6 H => by subst hy7; subst hy6; exact ob_calS H (wanted_some rfl rfl rfl rfl rfl) rfl ⟨_, Tryd.func9, by kernel_rfl⟩ rfl (hpk.macz (l := lm) H.below (bf_old hvk H) hv48.rf (by simp) (by first | omega | (simp only [List.length_append, rb_len, List.length_cons, List.length_nil, List.length_replicate]; omega)) (by first | omega | (simp only [List.length_append, rb_len, List.length_cons, List.length_nil, List.length_replicate]; omega)) (by simp)), val_grow, fun _ => val_grow⟩, ⟨fun a W y6 hy6 H => by subst hy6; exact ob_valS H (wanted_some rfl rfl rfl rfl rfl) (does_load rfl rfl (k := 0) rfl Tryd.underlying25 rfl (info_key _)), val_grow, fun _ => val_grow⟩, ⟨fun a W y15 hy15 y16 hy16 y6 hy6 H => by subst hy15; subst hy16; subst hy6; exact ob_valS H (wanted_some rfl rfl rfl rfl rfl) (does_binOp rfl rfl rfl (k_eql (decide_eq_true rfl) _ _)), val_grow, fun _ => val_grow⟩, ⟨fun a W y6 hy6 y17 hy17 H => by subst hy6; subst hy17; exact ob_valS H (wanted_none rfl) (does_pick rfl rfl (fun _ => rfl) (fun hb => by cases hb)), val_grow, fun _ => val_grow⟩, ⟨fun a W y18 hy18 H => by subst hy18; exact ob_valS H (wanted_none rfl) (does_move rfl rfl), val_grow, fun _ => val_grow⟩, ⟨fun a W y19 hy19 H => by subst hy19; exact ob_calS H (wanted_some rfl rfl rfl rfl rfl) rfl ⟨_, Tryd.func7, by kernel_rfl⟩ rfl (known_any _ (hpk.ext H.below)), val_grow, fun _ => val_grow⟩, ⟨fun a W y19 hy19 y20 hy20 H => by subst hy19; subst hy20; exact ob_valS H (wanted_none rfl) (does_pick rfl rfl (fun _ => rfl) (fun hb => by cases hb)), val_grow, fun _ => val_grow⟩, trivial⟩ (by kernel_rfl) ?_
  try clear H a W
  intro a W
  rintro _ rfl
  intro H
  replace H : St 56 w a W [(55, .bool true), (8, .pointer (some ⟨g1, 0, none⟩)), (7, .int .i64 ((n : Nat) : Int)), (0, .slice Ak nk ck), (1, .slice Am nm cm)] [(g1, 25, bvs (rb 32 (hmacF lk lm)))] := H
  refine rgO H gs0 (rS 1 rfl <| rZ0 ?_)
  try clear H a W
  intro a W H
  replace H := H.km [1, 0, 0, 0, 0, 0] []
  refine hK6 _ _ ?_
  clear hK6
  refine wp_ret ?_
  repeat (first | (with_reducible refine then_ret ?_) | (with_reducible refine blk_ret ?_))
  refine end_tmp (p := 6) rfl rfl H (fun hb => ?_)
  exact ⟨rfl, hb⟩
theorem law_macs {vk vm : Value} {lk lm : List UInt8} (z : Int) (w : World) (hpk : HK w) (hvk : BF lk vk w) (hvm : BF lm vm w) : Calls Tryd.prog 3 #[vk, vm, .int .i64 z] w (fun rr w' => rr = .returned (.bool true) ∧ Below w.heap.size w w') := by
  by_cases h1 : 300 < lk.length
  · exact macs_a z w hpk hvk hvm h1
  by_cases h2 : 300 < lm.length
  · exact macs_b z w hpk hvk hvm (by omega) h2
  exact macs_c z w hpk hvk hvm (by omega) (by omega)
set_option maxHeartbeats 4000000 in
theorem outs_a {vm : Value} {lm ls : List UInt8} (c : Nat → UInt8) (w : World) (hpk : HK w) (hvm : BF lm vm w) (h1 : 300 < lm.length) : Calls Tryd.prog 4 #[.agg (bvs (rb 32 c)), vm, .string (strB ls)] w (fun rr w' => rr = .returned (.bool true) ∧ Below w.heap.size w w') := by
  obtain ⟨Am, nm, cm, rfl, hbm⟩ := id hvm
  have hnm := hbm.len
  obtain ⟨ns, hns⟩ : ∃ ns, ls.length = ns := ⟨_, rfl⟩
  refine calls_st (vs := [.agg (bvs (rb 32 c)), .slice Am nm cm, .string (strB ls)]) 84 Tryd.func4 rfl Tryd.ntmps4 rfl (fun a W H => ?_)
  replace H : St 84 w a W [(0, .agg (bvs (rb 32 c))), (1, .slice Am nm cm), (2, .string (strB ls))] [] := H
  refine sqR H gs0 fun Z_ z_ => rB rfl rfl rfl (bx_key c) fun g1 => rS 1 rfl <| rK [1, 1, 0] [] [] <| rN0 z_ ?_
  try clear H a W
  intro a W H
  refine wp_seq_k (fun K2 hK2 => ?_)
  refine sqR H gs0 fun Z_ z_ => rS 1 rfl <| rV rfl (does_len Tryd.underlying22 rfl rfl) <| rV rfl (does_binOp rfl rfl rfl (z_gtrZ (k := ((nm : Nat) : Int)) (m := 300) (decide_eq_true (by omega)) _ _)) <| rS 5 rfl <| rK [1, 0, 0, 0, 0, 0, 0, 0] [] [] <| rN0 z_ ?_
  try clear H a W
  intro a W H
  refine wp_cond_true (H.ev rfl) ?_
  refine sqR H gs0 fun Z_ z_ => rCV rfl rfl ⟨_, Tryd.func7, by kernel_rfl⟩ rfl (fun a W H _ => (known_any _ (hpk.ext H.below))) <| rK [1, 1, 0] [] [] <| rS 1 rfl <| rK [1, 0, 0] [] [] <| rN0 z_ ?_
  try clear H a W
  intro a W H
  refine wp_ret ?_
  repeat (first | (with_reducible refine then_ret ?_) | (with_reducible refine blk_ret ?_))
  refine end_tmp (p := 6) rfl rfl H (fun hb => ?_)
  exact ⟨rfl, hb⟩
set_option maxHeartbeats 4000000 in
theorem outs_b {vm : Value} {lm ls : List UInt8} (c : Nat → UInt8) (w : World) (hpk : HK w) (hvm : BF lm vm w) (h1 : lm.length ≤ 300) (h2 : 300 < ls.length) : Calls Tryd.prog 4 #[.agg (bvs (rb 32 c)), vm, .string (strB ls)] w (fun rr w' => rr = .returned (.bool true) ∧ Below w.heap.size w w') := by
  obtain ⟨Am, nm, cm, rfl, hbm⟩ := id hvm
  have hnm := hbm.len
  obtain ⟨ns, hns⟩ : ∃ ns, ls.length = ns := ⟨_, rfl⟩
  refine calls_st (vs := [.agg (bvs (rb 32 c)), .slice Am nm cm, .string (strB ls)]) 84 Tryd.func4 rfl Tryd.ntmps4 rfl (fun a W H => ?_)
  replace H : St 84 w a W [(0, .agg (bvs (rb 32 c))), (1, .slice Am nm cm), (2, .string (strB ls))] [] := H
  refine sqR H gs0 fun Z_ z_ => rB rfl rfl rfl (bx_key c) fun g1 => rS 1 rfl <| rK [1, 1, 0] [] [] <| rN0 z_ ?_
  try clear H a W
  intro a W H
  refine wp_seq_k (fun K2 hK2 => ?_)
  refine sqR H gs0 fun Z_ z_ => rS 1 rfl <| rV rfl (does_len Tryd.underlying22 rfl rfl) <| rV rfl (does_binOp rfl rfl rfl (z_gtrZ (k := ((nm : Nat) : Int)) (m := 300) (decide_eq_false (by omega)) _ _)) <| rS 2 rfl <| rV rfl (does_lenStr hns Tryd.underlying9 rfl rfl) <| rV rfl (does_binOp rfl rfl rfl (z_gtrZ (k := ((ns : Nat) : Int)) (m := 300) (decide_eq_true (by omega)) _ _)) <| rS 1 rfl <| rK [1, 0, 0, 0, 0, 0, 0, 0] [] [] <| rN0 z_ ?_
  try clear H a W
  intro a W H
  refine wp_cond_true (H.ev rfl) ?_
  refine sqR H gs0 fun Z_ z_ => rCV rfl rfl ⟨_, Tryd.func7, by kernel_rfl⟩ rfl (fun a W H _ => (known_any _ (hpk.ext H.below))) <| rK [1, 1, 0] [] [] <| rS 1 rfl <| rK [1, 0, 0] [] [] <| rN0 z_ ?_
  try clear H a W
  intro a W H
  refine wp_ret ?_
  repeat (first | (with_reducible refine then_ret ?_) | (with_reducible refine blk_ret ?_))
  refine end_tmp (p := 6) rfl rfl H (fun hb => ?_)
  exact ⟨rfl, hb⟩
set_option maxHeartbeats 4000000 in
theorem outs_c {vm : Value} {lm ls : List UInt8} (c : Nat → UInt8) (w : World) (hpk : HK w) (hvm : BF lm vm w) (h1 : lm.length ≤ 300) (h2 : ls.length ≤ 300) : Calls Tryd.prog 4 #[.agg (bvs (rb 32 c)), vm, .string (strB ls)] w (fun rr w' => rr = .returned (.bool true) ∧ Below w.heap.size w w') := by
  obtain ⟨Am, nm, cm, rfl, hbm⟩ := id hvm
  have hnm := hbm.len
  obtain ⟨ns, hns⟩ : ∃ ns, ls.length = ns := ⟨_, rfl⟩
  refine calls_st (vs := [.agg (bvs (rb 32 c)), .slice Am nm cm, .string (strB ls)]) 84 Tryd.func4 rfl Tryd.ntmps4 rfl (fun a W H => ?_)
  replace H : St 84 w a W [(0, .agg (bvs (rb 32 c))), (1, .slice Am nm cm), (2, .string (strB ls))] [] := H
  refine sqR H gs0 fun Z_ z_ => rB rfl rfl rfl (bx_key c) fun g1 => rS 1 rfl <| rK [1, 1, 0] [] [] <| rN0 z_ ?_
  try clear H a W
  intro a W H
  refine wp_seq_k (fun K2 hK2 => ?_)
  refine sqR H gs0 fun Z_ z_ => rS 1 rfl <| rV rfl (does_len Tryd.underlying22 rfl rfl) <| rV rfl (does_binOp rfl rfl rfl (z_gtrZ (k := ((nm : Nat) : Int)) (m := 300) (decide_eq_false (by omega)) _ _)) <| rS 2 rfl <| rV rfl (does_lenStr hns Tryd.underlying9 rfl rfl) <| rV rfl (does_binOp rfl rfl rfl (z_gtrZ (k := ((ns : Nat) : Int)) (m := 300) (decide_eq_false (by omega)) _ _)) <| rS 1 rfl <| rK [1, 0, 0, 0, 0, 0, 0, 0] [] [] <| rN0 z_ ?_
  try clear H a W
  intro a W H
  refine wp_cond_false (H.ev rfl) ?_
  refine wp_skip ?_
  refine hK2 _ _ ?_
  clear hK2
  refine sqR H gs0 fun Z_ z_ => rV rfl (does_load rfl rfl (k := 0) rfl Tryd.underlying25 rfl (info_key _)) <| rS 1 rfl <| rC rfl rfl ⟨_, Tryd.func10, by kernel_rfl⟩ rfl (fun a W H _ => (kf_call H (routs_any _ _ (bf_old hvm H) (by omega)))) fun v24 => rS 1 rfl <| rK [1, 0, 0, 0, 0] [] [] <| rN z_ ?_
  try clear H a W
  rintro a W H ⟨hv24, -⟩
  obtain ⟨gk, capk, curk, rfl, hbk_, hBk_, hnk_, hck⟩ := hv24
  replace H := H.add hbk_ hBk_ hnk_
  clear hbk_ hBk_ hnk_
  replace H : St 84 w a W [(7, .slice (some ⟨gk, 0, none⟩) 3 capk), (6, .bool false), (3, .pointer (some ⟨g1, 0, none⟩)), (1, .slice Am nm cm), (2, .string (strB ls))] [(gk, 25, curk), (g1, 25, bvs (rb 32 c))] := H
  refine sqR H gs0 fun Z_ z_ => rV rfl (does_load rfl rfl (k := 1) rfl Tryd.underlying25 rfl (info_key _)) <| rS 1 rfl <| rCV rfl rfl ⟨_, Tryd.func11, by kernel_rfl⟩ rfl (fun a W H _ => (hpk.two _ H.below _ (bf_old hvm H) (by first | omega | (simp only [List.length_append, rb_len, List.length_cons, List.length_nil, List.length_replicate]; omega)))) <| rS 3 rfl <| rA rfl rfl al_keyK fun g2 => rA rfl rfl al_keyK fun g3 => rW [0, 1] ⟨rfl, rfl⟩ rfl rfl rfl (info_key _) (size_rb _ _ _) (bvs_one _) <| rW [1] ⟨rfl, rfl⟩ rfl rfl rfl (info_key _) (size_rb _ _ _) (bvs_one _) <| rK [1, 1, 0, 0, 0, 0, 0, 0] [] [] <| rN0 z_ ?_
  try clear H a W
  intro a W H
  refine sqR H gs0 fun Z_ z_ => rV rfl (does_load rfl rfl (k := 3) rfl Tryd.underlying25 rfl (info_key _)) <| rS 1 rfl <| rCV rfl rfl ⟨_, Tryd.func12, by kernel_rfl⟩ rfl (fun a W H _ => (hpk.three _ H.below _ (bf_old hvm H) (by first | omega | (simp only [List.length_append, rb_len, List.length_cons, List.length_nil, List.length_replicate]; omega)))) <| rS 4 rfl <| rA rfl rfl al_keyK fun g4 => rA rfl rfl al_keyK fun g5 => rA rfl rfl al_keyK fun g6 => rW [0, 0, 1] ⟨rfl, rfl⟩ rfl rfl rfl (info_key _) (size_rb _ _ _) (bvs_one _) <| rW [0, 1] ⟨rfl, rfl⟩ rfl rfl rfl (info_key _) (size_rb _ _ _) (bvs_one _) <| rW [1] ⟨rfl, rfl⟩ rfl rfl rfl (info_key _) (size_rb _ _ _) (bvs_one _) <| rK [1, 1, 1, 0, 0, 0, 0, 0, 0, 0, 1, 1, 1, 1, 1, 0] [] [] <| rN0 z_ ?_
  try clear H a W
  intro a W H
  refine wp_seq_k (fun K7 hK7 => ?_)
  replace H := H.km [1, 1, 1, 1, 1, 1, 0] []
  refine drawnR SB SB (⟨38, fun u_ _ => u_ = .agg (bvs (rb 32 (outK c lm 0))), [], none, false⟩ :: ⟨39, fun u_ _ => u_ = .slice (some ⟨gk, 0, none⟩) 3 capk, [], none, false⟩ :: ⟨40, fun u_ _ => u_ = .pointer (some ⟨gk, 32 * 0, none⟩), [1], none, false⟩ :: ⟨41, fun u_ _ => u_ = .agg (bvs (rb 32 (outK c lm 0))), [2], none, false⟩ :: ⟨42, fun u_ _ => u_ = .bool true, [0, 3], none, false⟩ :: ⟨43, fun u_ _ => u_ = .bool true, [4], none, false⟩ :: ⟨44, fun u_ _ => u_ = .agg (bvs (rb 32 (outK c lm 1))), [5], none, false⟩ :: ⟨45, fun u_ _ => u_ = .slice (some ⟨gk, 0, none⟩) 3 capk, [5], none, false⟩ :: ⟨46, fun u_ _ => u_ = .pointer (some ⟨gk, 32 * 1, none⟩), [7, 5], none, false⟩ :: ⟨47, fun u_ _ => u_ = .agg (bvs (rb 32 (outK c lm 1))), [8, 5], none, false⟩ :: ⟨48, fun u_ _ => u_ = .bool true, [6, 9, 5], none, false⟩ :: ⟨49, fun u_ _ => u_ = .bool true, [5, 10], none, false⟩ :: ⟨50, fun u_ _ => u_ = .bool true, [11], none, false⟩ :: ⟨51, fun u_ _ => u_ = .agg (bvs (rb 32 (outK c lm 0))), [12], none, false⟩ :: ⟨52, fun u_ _ => u_ = .slice (some ⟨gk, 0, none⟩) 3 capk, [12], none, false⟩ :: ⟨53, fun u_ _ => u_ = .pointer (some ⟨gk, 32 * 0, none⟩), [14, 12], none, false⟩ :: ⟨54, fun u_ _ => u_ = .agg (bvs (rb 32 (outK c lm 0))), [15, 12], none, false⟩ :: ⟨55, fun u_ _ => u_ = .bool true, [13, 16, 12], none, false⟩ :: ⟨56, fun u_ _ => u_ = .bool true, [12, 17], none, false⟩ :: ⟨57, fun u_ _ => u_ = .bool true, [18], none, false⟩ :: ⟨58, fun u_ _ => u_ = .agg (bvs (rb 32 (outK c lm 1))), [19], none, false⟩ :: ⟨59, fun u_ _ => u_ = .slice (some ⟨gk, 0, none⟩) 3 capk, [19], none, false⟩ :: ⟨60, fun u_ _ => u_ = .pointer (some ⟨gk, 32 * 1, none⟩), [21, 19], none, false⟩ :: ⟨61, fun u_ _ => u_ = .agg (bvs (rb 32 (outK c lm 1))), [22, 19], none, false⟩ :: ⟨62, fun u_ _ => u_ = .bool true, [20, 23, 19], none, false⟩ :: ⟨63, fun u_ _ => u_ = .bool true, [19, 24], none, false⟩ :: ⟨64, fun u_ _ => u_ = .bool true, [25], none, false⟩ :: ⟨65, fun u_ _ => u_ = .agg (bvs (rb 32 (outK c lm 2))), [26], none, false⟩ :: ⟨66, fun u_ _ => u_ = .slice (some ⟨gk, 0, none⟩) 3 capk, [26], none, false⟩ :: ⟨67, fun u_ _ => u_ = .pointer (some ⟨gk, 32 * 2, none⟩), [28, 26], none, false⟩ :: ⟨68, fun u_ _ => u_ = .agg (bvs (rb 32 (outK c lm 2))), [29, 26], none, false⟩ :: ⟨69, fun u_ _ => u_ = .bool true, [27, 30, 26], none, false⟩ :: ⟨70, fun u_ _ => u_ = .bool true, [26, 31], none, false⟩ :: ⟨71, fun u_ _ => u_ = .bool true, [32], none, false⟩ :: ⟨72, fun u_ _ => u_ = .agg (bvs (rb 32 c)), [33], none, false⟩ :: ⟨73, fun u_ _ => u_ = .string (strB ls), [33], none, false⟩ :: ⟨74, fun u_ _ => u_ = .agg (bvs (rb 32 (hmacF (rb 32 c) ls))), [34, 35, 33], none, false⟩ :: ⟨75, fun u_ _ => u_ = .slice (some ⟨g1, 0, none⟩) 32 32, [33], none, false⟩ :: ⟨76, fun u_ _ => u_ = .string (strB ls), [33], none, false⟩ :: ⟨77, BF ls, [38, 33], none, false⟩ :: ⟨78, fun u_ _ => u_ = .agg (bvs (rb 32 (hmacF (rb 32 c) ls))), [37, 39, 33], none, false⟩ :: ⟨79, fun u_ _ => u_ = .bool true, [36, 40, 33], none, false⟩ :: ⟨80, fun u_ _ => u_ = .bool true, [33, 41], none, false⟩ :: ⟨81, fun u_ _ => u_ = .bool true, [42], none, false⟩ :: ⟨82, fun u_ _ => u_ = .bool true, [43], none, false⟩ :: ⟨83, fun u_ _ => u_ = .bool true, [43, 44], none, false⟩ :: []) (0 :: 0 :: 2 :: 4 :: 9 :: 16 :: 32 :: 32 :: 160 :: 288 :: 608 :: 1056 :: 2080 :: 4096 :: 4096 :: 20480 :: 36864 :: 77824 :: 135168 :: 266240 :: 524288 :: 524288 :: 2621440 :: 4718592 :: 9961472 :: 17301504 :: 34078720 :: 67108864 :: 67108864 :: 335544320 :: 603979776 :: 1275068416 :: 2214592512 :: 4362076160 :: 8589934592 :: 8589934592 :: 60129542144 :: 8589934592 :: 8589934592 :: 283467841536 :: 764504178688 :: 1176821039104 :: 2207613190144 :: 5497558138880 :: 8796093022208 :: 26388279066624 :: 70368744177663 :: []) [45] sb_st sb_st (by kernel_rfl) (by kernel_rfl) (by kernel_rfl) H ⟨⟨fun a W  H => by exact ob_valS H (wanted_none rfl) (does_load rfl rfl (k := 4) rfl Tryd.underlying25 rfl (info_key _)), val_grow, fun _ => val_grow⟩, ⟨fun a W  H => by exact ob_valS H (wanted_none rfl) (does_move rfl rfl), val_grow, fun _ => val_grow⟩, ⟨fun a W y1 hy1 H => by subst hy1; exact ob_valS H (wanted_none rfl) (does_indexAddr rfl rfl rfl (ia_keys (j := 0) (o := 0) (by omega))), val_grow, fun _ => val_grow⟩, ⟨fun a W y2 hy2 H => by subst hy2; exact ob_valS H (wanted_none rfl) (does_loadAt (v := .agg (bvs (rb 32 (outK c lm 0)))) rfl rfl (k := 5) rfl (ld_keyOf (i := 0) (hck 0 _ rfl))), val_grow, fun _ => val_grow⟩, ⟨fun a W y0 hy0 y3 hy3 H => by subst hy0; subst hy3; exact ob_valS H (wanted_none rfl) (does_binOp rfl rfl rfl (k_eql (decide_eq_true rfl) _ _)), val_grow, fun _ => val_grow⟩, ⟨fun a W y4 hy4 H => by subst hy4; exact ob_valS H (wanted_none rfl) (does_move rfl rfl), val_grow, fun _ => val_grow⟩, ⟨fun a W y5 hy5 H => by subst hy5; exact ob_valS H (wanted_some rfl rfl rfl rfl rfl) (does_load rfl rfl (k := 3) rfl Tryd.underlying25 rfl (info_key _)), val_grow, fun _ => val_grow⟩, ⟨fun a W y5 hy5 H => by subst hy5; exact ob_valS H (wanted_some rfl rfl rfl rfl rfl) (does_move rfl rfl), val_grow, fun _ => val_grow⟩, ⟨fun a W y7 hy7 y5 hy5 H => by subst hy7; subst hy5; exact ob_valS H (wanted_some rfl rfl rfl rfl rfl) (does_indexAddr rfl rfl rfl (ia_keys (j := 1) (o := 0) (by omega))), val_grow, fun _ => val_grow⟩, ⟨fun a W y8 hy8 y5 hy5 H => by subst hy8; subst hy5; exact ob_valS H (wanted_some rfl rfl rfl rfl rfl) (does_loadAt (v := .agg (bvs (rb 32 (outK c lm 1)))) rfl rfl (k := 5) rfl (ld_keyOf (i := 1) (hck 1 _ rfl))), val_grow, fun _ => val_grow⟩, ⟨fun a W y6 hy6 y9 hy9 y5 hy5 H => by subst hy6; subst hy9; subst hy5; exact ob_valS H (wanted_some rfl rfl rfl rfl rfl) (does_binOp rfl rfl rfl (k_eql (decide_eq_true rfl) _ _)), val_grow, fun _ => val_grow⟩, ⟨fun a W y5 hy5 y10 hy10 H => by subst hy5; subst hy10; exact ob_valS H (wanted_none rfl) (does_pick rfl rfl (fun _ => rfl) (fun hb => by cases hb)), val_grow, fun _ => val_grow⟩, ⟨fun a W y11 hy11 H => by subst hy11; exact ob_valS H (wanted_none rfl) (does_move rfl rfl), val_grow, fun _ => val_grow⟩, ⟨fun a W y12 hy12 H => by subst hy12; exact ob_valS H (wanted_some rfl rfl rfl rfl rfl) (does_load rfl rfl (k := 2) rfl Tryd.underlying25 rfl (info_key _)), val_grow, fun _ => val_grow⟩, ⟨fun a W y12 hy12 H => by subst hy12; exact ob_valS H (wanted_some rfl rfl rfl rfl rfl) (does_move rfl rfl), val_grow, fun _ => val_grow⟩, ⟨fun a W y14 hy14 y12 hy12 H => by subst hy14; subst hy12; exact ob_valS H (wanted_some rfl rfl rfl rfl rfl) (does_indexAddr rfl rfl rfl (ia_keys (j := 0) (o := 0) (by omega))), val_grow, fun _ => val_grow⟩, ⟨fun a W y15 hy15 y12 hy12 H => by subst hy15; subst hy12; exact ob_valS H (wanted_some rfl rfl rfl rfl rfl) (does_loadAt (v := .agg (bvs (rb 32 (outK c lm 0)))) rfl rfl (k := 5) rfl (ld_keyOf (i := 0) (hck 0 _ rfl))), val_grow, fun _ => val_grow⟩, ⟨fun a W y13 hy13 y16 hy16 y12 hy12 H => by subst hy13; subst hy16; subst hy12; exact ob_valS H (wanted_some rfl rfl rfl rfl rfl) (does_binOp rfl rfl rfl (k_eql (decide_eq_true rfl) _ _)), val_grow, fun _ => val_grow⟩, ⟨fun a W y12 hy12 y17 hy17 H => by subst hy12; subst hy17; exact ob_valS H (wanted_none rfl) (does_pick rfl rfl (fun _ => rfl) (fun hb => by cases hb)), val_grow, fun _ => val_grow⟩, ⟨fun a W y18 hy18 H => by subst hy18; exact ob_valS H (wanted_none rfl) (does_move rfl rfl), val_grow, fun _ => val_grow⟩, ⟨fun a W y19 hy19 H => by subst hy19; exact ob_valS H (wanted_some rfl rfl rfl rfl rfl) (does_load rfl rfl (k := 1) rfl Tryd.underlying25 rfl (info_key _)), val_grow, fun _ => val_grow⟩, ⟨fun a W y19 hy19 H => by subst hy19; exact ob_valS H (wanted_some rfl rfl rfl rfl rfl) (does_move rfl rfl), val_grow, fun _ => val_grow⟩, ⟨fun a W y21 hy21 y19 hy19 H => by subst hy21; subst hy19; exact ob_valS H (wanted_some rfl rfl rfl rfl rfl) (does_indexAddr rfl rfl rfl (ia_keys (j := 1) (o := 0) (by omega))), val_grow, fun _ => val_grow⟩, ⟨fun a W y22 hy22 y19 hy19 H => by subst hy22; subst hy19; exact ob_valS H (wanted_some rfl rfl rfl rfl rfl) (does_loadAt (v := .agg (bvs (rb 32 (outK c lm 1)))) rfl rfl (k := 5) rfl (ld_keyOf (i := 1) (hck 1 _ rfl))), val_grow, fun _ => val_grow⟩, ⟨fun a W y20 hy20 y23 hy23 y19 hy19 H => by subst hy20; subst hy23; subst hy19; exact ob_valS H (wanted_some rfl rfl rfl rfl rfl) (does_binOp rfl rfl rfl (k_eql (decide_eq_true rfl) _ _)), val_grow, fun _ => val_grow⟩, ⟨fun a W y19 hy19 y24 hy24 H => by subst hy19; subst hy24; exact ob_valS H (wanted_none rfl) (does_pick rfl rfl (fun _ => rfl) (fun hb => by cases hb)), val_grow, fun _ => val_grow⟩, ⟨fun a W y25 hy25 H => by subst hy25; exact ob_valS H (wanted_none rfl) (does_move rfl rfl), val_grow, fun _ => val_grow⟩, ⟨fun a W y26 hy26 H => by subst hy26; exact ob_valS H (wanted_some rfl rfl rfl rfl rfl) (does_load rfl rfl (k := 0) rfl Tryd.underlying25 rfl (info_key _)), val_grow, fun _ => val_grow⟩, ⟨fun a W y26 hy26 H => by subst hy26; exact ob_valS H (wanted_some rfl rfl rfl rfl rfl) (does_move rfl rfl), val_grow, fun _ => val_grow⟩, ⟨fun a W y28 hy28 y26 hy26 H => by subst hy28; subst hy26; exact ob_valS H (wanted_some rfl rfl rfl rfl rfl) (does_indexAddr rfl rfl rfl (ia_keys (j := 2) (o := 0) (by omega))), val_grow, fun _ => val_grow⟩, ⟨fun a W y29 hy29 y26 hy26 H => by subst hy29; subst hy26; exact ob_valS H (wanted_some rfl rfl rfl rfl rfl) (does_loadAt (v := .agg (bvs (rb 32 (outK c lm 2)))) rfl rfl (k := 5) rfl (ld_keyOf (i := 2) (hck 2 _ rfl))), val_grow, fun _ => val_grow⟩, ⟨fun a W y27 hy27 y30 hy30 y26 hy26 H => by subst hy27; subst hy30; subst hy26; exact ob_valS H (wanted_some rfl rfl rfl rfl rfl) (does_binOp rfl rfl rfl (k_eql (decide_eq_true rfl) _ _)), val_grow, fun _ => val_grow⟩, ⟨fun a W y26 hy26 y31 hy31 H => by subst hy26; subst hy31; exact ob_valS H (wanted_none rfl) (does_pick rfl rfl (fun _ => rfl) (fun hb => by cases hb)), val_grow, fun _ => val_grow⟩, ⟨fun a W y32 hy32 H => by subst hy32; exact ob_valS H (wanted_none rfl) (does_move rfl rfl), val_grow, fun _ => val_grow⟩, ⟨fun a W y33 hy33 H => by subst hy33; exact ob_valS H (wanted_some rfl rfl rfl rfl rfl) (does_load rfl rfl (k := 6) rfl Tryd.underlying25 rfl (info_key _)), val_grow, fun _ => val_grow⟩, ⟨fun a W y33 hy33 H => by subst hy33; exact ob_valS H (wanted_some rfl rfl rfl rfl rfl) (does_move rfl rfl), val_grow, fun _ => val_grow⟩, ⟨fun a W y34 hy34 y35 hy35 y33 hy33 H => by subst hy34; subst hy35; subst hy33; exact ob_calS H (wanted_some rfl rfl rfl rfl rfl) rfl ⟨_, Tryd.func13, by kernel_rfl⟩ rfl (hpk.named _ H.below _ _ (by omega)), val_grow, fun _ => val_grow⟩, ⟨fun a W y33 hy33 H => by subst hy33; exact ob_valS H (wanted_some rfl rfl rfl rfl rfl) (does_slice rfl rfl (vl := none) (vh := none) rfl rfl (sl_key g1)), val_grow, fun _ => val_grow⟩, ⟨fun a W y33 hy33 H => by subst hy33; exact ob_valS H (wanted_some rfl rfl rfl rfl rfl) (does_move rfl rfl), val_grow, fun _ => val_grow⟩, ⟨fun a W y38 hy38 y33 hy33 H => by subst hy38; subst hy33; exact ob_ofStr H (wanted_some rfl rfl rfl rfl rfl) rfl rfl, BF.sb, fun _ => BF.sb⟩, ⟨fun a W y37 hy37 v77 hv77 y33 hy33 H => by subst hy37; subst hy33; exact ob_calS H (wanted_some rfl rfl rfl rfl rfl) rfl ⟨_, Tryd.func8, by kernel_rfl⟩ rfl (rmac_any _ (sl_keyF (H.blk (k := 6) rfl)) hv77 (by first | omega | (simp only [List.length_append, rb_len, List.length_cons, List.length_nil, List.length_replicate]; omega)) (by first | omega | (simp only [List.length_append, rb_len, List.length_cons, List.length_nil, List.length_replicate]; omega))), val_grow, fun _ => val_grow⟩, ⟨fun a W y36 hy36 y40 hy40 y33 hy33 H => by subst hy36; subst hy40; subst hy33; exact ob_valS H (wanted_some rfl rfl rfl rfl rfl) (does_binOp rfl rfl rfl (k_eql (decide_eq_true rfl) _ _)), val_grow, fun _ => val_grow⟩, ⟨fun a W y33 hy33 y41 hy41 H => by subst hy33; subst hy41; exact ob_valS H (wanted_none rfl) (does_pick rfl rfl (fun _ => rfl) (fun hb => by cases hb)), val_grow, fun _ => val_grow⟩, ⟨fun a W y42 hy42 H => by subst hy42; exact ob_valS H (wanted_none rfl) (does_move rfl rfl), val_grow, fun _ => val_grow⟩, ⟨fun a W y43 hy43 H => by subst hy43; exact ob_calS H (wanted_some rfl rfl rfl rfl rfl) rfl ⟨_, Tryd.func7, by kernel_rfl⟩ rfl (known_any _ (hpk.ext H.below)), val_grow, fun _ => val_grow⟩, ⟨fun a W y43 hy43 y44 hy44 H => by subst hy43; subst hy44; exact ob_valS H (wanted_none rfl) (does_pick rfl rfl (fun _ => rfl) (fun hb => by cases hb)), val_grow, fun _ => val_grow⟩, trivial⟩ (by kernel_rfl) ?_
  try clear H a W
  intro a W
  rintro _ rfl
  intro H
  replace H : St 84 w a W [(83, .bool true), (12, .pointer (some ⟨g6, 0, none⟩)), (11, .pointer (some ⟨g5, 0, none⟩)), (10, .pointer (some ⟨g4, 0, none⟩)), (9, .pointer (some ⟨g3, 0, none⟩)), (8, .pointer (some ⟨g2, 0, none⟩)), (7, .slice (some ⟨gk, 0, none⟩) 3 capk), (3, .pointer (some ⟨g1, 0, none⟩)), (2, .string (strB ls))] [(g6, 25, bvs (rb 32 (outK c lm 2))), (g5, 25, bvs (rb 32 (outK c lm 1))), (g4, 25, bvs (rb 32 (outK c lm 0))), (g3, 25, bvs (rb 32 (outK c lm 1))), (g2, 25, bvs (rb 32 (outK c lm 0))), (gk, 25, curk), (g1, 25, bvs (rb 32 c))] := H
  refine rgO H gs0 (rS 1 rfl <| rZ0 ?_)
  try clear H a W
  intro a W H
  replace H := H.km [1, 0, 0, 0, 0, 0, 0, 0, 0, 0] []
  refine hK7 _ _ ?_
  clear hK7
  refine wp_ret ?_
  repeat (first | (with_reducible refine then_ret ?_) | (with_reducible refine blk_ret ?_))
  refine end_tmp (p := 6) rfl rfl H (fun hb => ?_)
  exact ⟨rfl, hb⟩
theorem law_outs {vm : Value} {lm ls : List UInt8} (c : Nat → UInt8) (w : World) (hpk : HK w) (hvm : BF lm vm w) : Calls Tryd.prog 4 #[.agg (bvs (rb 32 c)), vm, .string (strB ls)] w (fun rr w' => rr = .returned (.bool true) ∧ Below w.heap.size w w') := by
  by_cases h1 : 300 < lm.length
  · exact outs_a c w hpk hvm h1
  by_cases h2 : 300 < ls.length
  · exact outs_b c w hpk hvm (by omega) h2
  exact outs_c c w hpk hvm (by omega) (by omega)
set_option maxHeartbeats 4000000 in
theorem longs_a {vk vm : Value} {lk lm : List UInt8} (w : World) (hpk : HK w) (hvk : BF lk vk w) (hvm : BF lm vm w) (z : Int) (h1 : 300 < lk.length) : Calls Tryd.prog 5 #[vk, vm, .int .i64 z] w (fun rr w' => rr = .returned (.bool true) ∧ Below w.heap.size w w') := by
  obtain ⟨Ak, nk, ck, rfl, hbk⟩ := id hvk
  have hnk := hbk.len
  obtain ⟨Am, nm, cm, rfl, hbm⟩ := id hvm
  have hnm := hbm.len
  refine calls_st (vs := [.slice Ak nk ck, .slice Am nm cm, .int .i64 z]) 63 Tryd.func5 rfl Tryd.ntmps5 rfl (fun a W H => ?_)
  replace H : St 63 w a W [(0, .slice Ak nk ck), (1, .slice Am nm cm), (2, .int .i64 z)] [] := H
  refine sqR H gs0 fun Z_ z_ => rS 1 rfl <| rN0 z_ ?_
  try clear H a W
  intro a W H
  refine wp_seq_k (fun K2 hK2 => ?_)
  refine sqR H gs0 fun Z_ z_ => rS 1 rfl <| rV rfl (does_len Tryd.underlying22 rfl rfl) <| rV rfl (does_binOp rfl rfl rfl (z_gtrZ (k := ((nk : Nat) : Int)) (m := 300) (decide_eq_true (by omega)) _ _)) <| rS 13 rfl <| rK [1, 0, 0, 0, 0, 0, 0, 0, 0, 0, 0, 0, 0, 0, 0, 0] [] [] <| rN0 z_ ?_
  try clear H a W
  intro a W H
  refine wp_cond_true (H.ev rfl) ?_
  refine sqR H gs0 fun Z_ z_ => rCV rfl rfl ⟨_, Tryd.func7, by kernel_rfl⟩ rfl (fun a W H _ => (known_any _ (hpk.ext H.below))) <| rK [1, 1, 0] [] [] <| rS 1 rfl <| rK [1, 0, 0] [] [] <| rN0 z_ ?_
  try clear H a W
  intro a W H
  refine wp_ret ?_
  repeat (first | (with_reducible refine then_ret ?_) | (with_reducible refine blk_ret ?_))
  refine end_tmp (p := 6) rfl rfl H (fun hb => ?_)
  exact ⟨rfl, hb⟩
set_option maxHeartbeats 4000000 in
theorem longs_b {vk vm : Value} {lk lm : List UInt8} (w : World) (hpk : HK w) (hvk : BF lk vk w) (hvm : BF lm vm w) (z : Int) (h1 : lk.length ≤ 300) (h2 : 300 < lm.length) : Calls Tryd.prog 5 #[vk, vm, .int .i64 z] w (fun rr w' => rr = .returned (.bool true) ∧ Below w.heap.size w w') := by
  obtain ⟨Ak, nk, ck, rfl, hbk⟩ := id hvk
  have hnk := hbk.len
  obtain ⟨Am, nm, cm, rfl, hbm⟩ := id hvm
  have hnm := hbm.len
  refine calls_st (vs := [.slice Ak nk ck, .slice Am nm cm, .int .i64 z]) 63 Tryd.func5 rfl Tryd.ntmps5 rfl (fun a W H => ?_)
  replace H : St 63 w a W [(0, .slice Ak nk ck), (1, .slice Am nm cm), (2, .int .i64 z)] [] := H
  refine sqR H gs0 fun Z_ z_ => rS 1 rfl <| rN0 z_ ?_
  try clear H a W
  intro a W H
  refine wp_seq_k (fun K2 hK2 => ?_)
  refine sqR H gs0 fun Z_ z_ => rS 1 rfl <| rV rfl (does_len Tryd.underlying22 rfl rfl) <| rV rfl (does_binOp rfl rfl rfl (z_gtrZ (k := ((nk : Nat) : Int)) (m := 300) (decide_eq_false (by omega)) _ _)) <| rS 2 rfl <| rV rfl (does_len Tryd.underlying22 rfl rfl) <| rV rfl (does_binOp rfl rfl rfl (z_gtrZ (k := ((nm : Nat) : Int)) (m := 300) (decide_eq_true (by omega)) _ _)) <| rS 9 rfl <| rK [1, 0, 0, 0, 0, 0, 0, 0, 0, 0, 0, 0, 0, 0, 0, 0] [] [] <| rN0 z_ ?_
  try clear H a W
  intro a W H
  refine wp_cond_true (H.ev rfl) ?_
  refine sqR H gs0 fun Z_ z_ => rCV rfl rfl ⟨_, Tryd.func7, by kernel_rfl⟩ rfl (fun a W H _ => (known_any _ (hpk.ext H.below))) <| rK [1, 1, 0] [] [] <| rS 1 rfl <| rK [1, 0, 0] [] [] <| rN0 z_ ?_
  try clear H a W
  intro a W H
  refine wp_ret ?_
  repeat (first | (with_reducible refine then_ret ?_) | (with_reducible refine blk_ret ?_))
  refine end_tmp (p := 6) rfl rfl H (fun hb => ?_)
  exact ⟨rfl, hb⟩
set_option maxHeartbeats 4000000 in
theorem longs_c {vk vm : Value} {lk lm : List UInt8} (w : World) (hpk : HK w) (hvk : BF lk vk w) (hvm : BF lm vm w) (z : Int) (h1 : lk.length ≤ 300) (h2 : lm.length ≤ 300) (h3 : z < 0) : Calls Tryd.prog 5 #[vk, vm, .int .i64 z] w (fun rr w' => rr = .returned (.bool true) ∧ Below w.heap.size w w') := by
  obtain ⟨Ak, nk, ck, rfl, hbk⟩ := id hvk
  have hnk := hbk.len
  obtain ⟨Am, nm, cm, rfl, hbm⟩ := id hvm
  have hnm := hbm.len
  refine calls_st (vs := [.slice Ak nk ck, .slice Am nm cm, .int .i64 z]) 63 Tryd.func5 rfl Tryd.ntmps5 rfl (fun a W H => ?_)
  replace H : St 63 w a W [(0, .slice Ak nk ck), (1, .slice Am nm cm), (2, .int .i64 z)] [] := H
  refine sqR H gs0 fun Z_ z_ => rS 1 rfl <| rN0 z_ ?_
  try clear H a W
  intro a W H
  refine wp_seq_k (fun K2 hK2 => ?_)
  refine sqR H gs0 fun Z_ z_ => rS 1 rfl <| rV rfl (does_len Tryd.underlying22 rfl rfl) <| rV rfl (does_binOp rfl rfl rfl (z_gtrZ (k := ((nk : Nat) : Int)) (m := 300) (decide_eq_false (by omega)) _ _)) <| rS 2 rfl <| rV rfl (does_len Tryd.underlying22 rfl rfl) <| rV rfl (does_binOp rfl rfl rfl (z_gtrZ (k := ((nm : Nat) : Int)) (m := 300) (decide_eq_false (by omega)) _ _)) <| rS 3 rfl <| rV rfl (does_binOp rfl rfl rfl (z_lssZ (k := z) (m := 0) (decide_eq_true (by omega)) _ _)) <| rS 5 rfl <| rK [1, 0, 0, 0, 0, 0, 0, 0, 0, 0, 0, 0, 0, 0, 0, 0] [] [] <| rN0 z_ ?_
  try clear H a W
  intro a W H
  refine wp_cond_true (H.ev rfl) ?_
  refine sqR H gs0 fun Z_ z_ => rCV rfl rfl ⟨_, Tryd.func7, by kernel_rfl⟩ rfl (fun a W H _ => (known_any _ (hpk.ext H.below))) <| rK [1, 1, 0] [] [] <| rS 1 rfl <| rK [1, 0, 0] [] [] <| rN0 z_ ?_
  try clear H a W
  intro a W H
  refine wp_ret ?_
  repeat (first | (with_reducible refine then_ret ?_) | (with_reducible refine blk_ret ?_))
  refine end_tmp (p := 6) rfl rfl H (fun hb => ?_)
  exact ⟨rfl, hb⟩
set_option maxHeartbeats 4000000 in
theorem longs_d {vk vm : Value} {lk lm : List UInt8} (w : World) (hpk : HK w) (hvk : BF lk vk w) (hvm : BF lm vm w) (z : Int) (h1 : lk.length ≤ 300) (h2 : lm.length ≤ 300) (h3 : 0 ≤ z) (h4 : 64 < z) : Calls Tryd.prog 5 #[vk, vm, .int .i64 z] w (fun rr w' => rr = .returned (.bool true) ∧ Below w.heap.size w w') := by
  obtain ⟨Ak, nk, ck, rfl, hbk⟩ := id hvk
  have hnk := hbk.len
  obtain ⟨Am, nm, cm, rfl, hbm⟩ := id hvm
  have hnm := hbm.len
  refine calls_st (vs := [.slice Ak nk ck, .slice Am nm cm, .int .i64 z]) 63 Tryd.func5 rfl Tryd.ntmps5 rfl (fun a W H => ?_)
  replace H : St 63 w a W [(0, .slice Ak nk ck), (1, .slice Am nm cm), (2, .int .i64 z)] [] := H
  refine sqR H gs0 fun Z_ z_ => rS 1 rfl <| rN0 z_ ?_
  try clear H a W
  intro a W H
  refine wp_seq_k (fun K2 hK2 => ?_)
  refine sqR H gs0 fun Z_ z_ => rS 1 rfl <| rV rfl (does_len Tryd.underlying22 rfl rfl) <| rV rfl (does_binOp rfl rfl rfl (z_gtrZ (k := ((nk : Nat) : Int)) (m := 300) (decide_eq_false (by omega)) _ _)) <| rS 2 rfl <| rV rfl (does_len Tryd.underlying22 rfl rfl) <| rV rfl (does_binOp rfl rfl rfl (z_gtrZ (k := ((nm : Nat) : Int)) (m := 300) (decide_eq_false (by omega)) _ _)) <| rS 3 rfl <| rV rfl (does_binOp rfl rfl rfl (z_lssZ (k := z) (m := 0) (decide_eq_false (by omega)) _ _)) <| rS 3 rfl <| rV rfl (does_binOp rfl rfl rfl (z_gtrZ (k := z) (m := 64) (decide_eq_true (by omega)) _ _)) <| rS 1 rfl <| rK [1, 0, 0, 0, 0, 0, 0, 0, 0, 0, 0, 0, 0, 0, 0, 0] [] [] <| rN0 z_ ?_
  try clear H a W
  intro a W H
  refine wp_cond_true (H.ev rfl) ?_
  refine sqR H gs0 fun Z_ z_ => rCV rfl rfl ⟨_, Tryd.func7, by kernel_rfl⟩ rfl (fun a W H _ => (known_any _ (hpk.ext H.below))) <| rK [1, 1, 0] [] [] <| rS 1 rfl <| rK [1, 0, 0] [] [] <| rN0 z_ ?_
  try clear H a W
  intro a W H
  refine wp_ret ?_
  repeat (first | (with_reducible refine then_ret ?_) | (with_reducible refine blk_ret ?_))
  refine end_tmp (p := 6) rfl rfl H (fun hb => ?_)
  exact ⟨rfl, hb⟩
set_option maxHeartbeats 4000000 in
theorem longs_e {vk vm : Value} {lk lm : List UInt8} (w : World) (hpk : HK w) (hvk : BF lk vk w) (hvm : BF lm vm w) (j : Nat) (h1 : lk.length ≤ 300) (h2 : lm.length ≤ 300) (h3 : j ≤ 64) (h4 : 64 < lk.length) : Calls Tryd.prog 5 #[vk, vm, .int .i64 ((j : Nat) : Int)] w (fun rr w' => rr = .returned (.bool true) ∧ Below w.heap.size w w') := by
  obtain ⟨Ak, nk, ck, rfl, hbk⟩ := id hvk
  have hnk := hbk.len
  obtain ⟨Am, nm, cm, rfl, hbm⟩ := id hvm
  have hnm := hbm.len
  refine calls_st (vs := [.slice Ak nk ck, .slice Am nm cm, .int .i64 ((j : Nat) : Int)]) 63 Tryd.func5 rfl Tryd.ntmps5 rfl (fun a W H => ?_)
  replace H : St 63 w a W [(0, .slice Ak nk ck), (1, .slice Am nm cm), (2, .int .i64 ((j : Nat) : Int))] [] := H
  refine sqR H gs0 fun Z_ z_ => rS 1 rfl <| rN0 z_ ?_
  try clear H a W
  intro a W H
  refine wp_seq_k (fun K2 hK2 => ?_)
  refine sqR H gs0 fun Z_ z_ => rS 1 rfl <| rV rfl (does_len Tryd.underlying22 rfl rfl) <| rV rfl (does_binOp rfl rfl rfl (z_gtrZ (k := ((nk : Nat) : Int)) (m := 300) (decide_eq_false (by omega)) _ _)) <| rS 2 rfl <| rV rfl (does_len Tryd.underlying22 rfl rfl) <| rV rfl (does_binOp rfl rfl rfl (z_gtrZ (k := ((nm : Nat) : Int)) (m := 300) (decide_eq_false (by omega)) _ _)) <| rS 3 rfl <| rV rfl (does_binOp rfl rfl rfl (z_lssZ (k := ((j : Nat) : Int)) (m := 0) (decide_eq_false (by omega)) _ _)) <| rS 3 rfl <| rV rfl (does_binOp rfl rfl rfl (z_gtrZ (k := ((j : Nat) : Int)) (m := 64) (decide_eq_false (by omega)) _ _)) <| rS 1 rfl <| rK [1, 0, 0, 0, 0, 0, 0, 0, 0, 0, 0, 0, 0, 0, 0, 0] [] [] <| rN0 z_ ?_
  try clear H a W
  intro a W H
  refine wp_cond_false (H.ev rfl) ?_
  refine wp_skip ?_
  refine hK2 _ _ ?_
  clear hK2
  refine wp_seq_k (fun K4 hK4 => ?_)
  refine sqR H gs0 fun Z_ z_ => rS 1 rfl <| rV rfl (does_len Tryd.underlying22 rfl rfl) <| rV rfl (does_binOp rfl rfl rfl (z_gtrZ (k := ((nk : Nat) : Int)) (m := 64) (decide_eq_true (by omega)) _ _)) <| rK [1, 0, 0, 0] [] [] <| rN0 z_ ?_
  try clear H a W
  intro a W H
  refine wp_cond_true (H.ev rfl) ?_
  refine sqR H gs0 fun Z_ z_ => rS 1 rfl <| rCV rfl rfl ⟨_, Tryd.func14, by kernel_rfl⟩ rfl (fun a W H _ => (rsum_any _ (bf_old hvk H) (by omega))) <| rA rfl rfl al_keyK fun g1 => rW [1] ⟨rfl, rfl⟩ rfl rfl rfl (info_key _) (size_rb _ _ _) (bvs_one _) <| rK [1, 0, 0, 0] [] [] <| rN0 z_ ?_
  try clear H a W
  intro a W H
  refine wp_seq_k (fun K7 hK7 => ?_)
  replace H := H.km [1, 0] []
  refine drawnR SB SB (⟨30, fun u_ _ => u_ = .slice Ak nk ck, [], none, false⟩ :: ⟨31, fun u_ _ => u_ = .slice Am nm cm, [], none, false⟩ :: ⟨32, LF [lm], [1], none, false⟩ :: ⟨33, fun u_ _ => u_ = .agg (bvs (rb 32 (hmacF lk lm))), [0, 2], none, false⟩ :: ⟨34, fun u_ _ => u_ = .slice (some ⟨g1, 0, none⟩) 32 32, [], none, false⟩ :: ⟨35, fun u_ _ => u_ = .slice Am nm cm, [], none, false⟩ :: ⟨36, LF [lm], [5], none, false⟩ :: ⟨37, fun u_ _ => u_ = .agg (bvs (rb 32 (hmacF (rb 32 (hashB lk)) lm))), [4, 6], none, false⟩ :: ⟨38, fun u_ _ => u_ = .bool true, [3, 7], none, false⟩ :: ⟨39, fun u_ _ => u_ = .bool true, [8], none, false⟩ :: ⟨40, fun u_ _ => u_ = .bool true, [9], none, false⟩ :: ⟨41, fun u_ _ => u_ = .bool true, [9, 10], none, false⟩ :: []) (0 :: 0 :: 2 :: 5 :: 0 :: 0 :: 32 :: 88 :: 136 :: 384 :: 512 :: 1536 :: 4095 :: []) [11] sb_st sb_st (by kernel_rfl) (by kernel_rfl) (by kernel_rfl) H ⟨⟨fun a W  H => by exact ob_valS H (wanted_none rfl) (does_move rfl rfl), val_grow, fun _ => val_grow⟩, ⟨fun a W  H => by exact ob_valS H (wanted_none rfl) (does_move rfl rfl), val_grow, fun _ => val_grow⟩, ⟨fun a W y1 hy1 H => by subst hy1; exact ob_rows1S H (wanted_none rfl) rfl rfl (bf_old hvm H), LF.sb, fun _ => LF.sb⟩, ⟨fun a W y0 hy0 v32 hv32 H => by subst hy0; exact ob_calS H (wanted_none rfl) rfl ⟨_, Tryd.func9, by kernel_rfl⟩ rfl (hpk.macz (l := lm) H.below (bf_old hvk H) hv32.rf (by simp) (by first | omega | (simp only [List.length_append, rb_len, List.length_cons, List.length_nil, List.length_replicate]; omega)) (by first | omega | (simp only [List.length_append, rb_len, List.length_cons, List.length_nil, List.length_replicate]; omega)) (by simp)), val_grow, fun _ => val_grow⟩, ⟨fun a W  H => by exact ob_valS H (wanted_none rfl) (does_slice rfl rfl (vl := none) (vh := none) rfl rfl (sl_key g1)), val_grow, fun _ => val_grow⟩, ⟨fun a W  H => by exact ob_valS H (wanted_none rfl) (does_move rfl rfl), val_grow, fun _ => val_grow⟩, ⟨fun a W y5 hy5 H => by subst hy5; exact ob_rows1S H (wanted_none rfl) rfl rfl (bf_old hvm H), LF.sb, fun _ => LF.sb⟩, ⟨fun a W y4 hy4 v36 hv36 H => by subst hy4; exact ob_calS H (wanted_none rfl) rfl ⟨_, Tryd.func9, by kernel_rfl⟩ rfl (hpk.macz (l := lm) H.below (sl_keyF (H.blk (k := 0) rfl)) hv36.rf (by simp) (by first | omega | (simp only [List.length_append, rb_len, List.length_cons, List.length_nil, List.length_replicate]; omega)) (by first | omega | (simp only [List.length_append, rb_len, List.length_cons, List.length_nil, List.length_replicate]; omega)) (by simp)), val_grow, fun _ => val_grow⟩, ⟨fun a W y3 hy3 y7 hy7 H => by subst hy3; subst hy7; exact ob_valS H (wanted_none rfl) (does_binOp rfl rfl rfl (k_eql (decide_eq_true (by rw [mac_long (by omega)])) _ _)), val_grow, fun _ => val_grow⟩, ⟨fun a W y8 hy8 H => by subst hy8; exact ob_valS H (wanted_none rfl) (does_move rfl rfl), val_grow, fun _ => val_grow⟩, ⟨fun a W y9 hy9 H => by subst hy9; exact ob_calS H (wanted_some rfl rfl rfl rfl rfl) rfl ⟨_, Tryd.func7, by kernel_rfl⟩ rfl (known_any _ (hpk.ext H.below)), val_grow, fun _ => val_grow⟩, ⟨fun a W y9 hy9 y10 hy10 H => by subst hy9; subst hy10; exact ob_valS H (wanted_none rfl) (does_pick rfl rfl (fun _ => rfl) (fun hb => by cases hb)), val_grow, fun _ => val_grow⟩, trivial⟩ (by kernel_rfl) ?_
  try clear H a W
  intro a W
  rintro _ rfl
  intro H
  replace H : St 63 w a W [(41, .bool true), (7, .pointer (some ⟨g1, 0, none⟩)), (0, .slice Ak nk ck), (1, .slice Am nm cm), (2, .int .i64 ((j : Nat) : Int))] [(g1, 25, bvs (rb 32 (hashB lk)))] := H
  refine rgO H gs0 (rS 1 rfl <| rZ0 ?_)
  try clear H a W
  intro a W H
  replace H := H.km [1, 0, 0] []
  refine hK7 _ _ ?_
  clear hK7
  refine wp_ret ?_
  repeat (first | (with_reducible refine then_ret ?_) | (with_reducible refine blk_ret ?_))
  refine end_tmp (p := 6) rfl rfl H (fun hb => ?_)
  exact ⟨rfl, hb⟩
set_option maxHeartbeats 4000000 in
theorem longs_f {vk vm : Value} {lk lm : List UInt8} (w : World) (hpk : HK w) (hvk : BF lk vk w) (hvm : BF lm vm w) (j : Nat) (h1 : lk.length ≤ 300) (h2 : lm.length ≤ 300) (h3 : j ≤ 64) (h4 : lk.length ≤ 64) (h5 : 64 < lk.length + j) : Calls Tryd.prog 5 #[vk, vm, .int .i64 ((j : Nat) : Int)] w (fun rr w' => rr = .returned (.bool true) ∧ Below w.heap.size w w') := by
  obtain ⟨Ak, nk, ck, rfl, hbk⟩ := id hvk
  have hnk := hbk.len
  obtain ⟨Am, nm, cm, rfl, hbm⟩ := id hvm
  have hnm := hbm.len
  refine calls_st (vs := [.slice Ak nk ck, .slice Am nm cm, .int .i64 ((j : Nat) : Int)]) 63 Tryd.func5 rfl Tryd.ntmps5 rfl (fun a W H => ?_)
  replace H : St 63 w a W [(0, .slice Ak nk ck), (1, .slice Am nm cm), (2, .int .i64 ((j : Nat) : Int))] [] := H
  refine sqR H gs0 fun Z_ z_ => rS 1 rfl <| rN0 z_ ?_
  try clear H a W
  intro a W H
  refine wp_seq_k (fun K2 hK2 => ?_)
  refine sqR H gs0 fun Z_ z_ => rS 1 rfl <| rV rfl (does_len Tryd.underlying22 rfl rfl) <| rV rfl (does_binOp rfl rfl rfl (z_gtrZ (k := ((nk : Nat) : Int)) (m := 300) (decide_eq_false (by omega)) _ _)) <| rS 2 rfl <| rV rfl (does_len Tryd.underlying22 rfl rfl) <| rV rfl (does_binOp rfl rfl rfl (z_gtrZ (k := ((nm : Nat) : Int)) (m := 300) (decide_eq_false (by omega)) _ _)) <| rS 3 rfl <| rV rfl (does_binOp rfl rfl rfl (z_lssZ (k := ((j : Nat) : Int)) (m := 0) (decide_eq_false (by omega)) _ _)) <| rS 3 rfl <| rV rfl (does_binOp rfl rfl rfl (z_gtrZ (k := ((j : Nat) : Int)) (m := 64) (decide_eq_false (by omega)) _ _)) <| rS 1 rfl <| rK [1, 0, 0, 0, 0, 0, 0, 0, 0, 0, 0, 0, 0, 0, 0, 0] [] [] <| rN0 z_ ?_
  try clear H a W
  intro a W H
  refine wp_cond_false (H.ev rfl) ?_
  refine wp_skip ?_
  refine hK2 _ _ ?_
  clear hK2
  refine wp_seq_k (fun K4 hK4 => ?_)
  refine sqR H gs0 fun Z_ z_ => rS 1 rfl <| rV rfl (does_len Tryd.underlying22 rfl rfl) <| rV rfl (does_binOp rfl rfl rfl (z_gtrZ (k := ((nk : Nat) : Int)) (m := 64) (decide_eq_false (by omega)) _ _)) <| rK [1, 0, 0, 0] [] [] <| rN0 z_ ?_
  try clear H a W
  intro a W H
  refine wp_cond_false (H.ev rfl) ?_
  refine wp_skip ?_
  refine hK4 _ _ ?_
  clear hK4
  refine wp_seq_k (fun K6 hK6 => ?_)
  refine sqR H gs0 fun Z_ z_ => rS 1 rfl <| rV rfl (does_len Tryd.underlying22 rfl rfl) <| rS 1 rfl <| rV rfl (does_binOp rfl rfl rfl (z_addI (a := (nk : Int)) (b := (j : Int)) (c := ((nk + j : Nat) : Int)) (by omega) (by omega) _ _)) <| rV rfl (does_binOp rfl rfl rfl (z_gtrZ (k := ((nk + j : Nat) : Int)) (m := 64) (decide_eq_true (by omega)) _ _)) <| rK [1, 0, 0, 0, 0, 0] [] [] <| rN0 z_ ?_
  try clear H a W
  intro a W H
  refine wp_cond_true (H.ev rfl) ?_
  refine sqR H gs0 fun Z_ z_ => rCV rfl rfl ⟨_, Tryd.func7, by kernel_rfl⟩ rfl (fun a W H _ => (known_any _ (hpk.ext H.below))) <| rK [1, 1, 0] [] [] <| rS 1 rfl <| rK [1, 0, 0] [] [] <| rN0 z_ ?_
  try clear H a W
  intro a W H
  refine wp_ret ?_
  repeat (first | (with_reducible refine then_ret ?_) | (with_reducible refine blk_ret ?_))
  refine end_tmp (p := 6) rfl rfl H (fun hb => ?_)
  exact ⟨rfl, hb⟩
set_option maxHeartbeats 4000000 in
theorem longs_g {vk vm : Value} {lk lm : List UInt8} (w : World) (hpk : HK w) (hvk : BF lk vk w) (hvm : BF lm vm w) (j : Nat) (h1 : lk.length ≤ 300) (h2 : lm.length ≤ 300) (h3 : j ≤ 64) (h4 : lk.length ≤ 64) (h5 : lk.length + j ≤ 64) : Calls Tryd.prog 5 #[vk, vm, .int .i64 ((j : Nat) : Int)] w (fun rr w' => rr = .returned (.bool true) ∧ Below w.heap.size w w') := by
  obtain ⟨Ak, nk, ck, rfl, hbk⟩ := id hvk
  have hnk := hbk.len
  obtain ⟨Am, nm, cm, rfl, hbm⟩ := id hvm
  have hnm := hbm.len
  refine calls_st (vs := [.slice Ak nk ck, .slice Am nm cm, .int .i64 ((j : Nat) : Int)]) 63 Tryd.func5 rfl Tryd.ntmps5 rfl (fun a W H => ?_)
  replace H : St 63 w a W [(0, .slice Ak nk ck), (1, .slice Am nm cm), (2, .int .i64 ((j : Nat) : Int))] [] := H
  refine sqR H gs0 fun Z_ z_ => rS 1 rfl <| rN0 z_ ?_
  try clear H a W
  intro a W H
  refine wp_seq_k (fun K2 hK2 => ?_)
  refine sqR H gs0 fun Z_ z_ => rS 1 rfl <| rV rfl (does_len Tryd.underlying22 rfl rfl) <| rV rfl (does_binOp rfl rfl rfl (z_gtrZ (k := ((nk : Nat) : Int)) (m := 300) (decide_eq_false (by omega)) _ _)) <| rS 2 rfl <| rV rfl (does_len Tryd.underlying22 rfl rfl) <| rV rfl (does_binOp rfl rfl rfl (z_gtrZ (k := ((nm : Nat) : Int)) (m := 300) (decide_eq_false (by omega)) _ _)) <| rS 3 rfl <| rV rfl (does_binOp rfl rfl rfl (z_lssZ (k := ((j : Nat) : Int)) (m := 0) (decide_eq_false (by omega)) _ _)) <| rS 3 rfl <| rV rfl (does_binOp rfl rfl rfl (z_gtrZ (k := ((j : Nat) : Int)) (m := 64) (decide_eq_false (by omega)) _ _)) <| rS 1 rfl <| rK [1, 0, 0, 0, 0, 0, 0, 0, 0, 0, 0, 0, 0, 0, 0, 0] [] [] <| rN0 z_ ?_
  try clear H a W
  intro a W H
  refine wp_cond_false (H.ev rfl) ?_
  refine wp_skip ?_
  refine hK2 _ _ ?_
  clear hK2
  refine wp_seq_k (fun K4 hK4 => ?_)
  refine sqR H gs0 fun Z_ z_ => rS 1 rfl <| rV rfl (does_len Tryd.underlying22 rfl rfl) <| rV rfl (does_binOp rfl rfl rfl (z_gtrZ (k := ((nk : Nat) : Int)) (m := 64) (decide_eq_false (by omega)) _ _)) <| rK [1, 0, 0, 0] [] [] <| rN0 z_ ?_
  try clear H a W
  intro a W H
  refine wp_cond_false (H.ev rfl) ?_
  refine wp_skip ?_
  refine hK4 _ _ ?_
  clear hK4
  refine wp_seq_k (fun K6 hK6 => ?_)
  refine sqR H gs0 fun Z_ z_ => rS 1 rfl <| rV rfl (does_len Tryd.underlying22 rfl rfl) <| rS 1 rfl <| rV rfl (does_binOp rfl rfl rfl (z_addI (a := (nk : Int)) (b := (j : Int)) (c := ((nk + j : Nat) : Int)) (by omega) (by omega) _ _)) <| rV rfl (does_binOp rfl rfl rfl (z_gtrZ (k := ((nk + j : Nat) : Int)) (m := 64) (decide_eq_false (by omega)) _ _)) <| rK [1, 0, 0, 0, 0, 0] [] [] <| rN0 z_ ?_
  try clear H a W
  intro a W H
  refine wp_cond_false (H.ev rfl) ?_
  refine wp_skip ?_
  refine hK6 _ _ ?_
  clear hK6
  refine wp_seq_k (fun K8 hK8 => ?_)
  refine rgP H gs0 (rS 1 rfl <| rO rfl (fun a W H _ => ob_app0S H (wanted_none rfl) rfl rfl (bf_old hvk H) (by first | omega | (simp only [List.length_append, rb_len, List.length_cons, List.length_nil, List.length_replicate]; omega))) fun v49 => rS 1 rfl <| rI ?_)
  try clear H a W
  rintro a W H ⟨hv49, -⟩
  refine pl_R (R := (WR w.heap.size [])) (F := OF w.heap.size [] (lk ++ List.replicate j 0)) wr_st (ob_appWZ (k := j) H (wanted_none rfl) rfl rfl rfl hv49 (by first | omega | (simp only [List.length_append, rb_len, List.length_cons, List.length_nil, List.length_replicate]; omega))) rfl rfl rfl H ?_
  try clear H a
  intro v51 a W hv51 hR_ H
  clear hR_
  replace H : St 63 w a W [(51, v51), (50, .int .i64 ((j : Nat) : Int)), (49, v49), (48, .slice Ak nk ck), (46, .bool false), (6, .bool false), (0, .slice Ak nk ck), (1, .slice Am nm cm), (2, .int .i64 ((j : Nat) : Int))] [] := H
  refine rgO H (gsC hv51 gs0) (rS 1 rfl <| rO rfl (fun a W H _ => ob_rows1S H (wanted_none rfl) rfl rfl (bf_old hvm H)) fun v53 => rCV rfl rfl ⟨_, Tryd.func9, by kernel_rfl⟩ rfl (fun a W H ⟨hv53, hv51, _⟩ => (hpk.macz (l := lm) H.below hv51.bf hv53.rf (by simp) (by first | omega | (simp only [List.length_append, rb_len, List.length_cons, List.length_nil, List.length_replicate]; omega)) (by first | omega | (simp only [List.length_append, rb_len, List.length_cons, List.length_nil, List.length_replicate]; omega)) (by simp))) <| rS 2 rfl <| rO rfl (fun a W H _ => ob_rows1S H (wanted_none rfl) rfl rfl (bf_old hvm H)) fun v57 => rCV rfl rfl ⟨_, Tryd.func9, by kernel_rfl⟩ rfl (fun a W H ⟨hv57, hv53, hv51, _⟩ => (hpk.macz (l := lm) H.below (bf_old hvk H) hv57.rf (by simp) (by first | omega | (simp only [List.length_append, rb_len, List.length_cons, List.length_nil, List.length_replicate]; omega)) (by first | omega | (simp only [List.length_append, rb_len, List.length_cons, List.length_nil, List.length_replicate]; omega)) (by simp))) <| rV rfl (does_binOp rfl rfl rfl (k_eql (decide_eq_true (by rw [mac_noughts (by omega)])) _ _)) <| rS 1 rfl <| rCV rfl rfl ⟨_, Tryd.func7, by kernel_rfl⟩ rfl (fun a W H _ => (known_any _ (hpk.ext H.below))) <| rS 1 rfl <| rK [1, 1, 1, 1, 1, 1, 1, 1, 1, 1, 1, 1, 1, 1, 1, 1, 0] [] [] <| rS 1 rfl <| rK [1, 0, 0, 0, 0, 0, 0, 0, 0, 0, 0, 0, 0, 0, 0, 0, 0, 0, 0, 0] [] [0, 0, 0] <| rZ0 ?_)
  try clear hv51 H a W
  intro a W H
  refine hK8 _ _ ?_
  clear hK8
  refine wp_ret ?_
  repeat (first | (with_reducible refine then_ret ?_) | (with_reducible refine blk_ret ?_))
  refine end_tmp (p := 6) rfl rfl H (fun hb => ?_)
  exact ⟨rfl, hb⟩
theorem law_longs {vk vm : Value} {lk lm : List UInt8} (z : Int) (w : World) (hpk : HK w) (hvk : BF lk vk w) (hvm : BF lm vm w) : Calls Tryd.prog 5 #[vk, vm, .int .i64 z] w (fun rr w' => rr = .returned (.bool true) ∧ Below w.heap.size w w') := by
  by_cases h1 : 300 < lk.length
  · exact longs_a w hpk hvk hvm z h1
  by_cases h2 : 300 < lm.length
  · exact longs_b w hpk hvk hvm z (by omega) h2
  by_cases h3 : z < 0
  · exact longs_c w hpk hvk hvm z (by omega) (by omega) h3
  by_cases h4 : 64 < z
  · exact longs_d w hpk hvk hvm z (by omega) (by omega) (by omega) h4
  obtain ⟨j, rfl⟩ := Int.eq_ofNat_of_zero_le (show 0 ≤ z by omega)
  by_cases h5 : 64 < lk.length
  · exact longs_e w hpk hvk hvm j (by omega) (by omega) (by omega) h5
  by_cases h6 : 64 < lk.length + j
  · exact longs_f w hpk hvk hvm j (by omega) (by omega) (by omega) (by omega) h6
  exact longs_g w hpk hvk hvm j (by omega) (by omega) (by omega) (by omega) (by omega)
set_option maxHeartbeats 4000000 in
theorem chains_a {vm : Value} {lm : List UInt8} (c : Nat → UInt8) (w : World) (hpk : HK w) (hvm : BF lm vm w) (h1 : 200 < lm.length) : Calls Tryd.prog 6 #[.agg (bvs (rb 32 c)), vm] w (fun rr w' => rr = .returned (.bool true) ∧ Below w.heap.size w w') := by
  obtain ⟨Am, nm, cm, rfl, hbm⟩ := id hvm
  have hnm := hbm.len
  refine calls_st (vs := [.agg (bvs (rb 32 c)), .slice Am nm cm]) 61 Tryd.func6 rfl Tryd.ntmps6 rfl (fun a W H => ?_)
  replace H : St 61 w a W [(0, .agg (bvs (rb 32 c))), (1, .slice Am nm cm)] [] := H
  refine sqR H gs0 fun Z_ z_ => rB rfl rfl rfl (bx_key c) fun g1 => rS 1 rfl <| rK [1, 1, 0] [] [] <| rN0 z_ ?_
  try clear H a W
  intro a W H
  refine wp_seq_k (fun K2 hK2 => ?_)
  refine sqR H gs0 fun Z_ z_ => rS 1 rfl <| rV rfl (does_len Tryd.underlying22 rfl rfl) <| rV rfl (does_binOp rfl rfl rfl (z_gtrZ (k := ((nm : Nat) : Int)) (m := 200) (decide_eq_true (by omega)) _ _)) <| rK [1, 0, 0] [] [] <| rN0 z_ ?_
  try clear H a W
  intro a W H
  refine wp_cond_true (H.ev rfl) ?_
  refine sqR H gs0 fun Z_ z_ => rCV rfl rfl ⟨_, Tryd.func7, by kernel_rfl⟩ rfl (fun a W H _ => (known_any _ (hpk.ext H.below))) <| rK [1, 1, 0] [] [] <| rS 1 rfl <| rK [1, 0, 0] [] [] <| rN0 z_ ?_
  try clear H a W
  intro a W H
  refine wp_ret ?_
  repeat (first | (with_reducible refine then_ret ?_) | (with_reducible refine blk_ret ?_))
  refine end_tmp (p := 4) rfl rfl H (fun hb => ?_)
  exact ⟨rfl, hb⟩
set_option maxHeartbeats 4000000 in
theorem chains_b {vm : Value} {lm : List UInt8} (c : Nat → UInt8) (w : World) (hpk : HK w) (hvm : BF lm vm w) (h1 : lm.length ≤ 200) : Calls Tryd.prog 6 #[.agg (bvs (rb 32 c)), vm] w (fun rr w' => rr = .returned (.bool true) ∧ Below w.heap.size w w') := by
  obtain ⟨Am, nm, cm, rfl, hbm⟩ := id hvm
  have hnm := hbm.len
  refine calls_st (vs := [.agg (bvs (rb 32 c)), .slice Am nm cm]) 61 Tryd.func6 rfl Tryd.ntmps6 rfl (fun a W H => ?_)
  replace H : St 61 w a W [(0, .agg (bvs (rb 32 c))), (1, .slice Am nm cm)] [] := H
  refine sqR H gs0 fun Z_ z_ => rB rfl rfl rfl (bx_key c) fun g1 => rS 1 rfl <| rK [1, 1, 0] [] [] <| rN0 z_ ?_
  try clear H a W
  intro a W H
  refine wp_seq_k (fun K2 hK2 => ?_)
  refine sqR H gs0 fun Z_ z_ => rS 1 rfl <| rV rfl (does_len Tryd.underlying22 rfl rfl) <| rV rfl (does_binOp rfl rfl rfl (z_gtrZ (k := ((nm : Nat) : Int)) (m := 200) (decide_eq_false (by omega)) _ _)) <| rK [1, 0, 0] [] [] <| rN0 z_ ?_
  try clear H a W
  intro a W H
  refine wp_cond_false (H.ev rfl) ?_
  refine wp_skip ?_
  refine hK2 _ _ ?_
  clear hK2
  refine sqR H gs0 fun Z_ z_ => rV rfl (does_slice rfl rfl (vl := none) (vh := none) rfl rfl (sl_key g1)) <| rS 1 rfl <| rO rfl (fun a W H _ => ob_rows1S H (wanted_none rfl) rfl rfl (bf_old hvm H)) fun v15 => rCV rfl rfl ⟨_, Tryd.func9, by kernel_rfl⟩ rfl (fun a W H ⟨hv15, _⟩ => (hpk.macz (l := lm) H.below (sl_keyF (H.blk (k := 0) rfl)) hv15.rf (by simp) (by first | omega | (simp only [List.length_append, rb_len, List.length_cons, List.length_nil, List.length_replicate]; omega)) (by first | omega | (simp only [List.length_append, rb_len, List.length_cons, List.length_nil, List.length_replicate]; omega)) (by simp))) <| rA rfl rfl al_keyK fun g2 => rW [1] ⟨rfl, rfl⟩ rfl rfl rfl (info_key _) (size_rb _ _ _) (bvs_one _) <| rK [1, 0, 0, 0, 0, 0] [] [] <| rN0 z_ ?_
  try clear H a W
  intro a W H
  refine sqR H gs0 fun Z_ z_ => rV rfl (does_load rfl rfl (k := 1) rfl Tryd.underlying25 rfl (info_key _)) <| rS 1 rfl <| rCV rfl rfl ⟨_, Tryd.func12, by kernel_rfl⟩ rfl (fun a W H _ => (hpk.three _ H.below _ (bf_old hvm H) (by first | omega | (simp only [List.length_append, rb_len, List.length_cons, List.length_nil, List.length_replicate]; omega)))) <| rS 4 rfl <| rA rfl rfl al_keyK fun g3 => rA rfl rfl al_keyK fun g4 => rA rfl rfl al_keyK fun g5 => rW [0, 0, 1] ⟨rfl, rfl⟩ rfl rfl rfl (info_key _) (size_rb _ _ _) (bvs_one _) <| rW [0, 1] ⟨rfl, rfl⟩ rfl rfl rfl (info_key _) (size_rb _ _ _) (bvs_one _) <| rW [1] ⟨rfl, rfl⟩ rfl rfl rfl (info_key _) (size_rb _ _ _) (bvs_one _) <| rK [1, 1, 1, 0, 0, 0, 0, 0, 0, 0] [] [] <| rN0 z_ ?_
  try clear H a W
  intro a W H
  refine wp_seq_k (fun K6 hK6 => ?_)
  replace H := H.km [1, 1, 1, 1, 0] []
  refine drawnR SB (WR w.heap.size [(g5, 25, bvs (rb 32 (outK c lm 2))), (g4, 25, bvs (rb 32 (outK c lm 1))), (g3, 25, bvs (rb 32 (outK c lm 0))), (g2, 25, bvs (rb 32 (hmacF (rb 32 c) lm))), (g1, 25, bvs (rb 32 c))]) (⟨24, fun u_ _ => u_ = .agg (bvs (rb 32 (outK c lm 0))), [], none, false⟩ :: ⟨25, fun u_ _ => u_ = .slice (some ⟨g2, 0, none⟩) 32 32, [], none, false⟩ :: ⟨26, BF [1], [], (some 3), false⟩ :: ⟨27, LF [[1]], [2], (some 4), false⟩ :: ⟨28, fun u_ _ => u_ = .agg (bvs (rb 32 (hmacF (rb 32 (hmacF (rb 32 c) lm)) [1]))), [1, 3], none, false⟩ :: ⟨29, fun u_ _ => u_ = .bool true, [0, 4], none, false⟩ :: ⟨30, fun u_ _ => u_ = .bool true, [5], none, false⟩ :: ⟨31, fun u_ _ => u_ = .agg (bvs (rb 32 (outK c lm 1))), [6], none, false⟩ :: ⟨32, fun u_ _ => u_ = .slice (some ⟨g2, 0, none⟩) 32 32, [6], none, false⟩ :: ⟨33, fun u_ _ => u_ = .slice (some ⟨g3, 0, none⟩) 32 32, [6], none, false⟩ :: ⟨34, BF [2], [6], (some 11), false⟩ :: ⟨35, LF [rb 32 (outK c lm 0), [2]], [9, 10, 6], (some 12), false⟩ :: ⟨36, fun u_ _ => u_ = .agg (bvs (rb 32 (hmacF (rb 32 (hmacF (rb 32 c) lm)) ((rb 32 (outK c lm 0)) ++ [2])))), [8, 11, 6], none, false⟩ :: ⟨37, fun u_ _ => u_ = .bool true, [7, 12, 6], none, false⟩ :: ⟨38, fun u_ _ => u_ = .bool true, [6, 13], none, false⟩ :: ⟨39, fun u_ _ => u_ = .bool true, [14], none, false⟩ :: ⟨40, fun u_ _ => u_ = .agg (bvs (rb 32 (outK c lm 2))), [15], none, false⟩ :: ⟨41, fun u_ _ => u_ = .slice (some ⟨g2, 0, none⟩) 32 32, [15], none, false⟩ :: ⟨42, fun u_ _ => u_ = .slice (some ⟨g4, 0, none⟩) 32 32, [15], none, false⟩ :: ⟨43, OF w.heap.size [(g5, 25, bvs (rb 32 (outK c lm 2))), (g4, 25, bvs (rb 32 (outK c lm 1))), (g3, 25, bvs (rb 32 (outK c lm 0))), (g2, 25, bvs (rb 32 (hmacF (rb 32 c) lm))), (g1, 25, bvs (rb 32 c))] (rb 32 (outK c lm 1)), [18, 15], (some 21), false⟩ :: ⟨44, BF [3], [15], (some 21), false⟩ :: ⟨45, OF w.heap.size [(g5, 25, bvs (rb 32 (outK c lm 2))), (g4, 25, bvs (rb 32 (outK c lm 1))), (g3, 25, bvs (rb 32 (outK c lm 0))), (g2, 25, bvs (rb 32 (hmacF (rb 32 c) lm))), (g1, 25, bvs (rb 32 c))] (rb 32 (outK c lm 1) ++ [3]), [19, 20, 15], (some 22), true⟩ :: ⟨46, LF [(rb 32 (outK c lm 1) ++ [3])], [21, 15], (some 23), false⟩ :: ⟨47, fun u_ _ => u_ = .agg (bvs (rb 32 (hmacF (rb 32 (hmacF (rb 32 c) lm)) (rb 32 (outK c lm 1) ++ [3])))), [17, 22, 15], none, false⟩ :: ⟨48, fun u_ _ => u_ = .bool true, [16, 23, 15], none, false⟩ :: ⟨49, fun u_ _ => u_ = .bool true, [15, 24], none, false⟩ :: ⟨50, fun u_ _ => u_ = .bool true, [25], none, false⟩ :: ⟨51, fun u_ _ => u_ = .agg (bvs (rb 32 c)), [26], none, false⟩ :: ⟨52, fun u_ _ => u_ = .slice Am nm cm, [26], none, false⟩ :: ⟨53, fun u_ _ => u_ = .string (strB lm), [28, 26], none, false⟩ :: ⟨54, fun u_ _ => u_ = .agg (bvs (rb 32 (hmacF (rb 32 c) lm))), [27, 29, 26], none, false⟩ :: ⟨55, fun u_ _ => u_ = .agg (bvs (rb 32 (hmacF (rb 32 c) lm))), [26], none, false⟩ :: ⟨56, fun u_ _ => u_ = .bool true, [30, 31, 26], none, false⟩ :: ⟨57, fun u_ _ => u_ = .bool true, [26, 32], none, false⟩ :: ⟨58, fun u_ _ => u_ = .bool true, [33], none, false⟩ :: ⟨59, fun u_ _ => u_ = .bool true, [34], none, false⟩ :: ⟨60, fun u_ _ => u_ = .bool true, [34, 35], none, false⟩ :: []) (0 :: 0 :: 0 :: 4 :: 10 :: 17 :: 48 :: 64 :: 64 :: 64 :: 64 :: 1600 :: 2368 :: 4288 :: 8256 :: 20480 :: 32768 :: 32768 :: 32768 :: 294912 :: 32768 :: 1605632 :: 2129920 :: 6455296 :: 8486912 :: 16809984 :: 41943040 :: 67108864 :: 67108864 :: 335544320 :: 738197504 :: 67108864 :: 3288334336 :: 4362076160 :: 9663676416 :: 17179869184 :: 51539607552 :: 137438953471 :: []) [36] sb_st wr_st (by kernel_rfl) (by kernel_rfl) (by kernel_rfl) H ⟨⟨fun a W  H => by exact ob_valS H (wanted_none rfl) (does_load rfl rfl (k := 2) rfl Tryd.underlying25 rfl (info_key _)), val_grow, fun _ => val_grow⟩, ⟨fun a W  H => by exact ob_valS H (wanted_none rfl) (does_slice rfl rfl (vl := none) (vh := none) rfl rfl (sl_key g2)), val_grow, fun _ => val_grow⟩, ⟨fun a W  H => by exact ob_byteC (c := 1) (x := 1) rfl H (wanted_none rfl) rfl rfl, BF.sb, fun ht_ => by cases ht_⟩, ⟨fun a W v26 hv26 H => by exact ob_rows1S H (wanted_none rfl) rfl rfl hv26, LF.sb, fun ht_ => by cases ht_⟩, ⟨fun a W y1 hy1 v27 hv27 H => by subst hy1; exact ob_calS H (wanted_none rfl) rfl ⟨_, Tryd.func9, by kernel_rfl⟩ rfl (hpk.macz (l := [1]) H.below (sl_keyF (H.blk (k := 3) rfl)) hv27.rf (by simp) (by first | omega | (simp only [List.length_append, rb_len, List.length_cons, List.length_nil, List.length_replicate]; omega)) (by first | omega | (simp only [List.length_append, rb_len, List.length_cons, List.length_nil, List.length_replicate]; omega)) (by simp)), val_grow, fun _ => val_grow⟩, ⟨fun a W y0 hy0 y4 hy4 H => by subst hy0; subst hy4; exact ob_valS H (wanted_none rfl) (does_binOp rfl rfl rfl (k_eql (decide_eq_true (by rw [outK_0, List.nil_append])) _ _)), val_grow, fun _ => val_grow⟩, ⟨fun a W y5 hy5 H => by subst hy5; exact ob_valS H (wanted_none rfl) (does_move rfl rfl), val_grow, fun _ => val_grow⟩, ⟨fun a W y6 hy6 H => by subst hy6; exact ob_valS H (wanted_some rfl rfl rfl rfl rfl) (does_load rfl rfl (k := 1) rfl Tryd.underlying25 rfl (info_key _)), val_grow, fun _ => val_grow⟩, ⟨fun a W y6 hy6 H => by subst hy6; exact ob_valS H (wanted_some rfl rfl rfl rfl rfl) (does_slice rfl rfl (vl := none) (vh := none) rfl rfl (sl_key g2)), val_grow, fun _ => val_grow⟩, ⟨fun a W y6 hy6 H => by subst hy6; exact ob_valS H (wanted_some rfl rfl rfl rfl rfl) (does_slice rfl rfl (vl := none) (vh := none) rfl rfl (sl_key g3)), val_grow, fun _ => val_grow⟩, ⟨fun a W y6 hy6 H => by subst hy6; exact ob_byteC (c := 2) (x := 2) rfl H (wanted_some rfl rfl rfl rfl rfl) rfl rfl, BF.sb, fun ht_ => by cases ht_⟩, ⟨fun a W y9 hy9 v34 hv34 y6 hy6 H => by subst hy9; subst hy6; exact ob_rows2S H (wanted_some rfl rfl rfl rfl rfl) rfl rfl rfl (sl_keyF (H.blk (k := 2) rfl)) hv34, LF.sb, fun ht_ => by cases ht_⟩, ⟨fun a W y8 hy8 v35 hv35 y6 hy6 H => by subst hy8; subst hy6; exact ob_calS H (wanted_some rfl rfl rfl rfl rfl) rfl ⟨_, Tryd.func9, by kernel_rfl⟩ rfl (hpk.macz (l := (rb 32 (outK c lm 0)) ++ [2]) H.below (sl_keyF (H.blk (k := 3) rfl)) hv35.rf (by simp) (by first | omega | (simp only [List.length_append, rb_len, List.length_cons, List.length_nil, List.length_replicate]; omega)) (by first | omega | (simp only [List.length_append, rb_len, List.length_cons, List.length_nil, List.length_replicate]; omega)) (by simp)), val_grow, fun _ => val_grow⟩, ⟨fun a W y7 hy7 y12 hy12 y6 hy6 H => by subst hy7; subst hy12; subst hy6; exact ob_valS H (wanted_some rfl rfl rfl rfl rfl) (does_binOp rfl rfl rfl (k_eql (decide_eq_true (by rw [outK_1])) _ _)), val_grow, fun _ => val_grow⟩, ⟨fun a W y6 hy6 y13 hy13 H => by subst hy6; subst hy13; exact ob_valS H (wanted_none rfl) (does_pick rfl rfl (fun _ => rfl) (fun hb => by cases hb)), val_grow, fun _ => val_grow⟩, ⟨fun a W y14 hy14 H => by subst hy14; exact ob_valS H (wanted_none rfl) (does_move rfl rfl), val_grow, fun _ => val_grow⟩, ⟨fun a W y15 hy15 H => by subst hy15; exact ob_valS H (wanted_some rfl rfl rfl rfl rfl) (does_load rfl rfl (k := 0) rfl Tryd.underlying25 rfl (info_key _)), val_grow, fun _ => val_grow⟩, ⟨fun a W y15 hy15 H => by subst hy15; exact ob_valS H (wanted_some rfl rfl rfl rfl rfl) (does_slice rfl rfl (vl := none) (vh := none) rfl rfl (sl_key g2)), val_grow, fun _ => val_grow⟩, ⟨fun a W y15 hy15 H => by subst hy15; exact ob_valS H (wanted_some rfl rfl rfl rfl rfl) (does_slice rfl rfl (vl := none) (vh := none) rfl rfl (sl_key g4)), val_grow, fun _ => val_grow⟩, ⟨fun a W y18 hy18 y15 hy15 H => by subst hy18; subst hy15; exact ob_app0S H (wanted_some rfl rfl rfl rfl rfl) rfl rfl (sl_keyF (H.blk (k := 1) rfl)) (by first | omega | (simp only [List.length_append, rb_len, List.length_cons, List.length_nil, List.length_replicate]; omega)), OF.sb, fun ht_ => by cases ht_⟩, ⟨fun a W y15 hy15 H => by subst hy15; exact ob_byteC (c := 3) (x := 3) rfl H (wanted_some rfl rfl rfl rfl rfl) rfl rfl, BF.sb, fun ht_ => by cases ht_⟩, ⟨fun a W v43 hv43 v44 hv44 y15 hy15 H => by subst hy15; exact ob_appW H (wanted_some rfl rfl rfl rfl rfl) rfl rfl rfl hv43 hv44 (by first | omega | (simp only [List.length_append, rb_len, List.length_cons, List.length_nil, List.length_replicate]; omega)), OF.sb, fun ht_ => by cases ht_⟩, ⟨fun a W v45 hv45 y15 hy15 H => by subst hy15; exact ob_rows1S H (wanted_some rfl rfl rfl rfl rfl) rfl rfl hv45.bf, LF.sb, fun ht_ => by cases ht_⟩, ⟨fun a W y17 hy17 v46 hv46 y15 hy15 H => by subst hy17; subst hy15; exact ob_calS H (wanted_some rfl rfl rfl rfl rfl) rfl ⟨_, Tryd.func9, by kernel_rfl⟩ rfl (hpk.macz (l := (rb 32 (outK c lm 1) ++ [3])) H.below (sl_keyF (H.blk (k := 3) rfl)) hv46.rf (by simp) (by first | omega | (simp only [List.length_append, rb_len, List.length_cons, List.length_nil, List.length_replicate]; omega)) (by first | omega | (simp only [List.length_append, rb_len, List.length_cons, List.length_nil, List.length_replicate]; omega)) (by simp)), val_grow, fun _ => val_grow⟩, ⟨fun a W y16 hy16 y23 hy23 y15 hy15 H => by subst hy16; subst hy23; subst hy15; exact ob_valS H (wanted_some rfl rfl rfl rfl rfl) (does_binOp rfl rfl rfl (k_eql (decide_eq_true (by rw [outK_2])) _ _)), val_grow, fun _ => val_grow⟩, ⟨fun a W y15 hy15 y24 hy24 H => by subst hy15; subst hy24; exact ob_valS H (wanted_none rfl) (does_pick rfl rfl (fun _ => rfl) (fun hb => by cases hb)), val_grow, fun _ => val_grow⟩, ⟨fun a W y25 hy25 H => by subst hy25; exact ob_valS H (wanted_none rfl) (does_move rfl rfl), val_grow, fun _ => val_grow⟩, ⟨fun a W y26 hy26 H => by subst hy26; exact ob_valS H (wanted_some rfl rfl rfl rfl rfl) (does_load rfl rfl (k := 4) rfl Tryd.underlying25 rfl (info_key _)), val_grow, fun _ => val_grow⟩, ⟨fun a W y26 hy26 H => by subst hy26; exact ob_valS H (wanted_some rfl rfl rfl rfl rfl) (does_move rfl rfl), val_grow, fun _ => val_grow⟩, ⟨fun a W y28 hy28 y26 hy26 H => by subst hy28; subst hy26; exact ob_strK H (wanted_some rfl rfl rfl rfl rfl) rfl rfl (bf_old hvm H), val_grow, fun _ => val_grow⟩, ⟨fun a W y27 hy27 y29 hy29 y26 hy26 H => by subst hy27; subst hy29; subst hy26; exact ob_calS H (wanted_some rfl rfl rfl rfl rfl) rfl ⟨_, Tryd.func13, by kernel_rfl⟩ rfl (hpk.named _ H.below _ _ (by omega)), val_grow, fun _ => val_grow⟩, ⟨fun a W y26 hy26 H => by subst hy26; exact ob_valS H (wanted_some rfl rfl rfl rfl rfl) (does_load rfl rfl (k := 3) rfl Tryd.underlying25 rfl (info_key _)), val_grow, fun _ => val_grow⟩, ⟨fun a W y30 hy30 y31 hy31 y26 hy26 H => by subst hy30; subst hy31; subst hy26; exact ob_valS H (wanted_some rfl rfl rfl rfl rfl) (does_binOp rfl rfl rfl (k_eql (decide_eq_true rfl) _ _)), val_grow, fun _ => val_grow⟩, ⟨fun a W y26 hy26 y32 hy32 H => by subst hy26; subst hy32; exact ob_valS H (wanted_none rfl) (does_pick rfl rfl (fun _ => rfl) (fun hb => by cases hb)), val_grow, fun _ => val_grow⟩, ⟨fun a W y33 hy33 H => by subst hy33; exact ob_valS H (wanted_none rfl) (does_move rfl rfl), val_grow, fun _ => val_grow⟩, ⟨fun a W y34 hy34 H => by subst hy34; exact ob_calS H (wanted_some rfl rfl rfl rfl rfl) rfl ⟨_, Tryd.func7, by kernel_rfl⟩ rfl (known_any _ (hpk.ext H.below)), val_grow, fun _ => val_grow⟩, ⟨fun a W y34 hy34 y35 hy35 H => by subst hy34; subst hy35; exact ob_valS H (wanted_none rfl) (does_pick rfl rfl (fun _ => rfl) (fun hb => by cases hb)), val_grow, fun _ => val_grow⟩, trivial⟩ (by kernel_rfl) ?_
  try clear H a W
  intro a W
  rintro _ rfl
  intro H
  replace H : St 61 w a W [(60, .bool true), (8, .pointer (some ⟨g5, 0, none⟩)), (7, .pointer (some ⟨g4, 0, none⟩)), (6, .pointer (some ⟨g3, 0, none⟩)), (5, .pointer (some ⟨g2, 0, none⟩)), (2, .pointer (some ⟨g1, 0, none⟩)), (1, .slice Am nm cm)] [(g5, 25, bvs (rb 32 (outK c lm 2))), (g4, 25, bvs (rb 32 (outK c lm 1))), (g3, 25, bvs (rb 32 (outK c lm 0))), (g2, 25, bvs (rb 32 (hmacF (rb 32 c) lm))), (g1, 25, bvs (rb 32 c))] := H
  refine rgO H gs0 (rS 1 rfl <| rZ0 ?_)
  try clear H a W
  intro a W H
  replace H := H.km [1, 0, 0, 0, 0, 0, 0, 0] []
  refine hK6 _ _ ?_
  clear hK6
  refine wp_ret ?_
  repeat (first | (with_reducible refine then_ret ?_) | (with_reducible refine blk_ret ?_))
  refine end_tmp (p := 4) rfl rfl H (fun hb => ?_)
  exact ⟨rfl, hb⟩
theorem law_chains {vm : Value} {lm : List UInt8} (c : Nat → UInt8) (w : World) (hpk : HK w) (hvm : BF lm vm w) : Calls Tryd.prog 6 #[.agg (bvs (rb 32 c)), vm] w (fun rr w' => rr = .returned (.bool true) ∧ Below w.heap.size w w') := by
  by_cases h1 : 200 < lm.length
  · exact chains_a c w hpk hvm h1
  exact chains_b c w hpk hvm (by omega)
end Go.Proofs.YthjechjffhhiiaaDoor
