/- Layer 14's laws: disks that are not there; DiskNil. -/
import Derived.Test.YtiebelmglchbdaaPk
namespace Go.Proofs.Ytiebelmglchbdaa
set_option linter.unusedVariables false
set_option linter.unusedSimpArgs false
set_option maxRecDepth 100000
open Go Go.RowKit

theorem isNone_zero {z : Nat} {hh : Hep} (w0 w : World) (K : Kn w0 w ([(z, .ty 58, dkC 0 (.map none) (.slice none 0 0) (.map none) false 0 false)] ++ hh)) : Calls Try.prog 40 #[.pointer (some ⟨z, 0, none⟩)] w (fun rr w' => rr = .returned (.bool true) ∧ Kn w0 w' ([(z, .ty 58, dkC 0 (.map none) (.slice none 0 0) (.map none) false 0 false)] ++ hh)) := isNone_p w0 w K
attribute [local irreducible] bvs dwa entsI zeroB lastsB stepP lastN xorB rb
set_option maxHeartbeats 4000000 in
theorem read_nil {hh : Hep} (n : Int) (w0 w : World) (K : Kn w0 w (([] : Hep) ++ hh)) : Calls Try.prog 18 #[.pointer none, .int .i64 n] w (fun rr w' => rr = .returned (.tuple #[.slice none 0 0, .int .i64 1]) ∧ Kn w0 w' (([] : Hep) ++ hh)) := by
  refine calls_kn (vs := [.pointer none, .int .i64 n]) 17 Try.func18 rfl Try.ntmps18 rfl K (fun a W H => ?_)
  replace H : St 17 w0 a W [(0, .pointer none), (1, .int .i64 n)] (hh) := H
  refine sqR H gs0 fun Z_ z_ => rS 2 rfl <| rN0 z_ ?_
  try clear H a W
  intro a W H
  refine wp_seq_k (fun K2 hK2 => ?_)
  refine wp_seq_k (fun K3 hK3 => ?_)
  refine rgP H gs0 (rS 1 rfl <| rI0 ?_)
  try clear H a W
  intro a W H
  refine pl_callV rfl rfl ⟨_, Try.func40, by kernel_rfl⟩ rfl (fun K_ => isNone_nil (hh := hh) w0 _ K_) H ?_
  try clear H a W
  intro a W H
  replace H : St 17 w0 a W [(8, .bool true), (7, .pointer none), (5, .int .i64 0), (4, .slice none 0 0), (0, .pointer none), (1, .int .i64 n)] (hh) := H
  refine rgO H gs0 (rK [1, 0] [] [] <| rZ0 ?_)
  try clear H a W
  intro a W H
  refine hK3 _ _ ?_
  clear hK3
  refine wp_cond_true (H.ev rfl) ?_
  refine sqR H gs0 fun Z_ z_ => rK [1, 1, 0] [] [] <| rS 1 rfl <| rK [1, 1, 0] [] [] <| rS 1 rfl <| rK [1, 1, 0] [] [] <| rN0 z_ ?_
  try clear H a W
  intro a W H
  refine wp_ret ?_
  repeat (first | (with_reducible refine then_ret ?_) | (with_reducible refine blk_ret ?_))
  refine end_tmps2 (p := 4) (q := 5) rfl rfl rfl H (fun hb => ?_)
  refine ⟨rfl, ?_⟩
  show Kn w0 W (hh)
  have H_ := H.pickF (h := []) (t := hh) [] [] rfl
  exact H_.kn
set_option maxHeartbeats 4000000 in
theorem read_zero {z : Nat} {hh : Hep} (n : Int) (w0 w : World) (K : Kn w0 w ([(z, .ty 58, (dkC 0 (.map none) (.slice none 0 0) (.map none) false 0 false))] ++ hh)) : Calls Try.prog 18 #[.pointer (some ⟨z, 0, none⟩), .int .i64 n] w (fun rr w' => rr = .returned (.tuple #[.slice none 0 0, .int .i64 1]) ∧ Kn w0 w' ([(z, .ty 58, (dkC 0 (.map none) (.slice none 0 0) (.map none) false 0 false))] ++ hh)) := by
  refine calls_kn (vs := [.pointer (some ⟨z, 0, none⟩), .int .i64 n]) 17 Try.func18 rfl Try.ntmps18 rfl K (fun a W H => ?_)
  replace H : St 17 w0 a W [(0, .pointer (some ⟨z, 0, none⟩)), (1, .int .i64 n)] ((z, 58, (dkC 0 (.map none) (.slice none 0 0) (.map none) false 0 false)) :: hh) := H
  refine sqR H gs0 fun Z_ z_ => rS 2 rfl <| rN0 z_ ?_
  try clear H a W
  intro a W H
  refine wp_seq_k (fun K2 hK2 => ?_)
  refine wp_seq_k (fun K3 hK3 => ?_)
  refine rgP H gs0 (rS 1 rfl <| rI0 ?_)
  try clear H a W
  intro a W H
  refine pl_callV rfl rfl ⟨_, Try.func40, by kernel_rfl⟩ rfl (fun K_ => isNone_zero (hh := hh) w0 _ K_) H ?_
  try clear H a W
  intro a W H
  replace H : St 17 w0 a W [(8, .bool true), (7, .pointer (some ⟨z, 0, none⟩)), (5, .int .i64 0), (4, .slice none 0 0), (0, .pointer (some ⟨z, 0, none⟩)), (1, .int .i64 n)] ((z, 58, (dkC 0 (.map none) (.slice none 0 0) (.map none) false 0 false)) :: hh) := H
  refine rgO H gs0 (rK [1, 0] [] [] <| rZ0 ?_)
  try clear H a W
  intro a W H
  refine hK3 _ _ ?_
  clear hK3
  refine wp_cond_true (H.ev rfl) ?_
  refine sqR H gs0 fun Z_ z_ => rK [1, 1, 0] [] [] <| rS 1 rfl <| rK [1, 1, 0] [] [] <| rS 1 rfl <| rK [1, 1, 0] [] [] <| rN0 z_ ?_
  try clear H a W
  intro a W H
  refine wp_ret ?_
  repeat (first | (with_reducible refine then_ret ?_) | (with_reducible refine blk_ret ?_))
  refine end_tmps2 (p := 4) (q := 5) rfl rfl rfl H (fun hb => ?_)
  refine ⟨rfl, ?_⟩
  show Kn w0 W ((z, .ty 58, (dkC 0 (.map none) (.slice none 0 0) (.map none) false 0 false)) :: hh)
  have H_ := H.pickF (h := [(z, .ty 58, (dkC 0 (.map none) (.slice none 0 0) (.map none) false 0 false))]) (t := hh) [] [0] rfl
  exact H_.kn
set_option maxHeartbeats 4000000 in
theorem write_nil {hh : Hep} (n : Int) {Ab : Option Addr} {kb cb : Nat} (w0 w : World) (K : Kn w0 w (([] : Hep) ++ hh)) : Calls Try.prog 28 #[.pointer none, .int .i64 n, .slice Ab kb cb] w (fun rr w' => rr = .returned (.int .i64 1) ∧ Kn w0 w' (([] : Hep) ++ hh)) := by
  refine calls_kn (vs := [.pointer none, .int .i64 n, .slice Ab kb cb]) 48 Try.func28 rfl Try.ntmps28 rfl K (fun a W H => ?_)
  replace H : St 48 w0 a W [(0, .pointer none), (1, .int .i64 n), (2, .slice Ab kb cb)] (hh) := H
  refine sqR H gs0 fun Z_ z_ => rS 1 rfl <| rN0 z_ ?_
  try clear H a W
  intro a W H
  refine wp_seq_k (fun K2 hK2 => ?_)
  refine wp_seq_k (fun K3 hK3 => ?_)
  refine rgP H gs0 (rS 1 rfl <| rI0 ?_)
  try clear H a W
  intro a W H
  refine pl_callV rfl rfl ⟨_, Try.func40, by kernel_rfl⟩ rfl (fun K_ => isNone_nil (hh := hh) w0 _ K_) H ?_
  try clear H a W
  intro a W H
  replace H : St 48 w0 a W [(8, .bool true), (7, .pointer none), (6, .int .i64 0), (0, .pointer none), (1, .int .i64 n), (2, .slice Ab kb cb)] (hh) := H
  refine rgO H gs0 (rK [1, 0] [] [] <| rZ0 ?_)
  try clear H a W
  intro a W H
  refine hK3 _ _ ?_
  clear hK3
  refine wp_cond_true (H.ev rfl) ?_
  refine sqR H gs0 fun Z_ z_ => rK [1, 0] [] [] <| rS 1 rfl <| rK [1, 0] [] [] <| rN0 z_ ?_
  try clear H a W
  intro a W H
  refine wp_ret ?_
  repeat (first | (with_reducible refine then_ret ?_) | (with_reducible refine blk_ret ?_))
  refine end_tmp (p := 6) rfl rfl H (fun hb => ?_)
  refine ⟨rfl, ?_⟩
  show Kn w0 W (hh)
  have H_ := H.pickF (h := []) (t := hh) [] [] rfl
  exact H_.kn
set_option maxHeartbeats 4000000 in
theorem sync_zero {z : Nat} {hh : Hep}  (w0 w : World) (K : Kn w0 w ([(z, .ty 58, (dkC 0 (.map none) (.slice none 0 0) (.map none) false 0 false))] ++ hh)) : Calls Try.prog 27 #[.pointer (some ⟨z, 0, none⟩)] w (fun rr w' => rr = .returned (.int .i64 1) ∧ Kn w0 w' ([(z, .ty 58, (dkC 0 (.map none) (.slice none 0 0) (.map none) false 0 false))] ++ hh)) := by
  refine calls_kn (vs := [.pointer (some ⟨z, 0, none⟩)]) 37 Try.func27 rfl Try.ntmps27 rfl K (fun a W H => ?_)
  replace H : St 37 w0 a W [(0, .pointer (some ⟨z, 0, none⟩))] ((z, 58, (dkC 0 (.map none) (.slice none 0 0) (.map none) false 0 false)) :: hh) := H
  refine sqR H gs0 fun Z_ z_ => rS 1 rfl <| rN0 z_ ?_
  try clear H a W
  intro a W H
  refine wp_seq_k (fun K2 hK2 => ?_)
  refine wp_seq_k (fun K3 hK3 => ?_)
  refine rgP H gs0 (rS 1 rfl <| rI0 ?_)
  try clear H a W
  intro a W H
  refine pl_callV rfl rfl ⟨_, Try.func40, by kernel_rfl⟩ rfl (fun K_ => isNone_zero (hh := hh) w0 _ K_) H ?_
  try clear H a W
  intro a W H
  replace H : St 37 w0 a W [(7, .bool true), (6, .pointer (some ⟨z, 0, none⟩)), (2, .int .i64 0), (0, .pointer (some ⟨z, 0, none⟩))] ((z, 58, (dkC 0 (.map none) (.slice none 0 0) (.map none) false 0 false)) :: hh) := H
  refine rgO H gs0 (rK [1, 0] [] [] <| rZ0 ?_)
  try clear H a W
  intro a W H
  refine hK3 _ _ ?_
  clear hK3
  refine wp_cond_true (H.ev rfl) ?_
  refine sqR H gs0 fun Z_ z_ => rK [1, 0] [] [] <| rS 1 rfl <| rK [1, 0] [] [] <| rN0 z_ ?_
  try clear H a W
  intro a W H
  refine wp_ret ?_
  repeat (first | (with_reducible refine then_ret ?_) | (with_reducible refine blk_ret ?_))
  refine end_tmp (p := 2) rfl rfl H (fun hb => ?_)
  refine ⟨rfl, ?_⟩
  show Kn w0 W ((z, .ty 58, (dkC 0 (.map none) (.slice none 0 0) (.map none) false 0 false)) :: hh)
  have H_ := H.pickF (h := [(z, .ty 58, (dkC 0 (.map none) (.slice none 0 0) (.map none) false 0 false))]) (t := hh) [] [0] rfl
  exact H_.kn
set_option maxHeartbeats 4000000 in
theorem fuse_nil {hh : Hep} (n : Int) (w0 w : World) (K : Kn w0 w (([] : Hep) ++ hh)) : Calls Try.prog 26 #[.pointer none, .int .i64 n] w (fun rr w' => rr = .returned (.int .i64 1) ∧ Kn w0 w' (([] : Hep) ++ hh)) := by
  refine calls_kn (vs := [.pointer none, .int .i64 n]) 16 Try.func26 rfl Try.ntmps26 rfl K (fun a W H => ?_)
  replace H : St 16 w0 a W [(0, .pointer none), (1, .int .i64 n)] (hh) := H
  refine sqR H gs0 fun Z_ z_ => rS 1 rfl <| rN0 z_ ?_
  try clear H a W
  intro a W H
  refine wp_seq_k (fun K2 hK2 => ?_)
  refine wp_seq_k (fun K3 hK3 => ?_)
  refine rgP H gs0 (rS 1 rfl <| rI0 ?_)
  try clear H a W
  intro a W H
  refine pl_callV rfl rfl ⟨_, Try.func40, by kernel_rfl⟩ rfl (fun K_ => isNone_nil (hh := hh) w0 _ K_) H ?_
  try clear H a W
  intro a W H
  replace H : St 16 w0 a W [(6, .bool true), (5, .pointer none), (4, .int .i64 0), (0, .pointer none), (1, .int .i64 n)] (hh) := H
  refine rgO H gs0 (rK [1, 0] [] [] <| rZ0 ?_)
  try clear H a W
  intro a W H
  refine hK3 _ _ ?_
  clear hK3
  refine wp_cond_true (H.ev rfl) ?_
  refine sqR H gs0 fun Z_ z_ => rK [1, 0] [] [] <| rS 1 rfl <| rK [1, 0] [] [] <| rN0 z_ ?_
  try clear H a W
  intro a W H
  refine wp_ret ?_
  repeat (first | (with_reducible refine then_ret ?_) | (with_reducible refine blk_ret ?_))
  refine end_tmp (p := 4) rfl rfl H (fun hb => ?_)
  refine ⟨rfl, ?_⟩
  show Kn w0 W (hh)
  have H_ := H.pickF (h := []) (t := hh) [] [] rfl
  exact H_.kn
set_option maxHeartbeats 4000000 in
theorem crash_zero {z : Nat} {hh : Hep} {Ap : Option Addr} {np cp : Nat} (w0 w : World) (K : Kn w0 w ([(z, .ty 58, (dkC 0 (.map none) (.slice none 0 0) (.map none) false 0 false))] ++ hh)) : Calls Try.prog 23 #[.pointer (some ⟨z, 0, none⟩), .slice Ap np cp] w (fun rr w' => rr = .returned (.int .i64 1) ∧ Kn w0 w' ([(z, .ty 58, (dkC 0 (.map none) (.slice none 0 0) (.map none) false 0 false))] ++ hh)) := by
  refine calls_kn (vs := [.pointer (some ⟨z, 0, none⟩), .slice Ap np cp]) 57 Try.func23 rfl Try.ntmps23 rfl K (fun a W H => ?_)
  replace H : St 57 w0 a W [(0, .pointer (some ⟨z, 0, none⟩)), (1, .slice Ap np cp)] ((z, 58, (dkC 0 (.map none) (.slice none 0 0) (.map none) false 0 false)) :: hh) := H
  refine sqR H gs0 fun Z_ z_ => rS 1 rfl <| rN0 z_ ?_
  try clear H a W
  intro a W H
  refine wp_seq_k (fun K2 hK2 => ?_)
  refine wp_seq_k (fun K3 hK3 => ?_)
  refine rgP H gs0 (rS 1 rfl <| rI0 ?_)
  try clear H a W
  intro a W H
  refine pl_callV rfl rfl ⟨_, Try.func40, by kernel_rfl⟩ rfl (fun K_ => isNone_zero (hh := hh) w0 _ K_) H ?_
  try clear H a W
  intro a W H
  replace H : St 57 w0 a W [(10, .bool true), (9, .pointer (some ⟨z, 0, none⟩)), (4, .int .i64 0), (0, .pointer (some ⟨z, 0, none⟩)), (1, .slice Ap np cp)] ((z, 58, (dkC 0 (.map none) (.slice none 0 0) (.map none) false 0 false)) :: hh) := H
  refine rgO H gs0 (rK [1, 0] [] [] <| rZ0 ?_)
  try clear H a W
  intro a W H
  refine hK3 _ _ ?_
  clear hK3
  refine wp_cond_true (H.ev rfl) ?_
  refine sqR H gs0 fun Z_ z_ => rK [1, 0] [] [] <| rS 1 rfl <| rK [1, 0] [] [] <| rN0 z_ ?_
  try clear H a W
  intro a W H
  refine wp_ret ?_
  repeat (first | (with_reducible refine then_ret ?_) | (with_reducible refine blk_ret ?_))
  refine end_tmp (p := 4) rfl rfl H (fun hb => ?_)
  refine ⟨rfl, ?_⟩
  show Kn w0 W ((z, .ty 58, (dkC 0 (.map none) (.slice none 0 0) (.map none) false 0 false)) :: hh)
  have H_ := H.pickF (h := [(z, .ty 58, (dkC 0 (.map none) (.slice none 0 0) (.map none) false 0 false))]) (t := hh) [] [0] rfl
  exact H_.kn
set_option maxHeartbeats 4000000 in
theorem edit_nil_ {hh : Hep} (n m : Int) (x : UInt8) (w0 w : World) (K : Kn w0 w (([] : Hep) ++ hh)) : Calls Try.prog 30 #[.pointer none, .int .i64 n, .int .i64 m, bv x] w (fun rr w' => rr = .returned (.int .i64 1) ∧ Kn w0 w' (([] : Hep) ++ hh)) := by
  refine calls_kn (vs := [.pointer none, .int .i64 n, .int .i64 m, bv x]) 77 Try.func30 rfl Try.ntmps30 rfl K (fun a W H => ?_)
  replace H : St 77 w0 a W [(0, .pointer none), (1, .int .i64 n), (2, .int .i64 m), (3, bv x)] (hh) := H
  refine sqR H gs0 fun Z_ z_ => rS 1 rfl <| rN0 z_ ?_
  try clear H a W
  intro a W H
  refine wp_seq_k (fun K2 hK2 => ?_)
  refine wp_seq_k (fun K3 hK3 => ?_)
  refine rgP H gs0 (rS 1 rfl <| rI0 ?_)
  try clear H a W
  intro a W H
  refine pl_callV rfl rfl ⟨_, Try.func40, by kernel_rfl⟩ rfl (fun K_ => isNone_nil (hh := hh) w0 _ K_) H ?_
  try clear H a W
  intro a W H
  replace H : St 77 w0 a W [(12, .bool true), (11, .pointer none), (8, .int .i64 0), (0, .pointer none), (1, .int .i64 n), (2, .int .i64 m), (3, bv x)] (hh) := H
  refine rgO H gs0 (rK [1, 0] [] [] <| rZ0 ?_)
  try clear H a W
  intro a W H
  refine hK3 _ _ ?_
  clear hK3
  refine wp_cond_true (H.ev rfl) ?_
  refine sqR H gs0 fun Z_ z_ => rK [1, 0] [] [] <| rS 1 rfl <| rK [1, 0] [] [] <| rN0 z_ ?_
  try clear H a W
  intro a W H
  refine wp_ret ?_
  repeat (first | (with_reducible refine then_ret ?_) | (with_reducible refine blk_ret ?_))
  refine end_tmp (p := 8) rfl rfl H (fun hb => ?_)
  refine ⟨rfl, ?_⟩
  show Kn w0 W (hh)
  have H_ := H.pickF (h := []) (t := hh) [] [] rfl
  exact H_.kn
set_option maxHeartbeats 4000000 in
theorem blocks_nil {hh : Hep}  (w0 w : World) (K : Kn w0 w (([] : Hep) ++ hh)) : Calls Try.prog 31 #[.pointer none] w (fun rr w' => rr = .returned (.int .i64 0) ∧ Kn w0 w' (([] : Hep) ++ hh)) := by
  refine calls_kn (vs := [.pointer none]) 9 Try.func31 rfl Try.ntmps31 rfl K (fun a W H => ?_)
  replace H : St 9 w0 a W [(0, .pointer none)] (hh) := H
  refine sqR H gs0 fun Z_ z_ => rS 1 rfl <| rN0 z_ ?_
  try clear H a W
  intro a W H
  refine wp_seq_k (fun K2 hK2 => ?_)
  refine wp_seq_k (fun K3 hK3 => ?_)
  refine rgP H gs0 (rS 1 rfl <| rI0 ?_)
  try clear H a W
  intro a W H
  refine pl_callV rfl rfl ⟨_, Try.func40, by kernel_rfl⟩ rfl (fun K_ => isNone_nil (hh := hh) w0 _ K_) H ?_
  try clear H a W
  intro a W H
  replace H : St 9 w0 a W [(4, .bool true), (3, .pointer none), (2, .int .i64 0), (0, .pointer none)] (hh) := H
  refine rgO H gs0 (rK [1, 0] [] [] <| rZ0 ?_)
  try clear H a W
  intro a W H
  refine hK3 _ _ ?_
  clear hK3
  refine wp_cond_true (H.ev rfl) ?_
  refine sqR H gs0 fun Z_ z_ => rK [1, 0] [] [] <| rS 1 rfl <| rK [1, 0] [] [] <| rN0 z_ ?_
  try clear H a W
  intro a W H
  refine wp_ret ?_
  repeat (first | (with_reducible refine then_ret ?_) | (with_reducible refine blk_ret ?_))
  refine end_tmp (p := 2) rfl rfl H (fun hb => ?_)
  refine ⟨rfl, ?_⟩
  show Kn w0 W (hh)
  have H_ := H.pickF (h := []) (t := hh) [] [] rfl
  exact H_.kn
set_option maxHeartbeats 4000000 in
theorem blocks_zero {z : Nat} {hh : Hep}  (w0 w : World) (K : Kn w0 w ([(z, .ty 58, (dkC 0 (.map none) (.slice none 0 0) (.map none) false 0 false))] ++ hh)) : Calls Try.prog 31 #[.pointer (some ⟨z, 0, none⟩)] w (fun rr w' => rr = .returned (.int .i64 0) ∧ Kn w0 w' ([(z, .ty 58, (dkC 0 (.map none) (.slice none 0 0) (.map none) false 0 false))] ++ hh)) := by
  refine calls_kn (vs := [.pointer (some ⟨z, 0, none⟩)]) 9 Try.func31 rfl Try.ntmps31 rfl K (fun a W H => ?_)
  replace H : St 9 w0 a W [(0, .pointer (some ⟨z, 0, none⟩))] ((z, 58, (dkC 0 (.map none) (.slice none 0 0) (.map none) false 0 false)) :: hh) := H
  refine sqR H gs0 fun Z_ z_ => rS 1 rfl <| rN0 z_ ?_
  try clear H a W
  intro a W H
  refine wp_seq_k (fun K2 hK2 => ?_)
  refine wp_seq_k (fun K3 hK3 => ?_)
  refine rgP H gs0 (rS 1 rfl <| rI0 ?_)
  try clear H a W
  intro a W H
  refine pl_callV rfl rfl ⟨_, Try.func40, by kernel_rfl⟩ rfl (fun K_ => isNone_zero (hh := hh) w0 _ K_) H ?_
  try clear H a W
  intro a W H
  replace H : St 9 w0 a W [(4, .bool true), (3, .pointer (some ⟨z, 0, none⟩)), (2, .int .i64 0), (0, .pointer (some ⟨z, 0, none⟩))] ((z, 58, (dkC 0 (.map none) (.slice none 0 0) (.map none) false 0 false)) :: hh) := H
  refine rgO H gs0 (rK [1, 0] [] [] <| rZ0 ?_)
  try clear H a W
  intro a W H
  refine hK3 _ _ ?_
  clear hK3
  refine wp_cond_true (H.ev rfl) ?_
  refine sqR H gs0 fun Z_ z_ => rK [1, 0] [] [] <| rS 1 rfl <| rK [1, 0] [] [] <| rN0 z_ ?_
  try clear H a W
  intro a W H
  refine wp_ret ?_
  repeat (first | (with_reducible refine then_ret ?_) | (with_reducible refine blk_ret ?_))
  refine end_tmp (p := 2) rfl rfl H (fun hb => ?_)
  refine ⟨rfl, ?_⟩
  show Kn w0 W ((z, .ty 58, (dkC 0 (.map none) (.slice none 0 0) (.map none) false 0 false)) :: hh)
  have H_ := H.pickF (h := [(z, .ty 58, (dkC 0 (.map none) (.slice none 0 0) (.map none) false 0 false))]) (t := hh) [] [0] rfl
  exact H_.kn
set_option maxHeartbeats 4000000 in
theorem copy_nil {hh : Hep}  (w0 w : World) (K : Kn w0 w (([] : Hep) ++ hh)) : Calls Try.prog 19 #[.pointer none] w (fun rr w' => rr = .returned (.pointer none) ∧ Kn w0 w' (([] : Hep) ++ hh)) := by
  refine calls_kn (vs := [.pointer none]) 27 Try.func19 rfl Try.ntmps19 rfl K (fun a W H => ?_)
  replace H : St 27 w0 a W [(0, .pointer none)] (hh) := H
  refine sqR H gs0 fun Z_ z_ => rS 1 rfl <| rN0 z_ ?_
  try clear H a W
  intro a W H
  refine wp_seq_k (fun K2 hK2 => ?_)
  refine wp_seq_k (fun K3 hK3 => ?_)
  refine rgP H gs0 (rS 1 rfl <| rI0 ?_)
  try clear H a W
  intro a W H
  refine pl_callV rfl rfl ⟨_, Try.func40, by kernel_rfl⟩ rfl (fun K_ => isNone_nil (hh := hh) w0 _ K_) H ?_
  try clear H a W
  intro a W H
  replace H : St 27 w0 a W [(5, .bool true), (4, .pointer none), (2, .pointer none), (0, .pointer none)] (hh) := H
  refine rgO H gs0 (rK [1, 0] [] [] <| rZ0 ?_)
  try clear H a W
  intro a W H
  refine hK3 _ _ ?_
  clear hK3
  refine wp_cond_true (H.ev rfl) ?_
  refine sqR H gs0 fun Z_ z_ => rK [1, 0] [] [] <| rS 1 rfl <| rK [1, 0] [] [] <| rN0 z_ ?_
  try clear H a W
  intro a W H
  refine wp_ret ?_
  repeat (first | (with_reducible refine then_ret ?_) | (with_reducible refine blk_ret ?_))
  refine end_tmp (p := 2) rfl rfl H (fun hb => ?_)
  refine ⟨rfl, ?_⟩
  show Kn w0 W (hh)
  have H_ := H.pickF (h := []) (t := hh) [] [] rfl
  exact H_.kn
set_option maxHeartbeats 4000000 in
theorem copy_zero {z : Nat} {hh : Hep}  (w0 w : World) (K : Kn w0 w ([(z, .ty 58, (dkC 0 (.map none) (.slice none 0 0) (.map none) false 0 false))] ++ hh)) : Calls Try.prog 19 #[.pointer (some ⟨z, 0, none⟩)] w (fun rr w' => rr = .returned (.pointer none) ∧ Kn w0 w' ([(z, .ty 58, (dkC 0 (.map none) (.slice none 0 0) (.map none) false 0 false))] ++ hh)) := by
  refine calls_kn (vs := [.pointer (some ⟨z, 0, none⟩)]) 27 Try.func19 rfl Try.ntmps19 rfl K (fun a W H => ?_)
  replace H : St 27 w0 a W [(0, .pointer (some ⟨z, 0, none⟩))] ((z, 58, (dkC 0 (.map none) (.slice none 0 0) (.map none) false 0 false)) :: hh) := H
  refine sqR H gs0 fun Z_ z_ => rS 1 rfl <| rN0 z_ ?_
  try clear H a W
  intro a W H
  refine wp_seq_k (fun K2 hK2 => ?_)
  refine wp_seq_k (fun K3 hK3 => ?_)
  refine rgP H gs0 (rS 1 rfl <| rI0 ?_)
  try clear H a W
  intro a W H
  refine pl_callV rfl rfl ⟨_, Try.func40, by kernel_rfl⟩ rfl (fun K_ => isNone_zero (hh := hh) w0 _ K_) H ?_
  try clear H a W
  intro a W H
  replace H : St 27 w0 a W [(5, .bool true), (4, .pointer (some ⟨z, 0, none⟩)), (2, .pointer none), (0, .pointer (some ⟨z, 0, none⟩))] ((z, 58, (dkC 0 (.map none) (.slice none 0 0) (.map none) false 0 false)) :: hh) := H
  refine rgO H gs0 (rK [1, 0] [] [] <| rZ0 ?_)
  try clear H a W
  intro a W H
  refine hK3 _ _ ?_
  clear hK3
  refine wp_cond_true (H.ev rfl) ?_
  refine sqR H gs0 fun Z_ z_ => rK [1, 0] [] [] <| rS 1 rfl <| rK [1, 0] [] [] <| rN0 z_ ?_
  try clear H a W
  intro a W H
  refine wp_ret ?_
  repeat (first | (with_reducible refine then_ret ?_) | (with_reducible refine blk_ret ?_))
  refine end_tmp (p := 2) rfl rfl H (fun hb => ?_)
  refine ⟨rfl, ?_⟩
  show Kn w0 W ((z, .ty 58, (dkC 0 (.map none) (.slice none 0 0) (.map none) false 0 false)) :: hh)
  have H_ := H.pickF (h := [(z, .ty 58, (dkC 0 (.map none) (.slice none 0 0) (.map none) false 0 false))]) (t := hh) [] [0] rfl
  exact H_.kn
set_option maxHeartbeats 4000000 in
theorem dead_nil {hh : Hep}  (w0 w : World) (K : Kn w0 w (([] : Hep) ++ hh)) : Calls Try.prog 22 #[.pointer none] w (fun rr w' => rr = .returned (.bool false) ∧ Kn w0 w' (([] : Hep) ++ hh)) := by
  refine calls_kn (vs := [.pointer none]) 12 Try.func22 rfl Try.ntmps22 rfl K (fun a W H => ?_)
  replace H : St 12 w0 a W [(0, .pointer none)] (hh) := H
  refine sqR H gs0 fun Z_ z_ => rS 1 rfl <| rN0 z_ ?_
  try clear H a W
  intro a W H
  refine wp_seq_k (fun K2 hK2 => ?_)
  refine rgP H gs0 (rS 1 rfl <| rI0 ?_)
  try clear H a W
  intro a W H
  refine pl_callV rfl rfl ⟨_, Try.func40, by kernel_rfl⟩ rfl (fun K_ => isNone_nil (hh := hh) w0 _ K_) H ?_
  try clear H a W
  intro a W H
  replace H : St 12 w0 a W [(4, .bool true), (3, .pointer none), (2, .bool false), (0, .pointer none)] (hh) := H
  refine rgO H gs0 (rS 7 rfl <| rK [1, 1, 1, 1, 1, 1, 1, 1, 1, 0] [] [] <| rS 1 rfl <| rK [1, 0, 0, 0, 0, 0, 0, 0, 0, 0, 0] [] [] <| rZ0 ?_)
  try clear H a W
  intro a W H
  refine hK2 _ _ ?_
  clear hK2
  refine wp_ret ?_
  repeat (first | (with_reducible refine then_ret ?_) | (with_reducible refine blk_ret ?_))
  refine end_tmp (p := 2) rfl rfl H (fun hb => ?_)
  refine ⟨rfl, ?_⟩
  show Kn w0 W (hh)
  have H_ := H.pickF (h := []) (t := hh) [] [] rfl
  exact H_.kn
set_option maxHeartbeats 4000000 in
theorem unsynced_zero {z : Nat} {hh : Hep}  (w0 w : World) (K : Kn w0 w ([(z, .ty 58, (dkC 0 (.map none) (.slice none 0 0) (.map none) false 0 false))] ++ hh)) : Calls Try.prog 21 #[.pointer (some ⟨z, 0, none⟩)] w (fun rr w' => rr = .returned (.int .i64 0) ∧ Kn w0 w' ([(z, .ty 58, (dkC 0 (.map none) (.slice none 0 0) (.map none) false 0 false))] ++ hh)) := by
  refine calls_kn (vs := [.pointer (some ⟨z, 0, none⟩)]) 10 Try.func21 rfl Try.ntmps21 rfl K (fun a W H => ?_)
  replace H : St 10 w0 a W [(0, .pointer (some ⟨z, 0, none⟩))] ((z, 58, (dkC 0 (.map none) (.slice none 0 0) (.map none) false 0 false)) :: hh) := H
  refine sqR H gs0 fun Z_ z_ => rS 1 rfl <| rN0 z_ ?_
  try clear H a W
  intro a W H
  refine wp_seq_k (fun K2 hK2 => ?_)
  refine wp_seq_k (fun K3 hK3 => ?_)
  refine rgP H gs0 (rS 1 rfl <| rI0 ?_)
  try clear H a W
  intro a W H
  refine pl_callV rfl rfl ⟨_, Try.func40, by kernel_rfl⟩ rfl (fun K_ => isNone_zero (hh := hh) w0 _ K_) H ?_
  try clear H a W
  intro a W H
  replace H : St 10 w0 a W [(4, .bool true), (3, .pointer (some ⟨z, 0, none⟩)), (2, .int .i64 0), (0, .pointer (some ⟨z, 0, none⟩))] ((z, 58, (dkC 0 (.map none) (.slice none 0 0) (.map none) false 0 false)) :: hh) := H
  refine rgO H gs0 (rK [1, 0] [] [] <| rZ0 ?_)
  try clear H a W
  intro a W H
  refine hK3 _ _ ?_
  clear hK3
  refine wp_cond_true (H.ev rfl) ?_
  refine sqR H gs0 fun Z_ z_ => rK [1, 0] [] [] <| rS 1 rfl <| rK [1, 0] [] [] <| rN0 z_ ?_
  try clear H a W
  intro a W H
  refine wp_ret ?_
  repeat (first | (with_reducible refine then_ret ?_) | (with_reducible refine blk_ret ?_))
  refine end_tmp (p := 2) rfl rfl H (fun hb => ?_)
  refine ⟨rfl, ?_⟩
  show Kn w0 W ((z, .ty 58, (dkC 0 (.map none) (.slice none 0 0) (.map none) false 0 false)) :: hh)
  have H_ := H.pickF (h := [(z, .ty 58, (dkC 0 (.map none) (.slice none 0 0) (.map none) false 0 false))]) (t := hh) [] [0] rfl
  exact H_.kn
set_option maxHeartbeats 4000000 in
theorem same_nil_zero {z : Nat} {hh : Hep} (w0 w : World) (K : Kn w0 w ([(z, .ty 58, (dkC 0 (.map none) (.slice none 0 0) (.map none) false 0 false))] ++ hh)) : Calls Try.prog 20 #[.pointer none, .pointer (some ⟨z, 0, none⟩)] w (fun rr w' => rr = .returned (.bool true) ∧ Kn w0 w' ([(z, .ty 58, (dkC 0 (.map none) (.slice none 0 0) (.map none) false 0 false))] ++ hh)) := by
  refine calls_kn (vs := [.pointer none, .pointer (some ⟨z, 0, none⟩)]) 24 Try.func20 rfl Try.ntmps20 rfl K (fun a W H => ?_)
  replace H : St 24 w0 a W [(0, .pointer none), (1, .pointer (some ⟨z, 0, none⟩))] ((z, 58, (dkC 0 (.map none) (.slice none 0 0) (.map none) false 0 false)) :: hh) := H
  refine sqR H gs0 fun Z_ z_ => rS 1 rfl <| rN0 z_ ?_
  try clear H a W
  intro a W H
  refine wp_seq_k (fun K2 hK2 => ?_)
  refine wp_seq_k (fun K3 hK3 => ?_)
  refine rgP H gs0 (rS 1 rfl <| rI0 ?_)
  try clear H a W
  intro a W H
  refine pl_callV rfl rfl ⟨_, Try.func31, by kernel_rfl⟩ rfl (fun K_ => blocks_nil (hh := ([(z, .ty 58, (dkC 0 (.map none) (.slice none 0 0) (.map none) false 0 false))] ++ hh))  w0 _ K_) H ?_
  try clear H a W
  intro a W H
  replace H : St 24 w0 a W [(7, .int .i64 0), (6, .pointer none), (4, .bool false), (0, .pointer none), (1, .pointer (some ⟨z, 0, none⟩))] ((z, 58, (dkC 0 (.map none) (.slice none 0 0) (.map none) false 0 false)) :: hh) := H
  refine rgO H gs0 (rS 1 rfl <| rI0 ?_)
  try clear H a W
  intro a W H
  refine pl_callV rfl rfl ⟨_, Try.func31, by kernel_rfl⟩ rfl (fun K_ => blocks_zero (hh := hh)  w0 _ K_) H ?_
  try clear H a W
  intro a W H
  replace H : St 24 w0 a W [(9, .int .i64 0), (8, .pointer (some ⟨z, 0, none⟩)), (7, .int .i64 0), (6, .pointer none), (4, .bool false), (0, .pointer none), (1, .pointer (some ⟨z, 0, none⟩))] ((z, 58, (dkC 0 (.map none) (.slice none 0 0) (.map none) false 0 false)) :: hh) := H
  refine rgO H gs0 (rV rfl (does_binOp rfl rfl rfl (zd_neq_int (k := 0) (m := 0) (decide_eq_false (by omega)) _ _)) <| rK [1, 0, 0, 0, 0] [] [] <| rZ0 ?_)
  try clear H a W
  intro a W H
  refine hK3 _ _ ?_
  clear hK3
  refine wp_cond_false (H.ev rfl) ?_
  refine wp_skip ?_
  refine hK2 _ _ ?_
  clear hK2
  refine wp_seq_k (fun K4 hK4 => ?_)
  refine wp_seq_k (fun K5 hK5 => ?_)
  refine rgP H gs0 (rS 1 rfl <| rI0 ?_)
  try clear H a W
  intro a W H
  refine pl_callV rfl rfl ⟨_, Try.func31, by kernel_rfl⟩ rfl (fun K_ => blocks_nil (hh := ([(z, .ty 58, (dkC 0 (.map none) (.slice none 0 0) (.map none) false 0 false))] ++ hh))  w0 _ K_) H ?_
  try clear H a W
  intro a W H
  replace H : St 24 w0 a W [(12, .int .i64 0), (11, .pointer none), (10, .bool false), (4, .bool false), (0, .pointer none), (1, .pointer (some ⟨z, 0, none⟩))] ((z, 58, (dkC 0 (.map none) (.slice none 0 0) (.map none) false 0 false)) :: hh) := H
  refine rgO H gs0 (rS 1 rfl <| rK [1, 1, 0, 0] [] [] <| rZ0 ?_)
  try clear H a W
  intro a W H
  refine hK5 _ _ ?_
  clear hK5
  refine wp_block ?_
  replace H : St 24 w0 a W [(13, .int .i64 ((0 : Nat) : Int)), (12, .int .i64 0), (4, .bool false), (0, .pointer none), (1, .pointer (some ⟨z, 0, none⟩))] ((z, 58, (dkC 0 (.map none) (.slice none 0 0) (.map none) false 0 false)) :: hh) := H.pickF (h := [(z, 58, (dkC 0 (.map none) (.slice none 0 0) (.map none) false 0 false))]) (t := hh) [0, 1, 2, 3, 4] [0] rfl
  refine wp_rounds 0 (fun k a W => St 24 w0 a W [(13, .int .i64 ((k : Nat) : Int)), (12, .int .i64 0), (4, .bool false), (0, .pointer none), (1, .pointer (some ⟨z, 0, none⟩))] ((z, 58, (dkC 0 (.map none) (.slice none 0 0) (.map none) false 0 false)) :: hh)) (k0 := 0) H (by omega) ?_
  try clear H a W
  intro k a W hk H
  obtain rfl : k = 0 := by omega
  refine sqR H gs0 fun Z_ z_ => rV rfl (does_binOp rfl rfl rfl (zd_lss_int (k := ((0 : Nat) : Int)) (m := 0) (decide_eq_false (by omega)) _ _)) <| rK [1, 1, 0] [] [] <| rN0 z_ ?_
  try clear H a W
  intro a W H
  refine wp_seq_k (fun K7 hK7 => ?_)
  refine wp_cond_false (H.ev rfl) ?_
  refine wp_exit ?_
  repeat (first | (with_reducible refine then_exit ?_) | (with_reducible refine blk_pass (by decide) ?_))
  refine blk_exit ?_
  refine hK4 _ _ ?_
  clear hK4
  refine sqR H gs0 fun Z_ z_ => rK [1, 1, 0] [] [] <| rS 1 rfl <| rK [1, 0, 0, 0, 0] [] [] <| rN0 z_ ?_
  try clear H a W
  intro a W H
  refine wp_ret ?_
  repeat (first | (with_reducible refine then_ret ?_) | (with_reducible refine blk_ret ?_))
  refine end_tmp (p := 4) rfl rfl H (fun hb => ?_)
  refine ⟨rfl, ?_⟩
  show Kn w0 W ((z, .ty 58, (dkC 0 (.map none) (.slice none 0 0) (.map none) false 0 false)) :: hh)
  have H_ := H.pickF (h := [(z, .ty 58, (dkC 0 (.map none) (.slice none 0 0) (.map none) false 0 false))]) (t := hh) [] [0] rfl
  exact H_.kn
set_option maxHeartbeats 4000000 in
theorem same_nil_po {p : Nat} {D : Dk} {r hh : Hep} (hP : PO p D r) (w0 w : World) (K : Kn w0 w (r ++ hh)) : Calls Try.prog 20 #[.pointer none, .pointer (some ⟨p, 0, none⟩)] w (fun rr w' => rr = .returned (.bool false) ∧ Kn w0 w' (r ++ hh)) := by
  have hnb := hP.nb
  refine calls_kn (vs := [.pointer none, .pointer (some ⟨p, 0, none⟩)]) 24 Try.func20 rfl Try.ntmps20 rfl K (fun a W H => ?_)
  replace H : St 24 w0 a W [(0, .pointer none), (1, .pointer (some ⟨p, 0, none⟩))] ((r ++ hh)) := H
  refine sqR H gs0 fun Z_ z_ => rS 1 rfl <| rN0 z_ ?_
  try clear H a W
  intro a W H
  refine wp_seq_k (fun K2 hK2 => ?_)
  refine wp_seq_k (fun K3 hK3 => ?_)
  refine rgP H gs0 (rS 1 rfl <| rI0 ?_)
  try clear H a W
  intro a W H
  refine pl_callV rfl rfl ⟨_, Try.func31, by kernel_rfl⟩ rfl (fun K_ => blocks_nil (hh := (r ++ hh)) w0 _ K_) H ?_
  try clear H a W
  intro a W H
  replace H : St 24 w0 a W [(7, .int .i64 0), (6, .pointer none), (4, .bool false), (0, .pointer none), (1, .pointer (some ⟨p, 0, none⟩))] ((r ++ hh)) := H
  refine rgO H gs0 (rS 1 rfl <| rI0 ?_)
  try clear H a W
  intro a W H
  refine pl_callV rfl rfl ⟨_, Try.func31, by kernel_rfl⟩ rfl (fun K_ => po_blocks (hh := hh) hP w0 _ K_) H ?_
  try clear H a W
  intro a W H
  replace H : St 24 w0 a W [(9, .int .i64 ((D.B.length : Nat) : Int)), (8, .pointer (some ⟨p, 0, none⟩)), (7, .int .i64 0), (6, .pointer none), (4, .bool false), (0, .pointer none), (1, .pointer (some ⟨p, 0, none⟩))] ((r ++ hh)) := H
  refine rgO H gs0 (rV rfl (does_binOp rfl rfl rfl (zd_neq_int (k := 0) (m := ((D.B.length : Nat) : Int)) (decide_eq_true (by omega)) _ _)) <| rK [1, 0, 0, 0, 0] [] [] <| rZ0 ?_)
  try clear H a W
  intro a W H
  refine hK3 _ _ ?_
  clear hK3
  refine wp_cond_true (H.ev rfl) ?_
  refine sqR H gs0 fun Z_ z_ => rK [1, 0] [] [] <| rS 1 rfl <| rK [1, 0] [] [] <| rN0 z_ ?_
  try clear H a W
  intro a W H
  refine wp_ret ?_
  repeat (first | (with_reducible refine then_ret ?_) | (with_reducible refine blk_ret ?_))
  refine end_tmp (p := 4) rfl rfl H (fun hb => ?_)
  exact ⟨rfl, H.kn⟩
theorem po_write_nil {p : Nat} {D : Dk} {r hh : Hep} (h : PO p D r) (n : Int) (w0 w : World) (K : Kn w0 w (r ++ hh)) : Calls Try.prog 28 #[.pointer (some ⟨p, 0, none⟩), .int .i64 n, .slice none 0 0] w (fun rr w' => rr = .returned (.int .i64 2) ∧ Kn w0 w' (r ++ hh)) := by
  obtain ⟨X, rfl, hX⟩ := h
  by_cases hn : 0 ≤ n ∧ n < (D.B.length : Int)
  · obtain ⟨m, rfl⟩ := Int.eq_ofNat_of_zero_le hn.1
    exact write_no2 (by decide) m (by omega) (by decide) hX w0 w K
  · exact write_no1 (by decide) n (decide_eq_false hn) hX w0 w K
theorem nd_fuse : dFuse (dNew 8192) (-1) = (dNew 8192, 2) := if_pos (by decide)
theorem nd_edit (x : UInt8) : dEdit (dNew 8192) 0 512 x = (dNew 8192, 2) := if_neg fun h => absurd h.2.2 (by decide)
set_option maxHeartbeats 4000000 in
theorem law_nil (w : World) : Calls Try.prog 7 #[] w (fun rr w' => rr = .returned (.bool true) ∧ Below w.heap.size w w') := by
  have hB8 : (dNew 8192).B.length = 8192 := List.length_replicate
  refine calls_st (vs := []) 156 Try.func7 rfl Try.ntmps7 rfl (fun a W H => ?_)
  replace H : St 156 w a W [] (([] : Hep)) := H
  refine sqR H gs0 fun Z_ z_ => rS 1 rfl <| rN0 z_ ?_
  try clear H a W
  intro a W H
  refine sqR H gs0 fun Z_ z_ => rS 1 rfl <| rN0 z_ ?_
  try clear H a W
  intro a W H
  refine sqR H gs0 fun Z_ z_ => rV rfl (does_build (ps := []) rfl rfl bd_disk0) <| rB rfl rfl rfl (bx_disk _) fun g1 => rS 1 rfl <| rK [1, 0, 0] [] [] <| rN0 z_ ?_
  try clear H a W
  intro a W H
  refine wp_seq_k (fun K4 hK4 => ?_)
  refine rgP H gs0 (rS 1 rfl <| rI0 ?_)
  try clear H a W
  intro a W H
  refine pl_callV rfl rfl ⟨_, Try.func18, by kernel_rfl⟩ rfl (fun K_ => read_nil (hh := ([(g1, .ty 58, dkC 0 (.map none) (.slice none 0 0) (.map none) false 0 false)] ++ ([] : Hep))) 0 w _ K_) H ?_
  try clear H a W
  intro a W H
  replace H : St 156 w a W [(20, .tuple #[.slice none 0 0, .int .i64 1]), (19, .pointer none), (2, .pointer (some ⟨g1, 0, none⟩)), (1, .pointer none), (0, .bool false)] ((g1, 58, dkC 0 (.map none) (.slice none 0 0) (.map none) false 0 false) :: ([] : Hep)) := H
  refine rgO H gs0 (rS 5 rfl <| rK [1, 0, 0, 0, 0, 0, 0] [] [] <| rZ0 ?_)
  try clear H a W
  intro a W H
  refine hK4 _ _ ?_
  clear hK4
  refine wp_seq_k (fun K5 hK5 => ?_)
  refine rgP H gs0 (rS 1 rfl <| rI0 ?_)
  try clear H a W
  intro a W H
  refine pl_callV rfl rfl ⟨_, Try.func18, by kernel_rfl⟩ rfl (fun K_ => read_zero (hh := ([] : Hep)) 0 w _ K_) H ?_
  try clear H a W
  intro a W H
  replace H : St 156 w a W [(25, .tuple #[.slice none 0 0, .int .i64 1]), (24, .pointer (some ⟨g1, 0, none⟩)), (4, .int .i64 1), (2, .pointer (some ⟨g1, 0, none⟩)), (1, .pointer none), (0, .bool false)] ((g1, 58, dkC 0 (.map none) (.slice none 0 0) (.map none) false 0 false) :: ([] : Hep)) := H
  refine rgO H gs0 (rS 5 rfl <| rK [1, 0, 0, 0, 0, 0, 0] [] [] <| rZ0 ?_)
  try clear H a W
  intro a W H
  refine hK5 _ _ ?_
  clear hK5
  refine wp_seq_k (fun K6 hK6 => ?_)
  refine rg_plain ?_
  refine pl_callV rfl rfl ⟨_, Try.func12, by kernel_rfl⟩ rfl (fun K_ => new_no1 (hh := ([(g1, .ty 58, dkC 0 (.map none) (.slice none 0 0) (.map none) false 0 false)] ++ ([] : Hep))) 0 (by decide) w _ K_) H ?_
  try clear H a W
  intro a W H
  replace H : St 156 w a W [(29, .tuple #[.pointer none, .int .i64 2]), (6, .int .i64 1), (4, .int .i64 1), (2, .pointer (some ⟨g1, 0, none⟩)), (1, .pointer none), (0, .bool false)] ((g1, 58, dkC 0 (.map none) (.slice none 0 0) (.map none) false 0 false) :: ([] : Hep)) := H
  refine rgO H gs0 (rS 5 rfl <| rK [1, 0, 0, 0, 0, 0] [] [] <| rZ0 ?_)
  try clear H a W
  intro a W H
  refine hK6 _ _ ?_
  clear hK6
  refine wp_seq_k (fun K7 hK7 => ?_)
  refine rg_plain ?_
  replace H : St 156 w a W [(8, .int .i64 2), (6, .int .i64 1), (4, .int .i64 1), (2, .pointer (some ⟨g1, 0, none⟩)), (1, .pointer none), (0, .bool false)] (([(g1, .ty 58, dkC 0 (.map none) (.slice none 0 0) (.map none) false 0 false)] : Hep) ++ ([] : Hep)) := H
  refine pl_callX rfl rfl ⟨_, Try.func12, by kernel_rfl⟩ rfl (fun K_ => po_new (hh := (([(g1, .ty 58, dkC 0 (.map none) (.slice none 0 0) (.map none) false 0 false)] : Hep) ++ ([] : Hep))) 8192 (by omega) w _ K_) H ?_
  try clear H a W
  rintro ⟨p4, r4⟩ a W hP4 H
  replace hP4 : PO p4 (dNew 8192) r4 := hP4
  replace H := H.perm' (List.perm_append_comm_assoc r4 ([(g1, .ty 58, dkC 0 (.map none) (.slice none 0 0) (.map none) false 0 false)] : Hep) ([] : Hep))
  replace H : St 156 w a W [(33, .tuple #[.pointer (some ⟨p4, 0, none⟩), .int .i64 0]), (8, .int .i64 2), (6, .int .i64 1), (4, .int .i64 1), (2, .pointer (some ⟨g1, 0, none⟩)), (1, .pointer none), (0, .bool false)] ((g1, 58, dkC 0 (.map none) (.slice none 0 0) (.map none) false 0 false) :: (r4 ++ ([] : Hep))) := H
  refine rgO H gs0 (rS 5 rfl <| rK [1, 1, 0, 0, 0, 0] [] [] <| rZ0 ?_)
  try clear H a W
  intro a W H
  refine hK7 _ _ ?_
  clear hK7
  refine wp_seq_k (fun K8 hK8 => ?_)
  refine rg_plain ?_
  refine pl_callV rfl rfl ⟨_, Try.func12, by kernel_rfl⟩ rfl (fun K_ => new_no2 (hh := ([(g1, .ty 58, dkC 0 (.map none) (.slice none 0 0) (.map none) false 0 false)] ++ (r4 ++ ([] : Hep)))) 8193 (by decide) w _ K_) H ?_
  try clear H a W
  intro a W H
  replace H : St 156 w a W [(37, .tuple #[.pointer none, .int .i64 2]), (10, .int .i64 0), (9, .pointer (some ⟨p4, 0, none⟩)), (8, .int .i64 2), (6, .int .i64 1), (4, .int .i64 1), (2, .pointer (some ⟨g1, 0, none⟩)), (1, .pointer none), (0, .bool false)] ((g1, 58, dkC 0 (.map none) (.slice none 0 0) (.map none) false 0 false) :: (r4 ++ ([] : Hep))) := H
  refine rgO H gs0 (rS 5 rfl <| rK [1, 0, 0, 0, 0, 0] [] [] <| rZ0 ?_)
  try clear H a W
  intro a W H
  refine hK8 _ _ ?_
  clear hK8
  refine wp_seq_k (fun K9 hK9 => ?_)
  refine sqR H gs0 fun Z_ z_ => rS 1 rfl <| rV rfl (does_binOp rfl rfl rfl (fun W => ptr_nil W)) <| rK [1, 0] [] [] <| rN0 z_ ?_
  try clear H a W
  intro a W H
  refine wp_cond_false (H.ev rfl) ?_
  refine wp_skip ?_
  refine hK9 _ _ ?_
  clear hK9
  refine wp_seq_k (fun K11 hK11 => ?_)
  refine rgP H gs0 (rS 1 rfl <| rI0 ?_)
  try clear H a W
  intro a W H
  replace H : St 156 w a W [(43, .pointer (some ⟨p4, 0, none⟩)), (41, .bool false), (12, .int .i64 2), (10, .int .i64 0), (9, .pointer (some ⟨p4, 0, none⟩)), (8, .int .i64 2), (6, .int .i64 1), (4, .int .i64 1), (2, .pointer (some ⟨g1, 0, none⟩)), (1, .pointer none), (0, .bool false)] (r4 ++ (([(g1, .ty 58, dkC 0 (.map none) (.slice none 0 0) (.map none) false 0 false)] : Hep) ++ ([] : Hep))) := H.perm' (((List.Perm.refl _).append_left ([(g1, .ty 58, dkC 0 (.map none) (.slice none 0 0) (.map none) false 0 false)] : Hep)).trans (List.perm_append_comm_assoc ([(g1, .ty 58, dkC 0 (.map none) (.slice none 0 0) (.map none) false 0 false)] : Hep) r4 ([] : Hep)))
  refine pl_callV rfl rfl ⟨_, Try.func18, by kernel_rfl⟩ rfl (fun K_ => po_read_no (hh := (([(g1, .ty 58, dkC 0 (.map none) (.slice none 0 0) (.map none) false 0 false)] : Hep) ++ ([] : Hep))) hP4 8192 (by omega) w _ K_) H ?_
  try clear H a W
  intro a W H
  replace H := H.perm' (List.perm_append_comm_assoc r4 ([(g1, .ty 58, dkC 0 (.map none) (.slice none 0 0) (.map none) false 0 false)] : Hep) ([] : Hep))
  replace H : St 156 w a W [(44, .tuple #[.slice none 0 0, .int .i64 2]), (43, .pointer (some ⟨p4, 0, none⟩)), (41, .bool false), (12, .int .i64 2), (10, .int .i64 0), (9, .pointer (some ⟨p4, 0, none⟩)), (8, .int .i64 2), (6, .int .i64 1), (4, .int .i64 1), (2, .pointer (some ⟨g1, 0, none⟩)), (1, .pointer none), (0, .bool false)] ((g1, 58, dkC 0 (.map none) (.slice none 0 0) (.map none) false 0 false) :: (r4 ++ ([] : Hep))) := H
  refine rgO H gs0 (rS 5 rfl <| rK [1, 0, 0, 0, 0, 0, 0, 0] [] [] <| rZ0 ?_)
  try clear H a W
  intro a W H
  refine hK11 _ _ ?_
  clear hK11
  refine wp_seq_k (fun K12 hK12 => ?_)
  refine rgP H gs0 (rS 1 rfl <| rV rfl (does_call rfl ⟨_, Try.func13, by kernel_rfl⟩ rfl (fun W hb => num_any _ W)) <| rS 1 rfl <| rV rfl (does_call rfl ⟨_, Try.func13, by kernel_rfl⟩ rfl (fun W hb => num_any _ W)) <| rV rfl (does_binOp rfl rfl rfl (zd_add_int (k := 1) (m := 1) (c := ((1 + 1 : Nat) : Int)) (by omega) (by omega) _ _)) <| rS 1 rfl <| rI0 ?_)
  try clear H a W
  intro a W H
  refine pl_callV rfl rfl ⟨_, Try.func28, by kernel_rfl⟩ rfl (fun K_ => write_nil (hh := ([(g1, .ty 58, dkC 0 (.map none) (.slice none 0 0) (.map none) false 0 false)] ++ (r4 ++ ([] : Hep)))) 0 w _ K_) H ?_
  try clear H a W
  intro a W H
  replace H : St 156 w a W [(53, .int .i64 1), (52, .pointer none), (51, .int .i64 ((1 + 1 : Nat) : Int)), (50, .int .i64 1), (49, .int .i64 1), (48, .int .i64 1), (47, .int .i64 1), (14, .int .i64 2), (12, .int .i64 2), (10, .int .i64 0), (9, .pointer (some ⟨p4, 0, none⟩)), (8, .int .i64 2), (6, .int .i64 1), (4, .int .i64 1), (2, .pointer (some ⟨g1, 0, none⟩)), (1, .pointer none), (0, .bool false)] ((g1, 58, dkC 0 (.map none) (.slice none 0 0) (.map none) false 0 false) :: (r4 ++ ([] : Hep))) := H
  refine rgO H gs0 (rV rfl (does_call rfl ⟨_, Try.func13, by kernel_rfl⟩ rfl (fun W hb => num_any _ W)) <| rV rfl (does_binOp rfl rfl rfl (zd_add_int (k := ((1 + 1 : Nat) : Int)) (m := 1) (c := ((1 + 1 + 1 : Nat) : Int)) (by omega) (by omega) _ _)) <| rS 1 rfl <| rI0 ?_)
  try clear H a W
  intro a W H
  refine pl_callV rfl rfl ⟨_, Try.func27, by kernel_rfl⟩ rfl (fun K_ => sync_zero (hh := (r4 ++ ([] : Hep)))  w _ K_) H ?_
  try clear H a W
  intro a W H
  replace H : St 156 w a W [(57, .int .i64 1), (56, .pointer (some ⟨g1, 0, none⟩)), (55, .int .i64 ((1 + 1 + 1 : Nat) : Int)), (54, .int .i64 1), (53, .int .i64 1), (52, .pointer none), (51, .int .i64 ((1 + 1 : Nat) : Int)), (50, .int .i64 1), (49, .int .i64 1), (48, .int .i64 1), (47, .int .i64 1), (14, .int .i64 2), (12, .int .i64 2), (10, .int .i64 0), (9, .pointer (some ⟨p4, 0, none⟩)), (8, .int .i64 2), (6, .int .i64 1), (4, .int .i64 1), (2, .pointer (some ⟨g1, 0, none⟩)), (1, .pointer none), (0, .bool false)] ((g1, 58, dkC 0 (.map none) (.slice none 0 0) (.map none) false 0 false) :: (r4 ++ ([] : Hep))) := H
  refine rgO H gs0 (rV rfl (does_call rfl ⟨_, Try.func13, by kernel_rfl⟩ rfl (fun W hb => num_any _ W)) <| rV rfl (does_binOp rfl rfl rfl (zd_add_int (k := ((1 + 1 + 1 : Nat) : Int)) (m := 1) (c := ((1 + 1 + 1 + 1 : Nat) : Int)) (by omega) (by omega) _ _)) <| rS 1 rfl <| rI0 ?_)
  try clear H a W
  intro a W H
  refine pl_callV rfl rfl ⟨_, Try.func26, by kernel_rfl⟩ rfl (fun K_ => fuse_nil (hh := ([(g1, .ty 58, dkC 0 (.map none) (.slice none 0 0) (.map none) false 0 false)] ++ (r4 ++ ([] : Hep)))) 1 w _ K_) H ?_
  try clear H a W
  intro a W H
  replace H : St 156 w a W [(61, .int .i64 1), (60, .pointer none), (59, .int .i64 ((1 + 1 + 1 + 1 : Nat) : Int)), (58, .int .i64 1), (57, .int .i64 1), (56, .pointer (some ⟨g1, 0, none⟩)), (55, .int .i64 ((1 + 1 + 1 : Nat) : Int)), (54, .int .i64 1), (53, .int .i64 1), (52, .pointer none), (51, .int .i64 ((1 + 1 : Nat) : Int)), (50, .int .i64 1), (49, .int .i64 1), (48, .int .i64 1), (47, .int .i64 1), (14, .int .i64 2), (12, .int .i64 2), (10, .int .i64 0), (9, .pointer (some ⟨p4, 0, none⟩)), (8, .int .i64 2), (6, .int .i64 1), (4, .int .i64 1), (2, .pointer (some ⟨g1, 0, none⟩)), (1, .pointer none), (0, .bool false)] ((g1, 58, dkC 0 (.map none) (.slice none 0 0) (.map none) false 0 false) :: (r4 ++ ([] : Hep))) := H
  refine rgO H gs0 (rV rfl (does_call rfl ⟨_, Try.func13, by kernel_rfl⟩ rfl (fun W hb => num_any _ W)) <| rV rfl (does_binOp rfl rfl rfl (zd_add_int (k := ((1 + 1 + 1 + 1 : Nat) : Int)) (m := 1) (c := ((1 + 1 + 1 + 1 + 1 : Nat) : Int)) (by omega) (by omega) _ _)) <| rS 1 rfl <| rI0 ?_)
  try clear H a W
  intro a W H
  refine pl_callV rfl rfl ⟨_, Try.func23, by kernel_rfl⟩ rfl (fun K_ => crash_zero (hh := (r4 ++ ([] : Hep)))  w _ K_) H ?_
  try clear H a W
  intro a W H
  replace H : St 156 w a W [(65, .int .i64 1), (64, .pointer (some ⟨g1, 0, none⟩)), (63, .int .i64 ((1 + 1 + 1 + 1 + 1 : Nat) : Int)), (62, .int .i64 1), (61, .int .i64 1), (60, .pointer none), (59, .int .i64 ((1 + 1 + 1 + 1 : Nat) : Int)), (58, .int .i64 1), (57, .int .i64 1), (56, .pointer (some ⟨g1, 0, none⟩)), (55, .int .i64 ((1 + 1 + 1 : Nat) : Int)), (54, .int .i64 1), (53, .int .i64 1), (52, .pointer none), (51, .int .i64 ((1 + 1 : Nat) : Int)), (50, .int .i64 1), (49, .int .i64 1), (48, .int .i64 1), (47, .int .i64 1), (14, .int .i64 2), (12, .int .i64 2), (10, .int .i64 0), (9, .pointer (some ⟨p4, 0, none⟩)), (8, .int .i64 2), (6, .int .i64 1), (4, .int .i64 1), (2, .pointer (some ⟨g1, 0, none⟩)), (1, .pointer none), (0, .bool false)] ((g1, 58, dkC 0 (.map none) (.slice none 0 0) (.map none) false 0 false) :: (r4 ++ ([] : Hep))) := H
  refine rgO H gs0 (rV rfl (does_call rfl ⟨_, Try.func13, by kernel_rfl⟩ rfl (fun W hb => num_any _ W)) <| rV rfl (does_binOp rfl rfl rfl (zd_add_int (k := ((1 + 1 + 1 + 1 + 1 : Nat) : Int)) (m := 1) (c := ((1 + 1 + 1 + 1 + 1 + 1 : Nat) : Int)) (by omega) (by omega) _ _)) <| rS 1 rfl <| rI0 ?_)
  try clear H a W
  intro a W H
  refine pl_callV rfl rfl ⟨_, Try.func30, by kernel_rfl⟩ rfl (fun K_ => edit_nil_ (hh := ([(g1, .ty 58, dkC 0 (.map none) (.slice none 0 0) (.map none) false 0 false)] ++ (r4 ++ ([] : Hep)))) 0 0 0 w _ K_) H ?_
  try clear H a W
  intro a W H
  replace H : St 156 w a W [(69, .int .i64 1), (68, .pointer none), (67, .int .i64 ((1 + 1 + 1 + 1 + 1 + 1 : Nat) : Int)), (66, .int .i64 1), (65, .int .i64 1), (64, .pointer (some ⟨g1, 0, none⟩)), (63, .int .i64 ((1 + 1 + 1 + 1 + 1 : Nat) : Int)), (62, .int .i64 1), (61, .int .i64 1), (60, .pointer none), (59, .int .i64 ((1 + 1 + 1 + 1 : Nat) : Int)), (58, .int .i64 1), (57, .int .i64 1), (56, .pointer (some ⟨g1, 0, none⟩)), (55, .int .i64 ((1 + 1 + 1 : Nat) : Int)), (54, .int .i64 1), (53, .int .i64 1), (52, .pointer none), (51, .int .i64 ((1 + 1 : Nat) : Int)), (50, .int .i64 1), (49, .int .i64 1), (48, .int .i64 1), (47, .int .i64 1), (14, .int .i64 2), (12, .int .i64 2), (10, .int .i64 0), (9, .pointer (some ⟨p4, 0, none⟩)), (8, .int .i64 2), (6, .int .i64 1), (4, .int .i64 1), (2, .pointer (some ⟨g1, 0, none⟩)), (1, .pointer none), (0, .bool false)] ((g1, 58, dkC 0 (.map none) (.slice none 0 0) (.map none) false 0 false) :: (r4 ++ ([] : Hep))) := H
  refine rgO H gs0 (rV rfl (does_call rfl ⟨_, Try.func13, by kernel_rfl⟩ rfl (fun W hb => num_any _ W)) <| rV rfl (does_binOp rfl rfl rfl (zd_add_int (k := ((1 + 1 + 1 + 1 + 1 + 1 : Nat) : Int)) (m := 1) (c := ((1 + 1 + 1 + 1 + 1 + 1 + 1 : Nat) : Int)) (by omega) (by omega) _ _)) <| rS 1 rfl <| rK [1, 0, 0, 0, 0, 0, 0, 0, 0, 0, 0, 0, 0, 0, 0, 0, 0, 0, 0, 0, 0, 0, 0, 0, 0, 0, 1, 1, 1, 1, 1, 0, 0] [] [] <| rZ0 ?_)
  try clear H a W
  intro a W H
  refine hK12 _ _ ?_
  clear hK12
  refine wp_seq_k (fun K13 hK13 => ?_)
  refine rgP H gs0 (rS 1 rfl <| rV rfl (does_binOp rfl rfl rfl (zd_eql_int (k := ((1 + 1 + 1 + 1 + 1 + 1 + 1 : Nat) : Int)) (m := 7) (decide_eq_true (by omega)) _ _)) <| rS 2 rfl <| rI0 ?_)
  try clear H a W
  intro a W H
  refine pl_callV rfl rfl ⟨_, Try.func31, by kernel_rfl⟩ rfl (fun K_ => blocks_nil (hh := ([(g1, .ty 58, dkC 0 (.map none) (.slice none 0 0) (.map none) false 0 false)] ++ (r4 ++ ([] : Hep))))  w _ K_) H ?_
  try clear H a W
  intro a W H
  replace H : St 156 w a W [(76, .int .i64 0), (75, .pointer none), (74, .bool true), (73, .bool true), (72, .int .i64 ((1 + 1 + 1 + 1 + 1 + 1 + 1 : Nat) : Int)), (15, .int .i64 ((1 + 1 + 1 + 1 + 1 + 1 + 1 : Nat) : Int)), (14, .int .i64 2), (12, .int .i64 2), (10, .int .i64 0), (9, .pointer (some ⟨p4, 0, none⟩)), (8, .int .i64 2), (2, .pointer (some ⟨g1, 0, none⟩)), (1, .pointer none), (0, .bool false)] ((g1, 58, dkC 0 (.map none) (.slice none 0 0) (.map none) false 0 false) :: (r4 ++ ([] : Hep))) := H
  refine rgO H gs0 (rV rfl (does_binOp rfl rfl rfl (zd_eql_int (k := 0) (m := 0) (decide_eq_true (by omega)) _ _)) <| rS 3 rfl <| rI0 ?_)
  try clear H a W
  intro a W H
  refine pl_callV rfl rfl ⟨_, Try.func31, by kernel_rfl⟩ rfl (fun K_ => blocks_zero (hh := (r4 ++ ([] : Hep)))  w _ K_) H ?_
  try clear H a W
  intro a W H
  replace H : St 156 w a W [(81, .int .i64 0), (80, .pointer (some ⟨g1, 0, none⟩)), (79, .bool true), (78, .bool true), (77, .bool true), (76, .int .i64 0), (75, .pointer none), (74, .bool true), (73, .bool true), (72, .int .i64 ((1 + 1 + 1 + 1 + 1 + 1 + 1 : Nat) : Int)), (15, .int .i64 ((1 + 1 + 1 + 1 + 1 + 1 + 1 : Nat) : Int)), (14, .int .i64 2), (12, .int .i64 2), (10, .int .i64 0), (9, .pointer (some ⟨p4, 0, none⟩)), (8, .int .i64 2), (2, .pointer (some ⟨g1, 0, none⟩)), (1, .pointer none), (0, .bool false)] ((g1, 58, dkC 0 (.map none) (.slice none 0 0) (.map none) false 0 false) :: (r4 ++ ([] : Hep))) := H
  refine rgO H gs0 (rV rfl (does_binOp rfl rfl rfl (zd_eql_int (k := 0) (m := 0) (decide_eq_true (by omega)) _ _)) <| rS 3 rfl <| rI0 ?_)
  try clear H a W
  intro a W H
  refine pl_callV rfl rfl ⟨_, Try.func19, by kernel_rfl⟩ rfl (fun K_ => copy_nil (hh := ([(g1, .ty 58, dkC 0 (.map none) (.slice none 0 0) (.map none) false 0 false)] ++ (r4 ++ ([] : Hep))))  w _ K_) H ?_
  try clear H a W
  intro a W H
  replace H : St 156 w a W [(86, .pointer none), (85, .pointer none), (84, .bool true), (83, .bool true), (82, .bool true), (81, .int .i64 0), (80, .pointer (some ⟨g1, 0, none⟩)), (79, .bool true), (78, .bool true), (77, .bool true), (76, .int .i64 0), (75, .pointer none), (74, .bool true), (73, .bool true), (72, .int .i64 ((1 + 1 + 1 + 1 + 1 + 1 + 1 : Nat) : Int)), (15, .int .i64 ((1 + 1 + 1 + 1 + 1 + 1 + 1 : Nat) : Int)), (14, .int .i64 2), (12, .int .i64 2), (10, .int .i64 0), (9, .pointer (some ⟨p4, 0, none⟩)), (8, .int .i64 2), (2, .pointer (some ⟨g1, 0, none⟩)), (1, .pointer none), (0, .bool false)] ((g1, 58, dkC 0 (.map none) (.slice none 0 0) (.map none) false 0 false) :: (r4 ++ ([] : Hep))) := H
  refine rgO H gs0 (rV rfl (does_binOp rfl rfl rfl (fun W => nil_nil W)) <| rS 3 rfl <| rI0 ?_)
  try clear H a W
  intro a W H
  refine pl_callV rfl rfl ⟨_, Try.func19, by kernel_rfl⟩ rfl (fun K_ => copy_zero (hh := (r4 ++ ([] : Hep)))  w _ K_) H ?_
  try clear H a W
  intro a W H
  replace H : St 156 w a W [(91, .pointer none), (90, .pointer (some ⟨g1, 0, none⟩)), (89, .bool true), (88, .bool true), (87, .bool true), (86, .pointer none), (85, .pointer none), (84, .bool true), (83, .bool true), (82, .bool true), (81, .int .i64 0), (80, .pointer (some ⟨g1, 0, none⟩)), (79, .bool true), (78, .bool true), (77, .bool true), (76, .int .i64 0), (75, .pointer none), (74, .bool true), (73, .bool true), (72, .int .i64 ((1 + 1 + 1 + 1 + 1 + 1 + 1 : Nat) : Int)), (15, .int .i64 ((1 + 1 + 1 + 1 + 1 + 1 + 1 : Nat) : Int)), (14, .int .i64 2), (12, .int .i64 2), (10, .int .i64 0), (9, .pointer (some ⟨p4, 0, none⟩)), (8, .int .i64 2), (2, .pointer (some ⟨g1, 0, none⟩)), (1, .pointer none), (0, .bool false)] ((g1, 58, dkC 0 (.map none) (.slice none 0 0) (.map none) false 0 false) :: (r4 ++ ([] : Hep))) := H
  refine rgO H gs0 (rV rfl (does_binOp rfl rfl rfl (fun W => nil_nil W)) <| rS 3 rfl <| rI0 ?_)
  try clear H a W
  intro a W H
  refine pl_callV rfl rfl ⟨_, Try.func22, by kernel_rfl⟩ rfl (fun K_ => dead_nil (hh := ([(g1, .ty 58, dkC 0 (.map none) (.slice none 0 0) (.map none) false 0 false)] ++ (r4 ++ ([] : Hep))))  w _ K_) H ?_
  try clear H a W
  intro a W H
  replace H : St 156 w a W [(96, .bool false), (95, .pointer none), (94, .bool true), (93, .bool true), (92, .bool true), (91, .pointer none), (90, .pointer (some ⟨g1, 0, none⟩)), (89, .bool true), (88, .bool true), (87, .bool true), (86, .pointer none), (85, .pointer none), (84, .bool true), (83, .bool true), (82, .bool true), (81, .int .i64 0), (80, .pointer (some ⟨g1, 0, none⟩)), (79, .bool true), (78, .bool true), (77, .bool true), (76, .int .i64 0), (75, .pointer none), (74, .bool true), (73, .bool true), (72, .int .i64 ((1 + 1 + 1 + 1 + 1 + 1 + 1 : Nat) : Int)), (15, .int .i64 ((1 + 1 + 1 + 1 + 1 + 1 + 1 : Nat) : Int)), (14, .int .i64 2), (12, .int .i64 2), (10, .int .i64 0), (9, .pointer (some ⟨p4, 0, none⟩)), (8, .int .i64 2), (2, .pointer (some ⟨g1, 0, none⟩)), (1, .pointer none), (0, .bool false)] ((g1, 58, dkC 0 (.map none) (.slice none 0 0) (.map none) false 0 false) :: (r4 ++ ([] : Hep))) := H
  refine rgO H gs0 (rS 4 rfl <| rI0 ?_)
  try clear H a W
  intro a W H
  refine pl_callV rfl rfl ⟨_, Try.func21, by kernel_rfl⟩ rfl (fun K_ => unsynced_zero (hh := (r4 ++ ([] : Hep)))  w _ K_) H ?_
  try clear H a W
  intro a W H
  replace H : St 156 w a W [(101, .int .i64 0), (100, .pointer (some ⟨g1, 0, none⟩)), (99, .bool true), (98, .bool true), (97, .bool true), (96, .bool false), (95, .pointer none), (94, .bool true), (93, .bool true), (92, .bool true), (91, .pointer none), (90, .pointer (some ⟨g1, 0, none⟩)), (89, .bool true), (88, .bool true), (87, .bool true), (86, .pointer none), (85, .pointer none), (84, .bool true), (83, .bool true), (82, .bool true), (81, .int .i64 0), (80, .pointer (some ⟨g1, 0, none⟩)), (79, .bool true), (78, .bool true), (77, .bool true), (76, .int .i64 0), (75, .pointer none), (74, .bool true), (73, .bool true), (72, .int .i64 ((1 + 1 + 1 + 1 + 1 + 1 + 1 : Nat) : Int)), (15, .int .i64 ((1 + 1 + 1 + 1 + 1 + 1 + 1 : Nat) : Int)), (14, .int .i64 2), (12, .int .i64 2), (10, .int .i64 0), (9, .pointer (some ⟨p4, 0, none⟩)), (8, .int .i64 2), (2, .pointer (some ⟨g1, 0, none⟩)), (1, .pointer none), (0, .bool false)] ((g1, 58, dkC 0 (.map none) (.slice none 0 0) (.map none) false 0 false) :: (r4 ++ ([] : Hep))) := H
  refine rgO H gs0 (rV rfl (does_binOp rfl rfl rfl (zd_eql_int (k := 0) (m := 0) (decide_eq_true (by omega)) _ _)) <| rS 4 rfl <| rI0 ?_)
  try clear H a W
  intro a W H
  refine pl_callV rfl rfl ⟨_, Try.func20, by kernel_rfl⟩ rfl (fun K_ => same_nil_zero (hh := (r4 ++ ([] : Hep))) w _ K_) H ?_
  try clear H a W
  intro a W H
  replace H : St 156 w a W [(107, .bool true), (106, .pointer (some ⟨g1, 0, none⟩)), (105, .pointer none), (104, .bool true), (103, .bool true), (102, .bool true), (101, .int .i64 0), (100, .pointer (some ⟨g1, 0, none⟩)), (99, .bool true), (98, .bool true), (97, .bool true), (96, .bool false), (95, .pointer none), (94, .bool true), (93, .bool true), (92, .bool true), (91, .pointer none), (90, .pointer (some ⟨g1, 0, none⟩)), (89, .bool true), (88, .bool true), (87, .bool true), (86, .pointer none), (85, .pointer none), (84, .bool true), (83, .bool true), (82, .bool true), (81, .int .i64 0), (80, .pointer (some ⟨g1, 0, none⟩)), (79, .bool true), (78, .bool true), (77, .bool true), (76, .int .i64 0), (75, .pointer none), (74, .bool true), (73, .bool true), (72, .int .i64 ((1 + 1 + 1 + 1 + 1 + 1 + 1 : Nat) : Int)), (15, .int .i64 ((1 + 1 + 1 + 1 + 1 + 1 + 1 : Nat) : Int)), (14, .int .i64 2), (12, .int .i64 2), (10, .int .i64 0), (9, .pointer (some ⟨p4, 0, none⟩)), (8, .int .i64 2), (2, .pointer (some ⟨g1, 0, none⟩)), (1, .pointer none), (0, .bool false)] ((g1, 58, dkC 0 (.map none) (.slice none 0 0) (.map none) false 0 false) :: (r4 ++ ([] : Hep))) := H
  refine rgO H gs0 (rS 4 rfl <| rI0 ?_)
  try clear H a W
  intro a W H
  replace H : St 156 w a W [(111, .pointer (some ⟨p4, 0, none⟩)), (110, .pointer none), (109, .bool true), (108, .bool true), (107, .bool true), (106, .pointer (some ⟨g1, 0, none⟩)), (105, .pointer none), (104, .bool true), (103, .bool true), (102, .bool true), (101, .int .i64 0), (100, .pointer (some ⟨g1, 0, none⟩)), (99, .bool true), (98, .bool true), (97, .bool true), (96, .bool false), (95, .pointer none), (94, .bool true), (93, .bool true), (92, .bool true), (91, .pointer none), (90, .pointer (some ⟨g1, 0, none⟩)), (89, .bool true), (88, .bool true), (87, .bool true), (86, .pointer none), (85, .pointer none), (84, .bool true), (83, .bool true), (82, .bool true), (81, .int .i64 0), (80, .pointer (some ⟨g1, 0, none⟩)), (79, .bool true), (78, .bool true), (77, .bool true), (76, .int .i64 0), (75, .pointer none), (74, .bool true), (73, .bool true), (72, .int .i64 ((1 + 1 + 1 + 1 + 1 + 1 + 1 : Nat) : Int)), (15, .int .i64 ((1 + 1 + 1 + 1 + 1 + 1 + 1 : Nat) : Int)), (14, .int .i64 2), (12, .int .i64 2), (10, .int .i64 0), (9, .pointer (some ⟨p4, 0, none⟩)), (8, .int .i64 2), (2, .pointer (some ⟨g1, 0, none⟩)), (1, .pointer none), (0, .bool false)] (r4 ++ (([(g1, .ty 58, dkC 0 (.map none) (.slice none 0 0) (.map none) false 0 false)] : Hep) ++ ([] : Hep))) := H.perm' (((List.Perm.refl _).append_left ([(g1, .ty 58, dkC 0 (.map none) (.slice none 0 0) (.map none) false 0 false)] : Hep)).trans (List.perm_append_comm_assoc ([(g1, .ty 58, dkC 0 (.map none) (.slice none 0 0) (.map none) false 0 false)] : Hep) r4 ([] : Hep)))
  refine pl_callV rfl rfl ⟨_, Try.func20, by kernel_rfl⟩ rfl (fun K_ => same_nil_po (hh := (([(g1, .ty 58, dkC 0 (.map none) (.slice none 0 0) (.map none) false 0 false)] : Hep) ++ ([] : Hep))) hP4 w _ K_) H ?_
  try clear H a W
  intro a W H
  replace H := H.perm' (List.perm_append_comm_assoc r4 ([(g1, .ty 58, dkC 0 (.map none) (.slice none 0 0) (.map none) false 0 false)] : Hep) ([] : Hep))
  replace H : St 156 w a W [(112, .bool false), (111, .pointer (some ⟨p4, 0, none⟩)), (110, .pointer none), (109, .bool true), (108, .bool true), (107, .bool true), (106, .pointer (some ⟨g1, 0, none⟩)), (105, .pointer none), (104, .bool true), (103, .bool true), (102, .bool true), (101, .int .i64 0), (100, .pointer (some ⟨g1, 0, none⟩)), (99, .bool true), (98, .bool true), (97, .bool true), (96, .bool false), (95, .pointer none), (94, .bool true), (93, .bool true), (92, .bool true), (91, .pointer none), (90, .pointer (some ⟨g1, 0, none⟩)), (89, .bool true), (88, .bool true), (87, .bool true), (86, .pointer none), (85, .pointer none), (84, .bool true), (83, .bool true), (82, .bool true), (81, .int .i64 0), (80, .pointer (some ⟨g1, 0, none⟩)), (79, .bool true), (78, .bool true), (77, .bool true), (76, .int .i64 0), (75, .pointer none), (74, .bool true), (73, .bool true), (72, .int .i64 ((1 + 1 + 1 + 1 + 1 + 1 + 1 : Nat) : Int)), (15, .int .i64 ((1 + 1 + 1 + 1 + 1 + 1 + 1 : Nat) : Int)), (14, .int .i64 2), (12, .int .i64 2), (10, .int .i64 0), (9, .pointer (some ⟨p4, 0, none⟩)), (8, .int .i64 2), (2, .pointer (some ⟨g1, 0, none⟩)), (1, .pointer none), (0, .bool false)] ((g1, 58, dkC 0 (.map none) (.slice none 0 0) (.map none) false 0 false) :: (r4 ++ ([] : Hep))) := H
  refine rgO H gs0 (rS 4 rfl <| rV rfl (does_call rfl ⟨_, Try.func13, by kernel_rfl⟩ rfl (fun W hb => num_any _ W)) <| rV rfl (does_binOp rfl rfl rfl (zd_eql_int (k := 2) (m := 2) (decide_eq_true (by omega)) _ _)) <| rS 3 rfl <| rV rfl (does_call rfl ⟨_, Try.func13, by kernel_rfl⟩ rfl (fun W hb => num_any _ W)) <| rV rfl (does_binOp rfl rfl rfl (zd_eql_int (k := 0) (m := 0) (decide_eq_true (by omega)) _ _)) <| rS 3 rfl <| rV rfl (does_call rfl ⟨_, Try.func13, by kernel_rfl⟩ rfl (fun W hb => num_any _ W)) <| rV rfl (does_binOp rfl rfl rfl (zd_eql_int (k := 2) (m := 2) (decide_eq_true (by omega)) _ _)) <| rS 3 rfl <| rV rfl (does_call rfl ⟨_, Try.func13, by kernel_rfl⟩ rfl (fun W hb => num_any _ W)) <| rV rfl (does_binOp rfl rfl rfl (zd_eql_int (k := 2) (m := 2) (decide_eq_true (by omega)) _ _)) <| rS 3 rfl <| rI0 ?_)
  try clear H a W
  intro a W H
  replace H : St 156 w a W [(136, .pointer (some ⟨p4, 0, none⟩)), (135, .bool true), (134, .bool true), (133, .bool true), (132, .int .i64 2), (131, .int .i64 2), (130, .bool true), (129, .bool true), (128, .bool true), (127, .int .i64 2), (126, .int .i64 2), (125, .bool true), (124, .bool true), (123, .bool true), (122, .int .i64 0), (121, .int .i64 0), (120, .bool true), (119, .bool true), (118, .bool true), (117, .int .i64 2), (116, .int .i64 2), (115, .bool true), (114, .bool true), (113, .bool true), (112, .bool false), (111, .pointer (some ⟨p4, 0, none⟩)), (110, .pointer none), (109, .bool true), (108, .bool true), (107, .bool true), (106, .pointer (some ⟨g1, 0, none⟩)), (105, .pointer none), (104, .bool true), (103, .bool true), (102, .bool true), (101, .int .i64 0), (100, .pointer (some ⟨g1, 0, none⟩)), (99, .bool true), (98, .bool true), (97, .bool true), (96, .bool false), (95, .pointer none), (94, .bool true), (93, .bool true), (92, .bool true), (91, .pointer none), (90, .pointer (some ⟨g1, 0, none⟩)), (89, .bool true), (88, .bool true), (87, .bool true), (86, .pointer none), (85, .pointer none), (84, .bool true), (83, .bool true), (82, .bool true), (81, .int .i64 0), (80, .pointer (some ⟨g1, 0, none⟩)), (79, .bool true), (78, .bool true), (77, .bool true), (76, .int .i64 0), (75, .pointer none), (74, .bool true), (73, .bool true), (72, .int .i64 ((1 + 1 + 1 + 1 + 1 + 1 + 1 : Nat) : Int)), (15, .int .i64 ((1 + 1 + 1 + 1 + 1 + 1 + 1 : Nat) : Int)), (14, .int .i64 2), (12, .int .i64 2), (10, .int .i64 0), (9, .pointer (some ⟨p4, 0, none⟩)), (8, .int .i64 2), (2, .pointer (some ⟨g1, 0, none⟩)), (1, .pointer none), (0, .bool false)] (r4 ++ (([(g1, .ty 58, dkC 0 (.map none) (.slice none 0 0) (.map none) false 0 false)] : Hep) ++ ([] : Hep))) := H.perm' (((List.Perm.refl _).append_left ([(g1, .ty 58, dkC 0 (.map none) (.slice none 0 0) (.map none) false 0 false)] : Hep)).trans (List.perm_append_comm_assoc ([(g1, .ty 58, dkC 0 (.map none) (.slice none 0 0) (.map none) false 0 false)] : Hep) r4 ([] : Hep)))
  refine pl_callV rfl rfl ⟨_, Try.func28, by kernel_rfl⟩ rfl (fun K_ => po_write_nil (hh := (([(g1, .ty 58, dkC 0 (.map none) (.slice none 0 0) (.map none) false 0 false)] : Hep) ++ ([] : Hep))) hP4 0 w _ K_) H ?_
  try clear H a W
  intro a W H
  replace H := H.perm' (List.perm_append_comm_assoc r4 ([(g1, .ty 58, dkC 0 (.map none) (.slice none 0 0) (.map none) false 0 false)] : Hep) ([] : Hep))
  replace H : St 156 w a W [(137, .int .i64 2), (136, .pointer (some ⟨p4, 0, none⟩)), (135, .bool true), (134, .bool true), (133, .bool true), (132, .int .i64 2), (131, .int .i64 2), (130, .bool true), (129, .bool true), (128, .bool true), (127, .int .i64 2), (126, .int .i64 2), (125, .bool true), (124, .bool true), (123, .bool true), (122, .int .i64 0), (121, .int .i64 0), (120, .bool true), (119, .bool true), (118, .bool true), (117, .int .i64 2), (116, .int .i64 2), (115, .bool true), (114, .bool true), (113, .bool true), (112, .bool false), (111, .pointer (some ⟨p4, 0, none⟩)), (110, .pointer none), (109, .bool true), (108, .bool true), (107, .bool true), (106, .pointer (some ⟨g1, 0, none⟩)), (105, .pointer none), (104, .bool true), (103, .bool true), (102, .bool true), (101, .int .i64 0), (100, .pointer (some ⟨g1, 0, none⟩)), (99, .bool true), (98, .bool true), (97, .bool true), (96, .bool false), (95, .pointer none), (94, .bool true), (93, .bool true), (92, .bool true), (91, .pointer none), (90, .pointer (some ⟨g1, 0, none⟩)), (89, .bool true), (88, .bool true), (87, .bool true), (86, .pointer none), (85, .pointer none), (84, .bool true), (83, .bool true), (82, .bool true), (81, .int .i64 0), (80, .pointer (some ⟨g1, 0, none⟩)), (79, .bool true), (78, .bool true), (77, .bool true), (76, .int .i64 0), (75, .pointer none), (74, .bool true), (73, .bool true), (72, .int .i64 ((1 + 1 + 1 + 1 + 1 + 1 + 1 : Nat) : Int)), (15, .int .i64 ((1 + 1 + 1 + 1 + 1 + 1 + 1 : Nat) : Int)), (14, .int .i64 2), (12, .int .i64 2), (10, .int .i64 0), (9, .pointer (some ⟨p4, 0, none⟩)), (8, .int .i64 2), (2, .pointer (some ⟨g1, 0, none⟩)), (1, .pointer none), (0, .bool false)] ((g1, 58, dkC 0 (.map none) (.slice none 0 0) (.map none) false 0 false) :: (r4 ++ ([] : Hep))) := H
  refine rgO H gs0 (rV rfl (does_call rfl ⟨_, Try.func13, by kernel_rfl⟩ rfl (fun W hb => num_any _ W)) <| rV rfl (does_binOp rfl rfl rfl (zd_eql_int (k := 2) (m := 2) (decide_eq_true (by omega)) _ _)) <| rS 3 rfl <| rI0 ?_)
  try clear H a W
  intro a W H
  replace H : St 156 w a W [(142, .pointer (some ⟨p4, 0, none⟩)), (141, .bool true), (140, .bool true), (139, .bool true), (138, .int .i64 2), (137, .int .i64 2), (136, .pointer (some ⟨p4, 0, none⟩)), (135, .bool true), (134, .bool true), (133, .bool true), (132, .int .i64 2), (131, .int .i64 2), (130, .bool true), (129, .bool true), (128, .bool true), (127, .int .i64 2), (126, .int .i64 2), (125, .bool true), (124, .bool true), (123, .bool true), (122, .int .i64 0), (121, .int .i64 0), (120, .bool true), (119, .bool true), (118, .bool true), (117, .int .i64 2), (116, .int .i64 2), (115, .bool true), (114, .bool true), (113, .bool true), (112, .bool false), (111, .pointer (some ⟨p4, 0, none⟩)), (110, .pointer none), (109, .bool true), (108, .bool true), (107, .bool true), (106, .pointer (some ⟨g1, 0, none⟩)), (105, .pointer none), (104, .bool true), (103, .bool true), (102, .bool true), (101, .int .i64 0), (100, .pointer (some ⟨g1, 0, none⟩)), (99, .bool true), (98, .bool true), (97, .bool true), (96, .bool false), (95, .pointer none), (94, .bool true), (93, .bool true), (92, .bool true), (91, .pointer none), (90, .pointer (some ⟨g1, 0, none⟩)), (89, .bool true), (88, .bool true), (87, .bool true), (86, .pointer none), (85, .pointer none), (84, .bool true), (83, .bool true), (82, .bool true), (81, .int .i64 0), (80, .pointer (some ⟨g1, 0, none⟩)), (79, .bool true), (78, .bool true), (77, .bool true), (76, .int .i64 0), (75, .pointer none), (74, .bool true), (73, .bool true), (72, .int .i64 ((1 + 1 + 1 + 1 + 1 + 1 + 1 : Nat) : Int)), (15, .int .i64 ((1 + 1 + 1 + 1 + 1 + 1 + 1 : Nat) : Int)), (14, .int .i64 2), (12, .int .i64 2), (10, .int .i64 0), (9, .pointer (some ⟨p4, 0, none⟩)), (8, .int .i64 2), (2, .pointer (some ⟨g1, 0, none⟩)), (1, .pointer none), (0, .bool false)] (r4 ++ (([(g1, .ty 58, dkC 0 (.map none) (.slice none 0 0) (.map none) false 0 false)] : Hep) ++ ([] : Hep))) := H.perm' (((List.Perm.refl _).append_left ([(g1, .ty 58, dkC 0 (.map none) (.slice none 0 0) (.map none) false 0 false)] : Hep)).trans (List.perm_append_comm_assoc ([(g1, .ty 58, dkC 0 (.map none) (.slice none 0 0) (.map none) false 0 false)] : Hep) r4 ([] : Hep)))
  refine pl_callX rfl rfl ⟨_, Try.func26, by kernel_rfl⟩ rfl (fun K_ => by have h_ := po_fuse (hh := (([(g1, .ty 58, dkC 0 (.map none) (.slice none 0 0) (.map none) false 0 false)] : Hep) ++ ([] : Hep))) hP4 (-1) (by omega) w _ K_; rw [nd_fuse] at h_; exact h_) H ?_
  try clear H a W
  rintro r21 a W hP21 H
  replace hP21 : PO p4 (dNew 8192) r21 := hP21
  replace H := H.perm' (List.perm_append_comm_assoc r21 ([(g1, .ty 58, dkC 0 (.map none) (.slice none 0 0) (.map none) false 0 false)] : Hep) ([] : Hep))
  replace H : St 156 w a W [(143, .int .i64 2), (142, .pointer (some ⟨p4, 0, none⟩)), (141, .bool true), (140, .bool true), (139, .bool true), (138, .int .i64 2), (137, .int .i64 2), (136, .pointer (some ⟨p4, 0, none⟩)), (135, .bool true), (134, .bool true), (133, .bool true), (132, .int .i64 2), (131, .int .i64 2), (130, .bool true), (129, .bool true), (128, .bool true), (127, .int .i64 2), (126, .int .i64 2), (125, .bool true), (124, .bool true), (123, .bool true), (122, .int .i64 0), (121, .int .i64 0), (120, .bool true), (119, .bool true), (118, .bool true), (117, .int .i64 2), (116, .int .i64 2), (115, .bool true), (114, .bool true), (113, .bool true), (112, .bool false), (111, .pointer (some ⟨p4, 0, none⟩)), (110, .pointer none), (109, .bool true), (108, .bool true), (107, .bool true), (106, .pointer (some ⟨g1, 0, none⟩)), (105, .pointer none), (104, .bool true), (103, .bool true), (102, .bool true), (101, .int .i64 0), (100, .pointer (some ⟨g1, 0, none⟩)), (99, .bool true), (98, .bool true), (97, .bool true), (96, .bool false), (95, .pointer none), (94, .bool true), (93, .bool true), (92, .bool true), (91, .pointer none), (90, .pointer (some ⟨g1, 0, none⟩)), (89, .bool true), (88, .bool true), (87, .bool true), (86, .pointer none), (85, .pointer none), (84, .bool true), (83, .bool true), (82, .bool true), (81, .int .i64 0), (80, .pointer (some ⟨g1, 0, none⟩)), (79, .bool true), (78, .bool true), (77, .bool true), (76, .int .i64 0), (75, .pointer none), (74, .bool true), (73, .bool true), (72, .int .i64 ((1 + 1 + 1 + 1 + 1 + 1 + 1 : Nat) : Int)), (15, .int .i64 ((1 + 1 + 1 + 1 + 1 + 1 + 1 : Nat) : Int)), (14, .int .i64 2), (12, .int .i64 2), (10, .int .i64 0), (9, .pointer (some ⟨p4, 0, none⟩)), (8, .int .i64 2), (2, .pointer (some ⟨g1, 0, none⟩)), (1, .pointer none), (0, .bool false)] ((g1, 58, dkC 0 (.map none) (.slice none 0 0) (.map none) false 0 false) :: (r21 ++ ([] : Hep))) := H
  refine rgO H gs0 (rV rfl (does_call rfl ⟨_, Try.func13, by kernel_rfl⟩ rfl (fun W hb => num_any _ W)) <| rV rfl (does_binOp rfl rfl rfl (zd_eql_int (k := 2) (m := 2) (decide_eq_true (by omega)) _ _)) <| rS 3 rfl <| rI0 ?_)
  try clear H a W
  intro a W H
  replace H : St 156 w a W [(148, .pointer (some ⟨p4, 0, none⟩)), (147, .bool true), (146, .bool true), (145, .bool true), (144, .int .i64 2), (143, .int .i64 2), (142, .pointer (some ⟨p4, 0, none⟩)), (141, .bool true), (140, .bool true), (139, .bool true), (138, .int .i64 2), (137, .int .i64 2), (136, .pointer (some ⟨p4, 0, none⟩)), (135, .bool true), (134, .bool true), (133, .bool true), (132, .int .i64 2), (131, .int .i64 2), (130, .bool true), (129, .bool true), (128, .bool true), (127, .int .i64 2), (126, .int .i64 2), (125, .bool true), (124, .bool true), (123, .bool true), (122, .int .i64 0), (121, .int .i64 0), (120, .bool true), (119, .bool true), (118, .bool true), (117, .int .i64 2), (116, .int .i64 2), (115, .bool true), (114, .bool true), (113, .bool true), (112, .bool false), (111, .pointer (some ⟨p4, 0, none⟩)), (110, .pointer none), (109, .bool true), (108, .bool true), (107, .bool true), (106, .pointer (some ⟨g1, 0, none⟩)), (105, .pointer none), (104, .bool true), (103, .bool true), (102, .bool true), (101, .int .i64 0), (100, .pointer (some ⟨g1, 0, none⟩)), (99, .bool true), (98, .bool true), (97, .bool true), (96, .bool false), (95, .pointer none), (94, .bool true), (93, .bool true), (92, .bool true), (91, .pointer none), (90, .pointer (some ⟨g1, 0, none⟩)), (89, .bool true), (88, .bool true), (87, .bool true), (86, .pointer none), (85, .pointer none), (84, .bool true), (83, .bool true), (82, .bool true), (81, .int .i64 0), (80, .pointer (some ⟨g1, 0, none⟩)), (79, .bool true), (78, .bool true), (77, .bool true), (76, .int .i64 0), (75, .pointer none), (74, .bool true), (73, .bool true), (72, .int .i64 ((1 + 1 + 1 + 1 + 1 + 1 + 1 : Nat) : Int)), (15, .int .i64 ((1 + 1 + 1 + 1 + 1 + 1 + 1 : Nat) : Int)), (14, .int .i64 2), (12, .int .i64 2), (10, .int .i64 0), (9, .pointer (some ⟨p4, 0, none⟩)), (8, .int .i64 2), (2, .pointer (some ⟨g1, 0, none⟩)), (1, .pointer none), (0, .bool false)] (r21 ++ (([(g1, .ty 58, dkC 0 (.map none) (.slice none 0 0) (.map none) false 0 false)] : Hep) ++ ([] : Hep))) := H.perm' (((List.Perm.refl _).append_left ([(g1, .ty 58, dkC 0 (.map none) (.slice none 0 0) (.map none) false 0 false)] : Hep)).trans (List.perm_append_comm_assoc ([(g1, .ty 58, dkC 0 (.map none) (.slice none 0 0) (.map none) false 0 false)] : Hep) r21 ([] : Hep)))
  refine pl_callX rfl rfl ⟨_, Try.func30, by kernel_rfl⟩ rfl (fun K_ => by have h_ := po_edit (hh := (([(g1, .ty 58, dkC 0 (.map none) (.slice none 0 0) (.map none) false 0 false)] : Hep) ++ ([] : Hep))) hP21 0 512 1 w _ K_; rw [nd_edit] at h_; exact h_) H ?_
  try clear H a W
  rintro r22 a W hP22 H
  replace hP22 : PO p4 (dNew 8192) r22 := hP22
  replace H := H.perm' (List.perm_append_comm_assoc r22 ([(g1, .ty 58, dkC 0 (.map none) (.slice none 0 0) (.map none) false 0 false)] : Hep) ([] : Hep))
  replace H : St 156 w a W [(149, .int .i64 2), (148, .pointer (some ⟨p4, 0, none⟩)), (147, .bool true), (146, .bool true), (145, .bool true), (144, .int .i64 2), (143, .int .i64 2), (142, .pointer (some ⟨p4, 0, none⟩)), (141, .bool true), (140, .bool true), (139, .bool true), (138, .int .i64 2), (137, .int .i64 2), (136, .pointer (some ⟨p4, 0, none⟩)), (135, .bool true), (134, .bool true), (133, .bool true), (132, .int .i64 2), (131, .int .i64 2), (130, .bool true), (129, .bool true), (128, .bool true), (127, .int .i64 2), (126, .int .i64 2), (125, .bool true), (124, .bool true), (123, .bool true), (122, .int .i64 0), (121, .int .i64 0), (120, .bool true), (119, .bool true), (118, .bool true), (117, .int .i64 2), (116, .int .i64 2), (115, .bool true), (114, .bool true), (113, .bool true), (112, .bool false), (111, .pointer (some ⟨p4, 0, none⟩)), (110, .pointer none), (109, .bool true), (108, .bool true), (107, .bool true), (106, .pointer (some ⟨g1, 0, none⟩)), (105, .pointer none), (104, .bool true), (103, .bool true), (102, .bool true), (101, .int .i64 0), (100, .pointer (some ⟨g1, 0, none⟩)), (99, .bool true), (98, .bool true), (97, .bool true), (96, .bool false), (95, .pointer none), (94, .bool true), (93, .bool true), (92, .bool true), (91, .pointer none), (90, .pointer (some ⟨g1, 0, none⟩)), (89, .bool true), (88, .bool true), (87, .bool true), (86, .pointer none), (85, .pointer none), (84, .bool true), (83, .bool true), (82, .bool true), (81, .int .i64 0), (80, .pointer (some ⟨g1, 0, none⟩)), (79, .bool true), (78, .bool true), (77, .bool true), (76, .int .i64 0), (75, .pointer none), (74, .bool true), (73, .bool true), (72, .int .i64 ((1 + 1 + 1 + 1 + 1 + 1 + 1 : Nat) : Int)), (15, .int .i64 ((1 + 1 + 1 + 1 + 1 + 1 + 1 : Nat) : Int)), (14, .int .i64 2), (12, .int .i64 2), (10, .int .i64 0), (9, .pointer (some ⟨p4, 0, none⟩)), (8, .int .i64 2), (2, .pointer (some ⟨g1, 0, none⟩)), (1, .pointer none), (0, .bool false)] ((g1, 58, dkC 0 (.map none) (.slice none 0 0) (.map none) false 0 false) :: (r22 ++ ([] : Hep))) := H
  refine rgO H gs0 (rV rfl (does_call rfl ⟨_, Try.func13, by kernel_rfl⟩ rfl (fun W hb => num_any _ W)) <| rV rfl (does_binOp rfl rfl rfl (zd_eql_int (k := 2) (m := 2) (decide_eq_true (by omega)) _ _)) <| rS 2 rfl <| rV rfl (does_call rfl ⟨_, Try.func11, by kernel_rfl⟩ rfl (fun W hb => known_any W)) <| rS 1 rfl <| rK [1, 1, 1, 1, 1, 1, 1, 1, 1, 1, 1, 1, 1, 1, 1, 1, 1, 1, 1, 1, 1, 1, 1, 1, 1, 1, 1, 1, 1, 1, 1, 1, 1, 1, 1, 1, 1, 1, 1, 1, 1, 1, 1, 1, 1, 1, 1, 1, 1, 1, 1, 1, 1, 1, 1, 1, 1, 1, 1, 1, 1, 1, 1, 1, 1, 1, 1, 1, 1, 1, 1, 1, 1, 1, 1, 1, 1, 1, 1, 1, 1, 1, 1, 1, 1, 1, 1, 1, 1, 1, 1, 1, 0] [] [] <| rS 1 rfl <| rK [1, 0, 0, 0, 0, 0, 0, 0, 0, 0, 0, 0, 0, 0, 0, 0, 0, 0, 0, 0, 0, 0, 0, 0, 0, 0, 0, 0, 0, 0, 0, 0, 0, 0, 0, 0, 0, 0, 0, 0, 0, 0, 0, 0, 0, 0, 0, 0, 0, 0, 0, 0, 0, 0, 0, 0, 0, 0, 0, 0, 0, 0, 0, 0, 0, 0, 0, 0, 0, 0, 0, 0, 0, 0, 0, 0, 0, 0, 0, 0, 0, 0, 0, 0, 0, 0, 0, 0, 0, 0, 0, 0, 0] [] [] <| rZ0 ?_)
  try clear H a W
  intro a W H
  refine hK13 _ _ ?_
  clear hK13
  refine wp_ret ?_
  repeat (first | (with_reducible refine then_ret ?_) | (with_reducible refine blk_ret ?_))
  refine end_tmp (p := 0) rfl rfl H (fun hb => ?_)
  exact ⟨rfl, hb⟩
end Go.Proofs.Ytiebelmglchbdaa
