/- Words of the hash: turned, shifted; bits.RotateLeft64; the program's turned, mixed, mulAdd; the document's ror. -/
import Derived.Test.YtagifgadcbhinaaDoorFe
import Derived.Test.YtagifgadcbhinaaDoorEqs
import Derived.Test.YtagifgadcbhinaaDoorFr
namespace Go.Proofs.YtagifgadcbhinaaDoor
set_option linter.unusedVariables false
set_option linter.unusedSimpArgs false
open Go Go.RowKit

/-- x turned right by n bits. -/
def rorN (x n : Nat) : Nat := x / 2 ^ n ||| x * 2 ^ (64 - n) % 18446744073709551616
theorem rorN_lt {x n : Nat} (h : x < 18446744073709551616) : rorN x n < 18446744073709551616 := by
  have h1 : x / 2 ^ n < 2 ^ 64 := Nat.lt_of_le_of_lt (Nat.div_le_self _ _) (by omega)
  have h2 : x * 2 ^ (64 - n) % 18446744073709551616 < 2 ^ 64 := by omega
  have := Nat.or_lt_two_pow h1 h2
  unfold rorN
  omega
theorem xor_lt {x y : Nat} (hx : x < 18446744073709551616) (hy : y < 18446744073709551616) : x ^^^ y < 18446744073709551616 := Nat.xor_lt_two_pow (n := 64) (by omega) (by omega)
theorem and_lt {x y : Nat} (hx : x < 18446744073709551616) (hy : y < 18446744073709551616) : x &&& y < 18446744073709551616 := Nat.and_lt_two_pow (n := 64) x (by omega)
theorem div_lt {x n : Nat} (hx : x < 18446744073709551616) : x / n < 18446744073709551616 := Nat.lt_of_le_of_lt (Nat.div_le_self _ _) hx
/-- Three turned, or two turned and one shifted. -/
def turnN (x i j k : Nat) : Nat := rorN x i ^^^ rorN x j ^^^ rorN x k
def mixN (x i j k : Nat) : Nat := rorN x i ^^^ rorN x j ^^^ x / 2 ^ k
theorem turnN_lt {x i j k : Nat} (h : x < 18446744073709551616) : turnN x i j k < 18446744073709551616 := xor_lt (xor_lt (rorN_lt h) (rorN_lt h)) (rorN_lt h)
theorem mixN_lt {x i j k : Nat} (h : x < 18446744073709551616) : mixN x i j k < 18446744073709551616 := xor_lt (xor_lt (rorN_lt h) (rorN_lt h)) (div_lt h)
theorem shl_nat (x s : Nat) : IntKind.u64.wrap ((x : Int) * 2 ^ s) = ((x * 2 ^ s % 18446744073709551616 : Nat) : Int) := by
  rw [show (x : Int) * 2 ^ s = ((x * 2 ^ s : Nat) : Int) by push_cast; rfl, IntKind.wrap_u64]
  omega
theorem shr_nat (x s : Nat) : (x : Int) / 2 ^ s = ((x / 2 ^ s : Nat) : Int) := by push_cast; rfl
theorem minus63 : ∀ i : Fin 64, 0 < i.val → bits .and .u64 (IntKind.u64.wrap (-(i.val : Int))) 63 = ((64 - i.val : Nat) : Int) := by decide +kernel

theorem ror_value (x i : Nat) (hx : x < 18446744073709551616) (hi : i < 64) (h0 : 0 < i) :
    bits .or .u64 (IntKind.u64.wrap ((x : Int) * 2 ^ (64 - i))) ((x : Int) / 2 ^ (64 - (64 - i))) = ((rorN x i : Nat) : Int) := by
  rw [show 64 - (64 - i) = i by omega, shl_nat, shr_nat, u64_or_nat _ _ (by omega) (div_lt hx), rorN, Nat.or_comm]
theorem ror_value2 (x i : Nat) (hx : x < 18446744073709551616) (hi : i < 64) (h0 : 0 < i) :
    bits .or .u64 ((x : Int) / 2 ^ i) (IntKind.u64.wrap ((x : Int) * 2 ^ (64 - i))) = ((rorN x i : Nat) : Int) := by
  rw [shl_nat, shr_nat, u64_or_nat _ _ (div_lt hx) (by omega), rorN]
set_option maxHeartbeats 400000 in
theorem rotate_any (x i : Nat) (w : World) (hx : x < 18446744073709551616) (hi : i < 64) (h0 : 0 < i) :
    Calls Tryd.prog 34 #[.int .u64 x, .int .i64 (-(i : Int))] w fun e w' => e = .returned (.int .u64 (rorN x i : Nat)) ∧ w = w' := by
  have h := minus63 ⟨i, hi⟩ h0
  have h3 : 64 - i < 65 := by omega
  simp only at h
  go_enter Tryd.func34, Tryd.ntmps34
  go_wp2
  go_ret
  refine ⟨?_, rfl⟩
  rw [← ror_value x i hx hi h0]
  rfl
set_option maxHeartbeats 400000 in
theorem rror_any (x i : Nat) (w : World) (hx : x < 18446744073709551616) (hi : i < 64) (h0 : 0 < i) :
    Calls Tryd.prog 22 #[.int .u64 x, .int .u64 i] w fun e w' => e = .returned (.int .u64 (rorN x i : Nat)) ∧ w = w' := by
  have h3 : 64 - i < 65 := by omega
  go_enter Tryd.func22, Tryd.ntmps22
  go_wp2
  go_ret
  refine ⟨?_, rfl⟩
  rw [← ror_value2 x i hx hi h0]
  rfl
set_option maxHeartbeats 400000 in
theorem turned_any (x i j k : Nat) (w : World) (hx : x < 18446744073709551616) (hi : i < 64) (i0 : 0 < i) (hj : j < 64) (j0 : 0 < j) (hk : k < 64) (k0 : 0 < k) :
    Calls Tryd.prog 28 #[.int .u64 x, .int .i64 i, .int .i64 j, .int .i64 k] w fun e w' => e = .returned (.int .u64 (turnN x i j k : Nat)) ∧ w = w' := by
  go_enter Tryd.func28, Tryd.ntmps28
  go_wp2_with (fail)
  refine (rotate_any x i _ hx hi i0).mono ?_
  rintro e w' ⟨rfl, rfl⟩
  go_wp2_with (fail)
  refine (rotate_any x j _ hx hj j0).mono ?_
  rintro e w' ⟨rfl, rfl⟩
  go_wp2_with (fail)
  refine (rotate_any x k _ hx hk k0).mono ?_
  rintro e w' ⟨rfl, rfl⟩
  have l1 := rorN_lt (n := i) hx
  have l2 := rorN_lt (n := j) hx
  have l3 := rorN_lt (n := k) hx
  have e1 := u64_xor_nat _ _ l1 l2
  have e2 := u64_xor_nat _ _ (xor_lt l1 l2) l3
  go_wp2_with (fail)
  go_ret
  refine ⟨?_, rfl⟩
  rw [turnN, ← e2]
  rfl
theorem turn_def (x i j k : Nat) : turnN x i j k = rorN x i ^^^ rorN x j ^^^ rorN x k := rfl
theorem mix_def (x i j k : Nat) : mixN x i j k = rorN x i ^^^ rorN x j ^^^ x / 2 ^ k := rfl
attribute [local irreducible] rorN mixN turnN
set_option maxHeartbeats 1000000 in
theorem mixed_any (x i j k : Nat) (w : World) (hx : x < 18446744073709551616) (hi : i < 64) (i0 : 0 < i) (hj : j < 64) (j0 : 0 < j) (hk : k < 64) :
    Calls Tryd.prog 33 #[.int .u64 x, .int .i64 i, .int .i64 j, .int .i64 k] w fun e w' => e = .returned (.int .u64 (mixN x i j k : Nat)) ∧ w.drew = w' := by
  have h3 : k < 65 := by omega
  have l1 := rorN_lt (n := i) hx
  have l2 := rorN_lt (n := j) hx
  have e1 := u64_xor_nat _ _ l1 l2
  have e2 := u64_xor_nat _ _ (xor_lt l1 l2) (div_lt (n := 2 ^ k) hx)
  rw [← shr_nat] at e2
  have E2 := Lib.hid e2
  clear e2
  have hwi : IntKind.i64.wrap (-(i : Int)) = -(i : Int) := by rw [IntKind.wrap_i64]; omega
  have hwj : IntKind.i64.wrap (-(j : Int)) = -(j : Int) := by rw [IntKind.wrap_i64]; omega
  go_enter Tryd.func33, Tryd.ntmps33
  go_wp2_with (fail)
  refine wp_region_held_drew (S := fun W => W = w.drew) (by kernel_rfl) ?_ (fun hHeld => ?_)
  · exact rfl
  refine wpAnyH_take (i := 0) (v := ?_) rfl (by kernel_rfl) (by kernel_rfl) (by kernel_rfl) (fun _ _ _ h => h) (Or.inl ⟨by rfl, ?_⟩) hHeld ?_
  rotate_left
  · (intro W hSw; (try dsimp only at hSw); (try simp only [List.getElem_toArray, List.getElem_cons_succ, List.getElem_cons_zero]); go_simp; try with_reducible rfl)
  try simp only [Act.put, List.getElem_toArray, List.getElem_cons_succ, List.getElem_cons_zero, List.setIfInBounds_toArray, List.set_cons_zero, List.set_cons_succ]
  refine wpAnyH_take (i := 1) (v := ?_) rfl (by kernel_rfl) (by kernel_rfl) (by kernel_rfl) (fun _ _ _ h => h) (Or.inl ⟨by rfl, ?_⟩) hHeld ?_
  rotate_left
  · (intro W hSw; (try dsimp only at hSw); (try simp only [List.getElem_toArray, List.getElem_cons_succ, List.getElem_cons_zero]); go_simp; try with_reducible rfl)
  try simp only [Act.put, List.getElem_toArray, List.getElem_cons_succ, List.getElem_cons_zero, List.setIfInBounds_toArray, List.set_cons_zero, List.set_cons_succ]
  refine wpAnyH_take (i := 2) (v := ?_) rfl (by kernel_rfl) (by kernel_rfl) (by kernel_rfl) (fun _ _ _ h => h) (Or.inl ⟨by rfl, ?_⟩) hHeld ?_
  rotate_left
  · (intro W hSw; (try dsimp only at hSw); (try simp only [List.getElem_toArray, List.getElem_cons_succ, List.getElem_cons_zero]); go_simp; try with_reducible rfl)
  try simp only [Act.put, List.getElem_toArray, List.getElem_cons_succ, List.getElem_cons_zero, List.setIfInBounds_toArray, List.set_cons_zero, List.set_cons_succ]
  refine wpAnyH_take (i := 4) (v := ?_) rfl (by kernel_rfl) (by kernel_rfl) (by kernel_rfl) (fun _ _ _ h => h) (Or.inl ⟨by rfl, ?_⟩) hHeld ?_
  rotate_left
  · (intro W hSw; (try dsimp only at hSw); (try simp only [List.getElem_toArray, List.getElem_cons_succ, List.getElem_cons_zero]); go_simp; try with_reducible rfl)
  try simp only [Act.put, List.getElem_toArray, List.getElem_cons_succ, List.getElem_cons_zero, List.setIfInBounds_toArray, List.set_cons_zero, List.set_cons_succ]
  refine wpAnyH_take (i := 5) (v := ?_) rfl (by kernel_rfl) (by kernel_rfl) (by kernel_rfl) (fun _ _ _ h => h) (Or.inl ⟨by rfl, ?_⟩) hHeld ?_
  rotate_left
  · (intro W hSw; (try dsimp only at hSw); (try simp only [List.getElem_toArray, List.getElem_cons_succ, List.getElem_cons_zero]); go_simp; try with_reducible rfl)
  try simp only [Act.put, List.getElem_toArray, List.getElem_cons_succ, List.getElem_cons_zero, List.setIfInBounds_toArray, List.set_cons_zero, List.set_cons_succ]
  refine wpAnyH_take (i := 6) (v := ?_) rfl (by kernel_rfl) (by kernel_rfl) (by kernel_rfl) (fun _ _ _ h => h) (Or.inl ⟨by rfl, ?_⟩) hHeld ?_
  rotate_left
  · (intro W hSw; (try dsimp only at hSw); (try simp only [List.getElem_toArray, List.getElem_cons_succ, List.getElem_cons_zero]); go_simp; try with_reducible rfl)
  try simp only [Act.put, List.getElem_toArray, List.getElem_cons_succ, List.getElem_cons_zero, List.setIfInBounds_toArray, List.set_cons_zero, List.set_cons_succ]
  refine wpAnyH_take (i := 9) (v := ?_) rfl (by kernel_rfl) (by kernel_rfl) (by kernel_rfl) (fun _ _ _ h => h) (Or.inl ⟨by rfl, ?_⟩) hHeld ?_
  rotate_left
  · (intro W hSw; (try dsimp only at hSw); (try simp only [List.getElem_toArray, List.getElem_cons_succ, List.getElem_cons_zero]); go_simp; try with_reducible rfl)
  try simp only [Act.put, List.getElem_toArray, List.getElem_cons_succ, List.getElem_cons_zero, List.setIfInBounds_toArray, List.set_cons_zero, List.set_cons_succ]
  refine wpAnyH_take (i := 10) (v := ?_) rfl (by kernel_rfl) (by kernel_rfl) (by kernel_rfl) (fun _ _ _ h => h) (Or.inl ⟨by rfl, ?_⟩) hHeld ?_
  rotate_left
  · (intro W hSw; (try dsimp only at hSw); (try simp only [List.getElem_toArray, List.getElem_cons_succ, List.getElem_cons_zero]); go_simp; try with_reducible rfl)
  try simp only [Act.put, List.getElem_toArray, List.getElem_cons_succ, List.getElem_cons_zero, List.setIfInBounds_toArray, List.set_cons_zero, List.set_cons_succ]
  refine wpAnyH_take (i := 11) (v := ?_) rfl (by kernel_rfl) (by kernel_rfl) (by kernel_rfl) (fun _ _ _ h => h) (Or.inl ⟨by rfl, ?_⟩) hHeld ?_
  rotate_left
  · (intro W hSw; (try dsimp only at hSw); (try simp only [List.getElem_toArray, List.getElem_cons_succ, List.getElem_cons_zero]); go_simp; try with_reducible rfl)
  try simp only [Act.put, List.getElem_toArray, List.getElem_cons_succ, List.getElem_cons_zero, List.setIfInBounds_toArray, List.set_cons_zero, List.set_cons_succ]
  refine wpAnyH_ready (rs := [3]) (by kernel_rfl) (by simp) (AllReadyH.cons rfl (fun K hK => ?_) AllReadyH.nil)
  have h0 := hHeld
  clear hHeld
  try simp only [List.getElem_toArray, List.getElem_cons_succ, List.getElem_cons_zero]
  go_simp
  go_at_call 34
  refine (rotate_any x i _ hx hi i0).mono ?_
  rintro e vv ⟨rfl, rfl⟩
  go_wp2_with (fail)
  refine hK.out _ _ rfl (fun hHeld => ?_)
  clear hK K h0
  try simp only [Act.put, List.getElem_toArray, List.getElem_cons_succ, List.getElem_cons_zero, List.setIfInBounds_toArray, List.set_cons_zero, List.set_cons_succ]
  refine wpAnyH_ready (rs := [7]) (by kernel_rfl) (by simp) (AllReadyH.cons rfl (fun K hK => ?_) AllReadyH.nil)
  have h0 := hHeld
  clear hHeld
  try simp only [List.getElem_toArray, List.getElem_cons_succ, List.getElem_cons_zero]
  go_simp
  go_at_call 34
  refine (rotate_any x j _ hx hj j0).mono ?_
  rintro e vv ⟨rfl, rfl⟩
  go_wp2_with (fail)
  refine hK.out _ _ rfl (fun hHeld => ?_)
  clear hK K h0
  try simp only [Act.put, List.getElem_toArray, List.getElem_cons_succ, List.getElem_cons_zero, List.setIfInBounds_toArray, List.set_cons_zero, List.set_cons_succ]
  refine wpAnyH_take (i := 8) (v := ?_) rfl (by kernel_rfl) (by kernel_rfl) (by kernel_rfl) (fun _ _ _ h => h) (Or.inl ⟨by rfl, ?_⟩) hHeld ?_
  rotate_left
  · (intro W hSw; (try dsimp only at hSw); (try simp only [List.getElem_toArray, List.getElem_cons_succ, List.getElem_cons_zero]); go_simp; try with_reducible rfl)
  try simp only [Act.put, List.getElem_toArray, List.getElem_cons_succ, List.getElem_cons_zero, List.setIfInBounds_toArray, List.set_cons_zero, List.set_cons_succ]
  refine wpAnyH_take (i := 12) (v := ?_) rfl (by kernel_rfl) (by kernel_rfl) (by kernel_rfl) (fun _ _ _ h => h) (Or.inl ⟨by rfl, ?_⟩) hHeld ?_
  rotate_left
  · (intro W hSw; (try dsimp only at hSw); (try simp only [List.getElem_toArray, List.getElem_cons_succ, List.getElem_cons_zero]); go_simp; try with_reducible rfl)
  try simp only [Act.put, List.getElem_toArray, List.getElem_cons_succ, List.getElem_cons_zero, List.setIfInBounds_toArray, List.set_cons_zero, List.set_cons_succ]
  refine wpAnyH_ready (rs := [13]) (by kernel_rfl) (by simp) (AllReadyH.cons rfl (fun K hK => ?_) AllReadyH.nil)
  have h0 := hHeld
  clear hHeld
  try simp only [List.getElem_toArray, List.getElem_cons_succ, List.getElem_cons_zero]
  go_simp
  refine hK.out _ _ (h0) (fun hHeld => ?_)
  clear hK K h0
  try simp only [Act.put, List.getElem_toArray, List.getElem_cons_succ, List.getElem_cons_zero, List.setIfInBounds_toArray, List.set_cons_zero, List.set_cons_succ]
  refine wpAnyH_done (by kernel_rfl) ?_ _
  go_wp2_with (fail)
  go_ret
  refine ⟨?_, rfl⟩
  rw [mix_def, ← E2.out]
  rfl
set_option maxHeartbeats 400000 in
theorem mulAdd2_any (a b c d : Nat) (w : World) (ha : a < 18446744073709551616) (hb : b < 18446744073709551616) (hc : c < 18446744073709551616) (hd : d < 18446744073709551616) :
    Calls Tryd.prog 35 #[.int .u64 a, .int .u64 b, .int .u64 c, .int .u64 d] w (MulAddPost a b c d w) := by
  obtain ⟨hi, lo, h1, e1, l1⟩ := mul64_ex a b ha hb
  obtain ⟨s, k, h2, e2, l2, k2⟩ := add64_ex lo c 0 l1 hc (by omega)
  obtain ⟨t, j, h3, e3, l3, k3⟩ := add64_ex s d 0 l2 hd (by omega)
  have hm := mul_lt_sq ha hb
  have hAt : MulAddAt a b c d (hi + k + j) t := by
    unfold MulAddAt
    generalize a * b = m at *
    omega
  have b1 : hi + k + j < 18446744073709551616 := hAt.2.2
  clear hm
  have HA := Lib.hid hAt
  have E1 := Lib.hid e1
  have E2 := Lib.hid e2
  have E3 := Lib.hid e3
  clear hAt e1 e2 e3
  rw [Int.natCast_zero] at h2 h3
  go_enter Tryd.func35, Tryd.ntmps35
  go_wp2_with (first | simp only [h2] | simp only [h3] | (go_at_call 20; refine (h1 _).mono ?_; rintro e w' ⟨rfl, rfl⟩))
  go_ret2
  exact ⟨hi + k + j, t, by go_num, HA.out, rfl⟩
end Go.Proofs.YtagifgadcbhinaaDoor
