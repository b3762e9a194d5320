/- Walks of the functions over numbers: hasRoom, Fits, Put and Get of the code and of the document's answers. -/
import Derived.Test.YtfjjpepnadcaaaaRows
import Derived.Test.YtfjjpepnadcaaaaWords
import Derived.Test.YtfjjpepnadcaaaaPure
import Derived.WalkLawsBesides
import Derived.Lib.Hide
import Derived.Laws.BitsAllLaws
namespace Go.Proofs.Ytfjjpepnadcaaaa
set_option linter.unusedVariables false
open Go.RowKit

theorem info_u8 : (Try.prog.info? 5).map (fun i => (i.zero, i.size, i.bytes)) = some (some (.int .u8 0), 1, 1) := by kernel_rfl

def roomB (n k : Nat) : Bool := decide (n < 256 ^ k)
theorem room_eq (n k : Nat) : ((n : Int) / 2 ^ (8 * k) == 0) = roomB n k := by
  have h : (n : Int) / 2 ^ (8 * k) = ((n / 256 ^ k : Nat) : Int) := by
    rw [← two_pow]; push_cast; rfl
  have hp : 0 < 256 ^ k := Nat.pow_pos (by omega)
  rw [h, Bool.eq_iff_iff, beq_iff_eq, roomB, decide_eq_true_eq, ← Nat.div_eq_zero_iff_lt hp]
  omega

set_option maxHeartbeats 400000 in
theorem hasRoom_in (n k : Nat) (w : World) (h1 : 1 ≤ k) (h2 : k ≤ 8) (hn : n < 18446744073709551616) :
    Calls Try.prog 37 #[.int .u64 n, .int .i64 k] w fun e w' => e = .returned (.bool (roomB n k)) ∧ w = w' := by
  have h3 : (8 : Int) * (k : Int) < 65 := by omega
  rw [← room_eq]
  go_enter Try.func37, Try.ntmps37
  go_wp2
  go_ret
  exact ⟨rfl, rfl⟩
set_option maxHeartbeats 400000 in
theorem hasRoom_out (n k : Int) (w : World) (h1 : k < 1 ∨ 8 < k) :
    Calls Try.prog 37 #[.int .u64 n, .int .i64 k] w fun e w' => e = .returned (.bool false) ∧ w = w' := by
  rcases h1 with h1 | h1
  all_goals
    go_enter Try.func37, Try.ntmps37
    go_wp2
    go_ret
    exact ⟨rfl, rfl⟩

set_option maxHeartbeats 400000 in
theorem put_out (n k : Int) (w : World) (h1 : k < 1 ∨ 8 < k) :
    Calls Try.prog 9 #[.int .u64 n, .int .i64 k] w fun e w' => e = .returned (.tuple #[.slice none 0 0, .int .i64 2]) ∧ w = w' := by
  go_enter Try.func9, Try.ntmps9
  go_wp2_with (go_at_call 37; refine (hasRoom_out _ _ _ h1).mono ?_; rintro e w' ⟨rfl, rfl⟩)
  go_ret2
  exact ⟨rfl, rfl⟩
set_option maxHeartbeats 400000 in
theorem put_no (n k : Nat) (w : World) (h1 : 1 ≤ k) (h2 : k ≤ 8) (hn : n < 18446744073709551616) (hr : roomB n k = false) :
    Calls Try.prog 9 #[.int .u64 n, .int .i64 k] w fun e w' => e = .returned (.tuple #[.slice none 0 0, .int .i64 2]) ∧ w = w' := by
  go_enter Try.func9, Try.ntmps9
  go_wp2_with (go_at_call 37; refine (hasRoom_in _ _ _ h1 h2 hn).mono ?_; rintro e w' ⟨rfl, rfl⟩)
  go_ret2
  exact ⟨rfl, rfl⟩

/-- What Put's loop has made after j rounds. -/
def putSt (n k j : Nat) : List UInt8 := zeros (k - j) ++ be n j
theorem putSt_step {n k j : Nat} (h : j < k) : (putSt n k j).set (k - 1 - j) (UInt8.ofNat (n / 256 ^ j)) = putSt n k (j + 1) := by
  unfold putSt
  obtain ⟨d, rfl⟩ : ∃ d, k = d + (j + 1) := ⟨k - (j + 1), by omega⟩
  rw [show d + (j + 1) - j = d + 1 by omega, show d + (j + 1) - (j + 1) = d by omega, show d + (j + 1) - 1 - j = d by omega]
  have hz : zeros (d + 1) = zeros d ++ [0] := by simp [zeros, List.replicate_succ']
  rw [hz, be, List.append_assoc, List.set_append_right _ _ (by rw [zeros_len]; omega), zeros_len]
  simp
theorem putSt_at {n k j : Nat} (h : j < k) : (putSt n k j)[k - 1 - j]? = some 0 := by
  unfold putSt
  rw [List.getElem?_append_left (by rw [zeros_len]; omega)]
  rw [zeros, List.getElem?_replicate, if_pos (by omega)]
theorem putSt_end (n k : Nat) : putSt n k k = be n k := by simp [putSt, zeros]

theorem byte_of (n j : Nat) : (n : Int) / 2 ^ (8 * j) % 256 = ((UInt8.ofNat (n / 256 ^ j)).toNat : Int) := by
  have h : (n : Int) / 2 ^ (8 * j) = ((n / 256 ^ j : Nat) : Int) := by rw [← two_pow]; push_cast; rfl
  rw [h]
  simp

set_option maxHeartbeats 400000 in
theorem put_ok (n k : Nat) (w : World) (h1 : 1 ≤ k) (h2 : k ≤ 8) (hn : n < 18446744073709551616) (hr : roomB n k = true) :
    Calls Try.prog 9 #[.int .u64 n, .int .i64 k] w fun e w' => e = .returned (.tuple #[.slice (some ⟨w.heap.size, 0, none⟩) k k, .int .i64 0]) ∧ Blk w' w.heap.size 5 (bvs (be n k)) ∧ Below w.heap.size w w' := by
  have hmk := fun W => run_mkb (P := Try.prog) 23 5 Try.underlying23 info_u8 k (by omega) W
  go_enter Try.func9, Try.ntmps9
  go_wp2_with (go_at_call 37; refine (hasRoom_in _ _ _ h1 h2 hn).mono ?_; rintro e w' ⟨rfl, rfl⟩)
  clear hmk
  go_loopw [15] (fun i wr => ∃ j : Nat, j ≤ k ∧ i = .int .i64 j ∧ Blk wr w.heap.size 5 (bvs (putSt n k j)) ∧ Below w.heap.size w wr) (fun i _ => k - (intOf i).toNat)
  case atStart => exact ⟨0, Nat.zero_le _, rfl, by simpa [putSt, be] using Blk.new w 5 (bvs (zeros k)), (Below.refl _ _).alloc (Nat.le_refl _) _⟩
  case round =>
    obtain ⟨j, hj, rfl, hB, hb⟩ := hrel
    by_cases hlt : j < k
    · have hc : wr.cell? ⟨w.heap.size, k - 1 - j, none⟩ = some (.int .u8 0) := by rw [hB.cell, bvs_get, putSt_at hlt]; rfl
      have hf := hB.frozen (k - 1 - j)
      have h8 : (8 : Int) * (j : Int) < 65 := by omega
      go_wp2
      go_roundw
      case rel =>
        refine ⟨j + 1, by omega, by go_num, ?_, hb.setCell (Nat.le_refl _) _⟩
        have := hB.set_ (k - 1 - j) (.int .u8 ((UInt8.ofNat (n / 256 ^ j)).toNat : Int))
        rw [bvs_set, putSt_step hlt] at this
        rw [byte_of]
        exact this
      case measure => simp [intOf]; omega
    · go_wp2
      go_ret2
      obtain rfl : j = k := by omega
      exact ⟨rfl, by rw [← putSt_end]; exact hB, hb⟩

/-! Get. -/
theorem or_byte (a : Nat) (x : UInt8) (h : a < 256 ^ 7) : bits .or .u64 ((a : Int) * 256) (x.toNat : Int) = ((a * 256 + x.toNat : Nat) : Int) := by
  have hx := byte_lt x
  have h7 : 256 ^ 7 = 72057594037927936 := by decide
  have e : (a : Int) * 256 = ((a * 256 : Nat) : Int) := (Int.natCast_mul a 256).symm
  rw [e, u64_or_nat _ _ (by omega) (by omega)]
  have := Nat.two_pow_add_eq_or_of_lt (i := 8) (b := x.toNat) (by omega) a
  rw [show (2 : Nat) ^ 8 = 256 by decide] at this
  rw [Nat.mul_comm a 256, this]
set_option maxHeartbeats 400000 in
theorem get_no (A : Option Addr) (n c : Nat) (w : World) (h : n < 1 ∨ 8 < n) :
    Calls Try.prog 10 #[.slice A n c] w fun e w' => e = .returned (.tuple #[.int .u64 0, .int .i64 2]) ∧ w = w' := by
  rcases h with h | h
  · obtain rfl : n = 0 := by omega
    go_enter Try.func10, Try.ntmps10
    go_wp2
    go_ret2
    exact ⟨rfl, rfl⟩
  · go_enter Try.func10, Try.ntmps10
    go_wp2
    all_goals
      go_ret2
      exact ⟨rfl, rfl⟩
set_option maxHeartbeats 400000 in
theorem get_ok (A : Option Addr) (n c B : Nat) (l : List UInt8) (w : World) (hl : BS w B A n c l) (h1 : 1 ≤ n) (h2 : n ≤ 8) :
    Calls Try.prog 10 #[.slice A n c] w fun e w' => e = .returned (.tuple #[.int .u64 (num l), .int .i64 0]) ∧ w = w' := by
  go_enter Try.func10, Try.ntmps10
  go_wp2
  go_loop [4, 17] (fun a i => ∃ k : Nat, k ≤ n ∧ i = .int .i64 k ∧ a = .int .u64 (num (l.take k))) (fun _ i => n - (intOf i).toNat)
  case atStart => exact ⟨0, Nat.zero_le _, rfl, rfl⟩
  case round =>
    obtain ⟨k, hk, rfl, rfl⟩ := hrel
    by_cases hlt : k < n
    · obtain ⟨b, o, x, rfl, hb, hx, hc⟩ := hl.at' hlt
      have hx2 := num_take hx
      have hlen : (l.take k).length ≤ 7 := by rw [List.length_take]; omega
      have hlt7 := Nat.lt_of_lt_of_le (num_lt (l.take k)) (Nat.pow_le_pow_right (by omega) hlen)
      have hxb := byte_lt x
      have HX := Lib.hid hx2
      have HY := Lib.hid hx
      clear hx2 hx hlen
      go_wp2
      go_round
      case rel =>
        refine ⟨k + 1, by omega, by go_num, ?_⟩
        rw [HX.out]
        rw [or_byte _ _ hlt7]
      case measure => simp [intOf]; omega
    · go_wp2
      go_ret2
      obtain rfl : k = n := by omega
      rw [List.take_of_length_le (by rw [hl.len]; omega)]
      exact ⟨rfl, rfl⟩

/-! The document's answers. -/
set_option maxHeartbeats 400000 in
theorem rget_ok (A : Option Addr) (n c B : Nat) (l : List UInt8) (w : World) (hl : BS w B A n c l) (h2 : n ≤ 8) :
    Calls Try.prog 14 #[.slice A n c] w fun e w' => e = .returned (.int .u64 (num l)) ∧ w = w' := by
  go_enter Try.func14, Try.ntmps14
  go_wp2
  go_loop [3, 4] (fun a i => ∃ k : Nat, k ≤ n ∧ i = .int .i64 k ∧ a = .int .u64 (num (l.take k))) (fun _ i => n - (intOf i).toNat)
  case atStart => exact ⟨0, Nat.zero_le _, rfl, rfl⟩
  case round =>
    obtain ⟨k, hk, rfl, rfl⟩ := hrel
    by_cases hlt : k < n
    · obtain ⟨b, o, x, rfl, hb, hx, hc⟩ := hl.at' hlt
      have hx2 := num_take hx
      have hlen : (l.take k).length ≤ 7 := by rw [List.length_take]; omega
      have hlt7 := Nat.lt_of_lt_of_le (num_lt (l.take k)) (Nat.pow_le_pow_right (by omega) hlen)
      have hxb := byte_lt x
      have h7 : num (l.take k) < 72057594037927936 := hlt7
      have HX := Lib.hid hx2
      have HY := Lib.hid hx
      clear hx2 hx hlen hlt7
      go_wp2
      go_round
      case rel =>
        refine ⟨k + 1, by omega, by go_num, ?_⟩
        rw [HX.out]
        go_num
      case measure => simp [intOf]; omega
    · go_wp2
      go_ret
      obtain rfl : k = n := by omega
      rw [List.take_of_length_le (by rw [hl.len]; omega)]
      exact ⟨rfl, rfl⟩

set_option maxHeartbeats 400000 in
theorem fits_out (n k : Int) (w : World) (h1 : k < 1 ∨ 8 < k) :
    Calls Try.prog 11 #[.int .u64 n, .int .i64 k] w fun e w' => e = .returned (.bool false) ∧ w = w' := by
  rcases h1 with h1 | h1
  all_goals
    go_enter Try.func11, Try.ntmps11
    go_wp2
    go_ret
    exact ⟨rfl, rfl⟩
theorem div_step (n j : Nat) : n / 256 ^ j / 256 = n / 256 ^ (j + 1) := by rw [Nat.div_div_eq_div_mul, Nat.pow_succ]
set_option maxHeartbeats 400000 in
theorem fits_in (n k : Nat) (w : World) (h1 : 1 ≤ k) (h2 : k ≤ 8) (hn : n < 18446744073709551616) :
    Calls Try.prog 11 #[.int .u64 n, .int .i64 k] w fun e w' => e = .returned (.bool (roomB n k)) ∧ w = w' := by
  go_enter Try.func11, Try.ntmps11
  go_wp2
  go_loop [0, 5] (fun a i => ∃ j m : Nat, j ≤ k ∧ i = .int .i64 j ∧ a = .int .u64 m ∧ Hid (m = n / 256 ^ j) ∧ m < 18446744073709551616) (fun _ i => k - (intOf i).toNat)
  case atStart => exact ⟨0, n, Nat.zero_le _, rfl, rfl, Lib.hid (by simp), hn⟩
  case round =>
    obtain ⟨j, m, hj, rfl, rfl, hm, hm2⟩ := hrel
    by_cases hlt : j < k
    · go_wp2
      go_round
      case rel => exact ⟨j + 1, m / 256, by omega, by go_num, by go_num, Lib.hid (by rw [hm.out, div_step]), by omega⟩
      case measure => simp [intOf]; omega
    · go_wp2
      go_ret
      obtain rfl : j = k := by omega
      refine ⟨?_, rfl⟩
      have h := room_eq n j
      rw [show (n : Int) / 2 ^ (8 * j) = ((n / 256 ^ j : Nat) : Int) by rw [← two_pow]; push_cast; rfl, ← hm.out] at h
      rw [← h]
      rfl

set_option maxHeartbeats 400000 in
theorem rput_ok (n k : Nat) (w : World) (h2 : k ≤ 8) (hn : n < 18446744073709551616) :
    Calls Try.prog 13 #[.int .u64 n, .int .i64 k] w fun e w' => e = .returned (.slice (some ⟨w.heap.size, 0, none⟩) k k) ∧ Blk w' w.heap.size 5 (bvs (be n k)) ∧ Below w.heap.size w w' := by
  have hmk := fun W => run_mkb (P := Try.prog) 23 5 Try.underlying23 info_u8 k (by omega) W
  go_enter Try.func13, Try.ntmps13
  go_wp2
  clear hmk
  go_loopw [0, 6] (fun a i wr => ∃ j m : Nat, j ≤ k ∧ i = .int .i64 ((k : Int) - 1 - (j : Int)) ∧ a = .int .u64 m ∧ Hid (m = n / 256 ^ j) ∧ m < 18446744073709551616 ∧ Blk wr w.heap.size 5 (bvs (putSt n k j)) ∧ Below w.heap.size w wr) (fun _ i _ => (intOf i + 1).toNat)
  case atStart => exact ⟨0, n, Nat.zero_le _, by simp, rfl, Lib.hid (by simp), hn, by simpa [putSt, be] using Blk.new w 5 (bvs (zeros k)), (Below.refl _ _).alloc (Nat.le_refl _) _⟩
  case round =>
    obtain ⟨j, m, hj, rfl, rfl, hm, hm2, hB, hb⟩ := hrel
    by_cases hlt : j < k
    · have hc : wr.cell? ⟨w.heap.size, k - 1 - j, none⟩ = some (.int .u8 0) := by rw [hB.cell, bvs_get, putSt_at hlt]; rfl
      have hf := hB.frozen (k - 1 - j)
      go_wp2
      go_roundw
      case rel =>
        refine ⟨j + 1, m / 256, by omega, by go_num, by go_num, Lib.hid (by rw [hm.out, div_step]), by omega, ?_, hb.setCell (Nat.le_refl _) _⟩
        have := hB.set_ (k - 1 - j) (.int .u8 ((UInt8.ofNat (n / 256 ^ j)).toNat : Int))
        rw [bvs_set, putSt_step hlt] at this
        have e : (m : Int) % 256 = ((UInt8.ofNat (n / 256 ^ j)).toNat : Int) := by rw [← hm.out]; simp
        rw [e]
        exact this
      case measure => simp [intOf]; omega
    · go_wp2
      go_ret
      obtain rfl : j = k := by omega
      exact ⟨rfl, by rw [← putSt_end]; exact hB, hb⟩
end Go.Proofs.Ytfjjpepnadcaaaa
