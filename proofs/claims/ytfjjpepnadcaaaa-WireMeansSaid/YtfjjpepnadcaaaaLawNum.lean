/- The walk of WireNumbers. -/
import Derived.Test.YtfjjpepnadcaaaaKnown
import Derived.Deep.RegionWith
import Derived.Deep.QuietTactic
import Derived.BigQuiet
namespace Go.Proofs.Ytfjjpepnadcaaaa
set_option linter.unusedVariables false
open Go.RowKit

def fitB (n : Nat) (K : Int) : Bool := sizeB K && roomB n K.toNat
theorem put_bad (n : Nat) (K : Int) (w : World) (hn : n < 18446744073709551616) (h : fitB n K = false) :
    Calls Try.prog 9 #[.int .u64 n, .int .i64 K] w fun e w' => e = .returned (.tuple #[.slice none 0 0, .int .i64 2]) ∧ w = w' := by
  by_cases hs : 1 ≤ K ∧ K ≤ 8
  · obtain ⟨k, rfl⟩ := Int.eq_ofNat_of_zero_le (show 0 ≤ K by omega)
    have : sizeB (k : Int) = true := by simp [sizeB]; omega
    simp [fitB, this] at h
    exact put_no n k w (by omega) (by omega) hn h
  · exact put_out n K w (by omega)
theorem put_good (n : Nat) (K : Int) (w : World) (hn : n < 18446744073709551616) (h : fitB n K = true) :
    Calls Try.prog 9 #[.int .u64 n, .int .i64 K] w fun e w' => e = .returned (.tuple #[.slice (some ⟨w.heap.size, 0, none⟩) K.toNat K.toNat, .int .i64 0]) ∧ Blk w' w.heap.size 5 (bvs (be n K.toNat)) ∧ Below w.heap.size w w' := by
  simp [fitB, sizeB] at h
  obtain ⟨k, rfl⟩ := Int.eq_ofNat_of_zero_le (show 0 ≤ K by omega)
  exact put_ok n k w (by omega) (by omega) hn h.2
theorem rput_good (n : Nat) (K : Int) (w : World) (hn : n < 18446744073709551616) (h : fitB n K = true) :
    Calls Try.prog 13 #[.int .u64 n, .int .i64 K] w fun e w' => e = .returned (.slice (some ⟨w.heap.size, 0, none⟩) K.toNat K.toNat) ∧ Blk w' w.heap.size 5 (bvs (be n K.toNat)) ∧ Below w.heap.size w w' := by
  simp [fitB, sizeB] at h
  obtain ⟨k, rfl⟩ := Int.eq_ofNat_of_zero_le (show 0 ≤ K by omega)
  exact rput_ok n k w (by omega) hn
theorem fits_any (n : Nat) (K : Int) (w : World) (hn : n < 18446744073709551616) :
    Calls Try.prog 11 #[.int .u64 n, .int .i64 K] w fun e w' => e = .returned (.bool (fitB n K)) ∧ w = w' := by
  by_cases hs : 1 ≤ K ∧ K ≤ 8
  · obtain ⟨k, rfl⟩ := Int.eq_ofNat_of_zero_le (show 0 ≤ K by omega)
    have : sizeB (k : Int) = true := by simp [sizeB]; omega
    have e : fitB n (k : Int) = roomB n k := by simp [fitB, this]
    rw [e]
    exact fits_in n k w (by omega) (by omega) hn
  · have e : fitB n K = false := by simp [fitB, sizeB]; omega
    rw [e]
    exact fits_out n K w (by omega)

def LawPost (w : World) (e : Ending) (w' : World) : Prop := e = .returned (.bool true) ∧ Below w.heap.size w w'

set_option maxHeartbeats 400000 in
theorem numbers_big (n K : Int) (A : Option Addr) (m c : Nat) (w : World) (hm : 9000 < m) :
    Calls Try.prog 3 #[.int .u64 n, .int .i64 K, .slice A m c] w (LawPost w) := by
  go_enter Try.func3, Try.ntmps3
  go_wp2_with (go_at_call 8; refine (known_ok _).mono ?_; rintro e w' ⟨rfl, hw'⟩)
  go_ret
  exact ⟨rfl, hw'⟩
set_option maxHeartbeats 400000 in
theorem numbers_bad_out (n : Nat) (K : Int) (A : Option Addr) (m c : Nat) (w : World) (hm : m ≤ 9000) (hn : n < 18446744073709551616) (hf : fitB n K = false) (hm8 : m < 1 ∨ 8 < m) :
    Calls Try.prog 3 #[.int .u64 n, .int .i64 K, .slice A m c] w (LawPost w) := by
  have hg := fun W => get_no A m c W hm8
  have HG := Lib.hid hg
  have HF := Lib.hid hf
  clear hg hf
  rcases hm8 with hm8 | hm8
  · obtain rfl : m = 0 := by omega
    go_enter Try.func3, Try.ntmps3
    go_wp2_with (first
      | (go_at_call 8; refine (known_ok _).mono ?_; rintro e w' ⟨rfl, hw'⟩)
      | (go_at_call 12; refine (num_ok _ _).mono ?_; rintro e w' ⟨rfl, rfl⟩)
      | (go_at_call 9; refine (put_bad _ _ _ hn HF.out).mono ?_; rintro e w' ⟨rfl, rfl⟩)
      | (go_at_call 10; refine (HG.out _).mono ?_; rintro e w' ⟨rfl, rfl⟩)
      | (go_at_call 11; refine (fits_any _ _ _ hn).mono ?_; rintro e w' ⟨rfl, rfl⟩; rw [HF.out]))
    go_ret
    exact ⟨rfl, hw'⟩
  · go_enter Try.func3, Try.ntmps3
    go_wp2_with (first
      | (go_at_call 8; refine (known_ok _).mono ?_; rintro e w' ⟨rfl, hw'⟩)
      | (go_at_call 12; refine (num_ok _ _).mono ?_; rintro e w' ⟨rfl, rfl⟩)
      | (go_at_call 9; refine (put_bad _ _ _ hn HF.out).mono ?_; rintro e w' ⟨rfl, rfl⟩)
      | (go_at_call 10; refine (HG.out _).mono ?_; rintro e w' ⟨rfl, rfl⟩)
      | (go_at_call 11; refine (fits_any _ _ _ hn).mono ?_; rintro e w' ⟨rfl, rfl⟩; rw [HF.out]))
    all_goals
      go_ret
      exact ⟨rfl, hw'⟩
set_option maxHeartbeats 400000 in
theorem numbers_bad_in (n : Nat) (K : Int) (A : Option Addr) (m c B : Nat) (l : List UInt8) (w : World) (hl : BS w B A m c l) (hn : n < 18446744073709551616) (hf : fitB n K = false) (h1 : 1 ≤ m) (h8 : m ≤ 8) :
    Calls Try.prog 3 #[.int .u64 n, .int .i64 K, .slice A m c] w (LawPost w) := by
  have hg := get_ok A m c B l w hl h1 h8
  have hg2 := rget_ok A m c B l w hl h8
  have HG := Lib.hid hg
  have HG2 := Lib.hid hg2
  have HF := Lib.hid hf
  clear hg hf hg2
  go_enter Try.func3, Try.ntmps3
  go_wp2_with (first
      | (go_at_call 8; refine (known_ok _).mono ?_; rintro e w' ⟨rfl, hw'⟩)
      | (go_at_call 12; refine (num_ok _ _).mono ?_; rintro e w' ⟨rfl, rfl⟩)
      | (go_at_call 9; refine (put_bad _ _ _ hn HF.out).mono ?_; rintro e w' ⟨rfl, rfl⟩)
      | (go_at_call 10; refine HG.out.mono ?_; rintro e w' ⟨rfl, rfl⟩)
      | (go_at_call 14; refine HG2.out.mono ?_; rintro e w' ⟨rfl, rfl⟩)
      | (go_at_call 11; refine (fits_any _ _ _ hn).mono ?_; rintro e w' ⟨rfl, rfl⟩; rw [HF.out]))
  go_ret
  exact ⟨rfl, hw'⟩
set_option maxHeartbeats 1000000 in
theorem numbers_good_in (n : Nat) (K : Int) (A : Option Addr) (m c B : Nat) (l : List UInt8) (w : World) (hl : BS w B A m c l) (hB : B ≤ w.heap.size) (hn : n < 18446744073709551616) (hf : fitB n K = true) (h1 : 1 ≤ m) (h8 : m ≤ 8) :
    Calls Try.prog 3 #[.int .u64 n, .int .i64 K, .slice A m c] w (LawPost w) := by
  have HF := Lib.hid hf
  clear hf
  go_enter Try.func3, Try.ntmps3
  go_wp2_with (fail)
  refine (put_good _ _ _ hn HF.out).mono ?_
  rintro e w1 ⟨rfl, hb1, hw1⟩
  have hl1 := hl.below (hw1.mono hB)
  go_wp2_with (fail)
  refine (get_ok A m c B l w1 hl1 h1 h8).mono ?_
  rintro e w' ⟨rfl, rfl⟩
  go_wp2_with (go_at_call 11; refine (fits_any _ _ _ hn).mono ?_; rintro e w' ⟨rfl, rfl⟩; rw [HF.out])
  have hx := be_len n K.toNat
  have hA : (convert 23 9 (.slice (some ⟨w.heap.size, 0, none⟩) K.toNat K.toNat)).run Try.prog w1.drew = .ok (.string (strB (be n K.toNat))) w1.drew :=
    run_str ((BS.ofBlk hb1 _ hx.symm w1.heap.size hb1.lt).drew) 23 5 9 Try.underlying23 Try.underlying5 Try.underlying9
  have hnext : ∀ w2 : World, Blk w2 w1.drew.heap.size 5 (bvs (be n K.toNat)) → Below w1.drew.heap.size w1.drew w2 →
      (convert 23 9 (.slice (some ⟨w.heap.size, 0, none⟩) K.toNat K.toNat)).run Try.prog w2 = .ok (.string (strB (be n K.toNat))) w2 ∧
      (convert 23 9 (.slice (some ⟨w1.heap.size, 0, none⟩) K.toNat K.toNat)).run Try.prog w2 = .ok (.string (strB (be n K.toNat))) w2 ∧ Below w.heap.size w w2 := fun w2 hb2 hw2 =>
    ⟨run_str ((BS.ofBlk hb1 _ hx.symm w1.heap.size hb1.lt).drew.below hw2) 23 5 9 Try.underlying23 Try.underlying5 Try.underlying9,
     run_str (BS.ofBlk hb2 _ hx.symm (w1.heap.size + 1) (Nat.lt_succ_self _)) 23 5 9 Try.underlying23 Try.underlying5 Try.underlying9,
     hw1.drew.trans (hw2.mono hw1.size)⟩
  have HX := Lib.hid hx
  have HN := Lib.hid hnext
  clear hx hnext
  go_region_with (first
    | (go_at_call 13; refine (rput_good _ _ _ hn HF.out).mono ?_; rintro e w2 ⟨rfl, hb2, hw2⟩; obtain ⟨hc1, hc2, hw3⟩ := HN.out w2 hb2 hw2; clear hb2 hw2)
    | (go_at_call 12; refine (num_ok _ _).mono ?_; rintro e w' ⟨rfl, rfl⟩))
  all_goals
    go_wp2_with (first
      | (go_at_call 8; refine (known_ok _).mono ?_; rintro e w3 ⟨rfl, hw4⟩)
      | (go_at_call 12; refine (num_ok _ _).mono ?_; rintro e w' ⟨rfl, rfl⟩)
      | (go_at_call 14; refine (rget_ok A m c B l _ (hl.below (hw3.mono hB)) h8).mono ?_; rintro e w' ⟨rfl, rfl⟩))
    go_ret
    exact ⟨rfl, hw3.trans (hw4.mono hw3.size)⟩
set_option maxHeartbeats 1000000 in
theorem numbers_good_out (n : Nat) (K : Int) (A : Option Addr) (m c : Nat) (w : World) (hn : n < 18446744073709551616) (hf : fitB n K = true) (hm : m ≤ 9000) (hm8 : m < 1 ∨ 8 < m) :
    Calls Try.prog 3 #[.int .u64 n, .int .i64 K, .slice A m c] w (LawPost w) := by
  have hg := fun W => get_no A m c W hm8
  have HG := Lib.hid hg
  have HF := Lib.hid hf
  clear hg hf
  rcases hm8 with hm8 | hm8
  · obtain rfl : m = 0 := by omega
    go_enter Try.func3, Try.ntmps3
    go_wp2_with (fail)
    refine (put_good _ _ _ hn HF.out).mono ?_
    rintro e w1 ⟨rfl, hb1, hw1⟩
    go_wp2_with (fail)
    refine (HG.out _).mono ?_
    rintro e w' ⟨rfl, rfl⟩
    go_wp2_with (go_at_call 11; refine (fits_any _ _ _ hn).mono ?_; rintro e w' ⟨rfl, rfl⟩; rw [HF.out])
    have hx := be_len n K.toNat
    have hA : (convert 23 9 (.slice (some ⟨w.heap.size, 0, none⟩) K.toNat K.toNat)).run Try.prog w1.drew = .ok (.string (strB (be n K.toNat))) w1.drew :=
      run_str ((BS.ofBlk hb1 _ hx.symm w1.heap.size hb1.lt).drew) 23 5 9 Try.underlying23 Try.underlying5 Try.underlying9
    have hnext : ∀ w2 : World, Blk w2 w1.drew.heap.size 5 (bvs (be n K.toNat)) → Below w1.drew.heap.size w1.drew w2 →
        (convert 23 9 (.slice (some ⟨w.heap.size, 0, none⟩) K.toNat K.toNat)).run Try.prog w2 = .ok (.string (strB (be n K.toNat))) w2 ∧
        (convert 23 9 (.slice (some ⟨w1.heap.size, 0, none⟩) K.toNat K.toNat)).run Try.prog w2 = .ok (.string (strB (be n K.toNat))) w2 ∧ Below w.heap.size w w2 := fun w2 hb2 hw2 =>
      ⟨run_str ((BS.ofBlk hb1 _ hx.symm w1.heap.size hb1.lt).drew.below hw2) 23 5 9 Try.underlying23 Try.underlying5 Try.underlying9,
       run_str (BS.ofBlk hb2 _ hx.symm (w1.heap.size + 1) (Nat.lt_succ_self _)) 23 5 9 Try.underlying23 Try.underlying5 Try.underlying9,
       hw1.drew.trans (hw2.mono hw1.size)⟩
    have HX := Lib.hid hx
    have HN := Lib.hid hnext
    clear hx hnext
    go_region_with (first
      | (go_at_call 13; refine (rput_good _ _ _ hn HF.out).mono ?_; rintro e w2 ⟨rfl, hb2, hw2⟩; obtain ⟨hc1, hc2, hw3⟩ := HN.out w2 hb2 hw2; clear hb2 hw2)
      | (go_at_call 12; refine (num_ok _ _).mono ?_; rintro e w' ⟨rfl, rfl⟩))
    all_goals
      go_wp2_with (first
        | (go_at_call 8; refine (known_ok _).mono ?_; rintro e w3 ⟨rfl, hw4⟩)
        | (go_at_call 12; refine (num_ok _ _).mono ?_; rintro e w' ⟨rfl, rfl⟩))
      go_ret
      exact ⟨rfl, hw3.trans (hw4.mono hw3.size)⟩
  · go_enter Try.func3, Try.ntmps3
    go_wp2_with (fail)
    refine (put_good _ _ _ hn HF.out).mono ?_
    rintro e w1 ⟨rfl, hb1, hw1⟩
    go_wp2_with (fail)
    refine (HG.out _).mono ?_
    rintro e w' ⟨rfl, rfl⟩
    go_wp2_with (go_at_call 11; refine (fits_any _ _ _ hn).mono ?_; rintro e w' ⟨rfl, rfl⟩; rw [HF.out])
    have hx := be_len n K.toNat
    have hA : (convert 23 9 (.slice (some ⟨w.heap.size, 0, none⟩) K.toNat K.toNat)).run Try.prog w1.drew = .ok (.string (strB (be n K.toNat))) w1.drew :=
      run_str ((BS.ofBlk hb1 _ hx.symm w1.heap.size hb1.lt).drew) 23 5 9 Try.underlying23 Try.underlying5 Try.underlying9
    have hnext : ∀ w2 : World, Blk w2 w1.drew.heap.size 5 (bvs (be n K.toNat)) → Below w1.drew.heap.size w1.drew w2 →
        (convert 23 9 (.slice (some ⟨w.heap.size, 0, none⟩) K.toNat K.toNat)).run Try.prog w2 = .ok (.string (strB (be n K.toNat))) w2 ∧
        (convert 23 9 (.slice (some ⟨w1.heap.size, 0, none⟩) K.toNat K.toNat)).run Try.prog w2 = .ok (.string (strB (be n K.toNat))) w2 ∧ Below w.heap.size w w2 := fun w2 hb2 hw2 =>
      ⟨run_str ((BS.ofBlk hb1 _ hx.symm w1.heap.size hb1.lt).drew.below hw2) 23 5 9 Try.underlying23 Try.underlying5 Try.underlying9,
       run_str (BS.ofBlk hb2 _ hx.symm (w1.heap.size + 1) (Nat.lt_succ_self _)) 23 5 9 Try.underlying23 Try.underlying5 Try.underlying9,
       hw1.drew.trans (hw2.mono hw1.size)⟩
    have HX := Lib.hid hx
    have HN := Lib.hid hnext
    clear hx hnext
    go_region_with (first
      | (go_at_call 13; refine (rput_good _ _ _ hn HF.out).mono ?_; rintro e w2 ⟨rfl, hb2, hw2⟩; obtain ⟨hc1, hc2, hw3⟩ := HN.out w2 hb2 hw2; clear hb2 hw2)
      | (go_at_call 12; refine (num_ok _ _).mono ?_; rintro e w' ⟨rfl, rfl⟩))
    all_goals
      go_wp2_with (first
        | (go_at_call 8; refine (known_ok _).mono ?_; rintro e w3 ⟨rfl, hw4⟩)
        | (go_at_call 12; refine (num_ok _ _).mono ?_; rintro e w' ⟨rfl, rfl⟩))
      go_ret
      exact ⟨rfl, hw3.trans (hw4.mono hw3.size)⟩

theorem numbers_all (n : Nat) (K : Int) (A : Option Addr) (m c : Nat) (l : List UInt8) (w : World) (hl : BS w w.heap.size A m c l) (hn : n < 18446744073709551616) :
    Calls Try.prog 3 #[.int .u64 n, .int .i64 K, .slice A m c] w (LawPost w) := by
  by_cases hm : 9000 < m
  · exact numbers_big n K A m c w hm
  · by_cases h8 : 1 ≤ m ∧ m ≤ 8
    · cases hf : fitB n K with
      | false => exact numbers_bad_in n K A m c _ l w hl hn hf h8.1 h8.2
      | true => exact numbers_good_in n K A m c _ l w hl (Nat.le_refl _) hn hf h8.1 h8.2
    · cases hf : fitB n K with
      | false => exact numbers_bad_out n K A m c w (by omega) hn hf (by omega)
      | true => exact numbers_good_out n K A m c w hn hf (by omega) (by omega)
end Go.Proofs.Ytfjjpepnadcaaaa
