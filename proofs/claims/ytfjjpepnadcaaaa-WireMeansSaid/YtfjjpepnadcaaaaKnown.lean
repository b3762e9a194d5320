/- The chapter's rows: 'known' answers true. -/
import Derived.Test.YtfjjpepnadcaaaaRead
namespace Go.Proofs.Ytfjjpepnadcaaaa
set_option linter.unusedVariables false
open Go.RowKit

theorem row1 : numV (blobS (some [0, 2, 7, 8, 9])) 1 = 9 := by decide +kernel
theorem row2 : numS (blobS (some [0, 2, 7, 8, 9])) 1 = some [] := by decide +kernel
theorem row3 : blobV (some [0, 2, 7, 8, 9]) = [7, 8] := by decide +kernel
theorem row4 : be 258 3 = [0, 1, 2] := by decide +kernel
theorem num_ok (k : Int) (w : World) : Calls Try.prog 12 #[.int .i64 k] w fun e w' => e = .returned (.int .i64 k) ∧ w = w' := by
  go_enter Try.func12, Try.ntmps12
  go_wp2
  go_ret
  exact ⟨rfl, rfl⟩
theorem get_row (g : Nat) (w : World) (h : Blk w g 5 #[.int .u8 0, .int .u8 1, .int .u8 2]) :
    Calls Try.prog 10 #[.slice (some ⟨g, 0, none⟩) 3 3] w fun e w' => e = .returned (.tuple #[.int .u64 258, .int .i64 0]) ∧ w = w' := by
  have hb : Blk w g 5 (bvs [0, 1, 2]) := h
  exact get_ok _ 3 3 (g + 1) [0, 1, 2] _ (BS.ofBlk hb 3 rfl _ (by omega)) (by omega) (by omega)
theorem read_row (g : Nat) (w : World) (h : Blk w g 5 #[.int .u8 0, .int .u8 2, .int .u8 7, .int .u8 8, .int .u8 9]) :
    Calls Try.prog 23 #[.slice (some ⟨g, 0, none⟩) 5 5] w (ReadPost [0, 2, 7, 8, 9] w) := by
  have hb : Blk w g 5 (bvs [0, 2, 7, 8, 9]) := h
  exact read_any _ 5 5 (g + 1) _ _ (BS.ofBlk hb 5 rfl _ (by omega)) (by have := h.lt; omega) (by omega)

set_option maxHeartbeats 400000 in
theorem known_ok (w : World) : Calls Try.prog 8 #[] w fun e w' => e = .returned (.bool true) ∧ Below w.heap.size w w' := by
  go_enter Try.func8, Try.ntmps8
  go_wp2_with (fail)
  refine (put_ok 258 3 _ (by omega) (by omega) (by omega) rfl).mono ?_
  rintro e w1 ⟨rfl, hb1, hw1⟩
  go_wp2_with (fail)
  refine (put_no 256 1 _ (by omega) (by omega) (by omega) rfl).mono ?_
  rintro e w1' ⟨rfl, rfl⟩
  go_wp2_with (fail)
  refine (get_row _ _ (Blk.new' _ _ _ _ (by simp))).mono ?_
  rintro e w1' ⟨rfl, rfl⟩
  go_wp2_with (fail)
  refine (read_row _ _ (Blk.new' _ _ _ _ (by simp))).mono ?_
  rintro e w2 ⟨g, rfl, hg, hrd, hw2⟩
  have hs1 := hb1.lt
  rw [size_alloc, size_alloc] at hw2 hg
  go_wp2_with (fail)
  refine (rblb_any _ _ _ hrd).mono ?_
  rintro e w3 ⟨A, n, c, rfl, hbs, hrd3, hg3⟩
  go_wp2_with (fail)
  refine (number_any _ _ 1 _ hrd3).mono ?_
  rintro e w4 ⟨rfl, hrd4, hg4⟩
  rw [row4] at hb1
  rw [row1]
  rw [row2] at hrd4
  rw [row3] at hbs
  have hw24 := grown_trans hg3 hg4
  have hz2 := hw2.size
  rw [size_alloc, size_alloc] at hz2
  have hB4 : Below (w1.heap.size + 1 + 1) w2 w4 := (Below.refl _ w2).grown hw24 hz2 (by rintro k hk; cases hk; exact hg)
  have hB1 : Below w1.heap.size w1 w4 := by
    refine Below.trans ?_ (hB4.mono (by omega))
    refine Below.trans ?_ (hw2.mono (by omega))
    exact ((Below.refl _ _).alloc (Nat.le_refl _) _).alloc (by simp) _
  have hbw : Below w.heap.size w w4 := hw1.trans (hB1.mono (by omega))
  have hA : (convert 23 9 (.slice (some ⟨w.heap.size, 0, none⟩) 3 3)).run Try.prog w4 = .ok (.string ⟨#[0, 1, 2]⟩) w4 :=
    run_str (l := [0, 1, 2]) ((BS.ofBlk (l := [0, 1, 2]) hb1 3 rfl w1.heap.size (by omega)).below hB1) 23 5 9 Try.underlying23 Try.underlying5 Try.underlying9
  have hC : (convert 23 9 (.slice A n c)).run Try.prog w4 = .ok (.string ⟨#[7, 8]⟩) w4 :=
    run_str (l := [7, 8]) (hbs.row hg4 (by have := hrd3.lt; omega)) 23 5 9 Try.underlying23 Try.underlying5 Try.underlying9
  have HB := Lib.hid hbw
  clear hg3 hg4 hw24 hB4 hbw hw1 hw2 hB1
  go_wp2_with (first | (go_at_call 12; refine (num_ok _ _).mono ?_; rintro e w' ⟨rfl, rfl⟩) | (go_at_call 33; refine (end_any _ _ _ hrd4).mono ?_; rintro e w' ⟨rfl, rfl⟩))
  go_ret
  exact ⟨rfl, HB.out⟩
end Go.Proofs.Ytfjjpepnadcaaaa
