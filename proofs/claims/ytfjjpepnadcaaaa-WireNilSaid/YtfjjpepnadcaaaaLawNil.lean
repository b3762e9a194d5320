/- The walk of WireNil. -/
import Derived.Test.YtfjjpepnadcaaaaKnown
import Derived.Test.YtfjjpepnadcaaaaKey
namespace Go.Proofs.Ytfjjpepnadcaaaa
open Go.RowKit

theorem nil1 : numS (some [1, 2]) 3 = none := by decide +kernel
theorem nil2 : numV (some [1, 2]) 3 = 0 := by decide +kernel
theorem read_two (g : Nat) (w : World) (h : Blk w g 5 #[.int .u8 1, .int .u8 2]) :
    Calls Try.prog 23 #[.slice (some ⟨g, 0, none⟩) 2 2] w (ReadPost [1, 2] w) := by
  have hb : Blk w g 5 (bvs [1, 2]) := h
  exact read_any _ 2 2 (g + 1) _ _ (BS.ofBlk hb 2 rfl _ (by omega)) (by have := h.lt; omega) (by omega)
theorem number3 (g : Nat) (w : World) (h : Rd w g (some [1, 2])) :
    Calls Try.prog 24 #[.pointer (some ⟨g, 0, none⟩), .int .i64 3] w (NumPost w g none 0) := by
  have := number_any g _ 3 w h
  rw [nil1, nil2] at this
  exact this
theorem number_gone (g : Nat) (w : World) (h : Rd w g none) :
    Calls Try.prog 24 #[.pointer (some ⟨g, 0, none⟩), .int .i64 1] w (NumPost w g none 0) := number_any g _ 1 w h

set_option maxHeartbeats 1000000 in
theorem wireNil_all (w : World) : Calls Try.prog 7 #[] w fun e w' => e = .returned (.bool true) ∧ Below w.heap.size w w' := by
  have hk := key_zero
  have HK := Lib.hid hk
  clear hk
  go_enter Try.func7, Try.ntmps7
  go_wp2_with (fail)
  refine (read_two _ _ (Blk.new' _ _ _ _ (by simp))).mono ?_
  rintro e w2 ⟨g, rfl, hg, hrd, hw2⟩
  rw [size_alloc, size_alloc] at hw2 hg
  have hz : Blk w2 w.heap.size 68 #[.int .i64 0, .slice none 0 0] := ((Blk.new w 68 #[.int .i64 0, .slice none 0 0]).alloc _).below hw2 (by omega)
  have hz2 := hw2.size
  rw [size_alloc, size_alloc] at hz2
  have hb2 : Below w.heap.size w w2 := by
    refine Below.trans ?_ (hw2.mono (by omega))
    exact ((Below.refl _ _).alloc (Nat.le_refl _) _).alloc (by simp) _
  have H2 := Lib.hid hb2
  clear hw2 hb2
  go_wp2_with (fail)
  refine (number3 _ _ hrd).mono ?_
  rintro e w3 ⟨rfl, hrd3, hg3⟩
  go_wp2_with (fail)
  refine (number_gone _ _ hrd3).mono ?_
  rintro e w4 ⟨rfl, hrd4, hg4⟩
  have hw24 := grown_trans hg3 hg4
  have hz4 := hz.row hw24 (by omega)
  have hB4 : Below w.heap.size w w4 := H2.out.grown hw24 H2.out.size (by rintro k hk; cases hk; omega)
  have HB := Lib.hid hB4
  have HG := Lib.hid hg
  clear hg3 hg4 hw24 hB4 hz hz2 hrd hrd3 hg
  go_wp2_with (first
    | (go_at_call 12; refine (num_ok _ _).mono ?_; rintro e w' ⟨rfl, rfl⟩)
    | (go_at_call 8; refine (known_ok _).mono ?_; rintro e w6 ⟨rfl, hw6⟩)
    | (go_at_call 24; refine (number_nil _ _).mono ?_; rintro e w' ⟨rfl, rfl⟩)
    | (go_at_call 26; refine (bytes_nil _ _).mono ?_; rintro e w' ⟨rfl, rfl⟩)
    | (go_at_call 28; refine (rblb_nil _).mono ?_; rintro e w' ⟨rfl, rfl⟩))
  refine (key_nil _).mono ?_
  rintro e w5 ⟨rfl, hw5⟩
  have hz5 := hz4.below hw5 hz4.lt
  have hrd5 := hrd4.below hw5 hrd4.lt
  have hB5 := HB.out.trans (hw5.mono HB.out.size)
  have HB5 := Lib.hid hB5
  have hk := HK.out
  clear hz4 hrd4 hw5 hB5
  go_wp2_with (first
    | (go_at_call 12; refine (num_ok _ _).mono ?_; rintro e w' ⟨rfl, rfl⟩)
    | (go_at_call 8; refine (known_ok _).mono ?_; rintro e w6 ⟨rfl, hw6⟩)
    | (go_at_call 32; ((with_reducible refine (left_nil _).mono ?_); rintro e w' ⟨rfl, rfl⟩))
    | (go_at_call 32; ((with_reducible refine (left_zero _ _ _ hz5).mono ?_); rintro e w' ⟨rfl, rfl⟩))
    | (go_at_call 32; ((with_reducible refine (left_any _ _ _ hrd5).mono ?_); rintro e w' ⟨rfl, rfl⟩))
    | (go_at_call 33; ((with_reducible refine (end_nil _).mono ?_); rintro e w' ⟨rfl, rfl⟩))
    | (go_at_call 33; ((with_reducible refine (end_zero _ _ _ hz5).mono ?_); rintro e w' ⟨rfl, rfl⟩))
    | (go_at_call 33; ((with_reducible refine (end_any _ _ _ hrd5).mono ?_); rintro e w' ⟨rfl, rfl⟩)))
  go_ret
  exact ⟨rfl, HB5.out.trans (hw6.mono HB5.out.size)⟩
end Go.Proofs.Ytfjjpepnadcaaaa
