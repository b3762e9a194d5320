/- Walks of Square, Neg, Small, Equal, Odd, Select, Swap. -/
import Derived.Test.YtnfckoamjeafhaaDoorFm
import Derived.Test.YtnfckoamjeafhaaDoorEqs
namespace Go.Proofs.YtnfckoamjeafhaaDoor
set_option linter.unusedVariables false
set_option linter.unusedSimpArgs false
open Go.RowKit

theorem es_show (x : Nat) : es x = #[.int .u64 (wd0 x : Int), .int .u64 (wd1 x : Int), .int .u64 (wd2 x : Int), .int .u64 (wd3 x : Int)] := rfl

set_option maxHeartbeats 1000000 in
theorem square_any (x : Nat) (w : World) (hpg : PG w) (hx : x < PP) :
    Calls Tryd.prog 5 #[.agg (es x)] w (ElemPost (x * x % PP) w) := by
  have HP := Lib.hid hpg
  clear hpg
  rw [es_show]
  go_enter Tryd.func5, Tryd.ntmps5
  go_wp2_with (fail)
  refine (mul_any x x _ ((HP.out.alloc _).alloc _) hx hx).mono ?_
  rintro e v2 ⟨rfl, hb2⟩
  have k2 : Blk v2 (w.heap.size + 1) 27 #[.int .u64 0, .int .u64 0, .int .u64 0, .int .u64 0] := (Blk.new' _ _ _ _ (by simp)).below hb2 (by simp)
  have b2 : Below w.heap.size w v2 := below_then (((Below.refl _ _).alloc (Nat.le_refl _) _).alloc (by simp) _) hb2 (by simp; omega)
  have HK2 := Lib.hid k2
  have HB2 := Lib.hid b2
  clear hb2 k2 b2
  go_wp2_with (first | (refine wpList_store_row rfl 27 (.tmp 2) (.tmp 5) rfl (w.heap.size + 1) (es (x * x % PP)) rfl rfl 27 _ HK2.out info_elem rfl (es_one _) ?_))
  exact elem_end (g := w.heap.size + 1) rfl rfl rfl (setRow_heap _ _ _ _ _ _ HK2.out) (below_setRow HB2.out (by omega) _)

set_option maxHeartbeats 1000000 in
theorem neg_any (x : Nat) (w : World) (hpg : PG w) (hx : x < PP) :
    Calls Tryd.prog 23 #[.agg (es x)] w (ElemPost ((PP - x) % PP) w) := by
  have HP := Lib.hid hpg
  clear hpg
  have h0 : 0 < PP := by rw [PP_eq]; omega
  rw [es_show]
  go_enter Tryd.func23, Tryd.ntmps23
  go_wp2_with (fail)
  have hs := sub_any 0 x ((w.alloc (.cells #[.int .u64 (wd0 x : Int), .int .u64 (wd1 x : Int), .int .u64 (wd2 x : Int), .int .u64 (wd3 x : Int)] 27)).alloc (.cells #[.int .u64 0, .int .u64 0, .int .u64 0, .int .u64 0] 27)) ((HP.out.alloc _).alloc _) h0 hx
  rw [Nat.zero_add] at hs
  refine hs.mono ?_
  clear hs
  rintro e v2 ⟨rfl, hb2⟩
  have k2 : Blk v2 (w.heap.size + 1) 27 #[.int .u64 0, .int .u64 0, .int .u64 0, .int .u64 0] := (Blk.new' _ _ _ _ (by simp)).below hb2 (by simp)
  have b2 : Below w.heap.size w v2 := below_then (((Below.refl _ _).alloc (Nat.le_refl _) _).alloc (by simp) _) hb2 (by simp; omega)
  have HK2 := Lib.hid k2
  have HB2 := Lib.hid b2
  clear hb2 k2 b2
  go_wp2_with (first | (refine wpList_store_row rfl 27 (.tmp 2) (.tmp 5) rfl (w.heap.size + 1) (es ((PP - x) % PP)) rfl rfl 27 _ HK2.out info_elem rfl (es_one _) ?_))
  exact elem_end (g := w.heap.size + 1) rfl rfl rfl (setRow_heap _ _ _ _ _ _ HK2.out) (below_setRow HB2.out (by omega) _)

theorem es_small {n : Nat} (h : n < 18446744073709551616) : es n = #[.int .u64 (n : Int), .int .u64 0, .int .u64 0, .int .u64 0] := by
  have : wd0 n = n ∧ wd1 n = 0 ∧ wd2 n = 0 ∧ wd3 n = 0 := by unfold wd0 wd1 wd2 wd3; omega
  rw [es_show, this.1, this.2.1, this.2.2.1, this.2.2.2]
  rfl
set_option maxHeartbeats 1000000 in
theorem small_any (n : Nat) (w : World) (hn : n < 18446744073709551616) :
    Calls Tryd.prog 33 #[.int .u64 (n : Int)] w (ElemPost n w) := by
  go_enter Tryd.func33, Tryd.ntmps33
  go_wp2_with (fail)
  refine bodyPost_ret (v := .agg (es n)) ?_ rfl ⟨rfl, ?_⟩
  · rw [es_small hn]
    simp [results, Tryd.results33, go_sem]
  · exact (Below.refl _ _).alloc (Nat.le_refl _) _

theorem and_one (x : Nat) : (bits .and .u64 (wd0 x : Int) 1 == 1) = decide (x % 2 = 1) := by
  have h := bits_and_u64_nat (wd0 x) 1 (wd0_lt x) (by omega)
  have e : wd0 x &&& 1 = x % 2 := by
    rw [Nat.and_one_is_mod]
    unfold wd0
    omega
  rw [e] at h
  rw [show (1 : Int) = ((1 : Nat) : Int) from rfl, h, Bool.eq_iff_iff]
  simp
  omega
set_option maxHeartbeats 1000000 in
theorem odd_any (x : Nat) (w : World) :
    Calls Tryd.prog 12 #[.agg (es x)] w fun e w' => e = .returned (.bool (decide (x % 2 = 1))) ∧ Below w.heap.size w w' := by
  rw [es_show]
  go_enter Tryd.func12, Tryd.ntmps12
  go_wp2_with (fail)
  go_ret
  exact ⟨by rw [and_one]; rfl, (Below.refl _ _).alloc (Nat.le_refl _) _⟩
theorem es_ncs (x : Nat) : es x = ncs .u64 [wd0 x, wd1 x, wd2 x, wd3 x] := rfl
theorem words_eq {x y : Nat} (hx : x < PP) (hy : y < PP) : ([wd0 x, wd1 x, wd2 x, wd3 x] == [wd0 y, wd1 y, wd2 y, wd3 y]) = decide (x = y) := by
  rw [Bool.eq_iff_iff]
  simp
  constructor
  · rintro ⟨h0, h1, h2, h3⟩
    rw [← num4_of (PP_lt256 hx), ← num4_of (PP_lt256 hy), h0, h1, h2, h3]
  · rintro rfl
    exact ⟨rfl, rfl, rfl, rfl⟩
theorem size_u64 (w : World) : (sizeOf 24).run Tryd.prog w = .ok 1 w := by kernel_rfl
set_option maxHeartbeats 1000000 in
theorem equal_any (x y : Nat) (w : World) (hx : x < PP) (hy : y < PP) :
    Calls Tryd.prog 13 #[.agg (es x), .agg (es y)] w fun e w' => e = .returned (.bool (decide (x = y))) ∧ Below w.heap.size w w' := by
  have he : ∀ W, (Op.equalIn 10000 25 (.agg #[.int .u64 (wd0 x : Int), .int .u64 (wd1 x : Int), .int .u64 (wd2 x : Int), .int .u64 (wd3 x : Int)]) (.agg #[.int .u64 (wd0 y : Int), .int .u64 (wd1 y : Int), .int .u64 (wd2 y : Int), .int .u64 (wd3 y : Int)])).run Tryd.prog W = .ok (decide (x = y)) W := fun W => by
    have := run_equalIn_nats (P := Tryd.prog) W 9998 25 24 4 .u64 Tryd.underlying25 Tryd.underlying24 size_u64 [wd0 x, wd1 x, wd2 x, wd3 x] [wd0 y, wd1 y, wd2 y, wd3 y] rfl rfl
    rw [words_eq hx hy] at this
    exact this
  rw [es_show, es_show]
  go_enter Tryd.func13, Tryd.ntmps13
  go_wp2_with (fail)
  go_ret
  exact ⟨rfl, ((Below.refl _ _).alloc (Nat.le_refl _) _).alloc (by simp) _⟩

set_option maxHeartbeats 1000000 in
theorem select_any (x y : Nat) (b : Bool) (w : World) :
    Calls Tryd.prog 25 #[.agg (es x), .agg (es y), .bool b] w (ElemPost (if b then y else x) w) := by
  cases b
  all_goals
    rw [es_show, es_show]
    go_enter Tryd.func25, Tryd.ntmps25
    go_wp2_with (fail)
  · refine bodyPost_ret (v := .agg (es x)) ?_ rfl ⟨rfl, (((Below.refl _ _).alloc (Nat.le_refl _) _).alloc (by simp) _).alloc (by simp; omega) _⟩
    rw [es_show]
    simp [results, Tryd.results25, go_sem]
  · refine bodyPost_ret (v := .agg (es y)) ?_ rfl ⟨rfl, (((Below.refl _ _).alloc (Nat.le_refl _) _).alloc (by simp) _).alloc (by simp; omega) _⟩
    rw [es_show]
    simp [results, Tryd.results25, go_sem]
end Go.Proofs.YtnfckoamjeafhaaDoor
