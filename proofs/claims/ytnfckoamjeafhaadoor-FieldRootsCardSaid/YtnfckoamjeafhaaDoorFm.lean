/- Walks of Mul, Square, Neg, Small, Equal, Odd, Select, Swap. -/
import Derived.Test.YtnfckoamjeafhaaDoorFa
namespace Go.Proofs.YtnfckoamjeafhaaDoor
set_option linter.unusedVariables false
set_option linter.unusedSimpArgs false
open Go.RowKit

theorem row_es (g x n b : Nat) (w : World) (hx : x < 115792089237316195423570985008687907853269984665640564039457584007913129639936) (hb : b < 115792089237316195423570985008687907853269984665640564039457584007913129639936) (hn : n < 18446744073709551616) {t : TypeId} (hB : Blk w g t (es x)) :
    Calls Tryd.prog 17 #[.pointer (some ⟨g, 0, none⟩), .int .u64 (n : Int), .int .u64 (wd0 b : Int), .int .u64 (wd1 b : Int), .int .u64 (wd2 b : Int), .int .u64 (wd3 b : Int)] w
      fun e w' => e = .returned (ret5 (x * n + b)) ∧ w = w' := by
  have h := row_any g (wd0 x) (wd1 x) (wd2 x) (wd3 x) n (wd0 b) (wd1 b) (wd2 b) (wd3 b) w (wd0_lt x) (wd1_lt x) (wd2_lt x) (wd3_lt x) (wd0_lt b) (wd1_lt b) (wd2_lt b) (wd3_lt b) hn (hB.cell 0) (hB.cell 1) (hB.cell 2) (hB.cell 3)
  rw [num4_of hx, num4_of hb] at h
  exact h
/-- What is beyond a word of a row's answer, as the next row takes it. -/
theorem next_words {r : Nat} (h : r < 2135987035920910082395021706169552114602704522356652769947041607822219725780640550022962086936576) :
    wd1 r = wd0 (r / 18446744073709551616) ∧ wd2 r = wd1 (r / 18446744073709551616) ∧ wd3 r = wd2 (r / 18446744073709551616) ∧ wd4 r = wd3 (r / 18446744073709551616) := by
  unfold wd0 wd1 wd2 wd3 wd4
  omega
/-- What row answered, its words told as the next row takes them. -/
def retN (r : Nat) : Value := .tuple #[.int .u64 (wd0 r : Int), .int .u64 (wd0 (r / 18446744073709551616) : Int), .int .u64 (wd1 (r / 18446744073709551616) : Int), .int .u64 (wd2 (r / 18446744073709551616) : Int), .int .u64 (wd3 (r / 18446744073709551616) : Int)]
theorem ret5_next {r : Nat} (h : r < 2135987035920910082395021706169552114602704522356652769947041607822219725780640550022962086936576) : ret5 r = retN r := by
  obtain ⟨h1, h2, h3, h4⟩ := next_words h
  unfold ret5 retN
  rw [h1, h2, h3, h4]
theorem div_small {r : Nat} (h : r < 2135987035920910082395021706169552114602704522356652769947041607822219725780640550022962086936576) : r / 18446744073709551616 < 115792089237316195423570985008687907853269984665640564039457584007913129639936 := by omega
theorem words_of4 {a b c d : Nat} (ha : a < 18446744073709551616) (hb : b < 18446744073709551616) (hc : c < 18446744073709551616) (hd : d < 18446744073709551616) :
    wd0 (num4 a b c d) = a ∧ wd1 (num4 a b c d) = b ∧ wd2 (num4 a b c d) = c ∧ wd3 (num4 a b c d) = d := of_num4 rfl ha hb hc hd

set_option maxHeartbeats 2000000 in
theorem mul_any (x y : Nat) (w : World) (hpg : PG w) (hx : x < PP) (hy : y < PP) :
    Calls Tryd.prog 6 #[.agg (es x), .agg (es y)] w (ElemPost (x * y % PP) w) := by
  have hx' := PP_lt256 hx
  obtain ⟨l1, l2, l3, l4⟩ := R_lt (y := y) hx'
  obtain ⟨hmod, hsm⟩ := R5_mod hx hy
  have r1 : ret5 (x * wd0 y + 0) = retN (R1 x y) := ret5_next l1
  have r2 : ret5 (x * wd1 y + R1 x y / 18446744073709551616) = retN (R2 x y) := ret5_next l2
  have r3 : ret5 (x * wd2 y + R2 x y / 18446744073709551616) = retN (R3 x y) := ret5_next l3
  have r4 : ret5 (x * wd3 y + R3 x y / 18446744073709551616) = retN (R4 x y) := ret5_next l4
  have d1 := div_small l1
  have d2 := div_small l2
  have d3 := div_small l3
  have d4 := div_small l4
  have hL := num4_lt (wd0_lt (R1 x y)) (wd0_lt (R2 x y)) (wd0_lt (R3 x y)) (wd0_lt (R4 x y))
  have hW := words_of4 (wd0_lt (R1 x y)) (wd0_lt (R2 x y)) (wd0_lt (R3 x y)) (wd0_lt (R4 x y))
  have r5 : R4 x y / 18446744073709551616 * 38 + num4 (wd0 (R1 x y)) (wd0 (R2 x y)) (wd0 (R3 x y)) (wd0 (R4 x y)) = R5 x y := rfl
  have en := num5_of (R5 x y)
  generalize R1 x y = q1 at *
  generalize R2 x y = q2 at *
  generalize R3 x y = q3 at *
  generalize R4 x y = q4 at *
  generalize R5 x y = q5 at *
  have H1 := Lib.hid r1
  have H2 := Lib.hid r2
  have H3 := Lib.hid r3
  have H4 := Lib.hid r4
  have H5 := Lib.hid r5
  have EN := Lib.hid en
  have HM := Lib.hid hmod
  have HW := Lib.hid hW
  clear r1 r2 r3 r4 r5 l1 l2 l3 l4 hmod hW en
  rw [show es x = #[.int .u64 (wd0 x : Int), .int .u64 (wd1 x : Int), .int .u64 (wd2 x : Int), .int .u64 (wd3 x : Int)] from rfl, show es y = #[.int .u64 (wd0 y : Int), .int .u64 (wd1 y : Int), .int .u64 (wd2 y : Int), .int .u64 (wd3 y : Int)] from rfl]
  go_enter Tryd.func6, Tryd.ntmps6
  go_wp2_with (fail)
  refine (row_es w.heap.size x (wd0 y) 0 _ hx' (by omega) (wd0_lt y) (t := 27) (by exact ((Blk.new w 27 _).alloc _).alloc _)).mono ?_
  rintro e w' ⟨he, rfl⟩
  rw [H1.out] at he
  unfold retN at he
  subst he
  go_wp2_with (fail)
  refine (row_es w.heap.size x (wd1 y) (q1 / 18446744073709551616) _ hx' d1 (wd1_lt y) (t := 27) (by exact ((Blk.new w 27 _).alloc _).alloc _)).mono ?_
  rintro e w' ⟨he, rfl⟩
  rw [H2.out] at he
  unfold retN at he
  subst he
  go_wp2_with (fail)
  refine (row_es w.heap.size x (wd2 y) (q2 / 18446744073709551616) _ hx' d2 (wd2_lt y) (t := 27) (by exact ((Blk.new w 27 _).alloc _).alloc _)).mono ?_
  rintro e w' ⟨he, rfl⟩
  rw [H3.out] at he
  unfold retN at he
  subst he
  go_wp2_with (fail)
  refine (row_es w.heap.size x (wd3 y) (q3 / 18446744073709551616) _ hx' d3 (wd3_lt y) (t := 27) (by exact ((Blk.new w 27 _).alloc _).alloc _)).mono ?_
  rintro e w' ⟨he, rfl⟩
  rw [H4.out] at he
  unfold retN at he
  subst he
  go_wp2_with (fail)
  have h38 := row_es (w.heap.size + 1 + 1 + 1) (q4 / 18446744073709551616) 38 (num4 (wd0 q1) (wd0 q2) (wd0 q3) (wd0 q4)) ((((w.alloc (.cells #[.int .u64 (wd0 x : Int), .int .u64 (wd1 x : Int), .int .u64 (wd2 x : Int), .int .u64 (wd3 x : Int)] 27)).alloc (.cells #[.int .u64 (wd0 y : Int), .int .u64 (wd1 y : Int), .int .u64 (wd2 y : Int), .int .u64 (wd3 y : Int)] 27)).alloc (.cells #[.int .u64 0, .int .u64 0, .int .u64 0, .int .u64 0] 27)).alloc (.cells (es (q4 / 18446744073709551616)) 25)) d4 hL (by omega) (t := 25) (Blk.new' _ _ _ _ (by simp))
  rw [HW.out.1, HW.out.2.1, HW.out.2.2.1, HW.out.2.2.2, H5.out] at h38
  refine h38.mono ?_
  rintro e w' ⟨he, rfl⟩
  clear h38
  unfold ret5 at he
  subst he
  have hp1 := ((((hpg.alloc (.cells #[.int .u64 (wd0 x : Int), .int .u64 (wd1 x : Int), .int .u64 (wd2 x : Int), .int .u64 (wd3 x : Int)] 27)).alloc (.cells #[.int .u64 (wd0 y : Int), .int .u64 (wd1 y : Int), .int .u64 (wd2 y : Int), .int .u64 (wd3 y : Int)] 27)).alloc (.cells #[.int .u64 0, .int .u64 0, .int .u64 0, .int .u64 0] 27)).alloc (.cells (es (q4 / 18446744073709551616)) 25))
  have HP1 := Lib.hid hp1
  clear hp1 hpg
  go_wp2_with (fail)
  refine (settle_any (wd0 q5) (wd1 q5) (wd2 q5) (wd3 q5) (wd4 q5) _ HP1.out (wd0_lt _) (wd1_lt _) (wd2_lt _) (wd3_lt _) hsm).mono ?_
  rintro e v2 ⟨he, hb2⟩
  rw [EN.out, HM.out] at he
  subst he
  have k2 : Blk v2 (w.heap.size + 1 + 1) 27 #[.int .u64 0, .int .u64 0, .int .u64 0, .int .u64 0] := ((Blk.new' _ _ _ _ (by simp)).alloc _).below hb2 (by simp)
  have b2 : Below w.heap.size w v2 := below_then (((((Below.refl _ _).alloc (Nat.le_refl _) _).alloc (by simp) _).alloc (by simp; omega) _).alloc (by simp; omega) _) hb2 (by simp; omega)
  have HK2 := Lib.hid k2
  have HB2 := Lib.hid b2
  clear hb2 k2 b2
  go_wp2_with (first | (refine wpList_store_row rfl 27 (.tmp 4) (.tmp 85) rfl (w.heap.size + 1 + 1) (es (x * y % PP)) rfl rfl 27 _ HK2.out info_elem rfl (es_one _) ?_))
  exact elem_end (g := w.heap.size + 1 + 1) rfl rfl rfl (setRow_heap _ _ _ _ _ _ HK2.out) (below_setRow HB2.out (by omega) _)
end Go.Proofs.YtnfckoamjeafhaaDoor
