/- Walks of Add, Sub, Neg, Mul, Square, Small, Equal, Odd, Select. -/
import Derived.Test.YtnfckoamjeafhaaDoorFt
import Derived.Laws.CopyOwn
namespace Go.Proofs.YtnfckoamjeafhaaDoor
set_option linter.unusedVariables false
set_option linter.unusedSimpArgs false
open Go.RowKit

theorem PP_lt256 {x : Nat} (h : x < PP) : x < 115792089237316195423570985008687907853269984665640564039457584007913129639936 := by rw [PP_eq] at h; omega
theorem ext_alloc {B : Nat} {w w' : World} (h : Below B w w') (hB : B ≤ w'.heap.size) (o : Obj) : Below B w (w'.alloc o) := h.alloc hB o
theorem es_one (n : Nat) : (es n).all (·.oneCell') = true := by simp [es, Value.oneCell']
/-- The end of a function whose result is an element: what was stored is read. -/
theorem elem_end {fn : Func} {p : Tmp} (hr : fn.results = #[.cell p 27]) {a : Act} (hd : a.defers = []) {W w : World} {g n : Nat} (hp : a.tmps.getD p undef = .pointer (some ⟨g, 0, none⟩)) (hb : Blk w g 27 (es n)) (hB : Below W.heap.size W w) :
    bodyPost Tryd.prog fn (ElemPost n W) .ret a w :=
  bodyPost_ret (ret_elem (n := n) hr hp hb) hd ⟨rfl, hB⟩

theorem add_small {x y : Nat} (hx : x < PP) (hy : y < PP) : wd4 (x + y) < 39 := by
  rw [PP_eq] at hx hy
  unfold wd4
  omega

theorem es_zero : es 0 = #[.int .u64 0, .int .u64 0, .int .u64 0, .int .u64 0] := rfl
/-- What minus reckons of p and y. -/
def mP (y : Nat) : Nat := num4 18446744073709551597 18446744073709551615 18446744073709551615 9223372036854775807 + 115792089237316195423570985008687907853269984665640564039457584007913129639936 - y
theorem sub_words {y : Nat} (hy : y < PP) : num4 (wd0 (mP y)) (wd1 (mP y)) (wd2 (mP y)) (wd3 (mP y)) = PP - y := by
  rw [PP_eq] at *
  unfold mP num4 wd0 wd1 wd2 wd3
  omega
theorem sub_small {x y : Nat} (hx : x < PP) : wd4 (x + (PP - y)) < 39 := by
  rw [PP_eq] at *
  unfold wd4
  omega
set_option maxHeartbeats 1000000 in
theorem sub_any (x y : Nat) (w : World) (hpg : PG w) (hx : x < PP) (hy : y < PP) :
    Calls Tryd.prog 34 #[.agg (es x), .agg (es y)] w (ElemPost ((x + (PP - y)) % PP) w) := by
  have ex := num4_of (PP_lt256 hx)
  have ey := num4_of (PP_lt256 hy)
  have es' := sub_small (y := y) hx
  have en := num5_of (x + (PP - y))
  have esw := sub_words hy
  have EX := Lib.hid ex
  have EY := Lib.hid ey
  have EN := Lib.hid en
  have ES := Lib.hid esw
  clear ex ey en esw
  have HPG := Lib.hid hpg
  obtain ⟨hz, p0, p1, p2, p3⟩ := hpg
  unfold es
  go_enter Tryd.func34, Tryd.ntmps34
  go_wp2_with (fail)
  refine (minus_any 18446744073709551597 18446744073709551615 18446744073709551615 9223372036854775807 (wd0 y) (wd1 y) (wd2 y) (wd3 y) _ (by omega) (by omega) (by omega) (by omega) (wd0_lt y) (wd1_lt y) (wd2_lt y) (wd3_lt y)).mono ?_
  rintro e v1 ⟨he, hb1⟩
  rw [EY.out] at he
  have he' : e = .returned (retm (mP y)) := he
  clear he
  generalize mP y = m at he' ES
  unfold retm at he'
  subst he'
  have hp1 : PG v1 := ((((HPG.out.alloc _).alloc _).alloc _).ext hb1)
  have k1 : Blk v1 (w.heap.size + 1 + 1) 27 #[.int .u64 0, .int .u64 0, .int .u64 0, .int .u64 0] := (Blk.new' _ _ _ _ (by simp)).below hb1 (by simp)
  have b1 : Below w.heap.size w v1 := below_then ((((Below.refl _ _).alloc (Nat.le_refl _) _).alloc (by simp) _).alloc (by simp; omega) _) hb1 (by simp; omega)
  have x1 : Blk v1 w.heap.size 27 #[.int .u64 (wd0 x : Int), .int .u64 (wd1 x : Int), .int .u64 (wd2 x : Int), .int .u64 (wd3 x : Int)] := (((Blk.new w 27 _).alloc _).alloc _).below hb1 (by simp; omega)
  have c0 := x1.cell 0
  have c1 := x1.cell 1
  have c2 := x1.cell 2
  have c3 := x1.cell 3
  simp at c0 c1 c2 c3
  have HP1 := Lib.hid hp1
  have HK1 := Lib.hid k1
  have HB1 := Lib.hid b1
  clear hb1 hp1 k1 b1 x1
  go_wp2_with (fail)
  refine (plus_any (wd0 x) (wd1 x) (wd2 x) (wd3 x) (wd0 m) (wd1 m) (wd2 m) (wd3 m) _ (wd0_lt x) (wd1_lt x) (wd2_lt x) (wd3_lt x) (wd0_lt m) (wd1_lt m) (wd2_lt m) (wd3_lt m)).mono ?_
  rintro e v2 ⟨he, hb2⟩
  rw [EX.out, ES.out] at he
  unfold ret5 at he
  subst he
  have hp2 := HP1.out.ext hb2
  have k2 := HK1.out.below hb2 HK1.out.lt
  have b2 := below_then HB1.out hb2 HB1.out.size
  have HP2 := Lib.hid hp2
  have HK2 := Lib.hid k2
  have HB2 := Lib.hid b2
  clear hb2 hp2 k2 b2 c0 c1 c2 c3
  go_wp2_with (fail)
  refine (settle_any (wd0 (x + (PP - y))) (wd1 (x + (PP - y))) (wd2 (x + (PP - y))) (wd3 (x + (PP - y))) (wd4 (x + (PP - y))) _ HP2.out (wd0_lt _) (wd1_lt _) (wd2_lt _) (wd3_lt _) es').mono ?_
  rintro e v3 ⟨he, hb3⟩
  rw [EN.out] at he
  subst he
  have k3 := HK2.out.below hb3 HK2.out.lt
  have b3 := below_then HB2.out hb3 HB2.out.size
  have HK3 := Lib.hid k3
  have HB3 := Lib.hid b3
  clear hb3 k3 b3
  go_wp2_with (first | (refine wpList_store_row rfl 27 (.tmp 4) (.tmp 33) rfl (w.heap.size + 1 + 1) (es ((x + (PP - y)) % PP)) rfl rfl 27 _ HK3.out info_elem rfl (es_one _) ?_))
  exact elem_end (g := w.heap.size + 1 + 1) rfl rfl rfl (setRow_heap _ _ _ _ _ _ HK3.out) (below_setRow HB3.out (by omega) _)

/-! A product. -/
theorem shift_words {r : Nat} (h : r < 2135987035920910082395021706169552114602704522356652769947041607822219725780640550022962086936576) :
    num4 (wd1 r) (wd2 r) (wd3 r) (wd4 r) = r / 18446744073709551616 ∧ wd4 r < 18446744073709551616 := by
  unfold num4 wd1 wd2 wd3 wd4
  omega
theorem row_lt {x n k : Nat} (hx : x < 115792089237316195423570985008687907853269984665640564039457584007913129639936) (hn : n < 18446744073709551616) (hk : k < 115792089237316195423570985008687907853269984665640564039457584007913129639936) :
    x * n + k < 2135987035920910082395021706169552114602704522356652769947041607822219725780640550022962086936576 := by
  have := Nat.mul_le_mul (show x ≤ 115792089237316195423570985008687907853269984665640564039457584007913129639935 by omega) (show n ≤ 18446744073709551615 by omega)
  omega
def R1 (x y : Nat) : Nat := x * wd0 y
def R2 (x y : Nat) : Nat := x * wd1 y + R1 x y / 18446744073709551616
def R3 (x y : Nat) : Nat := x * wd2 y + R2 x y / 18446744073709551616
def R4 (x y : Nat) : Nat := x * wd3 y + R3 x y / 18446744073709551616
def R5 (x y : Nat) : Nat := R4 x y / 18446744073709551616 * 38 + num4 (wd0 (R1 x y)) (wd0 (R2 x y)) (wd0 (R3 x y)) (wd0 (R4 x y))
theorem R_lt {x y : Nat} (hx : x < 115792089237316195423570985008687907853269984665640564039457584007913129639936) :
    R1 x y < 2135987035920910082395021706169552114602704522356652769947041607822219725780640550022962086936576 ∧ R2 x y < 2135987035920910082395021706169552114602704522356652769947041607822219725780640550022962086936576 ∧
    R3 x y < 2135987035920910082395021706169552114602704522356652769947041607822219725780640550022962086936576 ∧ R4 x y < 2135987035920910082395021706169552114602704522356652769947041607822219725780640550022962086936576 := by
  have h1 : R1 x y < 2135987035920910082395021706169552114602704522356652769947041607822219725780640550022962086936576 := row_lt (k := 0) hx (wd0_lt y) (by omega)
  have h2 : R2 x y < 2135987035920910082395021706169552114602704522356652769947041607822219725780640550022962086936576 := row_lt hx (wd1_lt y) (by omega)
  have h3 : R3 x y < 2135987035920910082395021706169552114602704522356652769947041607822219725780640550022962086936576 := row_lt hx (wd2_lt y) (by omega)
  exact ⟨h1, h2, h3, row_lt hx (wd3_lt y) (by omega)⟩
theorem R5_mod {x y : Nat} (hx : x < PP) (hy : y < PP) : R5 x y % PP = x * y % PP ∧ wd4 (R5 x y) < 39 := by
  have hx' := PP_lt256 hx
  have hy' := PP_lt256 hy
  have hxy : x * y = num4 (x * wd0 y) (x * wd1 y) (x * wd2 y) (x * wd3 y) := by
    have := num4_of hy'
    rw (occs := .pos [1]) [← this]
    unfold num4
    grind
  obtain ⟨_, _, _, h4⟩ := R_lt (y := y) hx'
  constructor
  · have : x * y = num4 (wd0 (R1 x y)) (wd0 (R2 x y)) (wd0 (R3 x y)) (wd0 (R4 x y)) + 115792089237316195423570985008687907853269984665640564039457584007913129639936 * (R4 x y / 18446744073709551616) := by
      rw [hxy]
      unfold R4 R3 R2 R1
      generalize x * wd0 y = m0
      generalize x * wd1 y = m1
      generalize x * wd2 y = m2
      generalize x * wd3 y = m3
      unfold num4 wd0
      omega
    rw [this]
    unfold R5
    rw [PP_eq]
    generalize R4 x y / 18446744073709551616 = H
    generalize num4 (wd0 (R1 x y)) (wd0 (R2 x y)) (wd0 (R3 x y)) (wd0 (R4 x y)) = L
    omega
  · have hL := num4_lt (wd0_lt (R1 x y)) (wd0_lt (R2 x y)) (wd0_lt (R3 x y)) (wd0_lt (R4 x y))
    unfold R5
    generalize num4 (wd0 (R1 x y)) (wd0 (R2 x y)) (wd0 (R3 x y)) (wd0 (R4 x y)) = L at *
    generalize R4 x y = r at *
    unfold wd4
    omega
end Go.Proofs.YtnfckoamjeafhaaDoor
