/- Rows of words; the program's products of four words; its whole roots. -/
import Derived.Test.YtagifgadcbhinaaDoorHv
namespace Go.Proofs.YtagifgadcbhinaaDoor
set_option linter.unusedVariables false
set_option linter.unusedSimpArgs false
open Go Go.RowKit

/-- The cells of a row of words. -/
def us (l : List Nat) : Array Value := ncs .u64 l
theorem us_size (l : List Nat) : (us l).size = l.length := ncs_size _ _
theorem us_get (l : List Nat) (i : Nat) : (us l)[i]? = l[i]?.map (nc .u64) := ncs_get _ _ _
theorem us_at {l : List Nat} {i x : Nat} (h : l[i]? = some x) : (us l)[i]? = some (.int .u64 (x : Int)) := by rw [us_get, h]; rfl
theorem us_set (l : List Nat) (i x : Nat) : (us l).setIfInBounds i (.int .u64 (x : Int)) = us (l.set i x) := ncs_set _ _ _ _
theorem us_one (l : List Nat) : (us l).all (·.oneCell') = true := ncs_one _ _
theorem info_us {T : TypeId} {n : Nat} {l : List Nat} (h : (Tryd.prog.info? T).map (·.size) = some n) (hl : l.length = n) : (Tryd.prog.info? T).map (·.size) = some (us l).size := by rw [us_size, hl]; exact h
theorem size_number : (Tryd.prog.info? 62).map (·.size) = some 4 := by kernel_rfl
theorem size_hst : (Tryd.prog.info? 39).map (·.size) = some 8 := by kernel_rfl
theorem size_k80 : (Tryd.prog.info? 41).map (·.size) = some 80 := by kernel_rfl
theorem size_w8 : (Tryd.prog.info? 38).map (·.size) = some 8 := by kernel_rfl
/-- A call that answers a row of words. -/
def RowPost (l : List Nat) (w : World) (e : Ending) (w' : World) : Prop := e = .returned (.agg (us l)) ∧ Below w.heap.size w w'
theorem row_end {fn : Func} {p : Tmp} {T : TypeId} {n0 : Nat} {e0 : TypeId} {n : Nat} {l : List Nat} (hu : Tryd.prog.underlying T = some (.array n0 e0)) (hi : (Tryd.prog.info? T).map (·.size) = some n) (hl : l.length = n)
    (hr : fn.results = #[.cell p T]) {a : Act} (hd : a.defers = []) {W w : World} {g : Nat} (hp : a.tmps.getD p undef = .pointer (some ⟨g, 0, none⟩)) (hb : Blk w g T (us l)) (hB : Below W.heap.size W w) :
    bodyPost Tryd.prog fn (RowPost l W) .ret a w :=
  bodyPost_ret (results_cell_row hr _ _ g T (us l) (0, 0) _ hp hb hu rfl (info_us hi hl)) hd ⟨rfl, hB⟩
theorem us_zero4 : us [0, 0, 0, 0] = #[.int .u64 0, .int .u64 0, .int .u64 0, .int .u64 0] := rfl
def Q4.l (x : Q4) : List Nat := [x.a, x.b, x.c, x.d]
theorem Q4.len (x : Q4) : x.l.length = 4 := rfl
structure Q4.ok (x : Q4) : Prop where
  a : x.a < 18446744073709551616
  b : x.b < 18446744073709551616
  c : x.c < 18446744073709551616
  d : x.d < 18446744073709551616
theorem tmsN_ok (x y : Q4) : (tmsN x y).ok := ⟨Nat.mod_lt _ (by omega), Nat.mod_lt _ (by omega), Nat.mod_lt _ (by omega), Nat.mod_lt _ (by omega)⟩
theorem tmsN_eq (x y : Q4) (c1 d1 c2 d2 c3 d3 c4 d4 c5 d5 c6 d6 : Nat) (h1 : c1 * 18446744073709551616 + d1 = x.c * y.b) (l1 : d1 < 18446744073709551616) (h2 : MulAddAt x.b y.b c1 0 c2 d2) (h3 : MulAddAt x.a y.b c2 0 c3 d3) (h4 : MulAddAt x.d y.a d1 0 c4 d4)
    (h5 : MulAddAt x.c y.a d2 c4 c5 d5) (h6 : MulAddAt x.b y.a d3 c5 c6 d6) :
    (tmsN x y).l = [(x.a * y.a + c3 + c6) % 18446744073709551616, d6, d5, d4] := by
  unfold MulAddAt at *
  have a1 : x.c * y.b / 18446744073709551616 = c1 := by omega
  have b1 : x.c * y.b % 18446744073709551616 = d1 := by omega
  have a2 : (x.b * y.b + c1 + 0) / 18446744073709551616 = c2 := by omega
  have b2 : (x.b * y.b + c1 + 0) % 18446744073709551616 = d2 := by omega
  have a3 : (x.a * y.b + c2 + 0) / 18446744073709551616 = c3 := by omega
  have b3 : (x.a * y.b + c2 + 0) % 18446744073709551616 = d3 := by omega
  have a4 : (x.d * y.a + d1 + 0) / 18446744073709551616 = c4 := by omega
  have b4 : (x.d * y.a + d1 + 0) % 18446744073709551616 = d4 := by omega
  have a5 : (x.c * y.a + d2 + c4) / 18446744073709551616 = c5 := by omega
  have b5 : (x.c * y.a + d2 + c4) % 18446744073709551616 = d5 := by omega
  have a6 : (x.b * y.a + d3 + c5) / 18446744073709551616 = c6 := by omega
  have b6 : (x.b * y.a + d3 + c5) % 18446744073709551616 = d6 := by omega
  simp only [tmsN, Q4.l, a1, b1, a2, b2, a3, b3, a4, b4, a5, b5, a6, b6]
theorem mulAdd_ex (a b c d : Nat) (ha : a < 18446744073709551616) (hb : b < 18446744073709551616) (hc : c < 18446744073709551616) (hd : d < 18446744073709551616) :
    ∃ hi lo : Nat, (∀ w : World, Calls Tryd.prog 35 #[.int .u64 a, .int .u64 b, .int .u64 c, .int .u64 d] w fun e w' => e = .returned (.tuple #[.int .u64 hi, .int .u64 lo]) ∧ w = w') ∧ MulAddAt a b c d hi lo ∧ hi < 18446744073709551616 ∧ lo < 18446744073709551616 := by
  obtain ⟨p, hp⟩ : ∃ p, p = a * b + c + d := ⟨_, rfl⟩
  have hm := mul_lt_sq ha hb
  have hat : MulAddAt a b c d (p / 18446744073709551616) (p % 18446744073709551616) := by unfold MulAddAt; omega
  obtain ⟨hi, e1⟩ : ∃ h, h = p / 18446744073709551616 := ⟨_, rfl⟩
  obtain ⟨lo, e2⟩ : ∃ h, h = p % 18446744073709551616 := ⟨_, rfl⟩
  rw [← e1, ← e2] at hat
  refine ⟨hi, lo, fun w => (mulAdd2_any a b c d w ha hb hc hd).mono ?_, hat, hat.2.2, hat.2.1⟩
  rintro e w' ⟨hi2, lo2, rfl, ⟨h1, h2, h3⟩, rfl⟩
  obtain ⟨g1, g2, g3⟩ := hat
  have e3 : hi2 = hi := by omega
  have e4 : lo2 = lo := by omega
  rw [e3, e4]
  exact ⟨rfl, rfl⟩
attribute [local irreducible] tmsN
set_option maxRecDepth 100000 in
set_option maxHeartbeats 2000000 in
theorem times_any (x y z : Q4) (w : World) (hx : x.ok) (hy : y.ok) (hz : z = tmsN x y) : Calls Tryd.prog 30 #[.agg (us x.l), .agg (us y.l)] w (RowPost z.l w) := by
  have hfr := (((Fr.start w).row (us x.l) 62 (g := w.heap.size) rfl).row (us y.l) 62 (g := w.heap.size + 1) (by simp)).any (us [0, 0, 0, 0]) 62 4 rfl (g := w.heap.size + 1 + 1) (by simp)
  rw [us_zero4] at hfr
  have kx := hfr.get (g := w.heap.size) (t := 62) (cs := us x.l) (by simp)
  have ky := hfr.get (g := w.heap.size + 1) (t := 62) (cs := us y.l) (by simp)
  obtain ⟨old, hold, kz⟩ := hfr.old (g := w.heap.size + 1 + 1) (t := 62) (n := 4) (by simp)
  obtain ⟨xa, xb, xc, xd⟩ := x
  obtain ⟨ya, yb, yc, yd⟩ := y
  obtain ⟨hxa, hxb, hxc, hxd⟩ := hx
  obtain ⟨hya, hyb, hyc, hyd⟩ := hy
  simp only at hxa hxb hxc hxd hya hyb hyc hyd
  have x0 := kx.cell 0
  rw [us_at (i := 0) (x := xa) rfl] at x0
  have x1 := kx.cell 1
  rw [us_at (i := 1) (x := xb) rfl] at x1
  have x2 := kx.cell 2
  rw [us_at (i := 2) (x := xc) rfl] at x2
  have x3 := kx.cell 3
  rw [us_at (i := 3) (x := xd) rfl] at x3
  have y0 := ky.cell 0
  rw [us_at (i := 0) (x := ya) rfl] at y0
  have y1 := ky.cell 1
  rw [us_at (i := 1) (x := yb) rfl] at y1
  obtain ⟨c1, d1, h1, e1, m1⟩ := mul64_ex xc yb hxc hyb
  have l1 : c1 < 18446744073709551616 := by have := mul_lt_sq hxc hyb; omega
  obtain ⟨c2, d2, h2, e2, l2, m2⟩ := mulAdd_ex xb yb c1 0 hxb hyb l1 (by omega)
  rw [Int.natCast_zero] at h2
  obtain ⟨c3, d3, h3, e3, l3, m3⟩ := mulAdd_ex xa yb c2 0 hxa hyb l2 (by omega)
  rw [Int.natCast_zero] at h3
  obtain ⟨c4, d4, h4, e4, l4, m4⟩ := mulAdd_ex xd ya d1 0 hxd hya m1 (by omega)
  rw [Int.natCast_zero] at h4
  obtain ⟨c5, d5, h5, e5, l5, m5⟩ := mulAdd_ex xc ya d2 c4 hxc hya m2 l4
  obtain ⟨c6, d6, h6, e6, l6, m6⟩ := mulAdd_ex xb ya d3 c5 hxb hya m3 l5
  have k1 := mul_nat xa ya
  obtain ⟨t1, g1⟩ : ∃ t, t = xa * ya % 18446744073709551616 := ⟨_, rfl⟩
  rw [← g1] at k1
  have k2 := add_nat t1 c3
  obtain ⟨t2, g2⟩ : ∃ t, t = (t1 + c3) % 18446744073709551616 := ⟨_, rfl⟩
  rw [← g2] at k2
  have k3 := add_nat t2 c6
  obtain ⟨t3, g3⟩ : ∃ t, t = (t2 + c6) % 18446744073709551616 := ⟨_, rfl⟩
  rw [← g3] at k3
  have hzl : z.l = [t3, d6, d5, d4] := by
    rw [hz, tmsN_eq _ _ c1 d1 c2 d2 c3 d3 c4 d4 c5 d5 c6 d6 e1 m1 e2 e3 e4 e5 e6, g3, g2, g1]
    congr 1
    simp only
    omega
  rw [hzl]
  have kS := kz.setRow_same (us [t3, d6, d5, d4])
  have hB := below_setRow hfr.below (show w.heap.size ≤ w.heap.size + 1 + 1 by omega) (us [t3, d6, d5, d4])
  have hold' : old.size = (us [t3, d6, d5, d4]).size := by rw [hold]; rfl
  have HS := Lib.hid kS
  have HB := Lib.hid hB
  have HO := Lib.hid hold'
  clear hfr kS hB hold hold' kx ky hz hyc hyd hzl e1 e2 e3 e4 e5 e6 g1 g2 g3
  go_enter Tryd.func30, Tryd.ntmps30
  go_wp2_with (fail)
  refine (h1 _).mono ?_
  rintro e w' ⟨rfl, rfl⟩
  go_wp2_with (fail)
  refine (h2 _).mono ?_
  rintro e w' ⟨rfl, rfl⟩
  go_wp2_with (fail)
  refine (h3 _).mono ?_
  rintro e w' ⟨rfl, rfl⟩
  go_wp2_with (fail)
  refine (h4 _).mono ?_
  rintro e w' ⟨rfl, rfl⟩
  go_wp2_with (fail)
  refine (h5 _).mono ?_
  rintro e w' ⟨rfl, rfl⟩
  go_wp2_with (fail)
  refine (h6 _).mono ?_
  rintro e w' ⟨rfl, rfl⟩
  go_wp2_with (refine wpList_store_row rfl 62 (.tmp 4) (.tmp 77) rfl (w.heap.size + 1 + 1) (us [t3, d6, d5, d4]) rfl rfl 62 _ kz (info_us size_number rfl) HO.out (us_one _) ?_)
  exact row_end (n0 := 4) rfl size_number rfl rfl rfl rfl HS.out HB.out
end Go.Proofs.YtagifgadcbhinaaDoor
