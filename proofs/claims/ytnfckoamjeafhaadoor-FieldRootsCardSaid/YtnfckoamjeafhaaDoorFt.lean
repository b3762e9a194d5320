/- The walk of settle: words, and what is beyond them, as an element's number. -/
import Derived.Test.YtnfckoamjeafhaaDoorFs
import Derived.Test.YtnfckoamjeafhaaDoorFp
import Derived.Outline
namespace Go.Proofs.YtnfckoamjeafhaaDoor
set_option linter.unusedVariables false
set_option linter.unusedSimpArgs false
open Go.RowKit

theorem bcell {W v : World} (hb : Below W.heap.size W v) : (∀ b o, b < W.heap.size → v.cell? ⟨b, o, none⟩ = W.cell? ⟨b, o, none⟩) ∧ (∀ b o, b < W.heap.size → v.frozen? ⟨b, o, none⟩ = W.frozen? ⟨b, o, none⟩) :=
  ⟨fun b o h => hb.cell (p := ⟨b, o, none⟩) h, fun b o h => hb.frozen (p := ⟨b, o, none⟩) h⟩

/-- The program's variable p holds the prime's words. -/
structure PG (w : World) : Prop where
  lt : 0 < w.heap.size
  c0 : w.cell? ⟨0, 0, none⟩ = some (.int .u64 18446744073709551597)
  c1 : w.cell? ⟨0, 1, none⟩ = some (.int .u64 18446744073709551615)
  c2 : w.cell? ⟨0, 2, none⟩ = some (.int .u64 18446744073709551615)
  c3 : w.cell? ⟨0, 3, none⟩ = some (.int .u64 9223372036854775807)
theorem PG.below {w w' : World} {B : Nat} (h : PG w) (hb : Below B w w') (hB : 0 < B) (hs : w.heap.size ≤ w'.heap.size) : PG w' :=
  ⟨Nat.lt_of_lt_of_le h.lt hs, (hb.cell (p := ⟨0, 0, none⟩) hB).trans h.c0, (hb.cell (p := ⟨0, 1, none⟩) hB).trans h.c1, (hb.cell (p := ⟨0, 2, none⟩) hB).trans h.c2, (hb.cell (p := ⟨0, 3, none⟩) hB).trans h.c3⟩
theorem PG.ext {w w' : World} (h : PG w) (hb : Below w.heap.size w w') : PG w' := h.below hb h.lt hb.size
theorem PG.drew {w : World} (h : PG w) : PG w.drew := ⟨h.1, h.2, h.3, h.4, h.5⟩
theorem PG.alloc {w : World} (h : PG w) (o : Obj) : PG (w.alloc o) := h.ext ((Below.refl _ _).alloc (Nat.le_refl _) _)

theorem or_top (o t : Nat) (ho : o < 9223372036854775808) (ht : t ≤ 1) : bits .or .u64 ((o : Int) * 2) (t : Int) = ((2 * o + t : Nat) : Int) := by
  have e : (o : Int) * 2 = ((2 * o : Nat) : Int) := by omega
  rw [e, u64_or_nat _ _ (by omega) (by omega)]
  have := Nat.two_pow_add_eq_or_of_lt (i := 1) (b := t) (by omega) o
  rw [show (2 : Nat) ^ 1 = 2 by decide] at this
  rw [this]
theorem andNot_top (t : Nat) (ht : t < 18446744073709551616) : bits .andNot .u64 (t : Int) 9223372036854775808 = ((t % 9223372036854775808 : Nat) : Int) := by
  have e : (9223372036854775808 : Int) = ((9223372036854775808 : Nat) : Int) := rfl
  rw [e, u64_andNot_nat _ _ ht (by omega)]
  rw [show (18446744073709551615 - 9223372036854775808 : Nat) = 2 ^ 63 - 1 by decide, Nat.and_two_pow_sub_one_eq_mod, show (2 : Nat) ^ 63 = 9223372036854775808 by decide]

/-- What settle adds up. -/
def folded (n : Nat) : Nat := n % 57896044618658097711785492504343953926634992332820282019728792003956564819968 + 19 * (n / 57896044618658097711785492504343953926634992332820282019728792003956564819968)
theorem folded_mod (n : Nat) : folded n % PP = n % PP := by
  rw [PP_eq]
  unfold folded
  omega
theorem folded_lt {n : Nat} (h : n < 4515891480255331621519268415338828406277529401959981997538845776308612055957504) : folded n < 57896044618658097711785492504343953926634992332820282019728792003956564819968 + 1500 := by
  unfold folded
  omega
theorem settle_low {a b c d : Nat} (o : Nat) (ha : a < 18446744073709551616) (hb : b < 18446744073709551616) (hc : c < 18446744073709551616) (hd : d < 18446744073709551616) :
    num4 a b c (d % 9223372036854775808) + num4 ((2 * o + d / 9223372036854775808) * 19) 0 0 0 = folded (num5 a b c d o) := by
  unfold num4 num5 folded
  omega
theorem minus_p (n : Nat) (h : n < 57896044618658097711785492504343953926634992332820282019728792003956564819968 + 1500) :
    (n < PP → wd4 (n + 115792089237316195423570985008687907853269984665640564039457584007913129639936 - num4 18446744073709551597 18446744073709551615 18446744073709551615 9223372036854775807) = 0) ∧
    (¬ n < PP → wd4 (n + 115792089237316195423570985008687907853269984665640564039457584007913129639936 - num4 18446744073709551597 18446744073709551615 18446744073709551615 9223372036854775807) = 1) ∧
    (¬ n < PP → es (n + 115792089237316195423570985008687907853269984665640564039457584007913129639936 - num4 18446744073709551597 18446744073709551615 18446744073709551615 9223372036854775807) = es (n - PP)) := by
  rw [PP_eq]
  refine ⟨fun h1 => ?_, fun h1 => ?_, fun h1 => ?_⟩
  · unfold wd4 num4; omega
  · unfold wd4 num4; omega
  · unfold es
    have : wd0 (n + 115792089237316195423570985008687907853269984665640564039457584007913129639936 - num4 18446744073709551597 18446744073709551615 18446744073709551615 9223372036854775807) = wd0 (n - 57896044618658097711785492504343953926634992332820282019728792003956564819949) ∧
      wd1 (n + 115792089237316195423570985008687907853269984665640564039457584007913129639936 - num4 18446744073709551597 18446744073709551615 18446744073709551615 9223372036854775807) = wd1 (n - 57896044618658097711785492504343953926634992332820282019728792003956564819949) ∧
      wd2 (n + 115792089237316195423570985008687907853269984665640564039457584007913129639936 - num4 18446744073709551597 18446744073709551615 18446744073709551615 9223372036854775807) = wd2 (n - 57896044618658097711785492504343953926634992332820282019728792003956564819949) ∧
      wd3 (n + 115792089237316195423570985008687907853269984665640564039457584007913129639936 - num4 18446744073709551597 18446744073709551615 18446744073709551615 9223372036854775807) = wd3 (n - 57896044618658097711785492504343953926634992332820282019728792003956564819949) := by
      unfold wd0 wd1 wd2 wd3 num4
      omega
    rw [this.1, this.2.1, this.2.2.1, this.2.2.2]
theorem mod_small {n : Nat} (h : n < 57896044618658097711785492504343953926634992332820282019728792003956564819968 + 1500) : n % PP = if n < PP then n else n - PP := by
  rw [PP_eq]
  split <;> omega

theorem below_set4 {B g : Nat} {w w' : World} (h : Below B w w') (hg : B ≤ g) (a b c d : Value) : Below B w ((((w'.setCell ⟨g, 0, none⟩ a).setCell ⟨g, 1, none⟩ b).setCell ⟨g, 2, none⟩ c).setCell ⟨g, 3, none⟩ d) :=
  (((h.setCell hg _).setCell hg _).setCell hg _).setCell hg _
theorem below_then {w v v' : World} {B : Nat} (h : Below B w v) (h' : Below v.heap.size v v') (hB : B ≤ v.heap.size) : Below B w v' := h.trans (h'.mono hB)
theorem blk_set4 {w : World} {g : Nat} {t : TypeId} {x0 x1 x2 x3 : Value} (h : Blk w g t #[x0, x1, x2, x3]) (a b c d : Value) : Blk ((((w.setCell ⟨g, 0, none⟩ a).setCell ⟨g, 1, none⟩ b).setCell ⟨g, 2, none⟩ c).setCell ⟨g, 3, none⟩ d) g t #[a, b, c, d] :=
  (((h.set_ 0 a).set_ 1 b).set_ 2 c).set_ 3 d
theorem info_elem : (Tryd.prog.info? 27).map (·.size) = some 4 := by kernel_rfl
theorem info_w4 : (Tryd.prog.info? 25).map (·.size) = some 4 := by kernel_rfl
/-- A result of four cells, read out of its variable. -/
theorem ret_elem {fn : Func} {p : Tmp} (hr : fn.results = #[.cell p 27]) {tmps : Array Value} {w : World} {g : Nat} {n : Nat} (hp : tmps.getD p undef = .pointer (some ⟨g, 0, none⟩)) (hb : Blk w g 27 (es n)) :
    (results fn tmps).run Tryd.prog w = .ok (.agg (es n)) w :=
  results_cell_row hr tmps w g 27 (es n) (0, 0) _ hp hb Tryd.underlying27 rfl info_elem
def ElemPost (n : Nat) (w : World) (e : Ending) (w' : World) : Prop := e = .returned (.agg (es n)) ∧ Below w.heap.size w w'

set_option maxHeartbeats 1000000 in
theorem settle_any (a b c d o : Nat) (w : World) (hpg : PG w) (ha : a < 18446744073709551616) (hb : b < 18446744073709551616) (hc : c < 18446744073709551616) (hd : d < 18446744073709551616) (ho : o < 39) :
    Calls Tryd.prog 16 #[.int .u64 (a : Int), .int .u64 (b : Int), .int .u64 (c : Int), .int .u64 (d : Int), .int .u64 (o : Int)] w (ElemPost (num5 a b c d o % PP) w) := by
  have hlt : num5 a b c d o < 4515891480255331621519268415338828406277529401959981997538845776308612055957504 := by unfold num5; omega
  have hf := folded_lt hlt
  have hsum := settle_low o ha hb hc hd
  have hmod : num5 a b c d o % PP = if folded (num5 a b c d o) < PP then folded (num5 a b c d o) else folded (num5 a b c d o) - PP := by
    rw [← folded_mod, mod_small hf]
  obtain ⟨m1, m2, m3⟩ := minus_p _ hf
  have hnl : folded (num5 a b c d o) < 115792089237316195423570985008687907853269984665640564039457584007913129639936 := by omega
  have hn4 := num4_of hnl
  have hw4 := wd4_zero hnl
  generalize folded (num5 a b c d o) = n at *
  generalize num5 a b c d o % PP = r at *
  obtain ⟨hz, p0, p1, p2, p3⟩ := hpg
  have ot := or_top o (d / 9223372036854775808) (by omega) (by omega)
  have at_ := andNot_top d hd
  have cast : ((d / 9223372036854775808 : Nat) : Int) = (d : Int) / 9223372036854775808 := by omega
  rw [cast] at ot
  have Hs := Lib.hid hsum
  have Hm := Lib.hid hmod
  have H1 := Lib.hid m1
  have H2 := Lib.hid m2
  have H3 := Lib.hid m3
  have Hn4 := Lib.hid hn4
  have Hw4 := Lib.hid hw4
  clear hsum hmod m1 m2 m3 hn4 hw4 cast hlt
  go_enter Tryd.func16, Tryd.ntmps16
  go_wp2_with (fail)
  refine (plus_any a b c (d % 9223372036854775808) ((2 * o + d / 9223372036854775808) * 19) 0 0 0 _ ha hb hc (by omega) (by omega) (by omega) (by omega) (by omega)).mono ?_
  rintro e v1 ⟨he, hb1⟩
  rw [Hs.out] at he
  unfold ret5 at he
  subst he
  obtain ⟨q1, q2⟩ := bcell hb1
  have hz1 : w.heap.size + 1 < v1.heap.size := by have := hb1.size; simp at this; omega
  have hz0 : w.heap.size < v1.heap.size := by omega
  have HB1 := Lib.hid hb1
  clear hb1
  go_wp2_with (fail)
  refine (minus_any (wd0 n) (wd1 n) (wd2 n) (wd3 n) 18446744073709551597 18446744073709551615 18446744073709551615 9223372036854775807 _ (wd0_lt n) (wd1_lt n) (wd2_lt n) (wd3_lt n) (by omega) (by omega) (by omega) (by omega)).mono ?_
  rintro e v2 ⟨he, hb2⟩
  rw [Hn4.out] at he
  unfold retm at he
  subst he
  obtain ⟨q3, q4⟩ := bcell hb2
  have hz2 : v1.heap.size ≤ v2.heap.size := by have := hb2.size; simp at this; omega
  have hz3 : w.heap.size + 1 < v2.heap.size := by omega
  have hz4 : w.heap.size < v2.heap.size := by omega
  have HB2 := Lib.hid hb2
  clear hb2
  have hB2 : Below w.heap.size w v2 := by
    have e1 : Below w.heap.size w v1 := below_then (((Below.refl _ _).alloc (Nat.le_refl _) _).alloc (by simp) _) HB1.out (by simp; omega)
    exact below_then (below_set4 e1 (by omega) _ _ _ _) HB2.out (by simp; omega)
  have hK : Blk v2 w.heap.size 27 #[.int .u64 0, .int .u64 0, .int .u64 0, .int .u64 0] := by
    refine Blk.below ?_ HB2.out (by simp; omega)
    exact (((((((Blk.new w 27 _).alloc _).below HB1.out (by simp; omega)).far (by simp) _).far (by simp) _).far (by simp) _).far (by simp) _)
  have HB := Lib.hid hB2
  have HK := Lib.hid hK
  clear hB2 hK
  by_cases hnp : n < PP
  · have hbor : ((bor (n + 115792089237316195423570985008687907853269984665640564039457584007913129639936 - num4 18446744073709551597 18446744073709551615 18446744073709551615 9223372036854775807) : Int) == 1) = true := by
      unfold bor
      rw [H1.out hnp]
      rfl
    have hr := Hm.out
    rw [if_pos hnp] at hr
    have HR := Lib.hid hr
    clear hr
    generalize n + 115792089237316195423570985008687907853269984665640564039457584007913129639936 - num4 18446744073709551597 18446744073709551615 18446744073709551615 9223372036854775807 = m at *
    go_wp2_with (fail)
    refine bodyPost_ret (ret_elem (n := n) rfl rfl (blk_set4 HK.out _ _ _ _)) rfl ⟨?_, below_set4 HB.out (Nat.le_refl _) _ _ _ _⟩
    rw [HR.out]
  · have hbor : ((bor (n + 115792089237316195423570985008687907853269984665640564039457584007913129639936 - num4 18446744073709551597 18446744073709551615 18446744073709551615 9223372036854775807) : Int) == 1) = false := by
      unfold bor
      rw [H2.out hnp]
      rfl
    have hr := Hm.out
    rw [if_neg hnp] at hr
    have he := H3.out hnp
    have HR := Lib.hid hr
    have HE := Lib.hid he
    clear hr he
    generalize n + 115792089237316195423570985008687907853269984665640564039457584007913129639936 - num4 18446744073709551597 18446744073709551615 18446744073709551615 9223372036854775807 = m at *
    go_wp2_with (fail)
    refine bodyPost_ret (ret_elem (n := m) rfl rfl (blk_set4 HK.out _ _ _ _)) rfl ⟨?_, below_set4 HB.out (Nat.le_refl _) _ _ _ _⟩
    rw [HR.out, ← HE.out]
end Go.Proofs.YtnfckoamjeafhaaDoor
