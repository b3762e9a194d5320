/- Walks of plus, minus and row: sums, differences and products of words. -/
import Derived.Test.YtnfckoamjeafhaaDoorFe
import Derived.WalkKit
import Derived.WalkSpells
namespace Go.Proofs.YtnfckoamjeafhaaDoor
set_option linter.unusedVariables false
set_option linter.unusedSimpArgs false
open Go.RowKit

def num4 (a b c d : Nat) : Nat := a + 18446744073709551616 * b + 340282366920938463463374607431768211456 * c + 6277101735386680763835789423207666416102355444464034512896 * d
theorem num4_of {n : Nat} (h : n < 115792089237316195423570985008687907853269984665640564039457584007913129639936) : num4 (wd0 n) (wd1 n) (wd2 n) (wd3 n) = n := by
  unfold num4 wd0 wd1 wd2 wd3
  omega
theorem num4_lt {a b c d : Nat} (ha : a < 18446744073709551616) (hb : b < 18446744073709551616) (hc : c < 18446744073709551616) (hd : d < 18446744073709551616) :
    num4 a b c d < 115792089237316195423570985008687907853269984665640564039457584007913129639936 := by
  unfold num4
  omega
theorem of_num4 {n a b c d : Nat} (h : n = num4 a b c d) (ha : a < 18446744073709551616) (hb : b < 18446744073709551616) (hc : c < 18446744073709551616) (hd : d < 18446744073709551616) :
    wd0 n = a ∧ wd1 n = b ∧ wd2 n = c ∧ wd3 n = d := by
  have := of_num5 (n := n) (a := a) (b := b) (c := c) (d := d) (e := 0) (by rw [h]; unfold num4 num5; omega) ha hb hc hd
  exact ⟨this.1, this.2.1, this.2.2.1, this.2.2.2.1⟩

/-- Five words, as they are answered. -/
def ret5 (n : Nat) : Value := .tuple #[.int .u64 (wd0 n : Int), .int .u64 (wd1 n : Int), .int .u64 (wd2 n : Int), .int .u64 (wd3 n : Int), .int .u64 (wd4 n : Int)]
theorem ret5_of {n a b c d e : Nat} (h : n = num5 a b c d e) (ha : a < 18446744073709551616) (hb : b < 18446744073709551616) (hc : c < 18446744073709551616) (hd : d < 18446744073709551616) :
    Value.tuple #[.int .u64 (a : Int), .int .u64 (b : Int), .int .u64 (c : Int), .int .u64 (d : Int), .int .u64 (e : Int)] = ret5 n := by
  obtain ⟨h0, h1, h2, h3, h4⟩ := of_num5 h ha hb hc hd
  unfold ret5
  rw [h0, h1, h2, h3, h4]
/-- What was borrowed. -/
def bor (n : Nat) : Nat := 1 - wd4 n
/-- A difference's, with what was borrowed. -/
def retm (n : Nat) : Value := .tuple #[.int .u64 (wd0 n : Int), .int .u64 (wd1 n : Int), .int .u64 (wd2 n : Int), .int .u64 (wd3 n : Int), .int .u64 (bor n : Int)]

set_option maxHeartbeats 400000 in
theorem plus_any (a0 a1 a2 a3 b0 b1 b2 b3 : Nat) (w : World) (ha0 : a0 < 18446744073709551616) (ha1 : a1 < 18446744073709551616) (ha2 : a2 < 18446744073709551616) (ha3 : a3 < 18446744073709551616)
    (hb0 : b0 < 18446744073709551616) (hb1 : b1 < 18446744073709551616) (hb2 : b2 < 18446744073709551616) (hb3 : b3 < 18446744073709551616) :
    Calls Tryd.prog 36 #[.agg #[.int .u64 (a0 : Int), .int .u64 (a1 : Int), .int .u64 (a2 : Int), .int .u64 (a3 : Int)], .agg #[.int .u64 (b0 : Int), .int .u64 (b1 : Int), .int .u64 (b2 : Int), .int .u64 (b3 : Int)]] w
      fun e w' => e = .returned (ret5 (num4 a0 a1 a2 a3 + num4 b0 b1 b2 b3)) ∧ Below w.heap.size w w' := by
  obtain ⟨s0, c0, h0, e0, l0, k0⟩ := add64_ex a0 b0 0 ha0 hb0 (by omega)
  obtain ⟨s1, c1, h1, e1, l1, k1⟩ := add64_ex a1 b1 c0 ha1 hb1 k0
  obtain ⟨s2, c2, h2, e2, l2, k2⟩ := add64_ex a2 b2 c1 ha2 hb2 k1
  obtain ⟨s3, c3, h3, e3, l3, k3⟩ := add64_ex a3 b3 c2 ha3 hb3 k2
  have hn : num4 a0 a1 a2 a3 + num4 b0 b1 b2 b3 = num5 s0 s1 s2 s3 c3 := by
    unfold num4 num5
    omega
  have hr := ret5_of hn l0 l1 l2 l3
  clear e0 e1 e2 e3 hn
  have HR := Lib.hid hr
  clear hr
  rw [Int.natCast_zero] at h0
  go_enter Tryd.func36, Tryd.ntmps36
  go_wp2_with (first | simp only [h0] | simp only [h1] | simp only [h2] | simp only [h3])
  refine bodyPost_ret (v := .tuple #[.int .u64 (s0 : Int), .int .u64 (s1 : Int), .int .u64 (s2 : Int), .int .u64 (s3 : Int), .int .u64 (c3 : Int)]) (by simp [results, Tryd.results36, go_sem]) rfl ⟨?_, ?_⟩
  · rw [HR.out]
  · exact ((Below.refl _ _).alloc (Nat.le_refl _) _).alloc (by simp) _

set_option maxHeartbeats 400000 in
theorem minus_any (a0 a1 a2 a3 b0 b1 b2 b3 : Nat) (w : World) (ha0 : a0 < 18446744073709551616) (ha1 : a1 < 18446744073709551616) (ha2 : a2 < 18446744073709551616) (ha3 : a3 < 18446744073709551616)
    (hb0 : b0 < 18446744073709551616) (hb1 : b1 < 18446744073709551616) (hb2 : b2 < 18446744073709551616) (hb3 : b3 < 18446744073709551616) :
    Calls Tryd.prog 37 #[.agg #[.int .u64 (a0 : Int), .int .u64 (a1 : Int), .int .u64 (a2 : Int), .int .u64 (a3 : Int)], .agg #[.int .u64 (b0 : Int), .int .u64 (b1 : Int), .int .u64 (b2 : Int), .int .u64 (b3 : Int)]] w
      fun e w' => e = .returned (retm (num4 a0 a1 a2 a3 + 115792089237316195423570985008687907853269984665640564039457584007913129639936 - num4 b0 b1 b2 b3)) ∧ Below w.heap.size w w' := by
  obtain ⟨s0, c0, h0, e0, l0, k0⟩ := sub64_ex a0 b0 0 ha0 hb0 (by omega)
  obtain ⟨s1, c1, h1, e1, l1, k1⟩ := sub64_ex a1 b1 c0 ha1 hb1 k0
  obtain ⟨s2, c2, h2, e2, l2, k2⟩ := sub64_ex a2 b2 c1 ha2 hb2 k1
  obtain ⟨s3, c3, h3, e3, l3, k3⟩ := sub64_ex a3 b3 c2 ha3 hb3 k2
  have hn : num4 a0 a1 a2 a3 + 115792089237316195423570985008687907853269984665640564039457584007913129639936 - num4 b0 b1 b2 b3 = num5 s0 s1 s2 s3 (1 - c3) := by
    unfold num4 num5
    omega
  have hr : Value.tuple #[.int .u64 (s0 : Int), .int .u64 (s1 : Int), .int .u64 (s2 : Int), .int .u64 (s3 : Int), .int .u64 (c3 : Int)] = retm (num4 a0 a1 a2 a3 + 115792089237316195423570985008687907853269984665640564039457584007913129639936 - num4 b0 b1 b2 b3) := by
    obtain ⟨h0, h1, h2, h3, h4⟩ := of_num5 hn l0 l1 l2 l3
    unfold retm bor
    rw [h0, h1, h2, h3, h4]
    have : 1 - (1 - c3) = c3 := by omega
    rw [this]
  clear e0 e1 e2 e3 hn
  have HR := Lib.hid hr
  clear hr
  rw [Int.natCast_zero] at h0
  go_enter Tryd.func37, Tryd.ntmps37
  go_wp2_with (first | simp only [h0] | simp only [h1] | simp only [h2] | simp only [h3])
  refine bodyPost_ret (v := .tuple #[.int .u64 (s0 : Int), .int .u64 (s1 : Int), .int .u64 (s2 : Int), .int .u64 (s3 : Int), .int .u64 (c3 : Int)]) (by simp [results, Tryd.results37, go_sem]) rfl ⟨?_, ?_⟩
  · rw [HR.out]
  · exact ((Below.refl _ _).alloc (Nat.le_refl _) _).alloc (by simp) _

set_option maxHeartbeats 400000 in
theorem row_any (g a0 a1 a2 a3 n b0 b1 b2 b3 : Nat) (w : World) (ha0 : a0 < 18446744073709551616) (ha1 : a1 < 18446744073709551616) (ha2 : a2 < 18446744073709551616) (ha3 : a3 < 18446744073709551616)
    (hb0 : b0 < 18446744073709551616) (hb1 : b1 < 18446744073709551616) (hb2 : b2 < 18446744073709551616) (hb3 : b3 < 18446744073709551616) (hn : n < 18446744073709551616)
    (c0 : w.cell? ⟨g, 0, none⟩ = some (.int .u64 (a0 : Int))) (c1 : w.cell? ⟨g, 1, none⟩ = some (.int .u64 (a1 : Int))) (c2 : w.cell? ⟨g, 2, none⟩ = some (.int .u64 (a2 : Int))) (c3 : w.cell? ⟨g, 3, none⟩ = some (.int .u64 (a3 : Int))) :
    Calls Tryd.prog 17 #[.pointer (some ⟨g, 0, none⟩), .int .u64 (n : Int), .int .u64 (b0 : Int), .int .u64 (b1 : Int), .int .u64 (b2 : Int), .int .u64 (b3 : Int)] w
      fun e w' => e = .returned (ret5 (num4 a0 a1 a2 a3 * n + num4 b0 b1 b2 b3)) ∧ w = w' := by
  go_enter Tryd.func17, Tryd.ntmps17
  have z : ((0 : Nat) : Int) = 0 := rfl
  have m0 := mulAdd_any a0 n b0 0 w ha0 hn hb0 (by omega)
  rw [z] at m0
  go_wp2_with (fail)
  refine m0.mono ?_
  rintro e w' ⟨o0, r0, rfl, q0, rfl⟩
  have p0 := q0.2.1
  have p0' := q0.2.2
  have Q0 := Lib.hid q0
  clear q0 m0
  go_wp2_with (fail)
  refine (mulAdd_any a1 n b1 o0 w ha1 hn hb1 p0').mono ?_
  rintro e w' ⟨o1, r1, rfl, q1, rfl⟩
  have p1 := q1.2.1
  have p1' := q1.2.2
  have Q1 := Lib.hid q1
  clear q1
  go_wp2_with (fail)
  refine (mulAdd_any a2 n b2 o1 w ha2 hn hb2 p1').mono ?_
  rintro e w' ⟨o2, r2, rfl, q2, rfl⟩
  have p2 := q2.2.1
  have p2' := q2.2.2
  have Q2 := Lib.hid q2
  clear q2
  go_wp2_with (fail)
  refine (mulAdd_any a3 n b3 o2 w ha3 hn hb3 p2').mono ?_
  rintro e w' ⟨o3, r3, rfl, q3, rfl⟩
  have p3 := q3.2.1
  have p3' := q3.2.2
  have Q3 := Lib.hid q3
  clear q3
  go_wp2_with (fail)
  refine bodyPost_ret (v := .tuple #[.int .u64 (r0 : Int), .int .u64 (r1 : Int), .int .u64 (r2 : Int), .int .u64 (r3 : Int), .int .u64 (o3 : Int)]) (by simp [results, Tryd.results17, go_sem]) rfl ⟨?_, rfl⟩
  rw [ret5_of (n := num4 a0 a1 a2 a3 * n + num4 b0 b1 b2 b3) ?_ p0 p1 p2 p3]
  have q0 := Q0.out.1
  have q1 := Q1.out.1
  have q2 := Q2.out.1
  have q3 := Q3.out.1
  have e : num4 a0 a1 a2 a3 * n = num4 (a0 * n) (a1 * n) (a2 * n) (a3 * n) := by
    unfold num4
    grind
  rw [e]
  generalize a0 * n = m0 at *
  generalize a1 * n = m1 at *
  generalize a2 * n = m2 at *
  generalize a3 * n = m3 at *
  unfold num4 num5
  omega
end Go.Proofs.YtnfckoamjeafhaaDoor
