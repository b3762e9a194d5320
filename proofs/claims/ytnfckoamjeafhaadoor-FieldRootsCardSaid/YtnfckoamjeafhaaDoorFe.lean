/- Walks of the program's words: Add64, Sub64, Mul64, mulAdd, row, plus, minus. -/
import Derived.Test.YtnfckoamjeafhaaDoorRows
import Derived.Test.YtnfckoamjeafhaaDoorWords
import Derived.WalkLawsBesides
import Derived.Lib.Hide
import Derived.Lib.Mul64
import Derived.Laws.Bits64b
import Derived.Laws.BitsAllLaws
import Derived.Shelf.Bits.Mul64
import Derived.Shelf.Spec.BitsCarry
namespace Go.Proofs.YtnfckoamjeafhaaDoor
set_option linter.unusedVariables false
set_option linter.unusedSimpArgs false
open Go.RowKit

/-! Words. -/
/-- Word i of a number. -/
def wd0 (n : Nat) : Nat := n % 18446744073709551616
def wd1 (n : Nat) : Nat := n / 18446744073709551616 % 18446744073709551616
def wd2 (n : Nat) : Nat := n / 340282366920938463463374607431768211456 % 18446744073709551616
def wd3 (n : Nat) : Nat := n / 6277101735386680763835789423207666416102355444464034512896 % 18446744073709551616
/-- What is beyond four words. -/
def wd4 (n : Nat) : Nat := n / 115792089237316195423570985008687907853269984665640564039457584007913129639936
theorem wd0_lt (n : Nat) : wd0 n < 18446744073709551616 := Nat.mod_lt _ (by decide)
theorem wd1_lt (n : Nat) : wd1 n < 18446744073709551616 := Nat.mod_lt _ (by decide)
theorem wd2_lt (n : Nat) : wd2 n < 18446744073709551616 := Nat.mod_lt _ (by decide)
theorem wd3_lt (n : Nat) : wd3 n < 18446744073709551616 := Nat.mod_lt _ (by decide)
/-- The number of five words, the last of them of whatever size. -/
def num5 (a b c d e : Nat) : Nat := a + 18446744073709551616 * b + 340282366920938463463374607431768211456 * c + 6277101735386680763835789423207666416102355444464034512896 * d + 115792089237316195423570985008687907853269984665640564039457584007913129639936 * e
theorem of_num5 {n a b c d e : Nat} (h : n = num5 a b c d e) (ha : a < 18446744073709551616) (hb : b < 18446744073709551616) (hc : c < 18446744073709551616) (hd : d < 18446744073709551616) :
    wd0 n = a ∧ wd1 n = b ∧ wd2 n = c ∧ wd3 n = d ∧ wd4 n = e := by
  subst h
  unfold num5 wd0 wd1 wd2 wd3 wd4
  omega
theorem num5_of (n : Nat) : num5 (wd0 n) (wd1 n) (wd2 n) (wd3 n) (wd4 n) = n := by
  unfold num5 wd0 wd1 wd2 wd3 wd4
  omega
theorem wd4_zero {n : Nat} (h : n < 115792089237316195423570985008687907853269984665640564039457584007913129639936) : wd4 n = 0 := by
  unfold wd4
  omega
/-- The cells of an element's words. -/
def es (n : Nat) : Array Value := #[.int .u64 (wd0 n : Int), .int .u64 (wd1 n : Int), .int .u64 (wd2 n : Int), .int .u64 (wd3 n : Int)]

/-! math/bits. -/
theorem add64_run (x y c : Nat) (hx : x < 18446744073709551616) (hy : y < 18446744073709551616) (hc : c ≤ 1) (w : World) :
    (callFunc 45 #[.int .u64 x, .int .u64 y, .int .u64 c]).run Tryd.prog w =
      .ok (.value (.tuple #[.int .u64 (((x + y + c) % 18446744073709551616 : Nat) : Int), .int .u64 (((x + y + c) / 18446744073709551616 : Nat) : Int)])) w := by
  rw [run_callFunc_extern Tryd.func45 (by kernel_rfl) (by kernel_rfl) (by kernel_rfl) (e := add64Entry) (by kernel_rfl), run_add64 x y c (by omega) (by omega) (by omega) (by omega)]
  simp only [Result.andThen]
  congr 5 <;> omega
theorem sub64_run (x y b : Nat) (hb : b ≤ 1) (w : World) :
    (callFunc 46 #[.int .u64 x, .int .u64 y, .int .u64 b]).run Tryd.prog w =
      .ok (.value (.tuple #[.int .u64 (((x + 18446744073709551616 - y - b) % 18446744073709551616 : Nat) : Int), .int .u64 ((if x < y + b then 1 else 0 : Nat) : Int)])) w := by
  rw [run_callFunc_extern Tryd.func46 (by kernel_rfl) (by kernel_rfl) (by kernel_rfl) (e := sub64Entry) (by kernel_rfl), run_sub64 x y b hb]
  rfl
theorem add64_ex (x y c : Nat) (hx : x < 18446744073709551616) (hy : y < 18446744073709551616) (hc : c ≤ 1) :
    ∃ s k : Nat, (∀ w, (callFunc 45 #[.int .u64 x, .int .u64 y, .int .u64 c]).run Tryd.prog w = .ok (.value (.tuple #[.int .u64 (s : Int), .int .u64 (k : Int)])) w) ∧
      s + 18446744073709551616 * k = x + y + c ∧ s < 18446744073709551616 ∧ k ≤ 1 :=
  ⟨_, _, fun w => add64_run x y c hx hy hc w, by omega, by omega, by omega⟩
theorem sub64_ex (x y c : Nat) (hx : x < 18446744073709551616) (hy : y < 18446744073709551616) (hc : c ≤ 1) :
    ∃ s k : Nat, (∀ w, (callFunc 46 #[.int .u64 x, .int .u64 y, .int .u64 c]).run Tryd.prog w = .ok (.value (.tuple #[.int .u64 (s : Int), .int .u64 (k : Int)])) w) ∧
      s + y + c = x + 18446744073709551616 * k ∧ s < 18446744073709551616 ∧ k ≤ 1 := by
  refine ⟨_, _, fun w => sub64_run x y c hc w, ?_, ?_, ?_⟩
  · split <;> omega
  · omega
  · split <;> omega
set_option maxHeartbeats 1000000 in
theorem mul64_any (x y : Nat) (hx : x < 18446744073709551616) (hy : y < 18446744073709551616) (w : World) :
    Calls Tryd.prog 47 #[.int .u64 x, .int .u64 y] w fun e w' => e = .returned (.tuple #[.int .u64 ((x * y / 18446744073709551616 : Nat) : Int), .int .u64 ((x * y % 18446744073709551616 : Nat) : Int)]) ∧ w = w' := by
  obtain ⟨bd, bt, bw, hhi⟩ := Lib.mul64_hi x y hx hy
  have ba := Lib.half_mul_le (a := x / 4294967296) (b := y / 4294967296) (by omega) (by omega)
  have bb := Lib.half_mul_le (a := x / 4294967296) (b := y % 4294967296) (by omega) (by omega)
  have bc := Lib.half_mul_le (a := x % 4294967296) (b := y / 4294967296) (by omega) (by omega)
  have ba' : x / 4294967296 * (y / 4294967296) < 18446744073709551616 := by omega
  have bb' : x / 4294967296 * (y % 4294967296) < 18446744073709551616 := by omega
  have bc' : x % 4294967296 * (y / 4294967296) < 18446744073709551616 := by omega
  have bh1 : x / 4294967296 * (y / 4294967296) + (x / 4294967296 * (y % 4294967296) + x % 4294967296 * (y % 4294967296) / 4294967296) / 4294967296 < 18446744073709551616 := by omega
  have bh : x / 4294967296 * (y / 4294967296) + (x / 4294967296 * (y % 4294967296) + x % 4294967296 * (y % 4294967296) / 4294967296) / 4294967296 + ((x / 4294967296 * (y % 4294967296) + x % 4294967296 * (y % 4294967296) / 4294967296) % 4294967296 + x % 4294967296 * (y / 4294967296)) / 4294967296 < 18446744073709551616 := by omega
  go_enter Tryd.func47, Tryd.ntmps47
  go_wp2
  simp only [Mul64.maskN x hx, Mul64.maskN y hy, Mul64.divN, Mul64.mulN, Mul64.addN, Mul64.wrapN _ bd, Mul64.wrapN _ bb', Mul64.wrapN _ bt, Mul64.maskN _ bt, Mul64.wrapN _ bc', Mul64.wrapN _ bw, Mul64.wrapN _ ba', Mul64.wrapN _ bh1, Mul64.wrapN _ bh, Mul64.wrapM (x * y)]
  rw [hhi]
  go_ret2
  exact ⟨rfl, rfl⟩
def MulAt (x y hi lo : Nat) : Prop := hi * 18446744073709551616 + lo = x * y ∧ lo < 18446744073709551616
theorem mul64_ex (x y : Nat) (hx : x < 18446744073709551616) (hy : y < 18446744073709551616) :
    ∃ hi lo : Nat, (∀ w, Calls Tryd.prog 47 #[.int .u64 x, .int .u64 y] w fun e w' => e = .returned (.tuple #[.int .u64 (hi : Int), .int .u64 (lo : Int)]) ∧ w = w') ∧ MulAt x y hi lo :=
  ⟨_, _, fun w => mul64_any x y hx hy w, by unfold MulAt; omega⟩

/-! mulAdd. -/
def MulAddAt (a b c d hi lo : Nat) : Prop := hi * 18446744073709551616 + lo = a * b + c + d ∧ lo < 18446744073709551616 ∧ hi < 18446744073709551616
def MulAddPost (a b c d : Nat) (w : World) (e : Ending) (w' : World) : Prop := ∃ hi lo : Nat, e = .returned (.tuple #[.int .u64 (hi : Int), .int .u64 (lo : Int)]) ∧ MulAddAt a b c d hi lo ∧ w = w'
theorem mul_lt_sq {x y : Nat} (hx : x < 18446744073709551616) (hy : y < 18446744073709551616) : x * y ≤ 340282366920938463426481119284349108225 := Nat.mul_le_mul (show x ≤ 18446744073709551615 by omega) (show y ≤ 18446744073709551615 by omega)
set_option maxHeartbeats 400000 in
theorem mulAdd_any (a b c d : Nat) (w : World) (ha : a < 18446744073709551616) (hb : b < 18446744073709551616) (hc : c < 18446744073709551616) (hd : d < 18446744073709551616) :
    Calls Tryd.prog 38 #[.int .u64 a, .int .u64 b, .int .u64 c, .int .u64 d] w (MulAddPost a b c d w) := by
  obtain ⟨hi, lo, h1, e1, l1⟩ := mul64_ex a b ha hb
  obtain ⟨s, k, h2, e2, l2, k2⟩ := add64_ex lo c 0 l1 hc (by omega)
  obtain ⟨t, j, h3, e3, l3, k3⟩ := add64_ex s d 0 l2 hd (by omega)
  have hm := mul_lt_sq ha hb
  have hAt : MulAddAt a b c d (hi + k + j) t := by
    unfold MulAddAt
    generalize a * b = m at *
    omega
  have b1 : hi + k + j < 18446744073709551616 := hAt.2.2
  clear hm
  have HA := Lib.hid hAt
  have E1 := Lib.hid e1
  have E2 := Lib.hid e2
  have E3 := Lib.hid e3
  clear hAt e1 e2 e3
  rw [Int.natCast_zero] at h2 h3
  go_enter Tryd.func38, Tryd.ntmps38
  go_wp2_with (first | simp only [h2] | simp only [h3] | (go_at_call 47; refine (h1 _).mono ?_; rintro e w' ⟨rfl, rfl⟩))
  go_ret2
  exact ⟨hi + k + j, t, by go_num, HA.out, rfl⟩
end Go.Proofs.YtnfckoamjeafhaaDoor
