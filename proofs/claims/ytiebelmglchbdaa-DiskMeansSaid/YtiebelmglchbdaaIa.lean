/- Words of 32 bits, a row of sixteen of them; what the operations on words and bytes come to; the stream's block purely. No dump is imported. -/
import Derived.Test.YtiebelmglchbdaaVk
import Derived.Laws.BitsAllLaws
namespace Go.Proofs.Ytiebelmglchbdaa
set_option linter.unusedVariables false
set_option linter.unusedSimpArgs false
open Go Go.RowKit

theorem nb_ne {i a : Nat} (h : i ≠ a) : Nat.beq i a = false := by
  cases e : Nat.beq i a with
  | false => rfl
  | true => exact absurd (Nat.eq_of_beq_eq_true e) h
/-- A word as a cell; a row of sixteen. -/
abbrev Wd := Nat → UInt32
def wc (x : UInt32) : Value := .int .u32 (x.toNat : Int)
def wv (f : Wd) : Array Value := ((List.range 16).map (fun i => wc (f i))).toArray
def upd (f : Wd) (a : Nat) (v : UInt32) : Wd := fun i => bif Nat.beq i a then v else f i
theorem wv_size (f : Wd) : (wv f).size = 16 := by simp [wv]
theorem wv_get (f : Wd) {i : Nat} (h : i < 16) : (wv f)[i]? = some (wc (f i)) := by simp [wv, h]
theorem wv_one (f : Wd) : (wv f).all (·.oneCell') = true := by
  rw [Array.all_eq_true']
  intro x hx
  simp only [wv, List.mem_toArray, List.mem_map] at hx
  obtain ⟨i, _, rfl⟩ := hx
  rfl
theorem wv_ext {f g : Wd} (h : ∀ i, i < 16 → f i = g i) : wv f = wv g := by
  unfold wv
  congr 1
  exact List.map_congr_left fun i hi => by rw [h i (List.mem_range.1 hi)]
theorem wv_set (f : Wd) (a : Nat) (v : UInt32) : (wv f).setIfInBounds a (wc v) = wv (upd f a v) := by
  apply Array.ext_getElem?
  intro i
  by_cases h : i < 16
  · rw [wv_get _ h, Array.getElem?_setIfInBounds, wv_size]
    unfold upd
    by_cases e : a = i
    · subst e
      simp [h]
    · rw [if_neg e, wv_get _ h]
      have : Nat.beq i a = false := nb_ne (Ne.symm e)
      rw [this]
      rfl
  · rw [Array.getElem?_eq_none (by simp [wv_size]; omega), Array.getElem?_eq_none (by rw [wv_size]; omega)]
theorem upd_self (f : Wd) (a : Nat) (v : UInt32) : upd f a v a = v := by simp [upd]
theorem upd_ne {f : Wd} {a i : Nat} {v : UInt32} (h : i ≠ a) : upd f a v i = f i := by
  have : Nat.beq i a = false := nb_ne h
  simp only [upd, this, cond_false]

/-! The stream's block. -/
def shlW (x : UInt32) (s : Nat) : UInt32 := UInt32.ofNat (x.toNat * 2 ^ s)
def shrW (x : UInt32) (s : Nat) : UInt32 := UInt32.ofNat (x.toNat / 2 ^ s)
def rolW (x : UInt32) (s : Nat) : UInt32 := shlW x s ||| shrW x (32 - s)
def stepW (f : Wd) (a b d s : Nat) : Wd := upd (upd f a (f a + f b)) d (rolW ((upd f a (f a + f b)) d ^^^ (upd f a (f a + f b)) a) s)
def quarterW (f : Wd) (a b c d : Nat) : Wd := stepW (stepW (stepW (stepW f a b d 16) c d b 12) a b d 8) c d b 7
def doubleW (f : Wd) : Wd := quarterW (quarterW (quarterW (quarterW (quarterW (quarterW (quarterW (quarterW f 0 4 8 12) 1 5 9 13) 2 6 10 14) 3 7 11 15) 0 5 10 15) 1 6 11 12) 2 7 8 13) 3 4 9 14
def mixW (f : Wd) : Nat → Wd
  | 0 => f
  | n + 1 => doubleW (mixW f n)
def byteW (b : UInt8) : UInt32 := UInt32.ofNat b.toNat
def lowB (x : UInt32) : UInt8 := UInt8.ofNat x.toNat
/-- A word of four bytes, the lowest first. -/
def leW (b0 b1 b2 b3 : UInt8) : UInt32 := ((shlW (byteW b0) 0 ||| shlW (byteW b1) 8) ||| shlW (byteW b2) 16) ||| shlW (byteW b3) 24
/-- The beginning. -/
def begW (k : Nat → UInt8) (c : UInt32) (n : Nat → UInt8) : Wd := fun i => match i with
  | 0 => 1634760805
  | 1 => 857760878
  | 2 => 2036477234
  | 3 => 1797285236
  | 12 => c
  | i => bif Nat.blt i 12 then leW (k (4 * (i - 4))) (k (4 * (i - 4) + 1)) (k (4 * (i - 4) + 2)) (k (4 * (i - 4) + 3)) else leW (n (4 * (i - 13))) (n (4 * (i - 13) + 1)) (n (4 * (i - 13) + 2)) (n (4 * (i - 13) + 3))
def sumW (f g : Wd) : Wd := fun i => g i + f i
/-- Words as bytes. -/
def outB (f : Wd) (i : Nat) : UInt8 := lowB (shrW (f (i / 4)) (8 * (i % 4)))
/-- n bytes. -/
def rb (n : Nat) (f : Nat → UInt8) : List UInt8 := (List.range n).map f
theorem rb_len (n : Nat) (f : Nat → UInt8) : (rb n f).length = n := by simp [rb]
theorem rb_get {n i : Nat} (h : i < n) (f : Nat → UInt8) : (rb n f)[i]? = some (f i) := by simp [rb, h]
theorem rb_ext {n : Nat} {f g : Nat → UInt8} (h : ∀ i, i < n → f i = g i) : rb n f = rb n g := List.map_congr_left fun i hi => h i (List.mem_range.1 hi)
theorem rb_of {l : List UInt8} {n : Nat} (h : l.length = n) : l = rb n (fun i => l.getD i 0) := by
  apply List.ext_getElem?
  intro i
  by_cases hi : i < n
  · rw [rb_get hi, List.getElem?_eq_getElem (by omega)]
    simp [List.getD, show i < l.length by omega]
  · rw [List.getElem?_eq_none (by omega), List.getElem?_eq_none (by rw [rb_len]; omega)]
def blockF (k : Nat → UInt8) (c : UInt32) (n : Nat → UInt8) : Nat → UInt8 := outB (sumW (begW k c n) (mixW (begW k c n) 10))
/-- Bytes with the stream. -/
def xorF (k : Nat → UInt8) (c : UInt32) (n : Nat → UInt8) (b : Nat → UInt8) (i : Nat) : UInt8 := b i ^^^ blockF k (c + UInt32.ofNat (i / 64)) n (i % 64)
set_option maxRecDepth 100000 in
theorem known_block : [blockF (fun _ => 0) 0 (fun _ => 0) 0, blockF (fun _ => 0) 0 (fun _ => 0) 1, blockF (fun _ => 0) 0 (fun _ => 0) 2, blockF (fun _ => 0) 0 (fun _ => 0) 3] = [118, 184, 224, 173] := by decide +kernel
/-! What operations come to. -/
theorem w_lt (x : UInt32) : x.toNat < 4294967296 := x.toNat_lt
section
variable {P : Program} {t : TypeId}
theorem w_add_int (x y : UInt32) : IntKind.u32.wrap ((x.toNat : Int) + (y.toNat : Int)) = ((x + y).toNat : Int) := by
  rw [IntKind.wrap_u32', UInt32.toNat_add]
  omega
theorem w_or_int (x y : UInt32) : bits .or .u32 (x.toNat : Int) (y.toNat : Int) = ((x ||| y).toNat : Int) := by
  rw [u32_or_nat _ _ (w_lt x) (w_lt y), UInt32.toNat_or]
theorem w_xor_int (x y : UInt32) : bits .xor .u32 (x.toNat : Int) (y.toNat : Int) = ((x ^^^ y).toNat : Int) := by
  rw [u32_xor_nat _ _ (w_lt x) (w_lt y), UInt32.toNat_xor]
theorem b_xor_int (x y : UInt8) : bits .xor .u8 (x.toNat : Int) (y.toNat : Int) = ((x ^^^ y).toNat : Int) := by
  rw [u8_xor_nat _ _ x.toNat_lt y.toNat_lt, UInt8.toNat_xor]
theorem w_shl_int (x : UInt32) (s : Nat) : IntKind.u32.wrap ((x.toNat : Int) * 2 ^ s) = ((shlW x s).toNat : Int) := by
  rw [show (x.toNat : Int) * 2 ^ s = ((x.toNat * 2 ^ s : Nat) : Int) by push_cast; rfl, IntKind.wrap_u32', shlW, UInt32.toNat_ofNat']
  omega
theorem w_shr_int (x : UInt32) (s : Nat) : (x.toNat : Int) / 2 ^ s = ((shrW x s).toNat : Int) := by
  have h : x.toNat / 2 ^ s ≤ x.toNat := Nat.div_le_self _ _
  have := w_lt x
  rw [shrW, UInt32.toNat_ofNat', Nat.mod_eq_of_lt (by omega)]
  push_cast
  rfl
theorem w_add (x y : UInt32) (p q : Operand) (W : World) : (do eqGuard .add t p q (wc x) (wc y); binOp .add t (wc x) (wc y) : Sem Value).run P W = .ok (wc (x + y)) W := by
  unfold wc
  go_simp
  exact w_add_int x y
theorem w_xor (x y : UInt32) (p q : Operand) (W : World) : (do eqGuard .xor t p q (wc x) (wc y); binOp .xor t (wc x) (wc y) : Sem Value).run P W = .ok (wc (x ^^^ y)) W := by
  unfold wc
  go_simp
  exact w_xor_int x y
theorem w_or (x y : UInt32) (p q : Operand) (W : World) : (do eqGuard .or t p q (wc x) (wc y); binOp .or t (wc x) (wc y) : Sem Value).run P W = .ok (wc (x ||| y)) W := by
  unfold wc
  go_simp
  exact w_or_int x y
theorem b_xor (x y : UInt8) (p q : Operand) (W : World) : (do eqGuard .xor t p q (bv x) (bv y); binOp .xor t (bv x) (bv y) : Sem Value).run P W = .ok (bv (x ^^^ y)) W := by
  unfold bv
  go_simp
  exact b_xor_int x y
end
end Go.Proofs.Ytiebelmglchbdaa
