/- Bytes and bits of numbers as lists; the document's list of bits (layer 3's high). -/
import Derived.Test.YtpliddkdahgbpaaDoorSr
import Derived.Deep.RegionLaw
namespace Go.Proofs.YtpliddkdahgbpaaDoor
set_option linter.unusedVariables false
set_option linter.unusedSimpArgs false
open Go Go.RowKit

theorem info_u8 : (Tryd.prog.info? 5).map (fun i => (i.zero, i.size, i.bytes)) = some (some (.int .u8 0), 1, 1) := by kernel_rfl
theorem bs_new1 (w : World) (t : TypeId) (x : UInt8) : BS (w.alloc (.cells #[.int .u8 (x.toNat : Int)] t)) (w.heap.size + 1) (some ⟨w.heap.size, 0, none⟩) 1 1 [x] :=
  BS.ofBlk (l := [x]) (Blk.new w t #[.int .u8 (x.toNat : Int)]) 1 rfl _ (by omega)
theorem bs_newv (w : World) (t : TypeId) (v : Int) (x : UInt8) (hv : v = (x.toNat : Int)) : BS (w.alloc (.cells #[.int .u8 v] t)) (w.heap.size + 1) (some ⟨w.heap.size, 0, none⟩) 1 1 [x] := by subst hv; exact bs_new1 w t x
theorem bs_newv2 (w : World) (t : TypeId) (u v : Int) (x y : UInt8) (hu : u = (x.toNat : Int)) (hv : v = (y.toNat : Int)) : BS (w.alloc (.cells #[.int .u8 u, .int .u8 v] t)) (w.heap.size + 1) (some ⟨w.heap.size, 0, none⟩) 2 2 [x, y] := by
  subst hu
  subst hv
  exact BS.ofBlk (l := [x, y]) (Blk.new w t #[.int .u8 (x.toNat : Int), .int .u8 (y.toNat : Int)]) 2 rfl _ (by omega)
/-- n bytes of a number, the lowest first. -/
def kbl (N n : Nat) : List UInt8 := (List.range n).map fun i => UInt8.ofNat (N / 256 ^ i % 256)
theorem kbl_len (N n : Nat) : (kbl N n).length = n := by simp [kbl]
theorem kbl_get (N n : Nat) {i : Nat} (h : i < n) : (kbl N n)[i]? = some (UInt8.ofNat (N / 256 ^ i % 256)) := by simp [kbl, h]
theorem kbl_step (N n : Nat) : kbl N (n + 1) = kbl N n ++ [UInt8.ofNat (N / 256 ^ n % 256)] := by simp [kbl, List.range_succ]
theorem u8_nat {x : Nat} (h : x < 256) : (UInt8.ofNat x).toNat = x := by simp [Nat.mod_eq_of_lt h]
/-- The first j of m bits, the highest first. -/
def hbl (N m j : Nat) : List UInt8 := (List.range j).map fun t => UInt8.ofNat (N / 2 ^ (m - 1 - t) % 2)
theorem hbl_len (N m j : Nat) : (hbl N m j).length = j := by simp [hbl]
theorem hbl_get (N m j : Nat) {i : Nat} (h : i < j) : (hbl N m j)[i]? = some (UInt8.ofNat (N / 2 ^ (m - 1 - i) % 2)) := by simp [hbl, h]
theorem hbl_step (N m j : Nat) : hbl N m (j + 1) = hbl N m j ++ [UInt8.ofNat (N / 2 ^ (m - 1 - j) % 2)] := by simp [hbl, List.range_succ]
theorem bit_of_byte (N i k : Nat) (hk : k < 8) : N / 256 ^ i % 256 / 2 ^ k % 2 = N / 2 ^ (8 * i + k) % 2 := by
  have h1 : N / 2 ^ (8 * i + k) = N / 256 ^ i / 2 ^ k := by
    rw [show (256 : Nat) = 2 ^ 8 by decide, ← Nat.pow_mul, Nat.div_div_eq_div_mul, ← Nat.pow_add]
  rw [h1]
  generalize N / 256 ^ i = x
  have h := dig_mod 2 x 8 k (by omega)
  rw [if_pos hk] at h
  exact h
end Go.Proofs.YtpliddkdahgbpaaDoor
