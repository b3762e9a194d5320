/- Words of bytes and bytes of words; a block's schedule. -/
import Derived.Test.YtagifgadcbhinaaDoorHc
import Derived.Test.YtagifgadcbhinaaDoorHs
namespace Go.Proofs.YtagifgadcbhinaaDoor
set_option linter.unusedVariables false
set_option linter.unusedSimpArgs false
open Go Go.RowKit

def bn (l : List UInt8) : List Nat := l.map UInt8.toNat
theorem bn_len (l : List UInt8) : (bn l).length = l.length := by simp [bn]
theorem bn_lt (l : List UInt8) : ∀ x ∈ bn l, x < 256 := by
  intro x hx
  obtain ⟨y, _, rfl⟩ := List.mem_map.1 hx
  exact byte_lt y
theorem be_take {l : List UInt8} {k : Nat} {x : UInt8} (h : l[k]? = some x) : be (bn (l.take (k + 1))) = be (bn (l.take k)) * 256 + x.toNat := by
  obtain ⟨hk, hx⟩ := List.getElem?_eq_some_iff.1 h
  rw [List.take_succ_eq_append_getElem hk, hx, bn, List.map_append, List.map_singleton, be_snoc, bn]
theorem or_byte64 (a : Nat) (x : UInt8) (h : a < 72057594037927936) : bits .or .u64 ((a : Int) * 256) (x.toNat : Int) = ((a * 256 + x.toNat : Nat) : Int) := by
  have hx := byte_lt x
  have e : (a : Int) * 256 = ((a * 256 : Nat) : Int) := (Int.natCast_mul a 256).symm
  rw [e, u64_or_nat _ _ (by omega) (by omega)]
  have := Nat.two_pow_add_eq_or_of_lt (i := 8) (b := x.toNat) (by omega) a
  rw [show (2 : Nat) ^ 8 = 256 by decide] at this
  rw [Nat.mul_comm a 256, this]
theorem be_small {l : List UInt8} {k : Nat} (hk : k ≤ 7) : be (bn (l.take k)) < 72057594037927936 := by
  have h1 := be_lt (bn (l.take k)).length (bn (l.take k)) rfl (bn_lt _)
  have h2 : (bn (l.take k)).length ≤ 7 := by rw [bn_len, List.length_take]; omega
  exact Nat.lt_of_lt_of_le h1 (Nat.pow_le_pow_right (n := 256) (by omega) h2)
attribute [local irreducible] be
set_option maxHeartbeats 400000 in
theorem hget_any (A : Option Addr) (n c B : Nat) (l : List UInt8) (w : World) (hl : BS w B A n c l) (h2 : n ≤ 8) :
    Calls Tryd.prog 32 #[.slice A n c] w fun e w' => e = .returned (.int .u64 (be (bn l) : Nat)) ∧ w = w' := by
  go_enter Tryd.func32, Tryd.ntmps32
  go_wp2
  go_loop [3, 8] (fun a i => ∃ k : Nat, k ≤ n ∧ i = .int .i64 k ∧ ∃ m : Nat, a = .int .u64 m ∧ Hid (m = be (bn (l.take k)))) (fun _ i => n - (intOf i).toNat)
  case atStart => exact ⟨0, Nat.zero_le _, rfl, 0, rfl, Lib.hid (by unfold be; rfl)⟩
  case round =>
    obtain ⟨k, hk, rfl, m, rfl, hm⟩ := hrel
    by_cases hlt : k < n
    · obtain ⟨b, o, x, rfl, hb, hx, hc⟩ := hl.at' hlt
      have hx2 := be_take hx
      have hml : m < 72057594037927936 := by rw [hm.out]; exact be_small (by omega)
      have hxb := byte_lt x
      have hor := or_byte64 m x hml
      rw [hm.out, ← hx2] at hor
      rw [← hm.out] at hor
      have HX := Lib.hid hx2
      have HY := Lib.hid hx
      obtain ⟨m2, e2⟩ : ∃ q, q = be (bn (l.take (k + 1))) := ⟨_, rfl⟩
      rw [← e2] at hor
      have E2 := Lib.hid e2
      clear hx2 hx e2 hm
      go_wp2
      go_round
      case rel => exact ⟨k + 1, by omega, by go_num, m2, rfl, E2⟩
      case measure => simp [intOf]; omega
    · obtain rfl : k = n := by omega
      have e9 : m = be (bn l) := by rw [hm.out, List.take_of_length_le (by rw [hl.len]; omega)]
      have E9 := Lib.hid e9
      clear e9 hm
      go_wp2
      go_ret
      refine ⟨?_, rfl⟩
      rw [← E9.out]
      rfl
/-- 'b[i:j]'. -/
theorem BS.mid {P : Program} (t e : TypeId) (ht : P.underlying t = some (.slice e)) (he : (P.info? e).map (fun i => (i.zero, i.size, i.bytes)) = some (some (.int .u8 0), 1, 1)) {w : World} {B n c : Nat} {A : Option Addr} {l : List UInt8}
    (h : BS w B A n c l) {i j : Nat} (hij : i < j) (hj : j ≤ n) :
    ∃ A', (∀ W, (Instr.slice t (.slice A n c) (some (.int .i64 (i : Int))) (some (.int .i64 (j : Int))) none).run P W = .ok (.slice A' (j - i) (c - i)) W) ∧ BS w B A' (j - i) (c - i) ((l.drop i).take (j - i)) := by
  obtain ⟨A', h1, h2⟩ := h.tail t e ht he (k := i) (by omega)
  have hel : P.elem t = e := by simp [Program.elem, ht]
  have hnc := h.cap
  refine ⟨A', fun W => ?_, h2.head2 (by omega)⟩
  have h3 := h1 W
  rw [run_slice_l W t A n c (by rw [hel]; exact ht) _ _ (by omega) (by omega), hel, size_u8 he] at h3
  rw [run_slice_lh W t A n c (by rw [hel]; exact ht) _ _ _ _ (by omega) (by omega) (by omega), hel, size_u8 he]
  simp only [Result.andThen, sliced, Int.toNat_natCast, Nat.mul_one] at h3 ⊢
  injection h3 with h3
  injection h3 with h4 h5 h6
  rw [h4]
/-- The cells of a row in which the first j of a word's lowest bytes were put, from the eighth cell behind o down. -/
def putC (cs : Array Value) (o x : Nat) : Nat → Array Value
  | 0 => cs
  | j + 1 => (putC cs o x j).setIfInBounds (o + 7 - j) (.int .u8 ((x / 256 ^ j % 256 : Nat) : Int))
theorem putC_size (cs : Array Value) (o x : Nat) : ∀ j, (putC cs o x j).size = cs.size
  | 0 => rfl
  | j + 1 => by rw [putC, Array.size_setIfInBounds, putC_size cs o x j]
theorem putC_at (cs : Array Value) (o x : Nat) : ∀ j i, i < 8 - j → j ≤ 8 → (putC cs o x j)[o + i]? = cs[o + i]?
  | 0, _, _, _ => rfl
  | j + 1, i, hi, hj => by
    rw [putC, Array.getElem?_setIfInBounds_ne (by omega)]
    exact putC_at cs o x j i (by omega) (by omega)
theorem byte_nat (x j : Nat) : (x : Int) / 2 ^ (8 * j) % 256 = ((x / 256 ^ j % 256 : Nat) : Int) := by
  have h : (x : Int) / 2 ^ (8 * j) = ((x / 256 ^ j : Nat) : Int) := by
    rw [show (256 : Nat) ^ j = 2 ^ (8 * j) by rw [show (256 : Nat) = 2 ^ 8 from rfl, ← Nat.pow_mul]]
    push_cast
    rfl
  rw [h]
  omega
/-- A call that puts a word into a block, and answers nothing. -/
def PutPost (g : Nat) (t : TypeId) (cs : Array Value) (w : World) (e : Ending) (w' : World) : Prop := e = .returned (.tuple #[]) ∧ Blk w' g t cs ∧ w.grownBy w' (some g)
set_option maxHeartbeats 400000 in
theorem hput_any (g o c : Nat) (t : TypeId) (cs : Array Value) (x : Nat) (w : World) (hx : x < 18446744073709551616) (hc8 : 8 ≤ c) (hb : Blk w g t cs) (hcs : ∀ i, i < 8 → ∃ y : Int, cs[o + i]? = some (.int .u8 y)) :
    Calls Tryd.prog 21 #[.slice (some ⟨g, o, none⟩) 8 c, .int .u64 x] w (PutPost g t (putC cs o x 8) w) := by
  go_enter Tryd.func21, Tryd.ntmps21
  go_wp2
  go_loopw [7] (fun i wr => ∃ j : Nat, j ≤ 8 ∧ i = .int .i64 j ∧ Blk wr g t (putC cs o x j) ∧ w.grownBy wr (some g)) (fun i _ => 8 - (intOf i).toNat)
  case atStart => exact ⟨0, by omega, rfl, hb, World.grownBy.refl _ _⟩
  case round =>
    clear hb
    obtain ⟨j, hj, rfl, hB, hg⟩ := hrel
    by_cases hlt : j < 8
    · obtain ⟨y, hy⟩ := hcs (7 - j) (by omega)
      have hc : wr.cell? ⟨g, o + (7 - j), none⟩ = some (.int .u8 y) := by rw [hB.cell, putC_at cs o x j (7 - j) (by omega) (by omega), hy]
      have hf := hB.frozen (o + (7 - j))
      have h8 : (8 : Int) * (j : Int) < 65 := by omega
      have hset := hB.set_ (o + 7 - j) (.int .u8 ((x / 256 ^ j % 256 : Nat) : Int))
      have hgr := grown_trans hg (grown_set wr g (o + 7 - j) (.int .u8 ((x / 256 ^ j % 256 : Nat) : Int)))
      have e1 : o + 7 - j = o + (7 - j) := by omega
      rw [e1] at hset hgr
      have hset2 : Blk (wr.setCell ⟨g, o + (7 - j), none⟩ (.int .u8 ((x / 256 ^ j % 256 : Nat) : Int))) g t (putC cs o x (j + 1)) := by rw [putC, e1]; exact hset
      have hbn := byte_nat x j
      have HS := Lib.hid hset2
      have HG := Lib.hid hgr
      have HN := Lib.hid hbn
      clear hset hset2 hgr hbn hy hcs
      go_wp2
      go_roundw
      case rel =>
        refine ⟨j + 1, by omega, by go_num, ?_⟩
        rw [HN.out]
        exact ⟨HS.out, HG.out⟩
      case measure => simp [intOf]; omega
    · obtain rfl : j = 8 := by omega
      go_wp2
      go_end0
      exact ⟨rfl, hB, hg⟩
end Go.Proofs.YtagifgadcbhinaaDoor
