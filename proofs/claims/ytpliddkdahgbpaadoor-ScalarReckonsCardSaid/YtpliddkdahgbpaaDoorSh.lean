/- Bytes and bits of numbers as lists; the document's list of bits (layer 3's high). -/
import Derived.Test.YtpliddkdahgbpaaDoorSr
import Derived.Deep.RegionLaw
namespace Go.Proofs.YtpliddkdahgbpaaDoor
set_option linter.unusedVariables false
set_option linter.unusedSimpArgs false
open Go Go.RowKit

theorem info_u8 : (Tryd.prog.info? 5).map (fun i => (i.zero, i.size, i.bytes)) = some (some (.int .u8 0), 1, 1) := by kernel_rfl
theorem bs_new1 (w : World) (t : TypeId) (x : UInt8) : BS (w.alloc (.cells #[.int .u8 (x.toNat : Int)] t)) (w.heap.size + 1) (some ⟨w.heap.size, 0, none⟩) 1 1 [x] :=
  BS.ofBlk (l := [x]) (Blk.new w t #[.int .u8 (x.toNat : Int)]) 1 rfl _ (by omega)
theorem bs_newv (w : World) (t : TypeId) (v : Int) (x : UInt8) (hv : v = (x.toNat : Int)) : BS (w.alloc (.cells #[.int .u8 v] t)) (w.heap.size + 1) (some ⟨w.heap.size, 0, none⟩) 1 1 [x] := by subst hv; exact bs_new1 w t x
theorem bs_newv2 (w : World) (t : TypeId) (u v : Int) (x y : UInt8) (hu : u = (x.toNat : Int)) (hv : v = (y.toNat : Int)) : BS (w.alloc (.cells #[.int .u8 u, .int .u8 v] t)) (w.heap.size + 1) (some ⟨w.heap.size, 0, none⟩) 2 2 [x, y] := by
  subst hu
  subst hv
  exact BS.ofBlk (l := [x, y]) (Blk.new w t #[.int .u8 (x.toNat : Int), .int .u8 (y.toNat : Int)]) 2 rfl _ (by omega)
/-- n bytes of a number, the lowest first. -/
def kbl (N n : Nat) : List UInt8 := (List.range n).map fun i => UInt8.ofNat (N / 256 ^ i % 256)
theorem kbl_len (N n : Nat) : (kbl N n).length = n := by simp [kbl]
theorem kbl_get (N n : Nat) {i : Nat} (h : i < n) : (kbl N n)[i]? = some (UInt8.ofNat (N / 256 ^ i % 256)) := by simp [kbl, h]
theorem kbl_step (N n : Nat) : kbl N (n + 1) = kbl N n ++ [UInt8.ofNat (N / 256 ^ n % 256)] := by simp [kbl, List.range_succ]
theorem u8_nat {x : Nat} (h : x < 256) : (UInt8.ofNat x).toNat = x := by simp [Nat.mod_eq_of_lt h]
/-- The first j of m bits, the highest first. -/
def hbl (N m j : Nat) : List UInt8 := (List.range j).map fun t => UInt8.ofNat (N / 2 ^ (m - 1 - t) % 2)
theorem hbl_len (N m j : Nat) : (hbl N m j).length = j := by simp [hbl]
theorem hbl_get (N m j : Nat) {i : Nat} (h : i < j) : (hbl N m j)[i]? = some (UInt8.ofNat (N / 2 ^ (m - 1 - i) % 2)) := by simp [hbl, h]
theorem hbl_step (N m j : Nat) : hbl N m (j + 1) = hbl N m j ++ [UInt8.ofNat (N / 2 ^ (m - 1 - j) % 2)] := by simp [hbl, List.range_succ]
theorem bit_of_byte (N i k : Nat) (hk : k < 8) : N / 256 ^ i % 256 / 2 ^ k % 2 = N / 2 ^ (8 * i + k) % 2 := by
  have h1 : N / 2 ^ (8 * i + k) = N / 256 ^ i / 2 ^ k := by
    rw [show (256 : Nat) = 2 ^ 8 by decide, ← Nat.pow_mul, Nat.div_div_eq_div_mul, ← Nat.pow_add]
  rw [h1]
  generalize N / 256 ^ i = x
  have h := dig_mod 2 x 8 k (by omega)
  rw [if_pos hk] at h
  exact h
set_option maxRecDepth 100000 in
set_option maxHeartbeats 1000000 in
theorem high_any (A : Option Addr) (n c B N : Nat) (w : World) (hl : BS w B A n c (kbl N n)) (hB : B ≤ w.heap.size) (hn : n ≤ 100) :
    Calls Tryd.prog 23 #[.slice A n c] w fun e w' => ∃ v, e = .returned v ∧ OwnB w' w.heap.size 5 v (hbl N (8 * n) (8 * n)) ∧ Below w.heap.size w w' := by
  go_enter Tryd.func23, Tryd.ntmps23
  go_wp2_with (fail)
  go_loopw [3, 4] (fun v i wr => ∃ r j : Nat, r + j = n ∧ i = .int .i64 ((r : Int) - 1) ∧ OwnB wr w.heap.size 5 v (hbl N (8 * n) (8 * j)) ∧ Below w.heap.size w wr) (fun _ i _ => (intOf i + 1).toNat)
  case atStart => exact ⟨n, 0, by omega, rfl, OwnB.nil _ _ _, Below.refl _ _⟩
  case round =>
    obtain ⟨r, j, hrj, rfl, hown, hb⟩ := hrel
    cases r with
    | succ r =>
      have e1 : ((r + 1 : Nat) : Int) - 1 = (r : Int) := by omega
      rw [e1]
      clear e1
      have HOWN := Lib.hid hown
      have HB := Lib.hid hb
      clear hown hb
      go_wp2_with (fail)
      try rw [decide_eq_true (show (0 : Int) ≤ (r : Int) by omega)]
      go_loopw [3, 5] (fun v i wq => ∃ s q : Nat, s + q = 8 ∧ i = .int .i64 ((s : Int) - 1) ∧ OwnB wq w.heap.size 5 v (hbl N (8 * n) (8 * j + q)) ∧ Below w.heap.size w wq) (fun _ i _ => (intOf i + 1).toNat)
      case atStart => exact ⟨8, 0, by omega, rfl, HOWN.out, HB.out⟩
      case round =>
        obtain ⟨s, q, hsq, rfl, hown, hb⟩ := hrel
        clear HOWN HB
        cases s with
        | succ s =>
          have e1 : ((s + 1 : Nat) : Int) - 1 = (s : Int) := by omega
          rw [e1]
          clear e1
          obtain ⟨b, o, x, rfl, hb', hx, hc⟩ := (hl.below (hb.mono hB)).at' (k := r) (by omega)
          rw [kbl_get N n (by omega)] at hx
          injection hx with hx
          have hbit := bit_of_byte N r s (by omega)
          have hstep := hbl_step N (8 * n) (8 * j + q)
          have hidx : 8 * n - 1 - (8 * j + q) = 8 * r + s := by omega
          rw [hidx, ← hbit] at hstep
          have hxl : N / 256 ^ r % 256 < 256 := Nat.mod_lt _ (by omega)
          have hxn : x.toNat = N / 256 ^ r % 256 := by rw [← hx, u8_nat hxl]
          rw [hxn] at hc
          have hb2 : N / 256 ^ r % 256 / 2 ^ s % 2 < 256 := by omega
          have hnw : ((N / 256 ^ r % 256 : Nat) : Int) / 2 ^ s % 2 = ((UInt8.ofNat (N / 256 ^ r % 256 / 2 ^ s % 2)).toNat : Int) := by
            rw [u8_nat hb2, Int.natCast_emod, Int.natCast_ediv, Int.natCast_pow]
            rfl
          obtain ⟨A9, n9, c9, rfl, hbs9, hlo9⟩ := hown.form
          have hbig : (hbl N (8 * n) (8 * j + q)).length + 1 ≤ 140737488355328 := by rw [hbl_len]; omega
          obtain ⟨z, hz⟩ : ∃ z, z = UInt8.ofNat (N / 256 ^ r % 256 / 2 ^ s % 2) := ⟨_, rfl⟩
          rw [← hz] at hstep hnw
          have HSTEP := Lib.hid hstep
          have HNW := Lib.hid hnw
          have HBG := Lib.hid hbig
          clear hbit hstep hidx hxn hb2 hnw hbs9 hbig hx hz
          generalize N / 256 ^ r % 256 = p at *
          have b3 : (s : Int) < 65 := by omega
          go_wp2_with (at_builtin; refine wpList_app_own rfl (.tmp 17) (.tmp 26) 28 rfl 5 Tryd.underlying28 info_u8 w.heap.size (.slice A9 n9 c9) (hbl N (8 * n) (8 * j + q)) rfl (by exact hown.alloc _) (wr.heap.size + 1) 1 1 (some ⟨wr.heap.size, 0, none⟩) [z] rfl (by exact bs_newv wr 5 _ _ HNW.out) HBG.out (by have := hb.size; simp; omega) ?_; intro v1 w1 hown1 hg1 hat1)
          have hb1 := (hb.alloc hb.size _).grown hg1 (hb.alloc hb.size _).size hlo9
          refine ⟨⟨s, q + 1, by omega, rfl, ?_, hb1⟩, by simp [intOf] <;> omega⟩
          rw [show 8 * j + (q + 1) = 8 * j + q + 1 by omega, HSTEP.out]
          exact hown1
        | zero =>
          obtain rfl : q = 8 := by omega
          go_wp2_with (fail)
          go_roundw
          case rel => exact ⟨r, j + 1, by omega, rfl, by rw [show 8 * (j + 1) = 8 * j + 8 by omega]; exact hown, hb⟩
          case measure => simp [intOf] <;> omega
    | zero =>
      obtain rfl : j = n := by omega
      go_wp2_with (fail)
      go_ret
      exact ⟨_, rfl, hown, hb⟩
end Go.Proofs.YtpliddkdahgbpaaDoor
