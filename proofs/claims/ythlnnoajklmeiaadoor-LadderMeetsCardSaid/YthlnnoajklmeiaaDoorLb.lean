/- The ladder's bit and clamp; the document's Clamp. -/
import Derived.Test.YthlnnoajklmeiaaDoorKt
import Derived.Test.YthlnnoajklmeiaaDoorFo
namespace Go.Proofs.YthlnnoajklmeiaaDoor
set_option linter.unusedVariables false
set_option linter.unusedSimpArgs false
open Go.RowKit

set_option maxHeartbeats 1000000 in
theorem lbit_any (e i : Nat) (w : World) (hi : i < 256) :
    Calls Tryd.prog 26 #[.agg (ks e), .int .i64 (i : Int)] w fun r w' => r = .returned (.bool (bitB e i)) ∧ Below w.heap.size w w' := by
  have hc : (w.alloc (.cells (ks e) 23)).cell? ⟨w.heap.size, i / 8, none⟩ = some (.int .u8 ((e / 256 ^ (i / 8) % 256 : Nat) : Int)) := by
    rw [(Blk.new w 23 (ks e)).cell, ks_get _ (by omega)]
  have hx : e / 256 ^ (i / 8) % 256 < 256 := Nat.mod_lt _ (by omega)
  have hb := bit_at e i
  have ha := and_one8 (e / 256 ^ (i / 8) % 256 / 2 ^ (i % 8)) (Nat.lt_of_le_of_lt (Nat.div_le_self _ _) hx)
  rw [hb, Int.natCast_ediv, Int.natCast_pow] at ha
  have HA := Lib.hid ha
  clear hb ha
  generalize e / 256 ^ (i / 8) % 256 = x at *
  have b1 : (0 : Int) ≤ (i : Int) / 8 := by omega
  have b2 : (i : Int) / 8 < 32 := by omega
  have b3 : ((i : Int) % 8) < 65 := by omega
  go_enter Tryd.func26, Tryd.ntmps26
  go_wp2
  go_ret
  refine ⟨?_, (Below.refl _ _).alloc (Nat.le_refl _) _⟩
  show Ending.returned (.bool (bits .and .u8 ((x : Int) / 2 ^ (i % 8)) 1 == 1)) = _
  have := HA.out
  rw [show ((2 : Nat) : Int) = 2 from rfl] at this
  rw [this]
  rfl
def clampN (n : Nat) : Nat := putd 256 (putd 256 n 0 (n / 256 ^ 0 % 256 / 8 * 8)) 31 (n / 256 ^ 31 % 256 % 64 + 64)
theorem clamp_row (n : Nat) : ((ks n).setIfInBounds 0 (.int .u8 ((n / 256 ^ 0 % 256 / 8 * 8 : Nat) : Int))).setIfInBounds 31 (.int .u8 ((n / 256 ^ 31 % 256 % 64 + 64 : Nat) : Int)) = ks (clampN n) := by
  rw [ks_put (by omega) (by omega), ks_put (by omega) (by omega)]
  rfl
theorem low3 : ∀ x : Fin 256, bits .andNot .u8 (x.val : Int) 7 = (x.val : Int) / 8 * 8 := by decide +kernel
theorem top1 : ∀ x : Fin 256, bits .andNot .u8 (x.val : Int) 128 = (x.val : Int) % 128 := by decide +kernel
theorem top2 : ∀ x : Fin 256, bits .or .u8 ((x.val : Int) % 128) 64 = (x.val : Int) % 64 + 64 := by decide +kernel
theorem bits_low3 (x : Nat) (h : x < 256) : bits .andNot .u8 (x : Int) 7 = (x : Int) / 8 * 8 := low3 ⟨x, h⟩
theorem bits_top1 (x : Nat) (h : x < 256) : bits .andNot .u8 (x : Int) 128 = (x : Int) % 128 := top1 ⟨x, h⟩
theorem bits_top2 (x : Nat) (h : x < 256) : bits .or .u8 ((x : Int) % 128) 64 = (x : Int) % 64 + 64 := top2 ⟨x, h⟩
theorem clamp_row2 {n x y : Nat} {v : Value} (hx : x = n / 256 ^ 0 % 256) (hy : y = n / 256 ^ 31 % 256) : (((ks n).setIfInBounds 0 (.int .u8 ((x : Int) / 8 * 8))).setIfInBounds 31 v).setIfInBounds 31 (.int .u8 ((y : Int) % 64 + 64)) = ks (clampN n) := by
  have h := clamp_row n
  rw [← hx, ← hy] at h
  rw [← h, Array.setIfInBounds_setIfInBounds]
  congr 2
theorem clamp_row1 {n x y : Nat} (hx : x = n / 256 ^ 0 % 256) (hy : y = n / 256 ^ 31 % 256) : ((ks n).setIfInBounds 0 (.int .u8 ((x : Int) / 8 * 8))).setIfInBounds 31 (.int .u8 ((y : Int) % 64 + 64)) = ks (clampN n) := by
  have h := clamp_row n
  rw [← hx, ← hy] at h
  rw [← h]
  congr 2
set_option maxRecDepth 100000 in
set_option maxHeartbeats 1000000 in
theorem lclamp_any (n : Nat) (w : World) : Calls Tryd.prog 23 #[.agg (ks n)] w (KeyPost (clampN n) w) := by
  have hfr := ((Fr.start w).row (ks n) 23 (g := w.heap.size) rfl).any (ks 0) 23 32 (ks_size 0) (g := w.heap.size + 1) (by simp)
  rw [ks_zero] at hfr
  have hk := hfr.get (g := w.heap.size) (t := 23) (cs := ks n) (by simp)
  obtain ⟨x, hx⟩ : ∃ x, x = n / 256 ^ 0 % 256 := ⟨_, rfl⟩
  obtain ⟨y, hy⟩ : ∃ y, y = n / 256 ^ 31 % 256 := ⟨_, rfl⟩
  have hxl : x < 256 := by rw [hx]; exact Nat.mod_lt _ (by omega)
  have hyl : y < 256 := by rw [hy]; exact Nat.mod_lt _ (by omega)
  have c0 := hk.cell 0
  have c31 := hk.cell 31
  rw [ks_get n (by omega), ← hx] at c0
  rw [ks_get n (by omega), ← hy] at c31
  have f0 := hk.frozen 0
  have f31 := hk.frozen 31
  have hrow := clamp_row2 (v := .int .u8 ((y : Int) % 128)) hx hy
  have hf := ((Fr.start w).row (ks (clampN n)) 23 (g := w.heap.size) rfl).any (ks 0) 23 32 (ks_size 0) (g := w.heap.size + 1) (by simp)
  rw [ks_zero] at hf
  have KT := Lib.hid (hf.get (g := w.heap.size) (t := 23) (cs := ks (clampN n)) (by simp))
  have a31 : ((ks n).setIfInBounds 0 (.int .u8 ((x : Int) / 8 * 8)))[31]? = some (.int .u8 (y : Int)) := by rw [Array.getElem?_setIfInBounds_ne (by omega), ks_get n (by omega), ← hy]
  have b31 : (((ks n).setIfInBounds 0 (.int .u8 ((x : Int) / 8 * 8))).setIfInBounds 31 (.int .u8 ((y : Int) % 128)))[31]? = some (.int .u8 ((y : Int) % 128)) := by rw [Array.getElem?_setIfInBounds_self, if_pos (by rw [Array.size_setIfInBounds, ks_size]; omega)]
  obtain ⟨old, hold, kR⟩ := hf.old (g := w.heap.size + 1) (t := 23) (n := 32) (by simp)
  have HS := Lib.hid (kR.setRow_same (ks (clampN n)))
  have HB := Lib.hid (below_setRow hf.below (show w.heap.size ≤ w.heap.size + 1 by omega) (ks (clampN n)))
  have KR := Lib.hid kR
  have HO := Lib.hid (show old.size = (ks (clampN n)).size by rw [hold, ks_size])
  clear hfr hk hx hy hf hold kR
  have h1 := bits_low3 x hxl
  have h2 := bits_top1 y hyl
  have h3 := bits_top2 y hyl
  go_enter Tryd.func23, Tryd.ntmps23
  go_wp2_with (first | (refine wpList_load_row rfl 23 (.tmp 1) rfl w.heap.size rfl 23 (ks (clampN n)) (0, 0) _ KT.out Tryd.underlying23 rfl (info_ks _) ?_) | (refine wpList_store_row rfl 23 (.tmp 2) (.tmp 15) rfl (w.heap.size + 1) (ks (clampN n)) rfl rfl 23 old KR.out (info_ks _) HO.out (ks_one _) ?_))
  exact key_end (g := w.heap.size + 1) rfl rfl rfl HS.out HB.out
set_option maxRecDepth 100000 in
set_option maxHeartbeats 1000000 in
theorem rclamp_any (n : Nat) (w : World) : Calls Tryd.prog 17 #[.agg (ks n)] w (KeyPost (clampN n) w) := by
  have hfr := ((Fr.start w).row (ks n) 23 (g := w.heap.size) rfl).any (ks 0) 23 32 (ks_size 0) (g := w.heap.size + 1) (by simp)
  rw [ks_zero] at hfr
  have hk := hfr.get (g := w.heap.size) (t := 23) (cs := ks n) (by simp)
  obtain ⟨x, hx⟩ : ∃ x, x = n / 256 ^ 0 % 256 := ⟨_, rfl⟩
  obtain ⟨y, hy⟩ : ∃ y, y = n / 256 ^ 31 % 256 := ⟨_, rfl⟩
  have hxl : x < 256 := by rw [hx]; exact Nat.mod_lt _ (by omega)
  have hyl : y < 256 := by rw [hy]; exact Nat.mod_lt _ (by omega)
  have c0 := hk.cell 0
  have c31 := hk.cell 31
  rw [ks_get n (by omega), ← hx] at c0
  rw [ks_get n (by omega), ← hy] at c31
  have f0 := hk.frozen 0
  have f31 := hk.frozen 31
  have hrow := clamp_row1 hx hy
  have hf := ((Fr.start w).row (ks (clampN n)) 23 (g := w.heap.size) rfl).any (ks 0) 23 32 (ks_size 0) (g := w.heap.size + 1) (by simp)
  rw [ks_zero] at hf
  have KT := Lib.hid (hf.get (g := w.heap.size) (t := 23) (cs := ks (clampN n)) (by simp))
  have a31 : ((ks n).setIfInBounds 0 (.int .u8 ((x : Int) / 8 * 8)))[31]? = some (.int .u8 (y : Int)) := by rw [Array.getElem?_setIfInBounds_ne (by omega), ks_get n (by omega), ← hy]
  obtain ⟨old, hold, kR⟩ := hf.old (g := w.heap.size + 1) (t := 23) (n := 32) (by simp)
  have HS := Lib.hid (kR.setRow_same (ks (clampN n)))
  have HB := Lib.hid (below_setRow hf.below (show w.heap.size ≤ w.heap.size + 1 by omega) (ks (clampN n)))
  have KR := Lib.hid kR
  have HO := Lib.hid (show old.size = (ks (clampN n)).size by rw [hold, ks_size])
  clear hfr hk hx hy hf hold kR
  go_enter Tryd.func17, Tryd.ntmps17
  go_wp2_with (first | (refine wpList_load_row rfl 23 (.tmp 1) rfl w.heap.size rfl 23 (ks (clampN n)) (0, 0) _ KT.out Tryd.underlying23 rfl (info_ks _) ?_) | (refine wpList_store_row rfl 23 (.tmp 2) (.tmp 13) rfl (w.heap.size + 1) (ks (clampN n)) rfl rfl 23 old KR.out (info_ks _) HO.out (ks_one _) ?_))
  exact key_end (g := w.heap.size + 1) rfl rfl rfl HS.out HB.out
/-- What is clamped. -/
theorem clampN_eq {n : Nat} (hn : n < 115792089237316195423570985008687907853269984665640564039457584007913129639936) : clampN n = n % 28948022309329048855892746252171976963317496166410141009864396001978282409984 / 8 * 8 + 28948022309329048855892746252171976963317496166410141009864396001978282409984 := by
  unfold clampN
  have h1 := putd_eq 256 n 0 (n / 256 ^ 0 % 256 / 8 * 8)
  rw [Nat.pow_zero, Nat.div_one] at h1 ⊢
  generalize hm : putd 256 n 0 (n % 256 / 8 * 8) = m at *
  have h2 := putd_eq 256 m 31 (n / 256 ^ 31 % 256 % 64 + 64)
  have e : (256 : Nat) ^ 31 = 452312848583266388373324160190187140051835877600158453279131187530910662656 := by decide
  rw [e] at h2 ⊢
  omega
theorem clampN_lt {n : Nat} (hn : n < 115792089237316195423570985008687907853269984665640564039457584007913129639936) : clampN n < 2 ^ 255 := by
  rw [clampN_eq hn, show (2 : Nat) ^ 255 = 57896044618658097711785492504343953926634992332820282019728792003956564819968 by decide]
  omega
theorem clampN_even {n : Nat} (hn : n < 115792089237316195423570985008687907853269984665640564039457584007913129639936) : clampN n % 2 = 0 := by
  rw [clampN_eq hn]
  omega
end Go.Proofs.YthlnnoajklmeiaaDoor
