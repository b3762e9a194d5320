/- Layer 3's Reduce, Clamp; the document's Clamp, May. -/
import Derived.Test.YtpliddkdahgbpaaDoorSt
import Derived.Test.YtpliddkdahgbpaaDoorSy
namespace Go.Proofs.YtpliddkdahgbpaaDoor
set_option linter.unusedVariables false
set_option linter.unusedSimpArgs false
open Go Go.RowKit

/-- The 64 bytes of a number, the lowest first. -/
def lb (n : Nat) : List Nat := (List.range 64).map fun i => n / 256 ^ i % 256
theorem lb_len (n : Nat) : (lb n).length = 64 := by simp [lb]
theorem lb_get (n : Nat) {i : Nat} (h : i < 64) : (lb n)[i]? = some (n / 256 ^ i % 256) := by simp [lb, h]
/-- The cells of 64 bytes. -/
def ls (n : Nat) : Array Value := ncs .u8 (lb n)
theorem ls_size (n : Nat) : (ls n).size = 64 := by rw [ls, ncs_size, lb_len]
theorem ls_get (n : Nat) {i : Nat} (h : i < 64) : (ls n)[i]? = some (.int .u8 ((n / 256 ^ i % 256 : Nat) : Int)) := by rw [ls, ncs_get, lb_get n h]; rfl
theorem info_ls (n : Nat) : (Tryd.prog.info? 23).map (·.size) = some (ls n).size := by rw [ls_size]; kernel_rfl
theorem w256 (q r : Nat) : (18446744073709551616 : Nat) ^ q * 2 ^ (8 * r) = 256 ^ (8 * q + r) := by
  have e : (18446744073709551616 : Nat) = 256 ^ 8 := by decide
  rw [e, ← Nat.pow_mul, Nat.pow_mul 2 8 r, show (2 : Nat) ^ 8 = 256 by decide, ← Nat.pow_add]
theorem low_word (N k : Nat) : wj (N % 256 ^ k) (k / 8) < 2 ^ (8 * (k % 8)) := by
  have h := w256 (k / 8) (k % 8)
  rw [Nat.div_add_mod] at h
  have h1 : N % 256 ^ k < 18446744073709551616 ^ (k / 8) * 2 ^ (8 * (k % 8)) := by rw [h]; exact Nat.mod_lt _ (Nat.pow_pos (by omega))
  unfold wj
  refine Nat.lt_of_le_of_lt (Nat.mod_le _ _) ?_
  rw [Nat.div_lt_iff_lt_mul (Nat.pow_pos (by omega)), Nat.mul_comm]
  exact h1
theorem byte_put (N k : Nat) (hk : k < 64) : (ws 8 (N % 256 ^ k)).setIfInBounds (k / 8) (.int .u64 ((wj (N % 256 ^ k) (k / 8) + N / 256 ^ k % 256 * 2 ^ (8 * (k % 8)) : Nat) : Int)) = ws 8 (N % 256 ^ (k + 1)) := by
  have hl := low_word N k
  have h := w256 (k / 8) (k % 8)
  rw [Nat.div_add_mod] at h
  have hx : N / 256 ^ k % 256 < 256 := Nat.mod_lt _ (by omega)
  refine ws_put (by omega) ?_ ?_
  · have hp : 2 ^ (8 * (k % 8)) ≤ 2 ^ 56 := Nat.pow_le_pow_right (by omega) (by omega)
    have hm : N / 256 ^ k % 256 * 2 ^ (8 * (k % 8)) ≤ 255 * 2 ^ (8 * (k % 8)) := Nat.mul_le_mul_right _ (by omega)
    have h2 : (2 : Nat) ^ 56 = 72057594037927936 := by decide
    omega
  · have e : ∀ x, 18446744073709551616 ^ (k / 8) * (x * 2 ^ (8 * (k % 8))) = 256 ^ k * x := fun x => by
      rw [← h]
      ac_rfl
    rw [Nat.mod_pow_succ, Nat.mul_add, e]
    omega
theorem b512 : (256 : Nat) ^ 64 = 18446744073709551616 ^ 8 := by
  have e : (18446744073709551616 : Nat) = 256 ^ 8 := by decide
  rw [e, ← Nat.pow_mul]
set_option maxRecDepth 100000 in
set_option maxHeartbeats 2000000 in
theorem reduce_any (N : Nat) (w : World) (hog : OG w) (hN : N < 256 ^ 64) :
    Calls Tryd.prog 8 #[.agg (ls N)] w (KeyPost (N % LL) w) := by
  have hfr := (((Fr.start w).row (ls N) 23 (g := w.heap.size) rfl).any (ks 0) 25 32 (ks_size 0) (g := w.heap.size + 1) (by simp)).row (ws 8 0) 40 (g := w.heap.size + 1 + 1) (by simp)
  have hfr2 := hfr
  rw [ws8_zero] at hfr2
  rw [ks_zero] at hfr2
  have k1 := hfr2.get (g := w.heap.size) (t := 23) (cs := ls N) (by simp)
  have HFR := Lib.hid hfr2
  have HOG := Lib.hid hog
  have HNN := Lib.hid hN
  clear hfr hfr2 hog hN
  obtain ⟨z, hz⟩ : ∃ z, z = N % LL := ⟨_, rfl⟩
  rw [← hz]
  have HZ := Lib.hid hz
  clear hz
  go_enter Tryd.func8, Tryd.ntmps8
  go_wp2_with (first | (refine wpList_load_row rfl 23 (.tmp 1) rfl w.heap.size rfl 23 (ls N) (0, 0) _ k1 Tryd.underlying23 rfl (info_ls N) ?_))
  go_loopw [7] (fun c wr => ∃ k : Nat, k ≤ 64 ∧ c = .int .i64 k ∧ Fr w wr [(w.heap.size + 1 + 1, 40, ws 8 (N % 256 ^ k)), (w.heap.size, 23, ls N)] [(w.heap.size + 1, 25, 32)]) (fun c _ => 64 - (intOf c).toNat)
  case atStart => exact ⟨0, by omega, rfl, by rw [Nat.pow_zero, Nat.mod_one, ws8_zero]; exact HFR.out⟩
  case round =>
    obtain ⟨k, hk, rfl, hF⟩ := hrel
    clear HFR
    by_cases hlt : k < 64
    · have hB := hF.get (g := w.heap.size + 1 + 1) (t := 40) (cs := ws 8 (N % 256 ^ k)) (by simp)
      have hc : wr.cell? ⟨w.heap.size + 1 + 1, k / 8, none⟩ = some (.int .u64 (wj (N % 256 ^ k) (k / 8) : Int)) := by rw [hB.cell, ws_get _ _ (by omega)]
      have hf := hB.frozen (k / 8)
      have hix := fun W => run_index_nats (P := Tryd.prog) W 23 5 64 .u8 Tryd.underlying23 Tryd.underlying5 (fun W => size_u8 (by kernel_rfl) W) (lb N) k (N / 256 ^ k % 256) hlt (lb_get N hlt)
      have hx8 : N / 256 ^ k % 256 < 256 := Nat.mod_lt _ (by omega)
      have hix2 : ∀ W, (Instr.index 23 (.agg (ls N)) (.int .i64 (k : Int))).run Tryd.prog W = .ok (.int .u8 ((N / 256 ^ k % 256 : Nat) : Int)) W := hix
      clear hix
      have hset := byte_put N k hlt
      have hor := or_byte8 (wj (N % 256 ^ k) (k / 8)) (N / 256 ^ k % 256) (k % 8) (low_word N k) hx8 (by omega)
      have HS := Lib.hid hset
      have HO := Lib.hid hor
      have HF := Lib.hid hF
      clear hset hor hF hB
      generalize N / 256 ^ k % 256 = x at *
      have b1 : (0 : Int) ≤ (k : Int) / 8 := by omega
      have b2 : (k : Int) / 8 < 8 := by omega
      go_wp2
      go_region
      go_wp2
      go_roundw
      case rel =>
        refine ⟨k + 1, by omega, by go_num, ?_⟩
        rw [HO.out]
        refine Fr.drew ?_
        rw [← HS.out]
        exact HF.out.setHead (by simp <;> omega) (by simp <;> omega) _ _ (by omega)
      case measure => simp [intOf]; omega
    · obtain rfl : k = 64 := by omega
      rw [Nat.mod_eq_of_lt HNN.out] at hF
      have kT := hF.get (g := w.heap.size + 1 + 1) (t := 40) (cs := ws 8 N) (by simp)
      have hrest := rest_any N wr (hF.og HOG.out) (by rw [← b512]; exact HNN.out)
      rw [← HZ.out] at hrest
      have HF := Lib.hid hF
      clear hF
      go_wp2_with (first | (refine wpList_load_row rfl 40 (.tmp 3) rfl (w.heap.size + 1 + 1) rfl 40 (ws 8 N) (0, 0) _ kT Tryd.underlying40 rfl (info_ws8 N) ?_))
      refine hrest.mono ?_
      clear hrest
      rintro e v1 ⟨rfl, hb⟩
      have hf := HF.out.ext hb
      obtain ⟨old, hold, kR⟩ := hf.old (g := w.heap.size + 1) (t := 25) (n := 32) (by simp)
      have kS := kR.setRow_same (ks z)
      have hB2 := below_setRow hf.below (show w.heap.size ≤ w.heap.size + 1 by omega) (ks z)
      have hold' : old.size = (ks z).size := by rw [hold, ks_size]
      have HS := Lib.hid kS
      have HB2 := Lib.hid hB2
      have HO := Lib.hid hold'
      clear hb hf kS hB2 hold hold' kT
      go_wp2_with (first | (refine wpList_store_row rfl 25 (.tmp 2) (.tmp 25) rfl (w.heap.size + 1) (ks z) rfl rfl 25 old kR (info_ks z) HO.out (ks_one _) ?_))
      exact key_end (g := w.heap.size + 1) rfl rfl rfl HS.out HB2.out

/-! May of the document. -/
set_option maxRecDepth 100000 in
set_option maxHeartbeats 1000000 in
theorem rmay_any (s : Nat) (w : World) (hs : s < 115792089237316195423570985008687907853269984665640564039457584007913129639936) :
    Calls Tryd.prog 11 #[.agg (ks s)] w (BPost (decide (s < LL)) w) := by
  have hfr := (Fr.start w).row (ks s) 25 (g := w.heap.size) rfl
  have k0 := hfr.get (g := w.heap.size) (t := 25) (cs := ks s) (by simp)
  have hless := fun W => rless_any s LL W hs LL_lt
  obtain ⟨b, hb⟩ : ∃ b, b = decide (s < LL) := ⟨_, rfl⟩
  rw [← hb] at hless ⊢
  have HFR := Lib.hid hfr
  have HL := Lib.hid hless
  clear hfr hless hb
  go_enter Tryd.func11, Tryd.ntmps11
  go_wp2_with (first | (refine wpList_load_row rfl 25 (.tmp 1) rfl w.heap.size rfl 25 (ks s) (0, 0) _ k0 Tryd.underlying25 rfl (info_ks s) ?_))
  refine (rof_any s _ hs).mono ?_
  rintro e v1 ⟨rfl, hb⟩
  have hf := HFR.out.ext hb
  have HF := Lib.hid hf
  clear hb hf HFR k0
  go_wp2_with (fail)
  refine (rorder_any _).mono ?_
  rintro e v2 ⟨rfl, hb⟩
  have hf := HF.out.ext hb
  have HF2 := Lib.hid hf
  clear hb hf
  go_wp2_with (fail)
  refine (HL.out _).mono ?_
  rintro e v3 ⟨rfl, hb⟩
  have hf := HF2.out.ext hb
  have HB := Lib.hid hf.below
  clear hb hf
  go_wp2_with (fail)
  go_ret
  exact ⟨rfl, HB.out⟩

/-! Clamp. -/
theorem ks_put {n k x : Nat} (hk : k < 32) (hx : x < 256) : (ks n).setIfInBounds k (.int .u8 (x : Int)) = ks (putd 256 n k x) := by
  rw [ks, ncs_set, ks]
  congr 1
  apply List.ext_getElem?
  intro j
  rw [List.getElem?_set]
  by_cases hj : j < 32
  · rw [kb_get (putd 256 n k x) hj, digit_put (by omega) hx (putd_eq 256 n k x) j]
    by_cases e : k = j
    · subst e
      rw [if_pos rfl, if_pos rfl, kb_len, if_pos hk]
    · rw [if_neg e, if_neg (fun h => e h.symm), kb_get n hj]
  · have : k ≠ j := by omega
    rw [if_neg this, List.getElem?_eq_none (by rw [kb_len]; omega), List.getElem?_eq_none (by rw [kb_len]; omega)]
def clampN (n : Nat) : Nat := putd 256 (putd 256 n 0 (n / 256 ^ 0 % 256 / 8 * 8)) 31 (n / 256 ^ 31 % 256 % 64 + 64)
theorem clamp_row (n : Nat) : ((ks n).setIfInBounds 0 (.int .u8 ((n / 256 ^ 0 % 256 / 8 * 8 : Nat) : Int))).setIfInBounds 31 (.int .u8 ((n / 256 ^ 31 % 256 % 64 + 64 : Nat) : Int)) = ks (clampN n) := by
  rw [ks_put (by omega) (by omega), ks_put (by omega) (by omega)]
  rfl
theorem low3 : ∀ x : Fin 256, bits .andNot .u8 (x.val : Int) 7 = (x.val : Int) / 8 * 8 := by decide +kernel
theorem top1 : ∀ x : Fin 256, bits .andNot .u8 (x.val : Int) 128 = (x.val : Int) % 128 := by decide +kernel
theorem top2 : ∀ x : Fin 256, bits .or .u8 ((x.val : Int) % 128) 64 = (x.val : Int) % 64 + 64 := by decide +kernel
theorem bits_low3 (x : Nat) (h : x < 256) : bits .andNot .u8 (x : Int) 7 = (x : Int) / 8 * 8 := low3 ⟨x, h⟩
theorem bits_top1 (x : Nat) (h : x < 256) : bits .andNot .u8 (x : Int) 128 = (x : Int) % 128 := top1 ⟨x, h⟩
theorem bits_top2 (x : Nat) (h : x < 256) : bits .or .u8 ((x : Int) % 128) 64 = (x : Int) % 64 + 64 := top2 ⟨x, h⟩
theorem clamp_row2 {n x y : Nat} {v : Value} (hx : x = n / 256 ^ 0 % 256) (hy : y = n / 256 ^ 31 % 256) : (((ks n).setIfInBounds 0 (.int .u8 ((x : Int) / 8 * 8))).setIfInBounds 31 v).setIfInBounds 31 (.int .u8 ((y : Int) % 64 + 64)) = ks (clampN n) := by
  have h := clamp_row n
  rw [← hx, ← hy] at h
  rw [← h, Array.setIfInBounds_setIfInBounds]
  congr 2
theorem clamp_row1 {n x y : Nat} (hx : x = n / 256 ^ 0 % 256) (hy : y = n / 256 ^ 31 % 256) : ((ks n).setIfInBounds 0 (.int .u8 ((x : Int) / 8 * 8))).setIfInBounds 31 (.int .u8 ((y : Int) % 64 + 64)) = ks (clampN n) := by
  have h := clamp_row n
  rw [← hx, ← hy] at h
  rw [← h]
  congr 2
set_option maxRecDepth 100000 in
set_option maxHeartbeats 1000000 in
theorem clamp_any (n : Nat) (w : World) : Calls Tryd.prog 12 #[.agg (ks n)] w (KeyPost (clampN n) w) := by
  have hfr := ((Fr.start w).row (ks n) 25 (g := w.heap.size) rfl).any (ks 0) 25 32 (ks_size 0) (g := w.heap.size + 1) (by simp)
  rw [ks_zero] at hfr
  have hk := hfr.get (g := w.heap.size) (t := 25) (cs := ks n) (by simp)
  obtain ⟨x, hx⟩ : ∃ x, x = n / 256 ^ 0 % 256 := ⟨_, rfl⟩
  obtain ⟨y, hy⟩ : ∃ y, y = n / 256 ^ 31 % 256 := ⟨_, rfl⟩
  have hxl : x < 256 := by rw [hx]; exact Nat.mod_lt _ (by omega)
  have hyl : y < 256 := by rw [hy]; exact Nat.mod_lt _ (by omega)
  have c0 := hk.cell 0
  have c31 := hk.cell 31
  rw [ks_get n (by omega), ← hx] at c0
  rw [ks_get n (by omega), ← hy] at c31
  have f0 := hk.frozen 0
  have f31 := hk.frozen 31
  have hrow := clamp_row2 (v := .int .u8 ((y : Int) % 128)) hx hy
  have hf := ((Fr.start w).row (ks (clampN n)) 25 (g := w.heap.size) rfl).any (ks 0) 25 32 (ks_size 0) (g := w.heap.size + 1) (by simp)
  rw [ks_zero] at hf
  have KT := Lib.hid (hf.get (g := w.heap.size) (t := 25) (cs := ks (clampN n)) (by simp))
  have a31 : ((ks n).setIfInBounds 0 (.int .u8 ((x : Int) / 8 * 8)))[31]? = some (.int .u8 (y : Int)) := by rw [Array.getElem?_setIfInBounds_ne (by omega), ks_get n (by omega), ← hy]
  have b31 : (((ks n).setIfInBounds 0 (.int .u8 ((x : Int) / 8 * 8))).setIfInBounds 31 (.int .u8 ((y : Int) % 128)))[31]? = some (.int .u8 ((y : Int) % 128)) := by rw [Array.getElem?_setIfInBounds_self, if_pos (by rw [Array.size_setIfInBounds, ks_size]; omega)]
  obtain ⟨old, hold, kR⟩ := hf.old (g := w.heap.size + 1) (t := 25) (n := 32) (by simp)
  have HS := Lib.hid (kR.setRow_same (ks (clampN n)))
  have HB := Lib.hid (below_setRow hf.below (show w.heap.size ≤ w.heap.size + 1 by omega) (ks (clampN n)))
  have KR := Lib.hid kR
  have HO := Lib.hid (show old.size = (ks (clampN n)).size by rw [hold, ks_size])
  clear hfr hk hx hy hf hold kR
  have h1 := bits_low3 x hxl
  have h2 := bits_top1 y hyl
  have h3 := bits_top2 y hyl
  go_enter Tryd.func12, Tryd.ntmps12
  go_wp2_with (first | (refine wpList_load_row rfl 25 (.tmp 1) rfl w.heap.size rfl 25 (ks (clampN n)) (0, 0) _ KT.out Tryd.underlying25 rfl (info_ks _) ?_) | (refine wpList_store_row rfl 25 (.tmp 2) (.tmp 15) rfl (w.heap.size + 1) (ks (clampN n)) rfl rfl 25 old KR.out (info_ks _) HO.out (ks_one _) ?_))
  exact key_end (g := w.heap.size + 1) rfl rfl rfl HS.out HB.out
set_option maxRecDepth 100000 in
set_option maxHeartbeats 1000000 in
theorem rclamp_any (n : Nat) (w : World) : Calls Tryd.prog 13 #[.agg (ks n)] w (KeyPost (clampN n) w) := by
  have hfr := ((Fr.start w).row (ks n) 25 (g := w.heap.size) rfl).any (ks 0) 25 32 (ks_size 0) (g := w.heap.size + 1) (by simp)
  rw [ks_zero] at hfr
  have hk := hfr.get (g := w.heap.size) (t := 25) (cs := ks n) (by simp)
  obtain ⟨x, hx⟩ : ∃ x, x = n / 256 ^ 0 % 256 := ⟨_, rfl⟩
  obtain ⟨y, hy⟩ : ∃ y, y = n / 256 ^ 31 % 256 := ⟨_, rfl⟩
  have hxl : x < 256 := by rw [hx]; exact Nat.mod_lt _ (by omega)
  have hyl : y < 256 := by rw [hy]; exact Nat.mod_lt _ (by omega)
  have c0 := hk.cell 0
  have c31 := hk.cell 31
  rw [ks_get n (by omega), ← hx] at c0
  rw [ks_get n (by omega), ← hy] at c31
  have f0 := hk.frozen 0
  have f31 := hk.frozen 31
  have hrow := clamp_row1 hx hy
  have hf := ((Fr.start w).row (ks (clampN n)) 25 (g := w.heap.size) rfl).any (ks 0) 25 32 (ks_size 0) (g := w.heap.size + 1) (by simp)
  rw [ks_zero] at hf
  have KT := Lib.hid (hf.get (g := w.heap.size) (t := 25) (cs := ks (clampN n)) (by simp))
  have a31 : ((ks n).setIfInBounds 0 (.int .u8 ((x : Int) / 8 * 8)))[31]? = some (.int .u8 (y : Int)) := by rw [Array.getElem?_setIfInBounds_ne (by omega), ks_get n (by omega), ← hy]
  obtain ⟨old, hold, kR⟩ := hf.old (g := w.heap.size + 1) (t := 25) (n := 32) (by simp)
  have HS := Lib.hid (kR.setRow_same (ks (clampN n)))
  have HB := Lib.hid (below_setRow hf.below (show w.heap.size ≤ w.heap.size + 1 by omega) (ks (clampN n)))
  have KR := Lib.hid kR
  have HO := Lib.hid (show old.size = (ks (clampN n)).size by rw [hold, ks_size])
  clear hfr hk hx hy hf hold kR
  go_enter Tryd.func13, Tryd.ntmps13
  go_wp2_with (first | (refine wpList_load_row rfl 25 (.tmp 1) rfl w.heap.size rfl 25 (ks (clampN n)) (0, 0) _ KT.out Tryd.underlying25 rfl (info_ks _) ?_) | (refine wpList_store_row rfl 25 (.tmp 2) (.tmp 13) rfl (w.heap.size + 1) (ks (clampN n)) rfl rfl 25 old KR.out (info_ks _) HO.out (ks_one _) ?_))
  exact key_end (g := w.heap.size + 1) rfl rfl rfl HS.out HB.out
end Go.Proofs.YtpliddkdahgbpaaDoor
