/- The document's Small, Prime. -/
import Derived.Test.YtnfckoamjeafhaaDoorRd
namespace Go.Proofs.YtnfckoamjeafhaaDoor
set_option linter.unusedVariables false
set_option linter.unusedSimpArgs false
open Go.RowKit

theorem and_digit (x : Nat) (hx : x < 18446744073709551616) : bits .and .u64 (x : Int) 65535 = ((x % 65536 : Nat) : Int) := by
  have h := bits_and_u64_nat x 65535 hx (by omega)
  have e : x &&& 65535 = x % 65536 := Nat.and_two_pow_sub_one_eq_mod x 16
  rw [e] at h
  exact h
theorem shr_digit (n k : Nat) (hn : n < 18446744073709551616) : bits .and .u64 ((n : Int) / 2 ^ (16 * k)) 65535 = ((n / 65536 ^ k % 65536 : Nat) : Int) := by
  have h : (n : Int) / 2 ^ (16 * k) = ((n / 65536 ^ k : Nat) : Int) := by
    rw [show (65536 : Nat) ^ k = 2 ^ (16 * k) by rw [Nat.pow_mul]]
    simp
  rw [h, and_digit _ (Nat.lt_of_le_of_lt (Nat.div_le_self _ _) hn)]
set_option maxRecDepth 100000 in
set_option maxHeartbeats 1000000 in
theorem rsmall_any (n : Nat) (w : World) (hn : n < 18446744073709551616) :
    Calls Tryd.prog 30 #[.int .u64 n] w (NumPost n w) := by
  have hfr := (((Fr.start w).any (ds 0) 32 16 (ds_size 0) (g := w.heap.size) rfl).row (ds 0) 32 (g := w.heap.size + 1) (by simp))
  rw [ds_zero] at hfr
  have HFR := Lib.hid hfr
  clear hfr
  go_enter Tryd.func30, Tryd.ntmps30
  go_wp2_with (fail)
  go_loopw [4] (fun c wr => ∃ k : Nat, k ≤ 4 ∧ c = .int .i64 k ∧ Fr w wr [(w.heap.size + 1, 32, ds (n % 65536 ^ k))] [(w.heap.size, 32, 16)]) (fun c _ => 4 - (intOf c).toNat)
  case atStart => exact ⟨0, by omega, rfl, by have := HFR.out; rw [Nat.pow_zero, Nat.mod_one, ds_zero]; exact this⟩
  case round =>
    obtain ⟨k, hk, rfl, hF⟩ := hrel
    by_cases hlt : k < 4
    · have hB := hF.get (g := w.heap.size + 1) (t := 32) (cs := ds (n % 65536 ^ k)) (by simp)
      have hd : wr.cell? ⟨w.heap.size + 1, k, none⟩ = some (.int .u64 ((n % 65536 ^ k / 65536 ^ k % 65536 : Nat) : Int)) := by rw [hB.cell, ds_get _ (by omega)]
      have hf := hB.frozen k
      have hst := ds_step n k (by omega)
      have HS := Lib.hid hst
      have HF := Lib.hid hF
      clear hst hF hB
      generalize n % 65536 ^ k / 65536 ^ k % 65536 = z at *
      go_wp2
      refine ⟨⟨k + 1, by omega, by go_num, ?_⟩, by simp [intOf]; omega⟩
      rw [shr_digit n k hn, ← HS.out]
      exact HF.out.setHead (by simp <;> omega) (by simp <;> omega) _ _ (by omega)
    · obtain rfl : k = 4 := by omega
      have e16 : n % 65536 ^ 4 = n := Nat.mod_eq_of_lt hn
      rw [e16] at hF
      have kT := hF.get (g := w.heap.size + 1) (t := 32) (cs := ds n) (by simp)
      obtain ⟨old, hold, kR⟩ := hF.old (g := w.heap.size) (t := 32) (n := 16) (by simp)
      have kS := kR.setRow_same (ds n)
      have hB := below_setRow hF.below (show w.heap.size ≤ w.heap.size by omega) (ds n)
      have hold' : old.size = (ds n).size := by rw [hold, ds_size]
      have HF := Lib.hid hF
      have HS := Lib.hid kS
      have HB := Lib.hid hB
      have HO := Lib.hid hold'
      clear hF e16 kS hB hold hold'
      go_wp2_with (first | (refine wpList_load_row rfl 32 (.tmp 3) rfl (w.heap.size + 1) rfl 32 (ds n) (0, 0) _ kT Tryd.underlying32 rfl (info_ds n) ?_) | (refine wpList_store_row rfl 32 (.tmp 2) (.tmp 17) rfl (w.heap.size) (ds n) rfl rfl 32 old kR (info_ds n) HO.out (ds_one _) ?_))
      exact bodyPost_ret (results_cell_row rfl _ _ (w.heap.size) 32 (ds n) (0, 0) _ rfl HS.out Tryd.underlying32 rfl (info_ds n)) rfl ⟨rfl, HB.out⟩

/-- p's digits, while the first k are laid. -/
def pc (k : Nat) : Array Value := ncs .u64 ((List.range 16).map fun i => if i < k then 65535 else 0)
theorem pc_size (k : Nat) : (pc k).size = 16 := by simp [pc, ncs_size]
theorem pc_get (k : Nat) {i : Nat} (h : i < 16) : (pc k)[i]? = some (.int .u64 ((if i < k then 65535 else 0 : Nat) : Int)) := by
  rw [pc, ncs_get]
  simp [h]
  rfl
theorem pc_step (k : Nat) (hk : k < 16) : (pc k).setIfInBounds k (.int .u64 65535) = pc (k + 1) := by
  rw [pc, show (Value.int .u64 65535) = .int .u64 ((65535 : Nat) : Int) from rfl, ncs_set, pc]
  congr 1
  apply List.ext_getElem?
  intro i
  rw [List.getElem?_set]
  by_cases hi : i < 16
  · by_cases e : k = i
    · subst e
      simp [hi]
    · have h : i < k + 1 ↔ i < k := by omega
      simp [hi, e, h]
  · have : k ≠ i := by omega
    simp [hi, this]
theorem pc_zero : pc 0 = ds 0 := by kernel_rfl
theorem pc_end : ((pc 16).setIfInBounds 0 (.int .u64 65517)).setIfInBounds 15 (.int .u64 32767) = ds PP := by kernel_rfl
set_option maxRecDepth 100000 in
set_option maxHeartbeats 1000000 in
theorem rprime_any (w : World) : Calls Tryd.prog 42 #[] w (NumPost PP w) := by
  have hfr := (((Fr.start w).any (ds 0) 32 16 (ds_size 0) (g := w.heap.size) rfl).row (ds 0) 32 (g := w.heap.size + 1) (by simp))
  rw [ds_zero] at hfr
  have HFR := Lib.hid hfr
  clear hfr
  go_enter Tryd.func42, Tryd.ntmps42
  go_wp2_with (fail)
  go_loopw [2] (fun c wr => ∃ k : Nat, k ≤ 16 ∧ c = .int .i64 k ∧ Fr w wr [(w.heap.size + 1, 32, pc k)] [(w.heap.size, 32, 16)]) (fun c _ => 16 - (intOf c).toNat)
  case atStart => exact ⟨0, by omega, rfl, by have := HFR.out; rw [pc_zero, ds_zero]; exact this⟩
  case round =>
    obtain ⟨k, hk, rfl, hF⟩ := hrel
    by_cases hlt : k < 16
    · have hB := hF.get (g := w.heap.size + 1) (t := 32) (cs := pc k) (by simp)
      have hd : wr.cell? ⟨w.heap.size + 1, k, none⟩ = some (.int .u64 ((if k < k then 65535 else 0 : Nat) : Int)) := by rw [hB.cell, pc_get _ (by omega)]
      rw [if_neg (Nat.lt_irrefl k)] at hd
      have hf := hB.frozen k
      have hst := pc_step k (by omega)
      have HS := Lib.hid hst
      have HF := Lib.hid hF
      clear hst hF hB
      go_wp2
      refine ⟨⟨k + 1, by omega, by go_num, ?_⟩, by simp [intOf]; omega⟩
      rw [← HS.out]
      exact HF.out.setHead (by simp <;> omega) (by simp <;> omega) _ _ (by omega)
    · obtain rfl : k = 16 := by omega
      have hB := hF.get (g := w.heap.size + 1) (t := 32) (cs := pc 16) (by simp)
      have d0 : wr.cell? ⟨w.heap.size + 1, 0, none⟩ = some (.int .u64 65535) := by rw [hB.cell, pc_get _ (by omega)]; rfl
      have d1 : wr.cell? ⟨w.heap.size + 1, 15, none⟩ = some (.int .u64 65535) := by rw [hB.cell, pc_get _ (by omega)]; rfl
      have f0 := hB.frozen 0
      have f1 := hB.frozen 15
      have hF2 := (hF.setHead (by simp) (by simp) 0 (.int .u64 65517) (by omega)).setHead (by simp) (by simp) 15 (.int .u64 32767) (by omega)
      rw [pc_end] at hF2
      have kT := hF2.get (g := w.heap.size + 1) (t := 32) (cs := ds PP) (by simp)
      obtain ⟨old, hold, kR⟩ := hF2.old (g := w.heap.size) (t := 32) (n := 16) (by simp)
      have kS := kR.setRow_same (ds PP)
      have hB2 := below_setRow hF2.below (show w.heap.size ≤ w.heap.size by omega) (ds PP)
      have hold' : old.size = (ds PP).size := by rw [hold, ds_size]
      have HF := Lib.hid hF
      have HS := Lib.hid kS
      have HB := Lib.hid hB2
      have HO := Lib.hid hold'
      have KT := Lib.hid kT
      have KR := Lib.hid kR
      clear hF hF2 kS hB hB2 hold hold' kT kR
      go_wp2_with (first | (refine wpList_load_row rfl 32 (.tmp 1) rfl (w.heap.size + 1) rfl 32 (ds PP) (0, 0) _ KT.out Tryd.underlying32 rfl (info_ds PP) ?_) | (refine wpList_store_row rfl 32 (.tmp 0) (.tmp 11) rfl (w.heap.size) (ds PP) rfl rfl 32 old KR.out (info_ds PP) HO.out (ds_one _) ?_))
      exact bodyPost_ret (results_cell_row rfl _ _ (w.heap.size) 32 (ds PP) (0, 0) _ rfl HS.out Tryd.underlying32 rfl (info_ds PP)) rfl ⟨rfl, HB.out⟩

end Go.Proofs.YtnfckoamjeafhaaDoor
