/- The document's numbers: sixteen digits of 16 bits. Walks of Of, Bytes, Small, Prime. -/
import Derived.Test.YtnfckoamjeafhaaDoorRb
namespace Go.Proofs.YtnfckoamjeafhaaDoor
set_option linter.unusedVariables false
set_option linter.unusedSimpArgs false
open Go.RowKit

/-- The sixteen digits of a number, the lowest first. -/
def dg (n : Nat) : List Nat := (List.range 16).map fun i => n / 65536 ^ i % 65536
theorem dg_len (n : Nat) : (dg n).length = 16 := by simp [dg]
theorem dg_get (n : Nat) {i : Nat} (h : i < 16) : (dg n)[i]? = some (n / 65536 ^ i % 65536) := by simp [dg, h]
/-- The cells of a number. -/
def ds (n : Nat) : Array Value := ncs .u64 (dg n)
theorem ds_size (n : Nat) : (ds n).size = 16 := by rw [ds, ncs_size, dg_len]
theorem ds_get (n : Nat) {i : Nat} (h : i < 16) : (ds n)[i]? = some (.int .u64 ((n / 65536 ^ i % 65536 : Nat) : Int)) := by rw [ds, ncs_get, dg_get n h]; rfl
theorem ds_one (n : Nat) : (ds n).all (·.oneCell') = true := ncs_one _ _
theorem info_num : (Tryd.prog.info? 32).map (·.size) = some 16 := by kernel_rfl
theorem info_ds (n : Nat) : (Tryd.prog.info? 32).map (·.size) = some (ds n).size := by rw [ds_size]; exact info_num
theorem dg_step (n k : Nat) (hk : k < 16) : (dg (n % 65536 ^ k)).set k (n / 65536 ^ k % 65536) = dg (n % 65536 ^ (k + 1)) := by
  apply List.ext_getElem?
  intro i
  rw [List.getElem?_set]
  by_cases hi : i < 16
  · rw [dg_get (n % 65536 ^ (k + 1)) hi, dg_len, dig_mod 65536 n (k + 1) i (by omega)]
    by_cases e : k = i
    · subst e
      rw [if_pos rfl, if_pos hk, if_pos (by omega)]
    · rw [if_neg e, dg_get _ hi, dig_mod 65536 n k i (by omega)]
      by_cases h : i < k
      · rw [if_pos h, if_pos (by omega)]
      · rw [if_neg h, if_neg (by omega)]
  · have h1 : (dg (n % 65536 ^ (k + 1)))[i]? = none := by simp [dg_len]; omega
    have h2 : (dg (n % 65536 ^ k))[i]? = none := by simp [dg_len]; omega
    rw [h1, h2]
    have : k ≠ i := by omega
    simp [this]
theorem ds_step (n k : Nat) (hk : k < 16) : (ds (n % 65536 ^ k)).setIfInBounds k (.int .u64 ((n / 65536 ^ k % 65536 : Nat) : Int)) = ds (n % 65536 ^ (k + 1)) := by
  rw [ds, ncs_set, dg_step n k hk, ds]
theorem ds_zero : ds 0 = #[.int .u64 0, .int .u64 0, .int .u64 0, .int .u64 0, .int .u64 0, .int .u64 0, .int .u64 0, .int .u64 0, .int .u64 0, .int .u64 0, .int .u64 0, .int .u64 0, .int .u64 0, .int .u64 0, .int .u64 0, .int .u64 0] := by kernel_rfl
/-- Two bytes are a digit. -/
theorem two_bytes (n i : Nat) : n / 256 ^ (2 * i) % 256 + 256 * (n / 256 ^ (2 * i + 1) % 256) = n / 65536 ^ i % 65536 := by
  have h1 : 256 ^ (2 * i) = 65536 ^ i := by rw [Nat.pow_mul]
  have h2 : n / 256 ^ (2 * i + 1) = n / 65536 ^ i / 256 := by rw [Nat.pow_succ, h1, Nat.div_div_eq_div_mul]
  rw [h1, h2]
  omega

def NumPost (n : Nat) (w : World) (e : Ending) (w' : World) : Prop := e = .returned (.agg (ds n)) ∧ Below w.heap.size w w'
set_option maxRecDepth 100000 in
set_option maxHeartbeats 1000000 in
theorem rof_any (n : Nat) (w : World) (hn : n < 115792089237316195423570985008687907853269984665640564039457584007913129639936) :
    Calls Tryd.prog 19 #[.agg (ks n)] w (NumPost n w) := by
  have hfr := ((((Fr.start w).row (ks n) 23 (g := w.heap.size) rfl).any (ds 0) 32 16 (ds_size 0) (g := w.heap.size + 1) (by simp)).row (ds 0) 32 (g := w.heap.size + 1 + 1) (by simp))
  rw [ds_zero] at hfr
  have HFR := Lib.hid hfr
  clear hfr
  have HNN := Lib.hid hn
  clear hn
  go_enter Tryd.func19, Tryd.ntmps19
  go_wp2_with (fail)
  go_loopw [4] (fun c wr => ∃ k : Nat, k ≤ 16 ∧ c = .int .i64 k ∧ Fr w wr [(w.heap.size + 1 + 1, 32, ds (n % 65536 ^ k)), (w.heap.size, 23, ks n)] [(w.heap.size + 1, 32, 16)]) (fun c _ => 16 - (intOf c).toNat)
  case atStart => exact ⟨0, by omega, rfl, by have := HFR.out; rw [Nat.pow_zero, Nat.mod_one, ds_zero]; exact this⟩
  case round =>
    obtain ⟨k, hk, rfl, hF⟩ := hrel
    by_cases hlt : k < 16
    · have hB := hF.get (g := w.heap.size + 1 + 1) (t := 32) (cs := ds (n % 65536 ^ k)) (by simp)
      have hE := hF.get (g := w.heap.size) (t := 23) (cs := ks n) (by simp)
      have hc : wr.cell? ⟨w.heap.size, 2 * k, none⟩ = some (.int .u8 ((n / 256 ^ (2 * k) % 256 : Nat) : Int)) := by rw [hE.cell, ks_get _ (by omega)]
      have hc2 : wr.cell? ⟨w.heap.size, 2 * k + 1, none⟩ = some (.int .u8 ((n / 256 ^ (2 * k + 1) % 256 : Nat) : Int)) := by rw [hE.cell, ks_get _ (by omega)]
      have hd : wr.cell? ⟨w.heap.size + 1 + 1, k, none⟩ = some (.int .u64 ((n % 65536 ^ k / 65536 ^ k % 65536 : Nat) : Int)) := by rw [hB.cell, ds_get _ hlt]
      have hf := hB.frozen k
      have htb := two_bytes n k
      have hst := ds_step n k hlt
      have x1 : n / 256 ^ (2 * k) % 256 < 256 := Nat.mod_lt _ (by omega)
      have x2 : n / 256 ^ (2 * k + 1) % 256 < 256 := Nat.mod_lt _ (by omega)
      have HT := Lib.hid htb
      have HS := Lib.hid hst
      have HF := Lib.hid hF
      clear htb hst hF hB hE
      generalize n % 65536 ^ k / 65536 ^ k % 65536 = z at *
      generalize n / 256 ^ (2 * k) % 256 = p at *
      generalize n / 256 ^ (2 * k + 1) % 256 = q at *
      have b1 : (0 : Int) ≤ 2 * (k : Int) := by omega
      have b2 : 2 * (k : Int) < 32 := by omega
      have b3 : 2 * (k : Int) + 1 < 32 := by omega
      go_wp2
      go_region
      go_wp2
      go_roundw
      case rel =>
        refine ⟨k + 1, by omega, by go_num, ?_⟩
        have e : (p : Int) + 256 * (q : Int) = ((n / 65536 ^ k % 65536 : Nat) : Int) := by rw [← HT.out]; omega
        rw [e]
        refine Fr.drew ?_
        rw [← HS.out]
        exact HF.out.setHead (by simp <;> omega) (by simp <;> omega) _ _ (by omega)
      case measure => simp [intOf]; omega
    · obtain rfl : k = 16 := by omega
      have e16 : n % 65536 ^ 16 = n := Nat.mod_eq_of_lt HNN.out
      rw [e16] at hF
      have kT := hF.get (g := w.heap.size + 1 + 1) (t := 32) (cs := ds n) (by simp)
      obtain ⟨old, hold, kR⟩ := hF.old (g := w.heap.size + 1) (t := 32) (n := 16) (by simp)
      have kS := kR.setRow_same (ds n)
      have hB := below_setRow hF.below (show w.heap.size ≤ w.heap.size + 1 by omega) (ds n)
      have hold' : old.size = (ds n).size := by rw [hold, ds_size]
      have HF := Lib.hid hF
      have HS := Lib.hid kS
      have HB := Lib.hid hB
      have HO := Lib.hid hold'
      clear hF e16 kS hB hold hold'
      go_wp2_with (first | (refine wpList_load_row rfl 32 (.tmp 3) rfl (w.heap.size + 1 + 1) rfl 32 (ds n) (0, 0) _ kT Tryd.underlying32 rfl (info_ds n) ?_) | (refine wpList_store_row rfl 32 (.tmp 2) (.tmp 24) rfl (w.heap.size + 1) (ds n) rfl rfl 32 old kR (info_ds n) HO.out (ds_one _) ?_))
      exact bodyPost_ret (results_cell_row rfl _ _ (w.heap.size + 1) 32 (ds n) (0, 0) _ rfl HS.out Tryd.underlying32 rfl (info_ds n)) rfl ⟨rfl, HB.out⟩

theorem digit_low (n k : Nat) : n / 65536 ^ k % 65536 % 256 = n / 256 ^ (2 * k) % 256 := by rw [← two_bytes]; omega
theorem digit_high (n k : Nat) : n / 65536 ^ k % 65536 / 256 % 256 = n / 256 ^ (2 * k + 1) % 256 := by rw [← two_bytes]; omega
theorem ks_two (n k : Nat) (hk : k < 16) : ((ks (n % 65536 ^ k)).setIfInBounds (2 * k) (.int .u8 ((n / 256 ^ (2 * k) % 256 : Nat) : Int))).setIfInBounds (2 * k + 1) (.int .u8 ((n / 256 ^ (2 * k + 1) % 256 : Nat) : Int)) = ks (n % 65536 ^ (k + 1)) := by
  have h1 : ∀ j, 65536 ^ j = 256 ^ (2 * j) := fun j => by rw [Nat.pow_mul]
  rw [h1 k, ks_step n (2 * k) (by omega), ks_step n (2 * k + 1) (by omega), h1 (k + 1), Nat.mul_add]
theorem ks_two' (n k : Nat) (hk : k < 16) : ((ks (n % 65536 ^ k)).setIfInBounds (2 * k + 1) (.int .u8 ((n / 256 ^ (2 * k + 1) % 256 : Nat) : Int))).setIfInBounds (2 * k) (.int .u8 ((n / 256 ^ (2 * k) % 256 : Nat) : Int)) = ks (n % 65536 ^ (k + 1)) := by
  rw [← ks_two n k hk]
  apply Array.ext_getElem?
  intro i
  simp only [Array.getElem?_setIfInBounds, Array.size_setIfInBounds]
  by_cases a : 2 * k = i
  · have b : 2 * k + 1 ≠ i := by omega
    simp [a, b]
  · simp [a]
set_option maxRecDepth 100000 in
set_option maxHeartbeats 1000000 in
theorem rbytes_any (n : Nat) (w : World) (hn : n < 115792089237316195423570985008687907853269984665640564039457584007913129639936) :
    Calls Tryd.prog 32 #[.agg (ds n)] w (KeyPost n w) := by
  have hfr := ((((Fr.start w).row (ds n) 32 (g := w.heap.size) rfl).any (ks 0) 23 32 (ks_size 0) (g := w.heap.size + 1) (by simp)).row (ks 0) 23 (g := w.heap.size + 1 + 1) (by simp))
  rw [ks_zero] at hfr
  have HFR := Lib.hid hfr
  clear hfr
  have HNN := Lib.hid hn
  clear hn
  go_enter Tryd.func32, Tryd.ntmps32
  go_wp2_with (fail)
  go_loopw [4] (fun c wr => ∃ k : Nat, k ≤ 16 ∧ c = .int .i64 k ∧ Fr w wr [(w.heap.size + 1 + 1, 23, ks (n % 65536 ^ k)), (w.heap.size, 32, ds n)] [(w.heap.size + 1, 23, 32)]) (fun c _ => 16 - (intOf c).toNat)
  case atStart => exact ⟨0, by omega, rfl, by have := HFR.out; rw [Nat.pow_zero, Nat.mod_one, ks_zero]; exact this⟩
  case round =>
    obtain ⟨k, hk, rfl, hF⟩ := hrel
    by_cases hlt : k < 16
    · have hB := hF.get (g := w.heap.size + 1 + 1) (t := 23) (cs := ks (n % 65536 ^ k)) (by simp)
      have hE := hF.get (g := w.heap.size) (t := 32) (cs := ds n) (by simp)
      have hc : wr.cell? ⟨w.heap.size, k, none⟩ = some (.int .u64 ((n / 65536 ^ k % 65536 : Nat) : Int)) := by rw [hE.cell, ds_get _ hlt]
      have hf := hB.frozen (2 * k)
      have hf2 := hB.frozen (2 * k + 1)
      have hd1 : wr.cell? ⟨w.heap.size + 1 + 1, 2 * k, none⟩ = some (.int .u8 ((n % 65536 ^ k / 256 ^ (2 * k) % 256 : Nat) : Int)) := by rw [hB.cell, ks_get _ (by omega)]
      have hd2 : wr.cell? ⟨w.heap.size + 1 + 1, 2 * k + 1, none⟩ = some (.int .u8 ((n % 65536 ^ k / 256 ^ (2 * k + 1) % 256 : Nat) : Int)) := by rw [hB.cell, ks_get _ (by omega)]
      have hlo := digit_low n k
      have hhi := digit_high n k
      rw [Nat.mod_eq_of_lt (show n / 65536 ^ k % 65536 / 256 < 256 by have : n / 65536 ^ k % 65536 < 65536 := Nat.mod_lt _ (by omega); omega)] at hhi
      have hs1 := ks_two n k hlt
      have hs2 := ks_two' n k hlt
      have x0 : n / 65536 ^ k % 65536 < 65536 := Nat.mod_lt _ (by omega)
      have HLO := Lib.hid hlo
      have HHI := Lib.hid hhi
      have HS1 := Lib.hid hs1
      have HS2 := Lib.hid hs2
      have HF := Lib.hid hF
      clear hlo hhi hs1 hs2 hF hB hE
      generalize n % 65536 ^ k / 256 ^ (2 * k) % 256 = z1 at *
      generalize n % 65536 ^ k / 256 ^ (2 * k + 1) % 256 = z2 at *
      generalize n / 65536 ^ k % 65536 = d at *
      have b1 : (0 : Int) ≤ 2 * (k : Int) := by omega
      have b2 : 2 * (k : Int) < 32 := by omega
      have b3 : 2 * (k : Int) + 1 < 32 := by omega
      go_wp2
      go_region
      all_goals go_wp2
      all_goals go_roundw
      case rel =>
        refine ⟨k + 1, by omega, by go_num, ?_⟩
        have e1 : (d : Int) % 256 = ((n / 256 ^ (2 * k) % 256 : Nat) : Int) := by rw [← HLO.out]; omega
        have e2 : (d : Int) / 256 = ((n / 256 ^ (2 * k + 1) % 256 : Nat) : Int) := by rw [← HHI.out]; omega
        rw [e1, e2]
        refine Fr.drew ?_
        first
        | (rw [← HS1.out]; exact (HF.out.setHead (by simp <;> omega) (by simp <;> omega) _ _ (by omega)).setHead (by simp <;> omega) (by simp <;> omega) _ _ (by omega))
        | (rw [← HS2.out]; exact (HF.out.setHead (by simp <;> omega) (by simp <;> omega) _ _ (by omega)).setHead (by simp <;> omega) (by simp <;> omega) _ _ (by omega))
      case measure => simp [intOf]; omega
    · obtain rfl : k = 16 := by omega
      have e16 : n % 65536 ^ 16 = n := Nat.mod_eq_of_lt HNN.out
      rw [e16] at hF
      have kT := hF.get (g := w.heap.size + 1 + 1) (t := 23) (cs := ks n) (by simp)
      obtain ⟨old, hold, kR⟩ := hF.old (g := w.heap.size + 1) (t := 23) (n := 32) (by simp)
      have kS := kR.setRow_same (ks n)
      have hB := below_setRow hF.below (show w.heap.size ≤ w.heap.size + 1 by omega) (ks n)
      have hold' : old.size = (ks n).size := by rw [hold, ks_size]
      have HF := Lib.hid hF
      have HS := Lib.hid kS
      have HB := Lib.hid hB
      have HO := Lib.hid hold'
      clear hF e16 kS hB hold hold'
      go_wp2_with (first | (refine wpList_load_row rfl 23 (.tmp 3) rfl (w.heap.size + 1 + 1) rfl 23 (ks n) (0, 0) _ kT Tryd.underlying23 rfl (info_ks n) ?_) | (refine wpList_store_row rfl 23 (.tmp 2) (.tmp 25) rfl (w.heap.size + 1) (ks n) rfl rfl 23 _ kR (info_ks n) HO.out (ks_one n) ?_))
      exact bodyPost_ret (results_cell_row rfl _ _ (w.heap.size + 1) 23 (ks n) (0, 0) _ rfl HS.out Tryd.underlying23 rfl (info_ks n)) rfl ⟨rfl, HB.out⟩
end Go.Proofs.YtnfckoamjeafhaaDoor
