/- The document's Minus. -/
import Derived.Test.YtnfckoamjeafhaaDoorRl
namespace Go.Proofs.YtnfckoamjeafhaaDoor
set_option linter.unusedVariables false
set_option linter.unusedSimpArgs false
open Go.RowKit

theorem ds_put {n k x : Nat} (hk : k < 16) (hx : x < 65536) : (ds n).setIfInBounds k (.int .u64 (x : Int)) = ds (putd 65536 n k x) := by
  rw [ds, ncs_set, ds]
  congr 1
  apply List.ext_getElem?
  intro j
  rw [List.getElem?_set]
  by_cases hj : j < 16
  · rw [dg_get (putd 65536 n k x) hj, digit_put (by omega) hx (putd_eq 65536 n k x) j]
    by_cases e : k = j
    · subst e
      rw [if_pos rfl, if_pos rfl, dg_len, if_pos hk]
    · rw [if_neg e, if_neg (fun h => e h.symm), dg_get n hj]
  · have : k ≠ j := by omega
    rw [if_neg this, List.getElem?_eq_none (by rw [dg_len]; omega), List.getElem?_eq_none (by rw [dg_len]; omega)]
theorem d16 : (65536 : Nat) ^ 16 = 115792089237316195423570985008687907853269984665640564039457584007913129639936 := by decide
set_option maxRecDepth 100000 in
set_option maxHeartbeats 1000000 in
theorem rminus_any (a b : Nat) (w : World) (ha : a < 115792089237316195423570985008687907853269984665640564039457584007913129639936) (hb : b ≤ a) :
    Calls Tryd.prog 44 #[.agg (ds a), .agg (ds b)] w (NumPost (a - b) w) := by
  have hfr := (((Fr.start w).row (ds a) 32 (g := w.heap.size) rfl).row (ds b) 32 (g := w.heap.size + 1) (by simp)).any (ds 0) 32 16 (ds_size 0) (g := w.heap.size + 1 + 1) (by simp)
  rw [ds_zero] at hfr
  have HFR := Lib.hid hfr
  have HA := Lib.hid ha
  have HB0 := Lib.hid hb
  clear hfr ha hb
  go_enter Tryd.func44, Tryd.ntmps44
  go_wp2_with (fail)
  go_loopw [6, 5] (fun i q wr => ∃ k v c : Nat, k ≤ 16 ∧ i = .int .i64 k ∧ q = .int .u64 c ∧ TakeAt 65536 a b k v c ∧ Fr w wr [(w.heap.size, 32, ds v), (w.heap.size + 1, 32, ds b)] [(w.heap.size + 1 + 1, 32, 16)]) (fun i _ _ => 16 - (intOf i).toNat)
  case atStart => exact ⟨0, a, 0, by omega, rfl, rfl, take_start _ _ _, HFR.out.sub (by simp) (by simp)⟩
  case round =>
    obtain ⟨k, v, c, hk, rfl, rfl, hT, hF⟩ := hrel
    clear HFR
    by_cases hlt : k < 16
    · have hV := hF.get (g := w.heap.size) (t := 32) (cs := ds v) (by simp)
      have hB := hF.get (g := w.heap.size + 1) (t := 32) (cs := ds b) (by simp)
      have cv : wr.cell? ⟨w.heap.size, k, none⟩ = some (.int .u64 ((v / 65536 ^ k % 65536 : Nat) : Int)) := by rw [hV.cell, ds_get _ hlt]
      have cb : wr.cell? ⟨w.heap.size + 1, k, none⟩ = some (.int .u64 ((b / 65536 ^ k % 65536 : Nat) : Int)) := by rw [hB.cell, ds_get _ hlt]
      have hf := hV.frozen k
      have hc := hT.2.2
      have hx : v / 65536 ^ k % 65536 < 65536 := Nat.mod_lt _ (by omega)
      have hy : b / 65536 ^ k % 65536 < 65536 := Nat.mod_lt _ (by omega)
      have hst := fun n => @take_step 65536 a b k v c n (by omega) hT
      have hpt := fun n h => @ds_put v k n hlt h
      have HST := Lib.hid hst
      have HPT := Lib.hid hpt
      have HF := Lib.hid hF
      clear hst hpt hT hF hV hB
      generalize v / 65536 ^ k % 65536 = x at *
      generalize b / 65536 ^ k % 65536 = y at *
      go_wp2
      go_region
      go_wp2
      go_roundw
      case rel =>
        obtain ⟨n, hn⟩ : ∃ n, n = x + 65536 - y - c := ⟨_, rfl⟩
        have e1 : (x : Int) + 65536 - y - c = (n : Int) := by omega
        have e2 : (1 : Int) - (n : Int) / 65536 = ((1 - n / 65536 : Nat) : Int) := by omega
        have e3 : (n : Int) % 65536 = ((n % 65536 : Nat) : Int) := by omega
        rw [e1, e2, e3]
        refine ⟨k + 1, _, _, by omega, by go_num, rfl, HST.out n (by omega), ?_⟩
        rw [← HPT.out (n % 65536) (by omega)]
        exact (HF.out.drew).setHead (by simp <;> omega) (by simp <;> omega) _ _ (by omega)
      case measure => simp [intOf] <;> omega
    · obtain rfl : k = 16 := by omega
      obtain rfl := take_end hT (by rw [d16]; exact HA.out) HB0.out
      generalize a - b = m at *
      have kT := hF.get (g := w.heap.size) (t := 32) (cs := ds m) (by simp)
      obtain ⟨old, hold, kR⟩ := hF.old (g := w.heap.size + 1 + 1) (t := 32) (n := 16) (by simp)
      have kS := kR.setRow_same (ds m)
      have hB := below_setRow hF.below (show w.heap.size ≤ w.heap.size + 1 + 1 by omega) (ds m)
      have hold' : old.size = (ds m).size := by rw [hold, ds_size]
      have HS := Lib.hid kS
      have HB := Lib.hid hB
      have HO := Lib.hid hold'
      clear hF kS hB hold hold' hT
      go_wp2_with (first | (refine wpList_load_row rfl 32 (.tmp 2) rfl (w.heap.size) rfl 32 (ds m) (0, 0) _ kT Tryd.underlying32 rfl (info_ds m) ?_) | (refine wpList_store_row rfl 32 (.tmp 4) (.tmp 29) rfl (w.heap.size + 1 + 1) (ds m) rfl rfl 32 old kR (info_ds m) HO.out (ds_one _) ?_))
      exact bodyPost_ret (results_cell_row rfl _ _ (w.heap.size + 1 + 1) 32 (ds m) (0, 0) _ rfl HS.out Tryd.underlying32 rfl (info_ds m)) rfl ⟨rfl, HB.out⟩
end Go.Proofs.YtnfckoamjeafhaaDoor
