/- Layer 3's walks over words: minus, double, bit, mulAdd. -/
import Derived.Test.YtpliddkdahgbpaaDoorSp
import Derived.Deep.RegionWith
namespace Go.Proofs.YtpliddkdahgbpaaDoor
set_option linter.unusedVariables false
set_option linter.unusedSimpArgs false
open Go.RowKit

theorem ws4_zero : ws 4 0 = #[.int .u64 0, .int .u64 0, .int .u64 0, .int .u64 0] := by rw [← es_ws, es_zero]
theorem info_ws4 (n : Nat) : (Tryd.prog.info? 47).map (·.size) = some (ws 4 n).size := by rw [ws_size]; exact info_w4
def MinusPost (a b : Nat) (w : World) (e : Ending) (w' : World) : Prop :=
  ∃ m c : Nat, e = .returned (.tuple #[.agg (ws 4 m), .int .u64 (c : Int)]) ∧ m + b = a + 115792089237316195423570985008687907853269984665640564039457584007913129639936 * c ∧ m < 115792089237316195423570985008687907853269984665640564039457584007913129639936 ∧ c ≤ 1 ∧ Below w.heap.size w w'
set_option maxRecDepth 100000 in
set_option maxHeartbeats 1000000 in
theorem minus_any (a b : Nat) (w : World) (ha : a < 115792089237316195423570985008687907853269984665640564039457584007913129639936) (hb : b < 115792089237316195423570985008687907853269984665640564039457584007913129639936) :
    Calls Tryd.prog 24 #[.agg (ws 4 a), .agg (ws 4 b)] w (MinusPost a b w) := by
  have hfr := (((Fr.start w).row (ws 4 a) 47 (g := w.heap.size) rfl).row (ws 4 b) 47 (g := w.heap.size + 1) (by simp)).row (ws 4 0) 47 (g := w.heap.size + 1 + 1) (by simp)
  rw [ws4_zero] at hfr
  have HFR := Lib.hid hfr
  clear hfr
  have HA := Lib.hid ha
  have HBB := Lib.hid hb
  clear ha hb
  go_enter Tryd.func24, Tryd.ntmps24
  go_wp2_with (fail)
  go_loopw [7, 5] (fun i b' wr => ∃ k m c : Nat, k ≤ 4 ∧ i = .int .i64 k ∧ b' = .int .u64 c ∧ SubAt a b k m c ∧ Fr w wr [(w.heap.size + 1 + 1, 47, ws 4 m), (w.heap.size, 47, ws 4 a), (w.heap.size + 1, 47, ws 4 b)] []) (fun i _ _ => 4 - (intOf i).toNat)
  case atStart => exact ⟨0, 0, 0, by omega, rfl, rfl, sub_start a b, by rw [ws4_zero]; exact HFR.out.sub (by simp) (by simp)⟩
  case round =>
    obtain ⟨k, m, c, hk, rfl, rfl, hS, hF⟩ := hrel
    by_cases hlt : k < 4
    · have hA := hF.get (g := w.heap.size) (t := 47) (cs := ws 4 a) (by simp)
      have hB := hF.get (g := w.heap.size + 1) (t := 47) (cs := ws 4 b) (by simp)
      have hM := hF.get (g := w.heap.size + 1 + 1) (t := 47) (cs := ws 4 m) (by simp)
      have ca : wr.cell? ⟨w.heap.size, k, none⟩ = some (.int .u64 (wj a k : Int)) := by rw [hA.cell, ws_get _ _ hlt]
      have cb : wr.cell? ⟨w.heap.size + 1, k, none⟩ = some (.int .u64 (wj b k : Int)) := by rw [hB.cell, ws_get _ _ hlt]
      have cm : wr.cell? ⟨w.heap.size + 1 + 1, k, none⟩ = some (.int .u64 (wj m k : Int)) := by rw [hM.cell, ws_get _ _ hlt]
      have hf := hM.frozen k
      obtain ⟨s, j, h0, e0, l0, j0⟩ := sub64_ex (wj a k) (wj b k) c (wj_lt _ _) (wj_lt _ _) hS.2.2
      have hst := sub_step hS e0 l0 j0
      have hpt := sub_put hS hlt l0
      have HST := Lib.hid hst
      have HPT := Lib.hid hpt
      have HF := Lib.hid hF
      clear hst hpt hF hA hB hM hS e0
      generalize wj a k = x at *
      generalize wj b k = y at *
      generalize wj m k = z at *
      go_wp2_with (fail)
      go_region_with (simp only [h0])
      all_goals go_wp2_with (fail)
      all_goals
        refine ⟨⟨k + 1, _, j, by omega, by go_num, rfl, HST.out, ?_⟩, by simp [intOf]; omega⟩
        rw [← HPT.out]
        exact Fr.drew (HF.out.setHead (by simp <;> omega) (by simp <;> omega) _ _ (by omega))
    · obtain rfl : k = 4 := by omega
      obtain ⟨e1, e2, e3⟩ := sub_end hS HA.out HBB.out
      have kT := hF.get (g := w.heap.size + 1 + 1) (t := 47) (cs := ws 4 m) (by simp)
      have kS := kT.setRow_same (ws 4 m)
      have hB := below_setRow hF.below (show w.heap.size ≤ w.heap.size + 1 + 1 by omega) (ws 4 m)
      have HS := Lib.hid kS
      have HB := Lib.hid hB
      have HE := Lib.hid e1
      clear hF kS hB hS e1
      go_wp2_with (first | (refine wpList_load_row rfl 47 (.tmp 4) rfl (w.heap.size + 1 + 1) rfl 47 (ws 4 m) (0, 0) _ kT Tryd.underlying47 rfl (info_ws4 m) ?_) | (refine wpList_store_row rfl 47 (.tmp 4) (.tmp 24) rfl (w.heap.size + 1 + 1) (ws 4 m) rfl rfl 47 _ kT (info_ws4 m) rfl (ws_one _ _) ?_))
      exact bodyPost_ret (results_row_tmp rfl rfl rfl HS.out Tryd.underlying47 rfl (info_ws4 m)) rfl ⟨m, c, rfl, HE.out, e2, e3, HB.out⟩

def WPost (c n : Nat) (w : World) (e : Ending) (w' : World) : Prop := e = .returned (.agg (ws c n)) ∧ Below w.heap.size w w'
set_option maxRecDepth 100000 in
set_option maxHeartbeats 1000000 in
theorem double_any (a c0 : Nat) (w : World) (hc : c0 ≤ 1) (ha : 2 * a + c0 < 115792089237316195423570985008687907853269984665640564039457584007913129639936) :
    Calls Tryd.prog 31 #[.agg (ws 4 a), .int .u64 (c0 : Int)] w (WPost 4 (2 * a + c0) w) := by
  have hfr := ((Fr.start w).row (ws 4 a) 47 (g := w.heap.size) rfl).any (ws 4 0) 47 4 (ws_size 4 0) (g := w.heap.size + 1) (by simp)
  rw [ws4_zero] at hfr
  have HFR := Lib.hid hfr
  clear hfr
  have HA := Lib.hid ha
  clear ha
  go_enter Tryd.func31, Tryd.ntmps31
  go_wp2_with (fail)
  go_loopw [6, 1] (fun i b' wr => ∃ k v c : Nat, k ≤ 4 ∧ i = .int .i64 k ∧ b' = .int .u64 c ∧ DblAt a c0 k v c ∧ Fr w wr [(w.heap.size, 47, ws 4 v)] [(w.heap.size + 1, 47, 4)]) (fun i _ _ => 4 - (intOf i).toNat)
  case atStart => exact ⟨0, a, c0, by omega, rfl, rfl, dbl_start a hc, HFR.out⟩
  case round =>
    obtain ⟨k, v, c, hk, rfl, rfl, hS, hF⟩ := hrel
    by_cases hlt : k < 4
    · have hM := hF.get (g := w.heap.size) (t := 47) (cs := ws 4 v) (by simp)
      have cm : wr.cell? ⟨w.heap.size, k, none⟩ = some (.int .u64 (wj v k : Int)) := by rw [hM.cell, ws_get _ _ hlt]
      have hf := hM.frozen k
      obtain ⟨s, j, h0, e0, l0, j0⟩ := add64_ex (wj v k) (wj v k) c (wj_lt _ _) (wj_lt _ _) hS.2.2
      obtain ⟨v', hv, hst⟩ := dbl_step hS e0 l0 j0
      have hpt := ws_put hlt l0 hv
      have HST := Lib.hid hst
      have HPT := Lib.hid hpt
      have HF := Lib.hid hF
      clear hst hpt hF hM hS e0 hv
      generalize wj v k = x at *
      go_wp2_with (fail)
      go_region_with (simp only [h0])
      all_goals go_wp2_with (fail)
      all_goals
        refine ⟨⟨k + 1, _, j, by omega, by go_num, rfl, HST.out, ?_⟩, by simp [intOf]; omega⟩
        rw [← HPT.out]
        exact Fr.drew (HF.out.setHead (by simp <;> omega) (by simp <;> omega) _ _ (by omega))
    · obtain rfl : k = 4 := by omega
      obtain rfl := dbl_end hS HA.out
      generalize 2 * a + c0 = m at *
      have kT := hF.get (g := w.heap.size) (t := 47) (cs := ws 4 m) (by simp)
      obtain ⟨old, hold, kR⟩ := hF.old (g := w.heap.size + 1) (t := 47) (n := 4) (by simp)
      have kS := kR.setRow_same (ws 4 m)
      have hB := below_setRow hF.below (show w.heap.size ≤ w.heap.size + 1 by omega) (ws 4 m)
      have hold' : old.size = (ws 4 m).size := by rw [hold, ws_size]
      have HS := Lib.hid kS
      have HB := Lib.hid hB
      have HO := Lib.hid hold'
      clear hF kS hB hS hold hold'
      go_wp2_with (first | (refine wpList_load_row rfl 47 (.tmp 2) rfl (w.heap.size) rfl 47 (ws 4 m) (0, 0) _ kT Tryd.underlying47 rfl (info_ws4 m) ?_) | (refine wpList_store_row rfl 47 (.tmp 4) (.tmp 23) rfl (w.heap.size + 1) (ws 4 m) rfl rfl 47 _ kR (info_ws4 m) HO.out (ws_one _ _) ?_))
      exact bodyPost_ret (results_cell_row rfl _ _ (w.heap.size + 1) 47 (ws 4 m) (0, 0) _ rfl HS.out Tryd.underlying47 rfl (info_ws4 m)) rfl ⟨rfl, HB.out⟩

theorem and_one64 (x : Nat) (hx : x < 18446744073709551616) : bits .and .u64 (x : Int) 1 = ((x % 2 : Nat) : Int) := by
  have h := bits_and_u64_nat x 1 hx (by omega)
  have e : x &&& 1 = x % 2 := Nat.and_one_is_mod x
  rw [e] at h
  exact h
set_option maxRecDepth 100000 in
set_option maxHeartbeats 1000000 in
theorem bit_any (n i : Nat) (w : World) (hi : i < 512) :
    Calls Tryd.prog 32 #[.agg (ws 8 n), .int .i64 (i : Int)] w fun r w' => r = .returned (.int .u64 ((n / 2 ^ i % 2 : Nat) : Int)) ∧ Below w.heap.size w w' := by
  have hc : (w.alloc (.cells (ws 8 n) 40)).cell? ⟨w.heap.size, i / 64, none⟩ = some (.int .u64 (wj n (i / 64) : Int)) := by
    rw [(Blk.new w 40 (ws 8 n)).cell, ws_get _ _ (by omega)]
  have hx := wj_lt n (i / 64)
  have hb := bit_of n i
  have ha := and_one64 (wj n (i / 64) / 2 ^ (i % 64)) (Nat.lt_of_le_of_lt (Nat.div_le_self _ _) hx)
  rw [hb, Int.natCast_ediv, Int.natCast_pow] at ha
  have HA := Lib.hid ha
  clear hb ha
  generalize wj n (i / 64) = x at *
  have b1 : (0 : Int) ≤ (i : Int) / 64 := by omega
  have b2 : (i : Int) / 64 < 8 := by omega
  have b3 : ((i : Int) % 64) < 65 := by omega
  go_enter Tryd.func32, Tryd.ntmps32
  go_wp2
  go_ret
  refine ⟨?_, (Below.refl _ _).alloc (Nat.le_refl _) _⟩
  show Ending.returned (.int .u64 (bits .and .u64 ((x : Int) / 2 ^ (i % 64)) 1)) = _
  have := HA.out
  rw [show ((2 : Nat) : Int) = 2 from rfl] at this
  rw [this]
end Go.Proofs.YtpliddkdahgbpaaDoor
