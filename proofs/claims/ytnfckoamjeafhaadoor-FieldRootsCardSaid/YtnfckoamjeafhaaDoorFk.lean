/- Keys as numbers: wordsOf, bytesOf, bit. -/
import Derived.Test.YtnfckoamjeafhaaDoorFq
import Derived.Test.YtnfckoamjeafhaaDoorFr
import Derived.RegionTactic
import Derived.ChangeAlike
import Derived.Laws.ShiftsVarLaws
namespace Go.Proofs.YtnfckoamjeafhaaDoor
set_option linter.unusedVariables false
set_option linter.unusedSimpArgs false
open Go.RowKit

/-- The 32 bytes of a number, the lowest first. -/
def kb (n : Nat) : List Nat := (List.range 32).map fun i => n / 256 ^ i % 256
theorem kb_len (n : Nat) : (kb n).length = 32 := by simp [kb]
theorem kb_get (n : Nat) {i : Nat} (h : i < 32) : (kb n)[i]? = some (n / 256 ^ i % 256) := by simp [kb, h]
/-- The cells of a key. -/
def ks (n : Nat) : Array Value := ncs .u8 (kb n)
theorem ks_size (n : Nat) : (ks n).size = 32 := by rw [ks, ncs_size, kb_len]
theorem ks_get (n : Nat) {i : Nat} (h : i < 32) : (ks n)[i]? = some (.int .u8 ((n / 256 ^ i % 256 : Nat) : Int)) := by rw [ks, ncs_get, kb_get n h]; rfl
theorem ks_one (n : Nat) : (ks n).all (·.oneCell') = true := ncs_one _ _
theorem info_key : (Tryd.prog.info? 23).map (·.size) = some 32 := by kernel_rfl
theorem info_ks (n : Nat) : (Tryd.prog.info? 23).map (·.size) = some (ks n).size := by rw [ks_size]; exact info_key
/-- Word j. -/
def wj (n j : Nat) : Nat := n / 18446744073709551616 ^ j % 18446744073709551616
theorem es_get (n : Nat) {j : Nat} (h : j < 4) : (es n)[j]? = some (.int .u64 (wj n j : Int)) := by
  have : j = 0 ∨ j = 1 ∨ j = 2 ∨ j = 3 := by omega
  rcases this with rfl | rfl | rfl | rfl
  · simp [es, wj, wd0]
  · simp [es, wj, wd1]
  · simp [es, wj, wd2]
  · simp [es, wj, wd3]

theorem byte_cases {k : Nat} (hk : k < 32) : k = 0 ∨ k = 1 ∨ k = 2 ∨ k = 3 ∨ k = 4 ∨ k = 5 ∨ k = 6 ∨ k = 7 ∨ k = 8 ∨ k = 9 ∨ k = 10 ∨ k = 11 ∨ k = 12 ∨ k = 13 ∨ k = 14 ∨ k = 15 ∨ k = 16 ∨ k = 17 ∨ k = 18 ∨ k = 19 ∨ k = 20 ∨ k = 21 ∨ k = 22 ∨ k = 23 ∨ k = 24 ∨ k = 25 ∨ k = 26 ∨ k = 27 ∨ k = 28 ∨ k = 29 ∨ k = 30 ∨ k = 31 := by omega
set_option maxHeartbeats 2000000 in
theorem byte_step (n k : Nat) (hk : k < 32) : wj (n % 256 ^ (k + 1)) (k / 8) = wj (n % 256 ^ k) (k / 8) + n / 256 ^ k % 256 * 2 ^ (8 * (k % 8)) ∧ wj (n % 256 ^ k) (k / 8) < 2 ^ (8 * (k % 8)) ∧
    (0 ≠ k / 8 → wj (n % 256 ^ k) 0 = wj (n % 256 ^ (k + 1)) 0) ∧ (1 ≠ k / 8 → wj (n % 256 ^ k) 1 = wj (n % 256 ^ (k + 1)) 1) ∧ (2 ≠ k / 8 → wj (n % 256 ^ k) 2 = wj (n % 256 ^ (k + 1)) 2) ∧ (3 ≠ k / 8 → wj (n % 256 ^ k) 3 = wj (n % 256 ^ (k + 1)) 3) := by
  unfold wj
  rcases byte_cases hk with rfl | rfl | rfl | rfl | rfl | rfl | rfl | rfl | rfl | rfl | rfl | rfl | rfl | rfl | rfl | rfl | rfl | rfl | rfl | rfl | rfl | rfl | rfl | rfl | rfl | rfl | rfl | rfl | rfl | rfl | rfl | rfl
  all_goals
    simp only [Nat.reducePow, Nat.reduceDiv, Nat.reduceMod, Nat.reduceMul, Nat.reduceAdd, Nat.div_one, ne_eq, Nat.reduceEqDiff, not_false_eq_true, not_true_eq_false, false_implies, true_implies, true_and, and_true]
    omega
theorem es_wj (n : Nat) : es n = ncs .u64 [wj n 0, wj n 1, wj n 2, wj n 3] := by
  simp [es, ncs, nc, wj, wd0, wd1, wd2, wd3]
theorem es_set (m m' j : Nat) (hj : j < 4) (h0 : 0 ≠ j → wj m 0 = wj m' 0) (h1 : 1 ≠ j → wj m 1 = wj m' 1) (h2 : 2 ≠ j → wj m 2 = wj m' 2) (h3 : 3 ≠ j → wj m 3 = wj m' 3) :
    (es m).setIfInBounds j (.int .u64 (wj m' j : Int)) = es m' := by
  rw [es_wj, es_wj, ncs_set]
  have : j = 0 ∨ j = 1 ∨ j = 2 ∨ j = 3 := by omega
  rcases this with rfl | rfl | rfl | rfl
  · rw [h1 (by omega), h2 (by omega), h3 (by omega)]; rfl
  · rw [h0 (by omega), h2 (by omega), h3 (by omega)]; rfl
  · rw [h0 (by omega), h1 (by omega), h3 (by omega)]; rfl
  · rw [h0 (by omega), h1 (by omega), h2 (by omega)]; rfl
theorem or_byte8 (a x r : Nat) (ha : a < 2 ^ (8 * r)) (hx : x < 256) (hr : r < 8) : bits .or .u64 (a : Int) (IntKind.u64.wrap ((x : Int) * 2 ^ (8 * r))) = ((a + x * 2 ^ (8 * r) : Nat) : Int) := by
  have hp : 2 ^ (8 * r) ≤ 2 ^ 56 := Nat.pow_le_pow_right (by omega) (by omega)
  have hm : x * 2 ^ (8 * r) ≤ 255 * 2 ^ 56 := Nat.mul_le_mul (by omega) hp
  have e : (x : Int) * 2 ^ (8 * r) = ((x * 2 ^ (8 * r) : Nat) : Int) := by push_cast; rfl
  have h2 : (2 : Nat) ^ 56 = 72057594037927936 := by decide
  rw [e, IntKind.wrap_u64, Int.emod_eq_of_lt (by omega) (by omega), u64_or_nat _ _ (by omega) (by omega)]
  have := Nat.two_pow_add_eq_or_of_lt ha x
  rw [Nat.or_comm, Nat.mul_comm x, ← this, Nat.add_comm]
theorem mod_step (n k : Nat) : n % 256 ^ k < 256 ^ k := Nat.mod_lt _ (Nat.pow_pos (by omega))

set_option maxHeartbeats 1000000 in
theorem wordsOf_any (n : Nat) (w : World) (hn : n < 115792089237316195423570985008687907853269984665640564039457584007913129639936) :
    Calls Tryd.prog 15 #[.agg (ks n)] w (ElemPost n w) := by
  have hfr := ((((Fr.start w).row (ks n) 23 (g := w.heap.size) rfl).any #[.int .u64 0, .int .u64 0, .int .u64 0, .int .u64 0] 25 4 rfl (g := w.heap.size + 1) (by simp)).row (es 0) 25 (g := w.heap.size + 1 + 1) (by simp))
  have k1 := hfr.get (g := w.heap.size) (t := 23) (cs := ks n) (by simp)
  rw [es_zero] at k1
  have HFR := Lib.hid hfr
  clear hfr
  go_enter Tryd.func15, Tryd.ntmps15
  go_wp2_with (first | (refine wpList_load_row rfl 23 (.tmp 1) rfl w.heap.size rfl 23 (ks n) (0, 0) _ k1 Tryd.underlying23 rfl (info_ks n) ?_))
  go_loopw [7] (fun c wr => ∃ k : Nat, k ≤ 32 ∧ c = .int .i64 k ∧ Fr w wr [(w.heap.size + 1 + 1, 25, es (n % 256 ^ k)), (w.heap.size, 23, ks n)] [(w.heap.size + 1, 25, 4)]) (fun c _ => 32 - (intOf c).toNat)
  case atStart => exact ⟨0, by omega, rfl, by have := HFR.out; rw [Nat.pow_zero, Nat.mod_one]; exact this⟩
  case round =>
    obtain ⟨k, hk, rfl, hF⟩ := hrel
    by_cases hlt : k < 32
    · have hB := hF.get (g := w.heap.size + 1 + 1) (t := 25) (cs := es (n % 256 ^ k)) (by simp)
      have hc : wr.cell? ⟨w.heap.size + 1 + 1, k / 8, none⟩ = some (.int .u64 (wj (n % 256 ^ k) (k / 8) : Int)) := by rw [hB.cell, es_get _ (by omega)]
      have hf := hB.frozen (k / 8)
      have hix := fun W => run_index_nats (P := Tryd.prog) W 23 5 32 .u8 Tryd.underlying23 Tryd.underlying5 (fun W => size_u8 (by kernel_rfl) W) (kb n) k (n / 256 ^ k % 256) hlt (kb_get n hlt)
      have hx8 : n / 256 ^ k % 256 < 256 := Nat.mod_lt _ (by omega)
      have hix2 : ∀ W, (Instr.index 23 (.agg (ks n)) (.int .i64 (k : Int))).run Tryd.prog W = .ok (.int .u8 ((n / 256 ^ k % 256 : Nat) : Int)) W := hix
      clear hix
      obtain ⟨s1, s2, s3, s4, s5, s6⟩ := byte_step n k hlt
      have hset := es_set (n % 256 ^ k) (n % 256 ^ (k + 1)) (k / 8) (by omega) s3 s4 s5 s6
      have hor := or_byte8 (wj (n % 256 ^ k) (k / 8)) (n / 256 ^ k % 256) (k % 8) s2 hx8 (by omega)
      rw [← s1] at hor
      have HS := Lib.hid hset
      have HO := Lib.hid hor
      have HF := Lib.hid hF
      clear s1 s2 s3 s4 s5 s6 hset hor hF hB
      generalize n / 256 ^ k % 256 = x at *
      have b1 : (0 : Int) ≤ (k : Int) / 8 := by omega
      have b2 : (k : Int) / 8 < 4 := by omega
      go_wp2
      go_region
      go_wp2
      go_roundw
      case rel =>
        refine ⟨k + 1, by omega, by go_num, ?_⟩
        rw [HO.out]
        refine Fr.drew ?_
        rw [← HS.out]
        exact HF.out.setHead (by simp <;> omega) (by simp <;> omega) _ _ (by omega)
      case measure => simp [intOf]; omega
    · obtain rfl : k = 32 := by omega
      have e32 : n % 256 ^ 32 = n := Nat.mod_eq_of_lt hn
      rw [e32] at hF
      have kT := hF.get (g := w.heap.size + 1 + 1) (t := 25) (cs := es n) (by simp)
      obtain ⟨old, hold, kR⟩ := hF.old (g := w.heap.size + 1) (t := 25) (n := 4) (by simp)
      have kS := kR.setRow_same (es n)
      have hB := below_setRow hF.below (show w.heap.size ≤ w.heap.size + 1 by omega) (es n)
      have HF := Lib.hid hF
      have HS := Lib.hid kS
      have HB := Lib.hid hB
      have HO := Lib.hid hold
      clear hF e32 kS hB hold
      go_wp2_with (first | (refine wpList_load_row rfl 25 (.tmp 3) rfl (w.heap.size + 1 + 1) rfl 25 (es n) (0, 0) _ kT Tryd.underlying25 rfl info_w4 ?_) | (refine wpList_store_row rfl 25 (.tmp 2) (.tmp 24) rfl (w.heap.size + 1) (es n) rfl rfl 25 old kR info_w4 HO.out (es_one _) ?_))
      exact bodyPost_ret (results_cell_row rfl _ _ (w.heap.size + 1) 25 (es n) (0, 0) _ rfl HS.out Tryd.underlying25 rfl info_w4) rfl ⟨rfl, HB.out⟩
end Go.Proofs.YtnfckoamjeafhaaDoor
