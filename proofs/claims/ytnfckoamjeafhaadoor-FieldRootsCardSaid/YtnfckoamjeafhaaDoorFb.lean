/- Walks of bytesOf, bit, Bytes, Of, Canonical. -/
import Derived.Test.YtnfckoamjeafhaaDoorFk
namespace Go.Proofs.YtnfckoamjeafhaaDoor
set_option linter.unusedVariables false
set_option linter.unusedSimpArgs false
open Go.RowKit

theorem dig_mod (b n k i : Nat) (hb : 0 < b) : n % b ^ k / b ^ i % b = if i < k then n / b ^ i % b else 0 := by
  have hp : 0 < b ^ i := Nat.pow_pos hb
  split
  · rename_i h
    obtain ⟨d, rfl⟩ : ∃ d, k = i + (d + 1) := ⟨k - i - 1, by omega⟩
    rw [Nat.pow_add, Nat.mod_mul_right_div_self, Nat.pow_succ, Nat.mod_mul_left_mod]
  · rename_i h
    have h1 : n % b ^ k < b ^ k := Nat.mod_lt _ (Nat.pow_pos hb)
    have h2 : b ^ k ≤ b ^ i := Nat.pow_le_pow_right hb (by omega)
    rw [Nat.div_eq_of_lt (by omega), Nat.zero_mod]
theorem kb_step (n k : Nat) (hk : k < 32) : (kb (n % 256 ^ k)).set k (n / 256 ^ k % 256) = kb (n % 256 ^ (k + 1)) := by
  apply List.ext_getElem?
  intro i
  rw [List.getElem?_set]
  by_cases hi : i < 32
  · rw [kb_get (n % 256 ^ (k + 1)) hi, kb_len, dig_mod 256 n (k + 1) i (by omega)]
    by_cases e : k = i
    · subst e
      rw [if_pos rfl, if_pos hk, if_pos (by omega)]
    · rw [if_neg e, kb_get _ hi, dig_mod 256 n k i (by omega)]
      by_cases h : i < k
      · rw [if_pos h, if_pos (by omega)]
      · rw [if_neg h, if_neg (by omega)]
  · have h1 : (kb (n % 256 ^ (k + 1)))[i]? = none := by simp [kb_len]; omega
    have h2 : (kb (n % 256 ^ k))[i]? = none := by simp [kb_len]; omega
    rw [h1, h2]
    have : k ≠ i := by omega
    simp [this]
theorem ks_step (n k : Nat) (hk : k < 32) : (ks (n % 256 ^ k)).setIfInBounds k (.int .u8 ((n / 256 ^ k % 256 : Nat) : Int)) = ks (n % 256 ^ (k + 1)) := by
  rw [ks, ncs_set, kb_step n k hk, ks]
theorem ks_zero : ks 0 = #[.int .u8 0, .int .u8 0, .int .u8 0, .int .u8 0, .int .u8 0, .int .u8 0, .int .u8 0, .int .u8 0, .int .u8 0, .int .u8 0, .int .u8 0, .int .u8 0, .int .u8 0, .int .u8 0, .int .u8 0, .int .u8 0, .int .u8 0, .int .u8 0, .int .u8 0, .int .u8 0, .int .u8 0, .int .u8 0, .int .u8 0, .int .u8 0, .int .u8 0, .int .u8 0, .int .u8 0, .int .u8 0, .int .u8 0, .int .u8 0, .int .u8 0, .int .u8 0] := by kernel_rfl
set_option maxHeartbeats 2000000 in
theorem byte_of_word (n k : Nat) (hk : k < 32) (hn : n < 115792089237316195423570985008687907853269984665640564039457584007913129639936) : wj n (k / 8) / 2 ^ (8 * (k % 8)) % 256 = n / 256 ^ k % 256 := by
  unfold wj
  rcases byte_cases hk with rfl | rfl | rfl | rfl | rfl | rfl | rfl | rfl | rfl | rfl | rfl | rfl | rfl | rfl | rfl | rfl | rfl | rfl | rfl | rfl | rfl | rfl | rfl | rfl | rfl | rfl | rfl | rfl | rfl | rfl | rfl | rfl
  all_goals
    simp only [Nat.reducePow, Nat.reduceDiv, Nat.reduceMod, Nat.reduceMul, Nat.reduceAdd, Nat.div_one]
    omega

def KeyPost (n : Nat) (w : World) (e : Ending) (w' : World) : Prop := e = .returned (.agg (ks n)) ∧ Below w.heap.size w w'
set_option maxHeartbeats 1000000 in
theorem bytesOf_any (n : Nat) (w : World) (hn : n < 115792089237316195423570985008687907853269984665640564039457584007913129639936) :
    Calls Tryd.prog 20 #[.agg (es n)] w (KeyPost n w) := by
  have hfr := ((((Fr.start w).row (es n) 25 (g := w.heap.size) rfl).any (ks 0) 23 32 (ks_size 0) (g := w.heap.size + 1) (by simp)).row (ks 0) 23 (g := w.heap.size + 1 + 1) (by simp))
  rw [ks_zero] at hfr
  have HFR := Lib.hid hfr
  clear hfr
  go_enter Tryd.func20, Tryd.ntmps20
  go_wp2_with (fail)
  go_loopw [5] (fun c wr => ∃ k : Nat, k ≤ 32 ∧ c = .int .i64 k ∧ Fr w wr [(w.heap.size + 1 + 1, 23, ks (n % 256 ^ k)), (w.heap.size, 25, es n)] [(w.heap.size + 1, 23, 32)]) (fun c _ => 32 - (intOf c).toNat)
  case atStart => exact ⟨0, by omega, rfl, by have := HFR.out; rw [Nat.pow_zero, Nat.mod_one, ks_zero]; exact this⟩
  case round =>
    obtain ⟨k, hk, rfl, hF⟩ := hrel
    by_cases hlt : k < 32
    · have hB := hF.get (g := w.heap.size + 1 + 1) (t := 23) (cs := ks (n % 256 ^ k)) (by simp)
      have hE := hF.get (g := w.heap.size) (t := 25) (cs := es n) (by simp)
      have hc : wr.cell? ⟨w.heap.size, k / 8, none⟩ = some (.int .u64 (wj n (k / 8) : Int)) := by rw [hE.cell, es_get _ (by omega)]
      have hd : wr.cell? ⟨w.heap.size + 1 + 1, k, none⟩ = some (.int .u8 ((n % 256 ^ k / 256 ^ k % 256 : Nat) : Int)) := by rw [hB.cell, ks_get _ hlt]
      have hf := hB.frozen k
      have h8 : (8 : Int) * ((k : Int) % 8) < 65 := by omega
      have hby := byte_of_word n k hlt hn
      have hst := ks_step n k hlt
      have HB := Lib.hid hby
      have HS := Lib.hid hst
      have HF := Lib.hid hF
      clear hby hst hF hB hE
      generalize n % 256 ^ k / 256 ^ k % 256 = z at *
      have b1 : (0 : Int) ≤ (k : Int) / 8 := by omega
      have b2 : (k : Int) / 8 < 4 := by omega
      go_wp2
      go_roundw
      case rel =>
        refine ⟨k + 1, by omega, by go_num, ?_⟩
        have e : (wj n (k / 8) : Int) / 2 ^ (8 * (k % 8)) % 256 = ((n / 256 ^ k % 256 : Nat) : Int) := by
          rw [← HB.out]
          rw [Int.natCast_emod, Int.natCast_ediv, Int.natCast_pow]
          rfl
        rw [e, ← HS.out]
        exact HF.out.setHead (by simp <;> omega) (by simp <;> omega) _ _ (by omega)
      case measure => simp [intOf]; omega
    · obtain rfl : k = 32 := by omega
      have e32 : n % 256 ^ 32 = n := Nat.mod_eq_of_lt hn
      rw [e32] at hF
      have kT := hF.get (g := w.heap.size + 1 + 1) (t := 23) (cs := ks n) (by simp)
      obtain ⟨old, hold, kR⟩ := hF.old (g := w.heap.size + 1) (t := 23) (n := 32) (by simp)
      have kS := kR.setRow_same (ks n)
      have hB := below_setRow hF.below (show w.heap.size ≤ w.heap.size + 1 by omega) (ks n)
      have hold' : old.size = (ks n).size := by rw [hold, ks_size]
      have HF := Lib.hid hF
      have HS := Lib.hid kS
      have HB := Lib.hid hB
      have HO := Lib.hid hold'
      clear hF e32 kS hB hold hold'
      go_wp2_with (first | (refine wpList_load_row rfl 23 (.tmp 3) rfl (w.heap.size + 1 + 1) rfl 23 (ks n) (0, 0) _ kT Tryd.underlying23 rfl (info_ks n) ?_) | (refine wpList_store_row rfl 23 (.tmp 2) (.tmp 20) rfl (w.heap.size + 1) (ks n) rfl rfl 23 old kR (info_ks n) HO.out (ks_one _) ?_))
      exact bodyPost_ret (results_cell_row rfl _ _ (w.heap.size + 1) 23 (ks n) (0, 0) _ rfl HS.out Tryd.underlying23 rfl (info_ks n)) rfl ⟨rfl, HB.out⟩
/-! bit. -/
theorem bit_at (e i : Nat) : e / 256 ^ (i / 8) % 256 / 2 ^ (i % 8) % 2 = e / 2 ^ i % 2 := by
  have h1 : e / 2 ^ i = e / 256 ^ (i / 8) / 2 ^ (i % 8) := by
    rw [show (256 : Nat) = 2 ^ 8 by decide, ← Nat.pow_mul, Nat.div_div_eq_div_mul, ← Nat.pow_add, Nat.div_add_mod]
  rw [h1]
  generalize e / 256 ^ (i / 8) = x
  have : i % 8 = 0 ∨ i % 8 = 1 ∨ i % 8 = 2 ∨ i % 8 = 3 ∨ i % 8 = 4 ∨ i % 8 = 5 ∨ i % 8 = 6 ∨ i % 8 = 7 := by omega
  rcases this with h | h | h | h | h | h | h | h
  all_goals
    rw [h]
    simp only [Nat.reducePow, Nat.div_one]
    omega
theorem and_one8 (x : Nat) (hx : x < 256) : (bits .and .u8 (x : Int) 1 == 1) = decide (x % 2 = 1) := by
  have h := u8_and (x : Int) 1 (by omega) (by omega) (by omega) (by omega)
  rw [h, Bool.eq_iff_iff]
  have e : (x : Int).toNat &&& (1 : Int).toNat = x % 2 := by
    show x &&& 1 = x % 2
    rw [Nat.and_one_is_mod]
  rw [e]
  simp
  omega
def bitB (e i : Nat) : Bool := decide (e / 2 ^ i % 2 = 1)
set_option maxHeartbeats 1000000 in
theorem bit_any (e i : Nat) (w : World) (hi : i < 256) :
    Calls Tryd.prog 40 #[.agg (ks e), .int .i64 (i : Int)] w fun r w' => r = .returned (.bool (bitB e i)) ∧ Below w.heap.size w w' := by
  have hc : (w.alloc (.cells (ks e) 23)).cell? ⟨w.heap.size, i / 8, none⟩ = some (.int .u8 ((e / 256 ^ (i / 8) % 256 : Nat) : Int)) := by
    rw [(Blk.new w 23 (ks e)).cell, ks_get _ (by omega)]
  have hx : e / 256 ^ (i / 8) % 256 < 256 := Nat.mod_lt _ (by omega)
  have hb := bit_at e i
  have ha := and_one8 (e / 256 ^ (i / 8) % 256 / 2 ^ (i % 8)) (Nat.lt_of_le_of_lt (Nat.div_le_self _ _) hx)
  rw [hb, Int.natCast_ediv, Int.natCast_pow] at ha
  have HA := Lib.hid ha
  clear hb ha
  generalize e / 256 ^ (i / 8) % 256 = x at *
  have b1 : (0 : Int) ≤ (i : Int) / 8 := by omega
  have b2 : (i : Int) / 8 < 32 := by omega
  have b3 : ((i : Int) % 8) < 65 := by omega
  go_enter Tryd.func40, Tryd.ntmps40
  go_wp2
  go_ret
  refine ⟨?_, (Below.refl _ _).alloc (Nat.le_refl _) _⟩
  show Ending.returned (.bool (bits .and .u8 ((x : Int) / 2 ^ (i % 8)) 1 == 1)) = _
  have := HA.out
  rw [show ((2 : Nat) : Int) = 2 from rfl] at this
  rw [this]
  rfl
end Go.Proofs.YtnfckoamjeafhaaDoor
