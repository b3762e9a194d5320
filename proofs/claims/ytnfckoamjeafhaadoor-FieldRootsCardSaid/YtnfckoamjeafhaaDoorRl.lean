/- The document's Less. -/
import Derived.Test.YtnfckoamjeafhaaDoorRd
namespace Go.Proofs.YtnfckoamjeafhaaDoor
set_option linter.unusedVariables false
set_option linter.unusedSimpArgs false
open Go.RowKit

theorem less_top {a b k : Nat} (h : a / 65536 ^ (k + 1) = b / 65536 ^ (k + 1)) (hne : a / 65536 ^ k % 65536 ≠ b / 65536 ^ k % 65536) : decide (a / 65536 ^ k % 65536 < b / 65536 ^ k % 65536) = decide (a < b) := by
  rw [Nat.pow_succ, ← Nat.div_div_eq_div_mul, ← Nat.div_div_eq_div_mul] at h
  have h1 : a < b → a / 65536 ^ k ≤ b / 65536 ^ k := fun h => Nat.div_le_div_right (Nat.le_of_lt h)
  have h2 : b ≤ a → b / 65536 ^ k ≤ a / 65536 ^ k := fun h => Nat.div_le_div_right h
  rw [decide_eq_decide]
  constructor
  · intro h3
    apply Nat.lt_of_not_le
    intro h4
    have := h2 h4
    omega
  · intro h3
    have := h1 h3
    omega
theorem less_down {a b k : Nat} (h : a / 65536 ^ (k + 1) = b / 65536 ^ (k + 1)) (he : a / 65536 ^ k % 65536 = b / 65536 ^ k % 65536) : a / 65536 ^ k = b / 65536 ^ k := by
  rw [Nat.pow_succ, ← Nat.div_div_eq_div_mul, ← Nat.div_div_eq_div_mul] at h
  omega
set_option maxRecDepth 100000 in
set_option maxHeartbeats 1000000 in
theorem rless_any (a b : Nat) (w : World) (ha : a < 115792089237316195423570985008687907853269984665640564039457584007913129639936) (hb : b < 115792089237316195423570985008687907853269984665640564039457584007913129639936) :
    Calls Tryd.prog 48 #[.agg (ds a), .agg (ds b)] w (fun e w' => e = .returned (.bool (decide (a < b))) ∧ Below w.heap.size w w') := by
  have hfr := (((Fr.start w).row (ds a) 32 (g := w.heap.size) rfl).row (ds b) 32 (g := w.heap.size + 1) (by simp))
  have htop : a / 65536 ^ 16 = b / 65536 ^ 16 := by rw [Nat.div_eq_of_lt ha, Nat.div_eq_of_lt hb]
  have HFR := Lib.hid hfr
  have HT := Lib.hid htop
  clear hfr htop ha hb
  go_enter Tryd.func48, Tryd.ntmps48
  go_wp2_with (fail)
  go_loopw [5] (fun c wr => ∃ k : Nat, k ≤ 16 ∧ c = .int .i64 ((k : Int) - 1) ∧ a / 65536 ^ k = b / 65536 ^ k ∧ Fr w wr [(w.heap.size + 1, 32, ds b), (w.heap.size, 32, ds a)] []) (fun c _ => (intOf c + 1).toNat)
  case atStart => exact ⟨16, by omega, rfl, HT.out, HFR.out⟩
  case round =>
    obtain ⟨k, hk, rfl, he, hF⟩ := hrel
    cases k with
    | succ k =>
      have hA := hF.get (g := w.heap.size) (t := 32) (cs := ds a) (by simp)
      have hB := hF.get (g := w.heap.size + 1) (t := 32) (cs := ds b) (by simp)
      have hc : wr.cell? ⟨w.heap.size, k, none⟩ = some (.int .u64 ((a / 65536 ^ k % 65536 : Nat) : Int)) := by rw [hA.cell, ds_get _ (by omega)]
      have hd : wr.cell? ⟨w.heap.size + 1, k, none⟩ = some (.int .u64 ((b / 65536 ^ k % 65536 : Nat) : Int)) := by rw [hB.cell, ds_get _ (by omega)]
      have hlt := fun h => less_top (k := k) he h
      have hdn := fun h => less_down (k := k) he h
      have HL := Lib.hid hlt
      have HD := Lib.hid hdn
      have HF := Lib.hid hF
      have e1 : ((k + 1 : Nat) : Int) - 1 = (k : Int) := by omega
      rw [e1]
      clear hlt hdn hF hA hB he
      generalize a / 65536 ^ k % 65536 = x at *
      generalize b / 65536 ^ k % 65536 = y at *
      by_cases hxy : x = y
      · subst hxy
        have HE := Lib.hid (HD.out rfl)
        go_wp2
        go_region
        go_wp2
        exact ⟨⟨k, by omega, rfl, HE.out, HF.out.drew⟩, by simp [intOf] <;> omega⟩
      · have HE := Lib.hid (HL.out hxy)
        go_wp2
        go_region
        go_wp2
        go_region
        go_wp2
        rw [HE.out]
        go_ret
        exact ⟨rfl, HF.out.below.drew.drew⟩
    | zero =>
      rw [Nat.pow_zero, Nat.div_one, Nat.div_one] at he
      have hff : decide (a < b) = false := decide_eq_false (by omega)
      have HFF := Lib.hid hff
      have HF := Lib.hid hF
      clear hff hF he
      go_wp2
      rw [← HFF.out]
      go_ret
      exact ⟨rfl, HF.out.below⟩
end Go.Proofs.YtnfckoamjeafhaaDoor
