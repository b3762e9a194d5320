/- Small words for the laws' walks. -/
import Derived.Test.YtnfckoamjeafhaaDoorFkn
import Derived.Deep.DeepCutAuto
import Derived.Deep.CutBlock
namespace Go.Proofs.YtnfckoamjeafhaaDoor
set_option linter.unusedVariables false
set_option linter.unusedSimpArgs false
open Go.RowKit

theorem ofR {n : Nat} {x : Fin PP} (h : x = ofK n) (w : World) (hp : PG w) (hn : n < 115792089237316195423570985008687907853269984665640564039457584007913129639936) : Calls Tryd.prog 4 #[.agg (ks n)] w (EPost x w) := by
  rw [h]
  exact ofF n w hp hn
theorem sm_zero : sm 0 = 0 := rfl
theorem sm_one : sm 1 = 1 := rfl
theorem dig_all : ∀ (k n m : Nat), n < 256 ^ k → m < 256 ^ k → (∀ i, i < k → n / 256 ^ i % 256 = m / 256 ^ i % 256) → n = m
  | 0, n, m, h1, h2, _ => by simp at h1 h2; omega
  | k + 1, n, m, h1, h2, h => by
    rw [Nat.pow_succ] at h1 h2
    have h0 := h 0 (by omega)
    simp at h0
    have := dig_all k (n / 256) (m / 256) (by omega) (by omega) (fun i hi => by
      have := h (i + 1) (by omega)
      rw [Nat.pow_succ', ← Nat.div_div_eq_div_mul, ← Nat.div_div_eq_div_mul] at this
      exact this)
    omega
theorem kb_inj {n m : Nat} (hn : n < 115792089237316195423570985008687907853269984665640564039457584007913129639936) (hm : m < 115792089237316195423570985008687907853269984665640564039457584007913129639936) (h : kb n = kb m) : n = m := by
  refine dig_all 32 n m hn hm fun i hi => ?_
  have h1 := kb_get n hi
  rw [h, kb_get m hi] at h1
  injection h1 with h1
  exact h1.symm
theorem size_u8' (W : World) : (sizeOf 5).run Tryd.prog W = .ok 1 W := by kernel_rfl
/-- '==' of two keys. -/
theorem keys_eq {n m : Nat} {b : Bool} (hn : n < 115792089237316195423570985008687907853269984665640564039457584007913129639936) (hm : m < 115792089237316195423570985008687907853269984665640564039457584007913129639936) (h : decide (n = m) = b) (W : World) : (Op.equalIn 10000 23 (.agg (ks n)) (.agg (ks m))).run Tryd.prog W = .ok b W := by
  have h2 := run_equalIn_nats (P := Tryd.prog) W 9998 23 5 32 .u8 Tryd.underlying23 Tryd.underlying5 size_u8' (kb n) (kb m) (kb_len n) (kb_len m)
  have e : (kb n == kb m) = b := by
    rw [← h, Bool.eq_iff_iff]
    simp
    exact ⟨fun h => kb_inj hn hm h, fun h => by rw [h]⟩
  rw [e] at h2
  exact h2
theorem key_at0 (n b : Nat) (h : b = n % 256) (W : World) : (Instr.index 23 (.agg (ks n)) (.int .i64 0)).run Tryd.prog W = .ok (.int .u8 (b : Int)) W := by
  have h2 := run_index_nats (P := Tryd.prog) W 23 5 32 .u8 Tryd.underlying23 Tryd.underlying5 size_u8' (kb n) 0 b (by omega) (by rw [kb_get n (by omega), h]; simp)
  exact h2
end Go.Proofs.YtnfckoamjeafhaaDoor
