/- The walk of ScalarSigns. -/
import Derived.Test.YtpliddkdahgbpaaDoorSy
import Derived.Deep.DeepCutAuto
import Derived.Deep.CutBlock
namespace Go.Proofs.YtpliddkdahgbpaaDoor
set_option linter.unusedVariables false
set_option linter.unusedSimpArgs false
open Go.RowKit

section
variable {a b r m t n : Nat}
theorem LL_pos : 0 < LL := by rw [LL_eq]; omega
theorem opp (x : Nat) {M : Nat} (hM : 0 < M) : (x + x * (M - 1) % M) % M = 0 := by
  obtain ⟨l, rfl⟩ : ∃ l, M = l + 1 := ⟨M - 1, by omega⟩
  rw [Nat.add_mod_mod, Nat.add_sub_cancel, Nat.add_comm, ← Nat.mul_succ]
  exact Nat.mul_mod_left _ _
theorem opp_opp (x : Nat) {M : Nat} (hM : 0 < M) : x * (M - 1) % M * (M - 1) % M = x % M := by
  have h := opp x hM
  have h2 := opp (x * (M - 1) % M) hM
  have e : (x + x * (M - 1) % M + x * (M - 1) % M * (M - 1) % M) % M = x * (M - 1) % M * (M - 1) % M := by
    rw [Nat.add_mod, h, Nat.zero_add, Nat.mod_mod, Nat.mod_mod]
  rw [← e, Nat.add_assoc, Nat.add_mod, h2, Nat.add_zero, Nat.mod_mod]
theorem sg1 {M : Nat} (hr : r = a % M) : (a * 1 + 0) % M = r := by rw [Nat.mul_one, Nat.add_zero, hr]
theorem sg2 {M : Nat} (hM : 0 < M) (hm : m = a * (M - 1) % M) (hr : r = a % M) : m * (M - 1) % M = r := by rw [hm, hr, opp_opp _ hM]
theorem sg3 {M : Nat} (ht : t = a * b % M) : (a * b + 0) % M = t := by rw [ht]; rfl
theorem sg4 {M : Nat} (hM : 0 < M) (hm : m = a * (M - 1) % M) (ht : t = a * b % M) : (m * b + t) % M = 0 := by
  have h := opp (a * b) hM
  rw [Nat.add_mod_mod] at h
  rw [hm, ht, Nat.add_mod_mod, Nat.add_mod, Nat.mod_mul_mod, ← Nat.add_mod, Nat.add_comm, Nat.mul_right_comm]
  exact h
theorem sg5 {M : Nat} (hM : 0 < M) (hm : m = a * (M - 1) % M) (hn : n = b * (M - 1) % M) (ht : t = a * b % M) : (m * n + 0) % M = t := by
  rw [Nat.add_zero, hm, hn, ht, Nat.mod_mul_mod, Nat.mul_mod_mod]
  have h := opp_opp (a * b) hM
  rw [Nat.mod_mul_mod] at h
  rw [← h]
  congr 1
  ac_rfl
end
end Go.Proofs.YtpliddkdahgbpaaDoor
