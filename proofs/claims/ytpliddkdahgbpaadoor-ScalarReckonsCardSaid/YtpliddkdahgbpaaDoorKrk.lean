/- The walk of ScalarReckons. -/
import Derived.Test.YtpliddkdahgbpaaDoorSv
import Derived.Deep.DeepCutAuto
import Derived.Deep.CutBlock
namespace Go.Proofs.YtpliddkdahgbpaaDoor
set_option linter.unusedVariables false
set_option linter.unusedSimpArgs false
open Go.RowKit

section
variable {a b n x y z r q s M : Nat}
theorem rk1 (h : s = (a + b) % M) : (a * 1 + b) % M = s := by rw [h, Nat.mul_one]
theorem rk2 (hM : 0 < M) (h : n = a * (M - 1) % M) : (a + n) % M = 0 := by
  obtain ⟨l, rfl⟩ : ∃ l, M = l + 1 := ⟨M - 1, by omega⟩
  rw [h, Nat.add_mod_mod, Nat.add_sub_cancel, Nat.add_comm, ← Nat.mul_succ]
  exact Nat.mul_mod_left _ _
theorem LL_pos : 0 < LL := by rw [LL_eq]; omega
end
end Go.Proofs.YtpliddkdahgbpaaDoor
