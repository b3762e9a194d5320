/- The document's number of a list of bits, and of bytes, modulo L (layer 3's bits, Reduce). -/
import Derived.Test.YtpliddkdahgbpaaDoorSh
namespace Go.Proofs.YtpliddkdahgbpaaDoor
set_option linter.unusedVariables false
set_option linter.unusedSimpArgs false
open Go Go.RowKit

/-- What is left behind j of m bits. -/
def gl (N m j : Nat) : Nat := N / 2 ^ (m - j) % LL
theorem gl_lt (N m j : Nat) : gl N m j < LL := Nat.mod_lt _ (by rw [LL_eq]; omega)
theorem gl_zero {N m : Nat} (h : N < 2 ^ m) : gl N m 0 = 0 := by
  unfold gl
  rw [Nat.sub_zero, Nat.div_eq_of_lt h, Nat.zero_mod]
theorem gl_end (N m : Nat) : gl N m m = N % LL := by
  unfold gl
  rw [Nat.sub_self, Nat.pow_zero, Nat.div_one]
theorem gl_step (N m j : Nat) (hj : j < m) : (2 * gl N m j + N / 2 ^ (m - 1 - j) % 2) % LL = gl N m (j + 1) := by
  unfold gl
  have h1 : m - (j + 1) = m - 1 - j := by omega
  have h2 : m - j = m - 1 - j + 1 := by omega
  have h3 : N / 2 ^ (m - 1 - j) = 2 * (N / 2 ^ (m - 1 - j + 1)) + N / 2 ^ (m - 1 - j) % 2 := by
    rw [Nat.pow_succ, ← Nat.div_div_eq_div_mul]
    omega
  rw [h1, h2]
  conv => rhs; rw [h3]
  rw [Nat.add_mod, Nat.mul_mod, Nat.mod_mod, ← Nat.mul_mod, ← Nat.add_mod]
end Go.Proofs.YtpliddkdahgbpaaDoor
