/- The walk of ScalarIs. -/
import Derived.Test.YtpliddkdahgbpaaDoorSy
import Derived.Deep.DeepCutAuto
import Derived.Deep.CutBlock
namespace Go.Proofs.YtpliddkdahgbpaaDoor
set_option linter.unusedVariables false
set_option linter.unusedSimpArgs false
open Go.RowKit

section
variable {a b c ab ac bc d t u p q e M : Nat}
theorem is0 (h : ab = a * b % M) : (a * b + 0) % M = ab := by rw [h]; rfl
theorem is1 (h : ab = a * b % M) : (b * a + 0) % M = ab := by rw [h, Nat.mul_comm]; rfl
theorem is2 (h : d = a * bc % M) : (a * bc + 0) % M = d := by rw [h]; rfl
theorem is3 (hab : ab = a * b % M) (hac : ac = a * c % M) (hbc : bc = (b + c) % M) (hd : d = a * bc % M) : (ab + ac) % M = d := by
  rw [hab, hac, hd, hbc, Nat.mul_mod_mod, ← Nat.add_mod, Nat.mul_add]
theorem is4 (hab : ab = a * b % M) (ht : t = a * b * c % M) : (ab * c + 0) % M = t := by rw [hab, ht, Nat.add_zero, Nat.mod_mul_mod]
theorem is5 (hu : u = b * c % M) (ht : t = a * b * c % M) : (a * u + 0) % M = t := by rw [hu, ht, Nat.add_zero, Nat.mul_mod_mod, Nat.mul_assoc]
theorem is6 (hp : p = (a + b) % M) (hq : q = (a + b + c) % M) : (p + c) % M = q := by rw [hp, hq, Nat.mod_add_mod]
theorem is7 (hbc : bc = (b + c) % M) (hq : q = (a + b + c) % M) : (a + bc) % M = q := by rw [hbc, hq, Nat.add_mod_mod, Nat.add_assoc]
theorem is8 (hab : ab = a * b % M) (he : e = (a * b + c) % M) : (ab + c) % M = e := by rw [hab, he, Nat.mod_add_mod]
end
end Go.Proofs.YtpliddkdahgbpaaDoor
