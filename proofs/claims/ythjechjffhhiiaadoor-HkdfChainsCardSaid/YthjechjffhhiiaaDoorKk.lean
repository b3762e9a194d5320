/- The chapter's row: the outputs of a key and a byte, reckoned by the kernel. No dump is imported. -/
import Derived.Test.YthjechjffhhiiaaDoorKa
namespace Go.Proofs.YthjechjffhhiiaaDoor
set_option linter.unusedVariables false
set_option linter.unusedSimpArgs false
set_option maxRecDepth 100000
open Go Go.RowKit

theorem k_t : rb 32 (hmacF (rb 32 c1K) [2]) = tL := by decide +kernel
theorem k_1 : rb 32 (hmacF tL [1]) = o1L := by decide +kernel
theorem k_2 : rb 32 (hmacF tL (o1L ++ [2])) = o2L := by decide +kernel
theorem k_3 : hmacF tL (o2L ++ [3]) 0 = 40 := by decide +kernel
theorem kn_1 : rb 32 (outK c1K [2] 0) = o1L := by
  unfold outK
  rw [k_t]
  exact k_1
theorem kn_2 : rb 32 (outK c1K [2] 1) = o2L := by
  unfold outK
  rw [k_t, kn_1]
  exact k_2
theorem kn_3 : outK c1K [2] 2 0 = 40 := by
  unfold outK
  rw [k_t, kn_2]
  exact k_3
theorem rb_0 {f : Nat → UInt8} {l : List UInt8} (h : rb 32 f = l) {x : UInt8} (hx : l[0]? = some x) : f 0 = x := by
  subst h
  rw [rb_get (by omega)] at hx
  exact Option.some.inj hx
/-- The first two are unlike, the third one and the first one too. -/
theorem kn_all : rb 32 (outK c1K [2] 0) ≠ rb 32 (outK c1K [2] 1) ∧ rb 32 (outK c1K [2] 2) ≠ rb 32 (outK c1K [2] 0) := by
  refine ⟨?_, fun h => ?_⟩
  · rw [kn_1, kn_2]
    decide
  · have h3 := rb_0 h.symm (x := 40) (by rw [rb_get (by omega), kn_3])
    have h1 := rb_0 kn_1 (x := 245) rfl
    rw [h1] at h3
    exact absurd h3 (by decide)
end Go.Proofs.YthjechjffhhiiaaDoor
