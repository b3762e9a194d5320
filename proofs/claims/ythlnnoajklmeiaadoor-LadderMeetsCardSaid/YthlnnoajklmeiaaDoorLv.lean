/- The numbers of the chapter's rows: what the ladder comes to at 2^254. -/
import Derived.Test.YthlnnoajklmeiaaDoorLx
import Derived.Test.YthlnnoajklmeiaaDoorLb
namespace Go.Proofs.YthlnnoajklmeiaaDoor
set_option linter.unusedVariables false
set_option linter.unusedSimpArgs false
set_option maxRecDepth 100000

theorem lad_value {p : Nat} [NeZero p] {q x v : Fin p} {k : Nat} (hp : IsPrime p) (hb : (lgo q x k 255).b ≠ 0) (hv : (lgo q x k 255).a = v * (lgo q x k 255).b) : lad q k x = v := by
  rw [lad_eq rfl, hv]
  have := fp_inv hp hb
  generalize (lgo q x k 255).b = b at *
  generalize b ^ (p - 2) = i at *
  grind
theorem lad_nz {p : Nat} [NeZero p] {q x : Fin p} {k : Nat} (hp : IsPrime p) (ha : (lgo q x k 255).a ≠ 0) (hb : (lgo q x k 255).b ≠ 0) : lad q k x ≠ 0 := by
  rw [lad_eq rfl]
  exact mul_ne hp ha (fp_pow_ne hp hb _)
/-- 2^254. -/
def K254 : Nat := 28948022309329048855892746252171976963317496166410141009864396001978282409984
/-- Its own public. -/
def V9 : Nat := 52573937849532372069814888178136277301931757964231753054399601207743438775599
theorem clamp_1 : clampN 1 = K254 := by decide +kernel
theorem clamp_2 : clampN 2 = K254 := by decide +kernel
theorem lad_9 : lad Q0 K254 (Fin.ofNat PP 9) = Fin.ofNat PP V9 := lad_value PP_prime (by decide +kernel) (by decide +kernel)
theorem lad_V9 : lad Q0 K254 (Fin.ofNat PP V9) ≠ 0 := lad_nz PP_prime (by decide +kernel) (by decide +kernel)
theorem V9_lt : V9 < 57896044618658097711785492504343953926634992332820282019728792003956564819949 := by decide +kernel
end Go.Proofs.YthlnnoajklmeiaaDoor
