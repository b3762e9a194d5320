/- A byte put into a key; the highest bit taken off. -/
import Derived.Test.YtnfckoamjeafhaaDoorFb
import Derived.Test.YtnfckoamjeafhaaDoorDg
namespace Go.Proofs.YtnfckoamjeafhaaDoor
set_option linter.unusedVariables false
set_option linter.unusedSimpArgs false
open Go.RowKit

theorem ks_put {n k x : Nat} (hk : k < 32) (hx : x < 256) : (ks n).setIfInBounds k (.int .u8 (x : Int)) = ks (putd 256 n k x) := by
  rw [ks, ncs_set, ks]
  congr 1
  apply List.ext_getElem?
  intro j
  rw [List.getElem?_set]
  by_cases hj : j < 32
  · rw [kb_get (putd 256 n k x) hj, digit_put (by omega) hx (putd_eq 256 n k x) j]
    by_cases e : k = j
    · subst e
      rw [if_pos rfl, if_pos rfl, kb_len, if_pos hk]
    · rw [if_neg e, if_neg (fun h => e h.symm), kb_get n hj]
  · have : k ≠ j := by omega
    rw [if_neg this, List.getElem?_eq_none (by rw [kb_len]; omega), List.getElem?_eq_none (by rw [kb_len]; omega)]
/-- The lowest 255 bits. -/
theorem put_top {n : Nat} (hn : n < 115792089237316195423570985008687907853269984665640564039457584007913129639936) : putd 256 n 31 (n / 256 ^ 31 % 256 % 128) = n % 57896044618658097711785492504343953926634992332820282019728792003956564819968 := by
  have h := putd_eq 256 n 31 (n / 256 ^ 31 % 256 % 128)
  have e : (256 : Nat) ^ 31 = 452312848583266388373324160190187140051835877600158453279131187530910662656 := by decide
  rw [e] at h ⊢
  omega
theorem ks_top {n x : Nat} (hn : n < 115792089237316195423570985008687907853269984665640564039457584007913129639936) (hx : x = n / 256 ^ 31 % 256) : (ks n).setIfInBounds 31 (.int .u8 ((x : Int) % 128)) = ks (n % 57896044618658097711785492504343953926634992332820282019728792003956564819968) := by
  have e : (x : Int) % 128 = ((x % 128 : Nat) : Int) := by omega
  rw [e, ks_put (by omega) (by omega), hx, put_top hn]
end Go.Proofs.YtnfckoamjeafhaaDoor
