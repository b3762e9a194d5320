/- The document's MulAdd of layer 3. -/
import Derived.Test.YtpliddkdahgbpaaDoorCo
import Derived.Test.YtpliddkdahgbpaaDoorSu
import Derived.Deep.DeepCutAuto
import Derived.Deep.CutBlock
namespace Go.Proofs.YtpliddkdahgbpaaDoor
set_option linter.unusedVariables false
set_option linter.unusedSimpArgs false
open Go Go.RowKit

theorem two_bytes_of (T j n : Nat) (h : n % 65536 = T / 65536 ^ j % 65536) : n % 256 = T / 256 ^ (2 * j) % 256 ∧ n / 256 % 256 = T / 256 ^ (2 * j + 1) % 256 := by
  have h1 := digit_low T j
  have h2 := digit_high T j
  rw [← h] at h1 h2
  refine ⟨?_, ?_⟩
  · rw [← h1]
    omega
  · rw [← h2]
    omega
theorem kbl_two (T j n : Nat) (h : n % 65536 = T / 65536 ^ j % 65536) : kbl T (2 * (j + 1)) = kbl T (2 * j) ++ [UInt8.ofNat (n % 256), UInt8.ofNat (n / 256 % 256)] := by
  obtain ⟨h1, h2⟩ := two_bytes_of T j n h
  rw [h1, h2, show 2 * (j + 1) = 2 * j + 1 + 1 by omega, kbl_step, kbl_step, List.append_assoc]
  rfl
theorem prod_lt66 {a b c : Nat} (ha : a < 115792089237316195423570985008687907853269984665640564039457584007913129639936) (hb : b < 115792089237316195423570985008687907853269984665640564039457584007913129639936) (hc : c < 115792089237316195423570985008687907853269984665640564039457584007913129639936) : a * b + c < 256 ^ 66 := by
  have h1 := prod_lt ha hb hc
  rw [← b512] at h1
  have h2 : (256 : Nat) ^ 66 = 256 ^ 64 * 65536 := by rw [Nat.pow_add 256 64 2]
  omega
theorem Fr.grow {w W W' : World} {L : List (Nat × TypeId × Array Value)} {R : List (Nat × TypeId × Nat)} {row : Option Nat} (h : Fr w W L R) (hg : W.grownBy W' row) (hL : ∀ p ∈ L, some p.1 ≠ row) (hR : ∀ p ∈ R, some p.1 ≠ row) (hw : ∀ g, row = some g → w.heap.size ≤ g) : Fr w W' L R :=
  ⟨h.below.grown hg h.below.size hw, fun p hp => (h.rows p hp).grown hg (hL p hp), fun p hp => by
    obtain ⟨cs, e, k⟩ := h.some_ p hp
    exact ⟨cs, e, k.grown hg (hR p hp)⟩, h.own⟩
end Go.Proofs.YtpliddkdahgbpaaDoor
