/- The document's Order of layer 3. -/
import Derived.Test.YtpliddkdahgbpaaDoorRn
import Derived.Test.YtpliddkdahgbpaaDoorSo
namespace Go.Proofs.YtpliddkdahgbpaaDoor
set_option linter.unusedVariables false
set_option linter.unusedSimpArgs false
open Go.RowKit

/-- The decimals of the text. -/
def NT : Nat := 27742317777372353535851937790883648493
def TXT : ByteArray := { data := #[50, 55, 55, 52, 50, 51, 49, 55, 55, 55, 55, 51, 55, 50, 51, 53, 51, 53, 51, 53, 56, 53, 49, 57, 51, 55, 55, 57, 48, 56, 56, 51, 54, 52, 56, 52, 57, 51] }
def dgt (j : Nat) : Nat := NT / 10 ^ (37 - j) % 10
theorem dgt_lt (j : Nat) : dgt j < 10 := Nat.mod_lt _ (by omega)
theorem txt_at : ∀ j : Fin 38, TXT.data[j.val]?.map (·.toNat) = some (48 + dgt j.val) := by decide +kernel
def pre (j : Nat) : Nat := NT / 10 ^ (38 - j)
theorem pre_step {j : Nat} (hj : j < 38) : pre (j + 1) = 10 * pre j + dgt j := by
  unfold pre dgt
  have h1 : 38 - (j + 1) = 37 - j := by omega
  have h2 : 38 - j = 37 - j + 1 := by omega
  rw [h1, h2, Nat.pow_succ, ← Nat.div_div_eq_div_mul]
  omega
theorem pre_le (j : Nat) : pre j ≤ NT := Nat.div_le_self _ _
theorem pre_end : pre 38 = NT := by decide
theorem pre_start : pre 0 = 0 := by decide
theorem order_put : (ds NT).setIfInBounds 15 (.int .u64 4096) = ds LL := by kernel_rfl
theorem order_top : (ds NT)[15]? = some (.int .u64 0) := by kernel_rfl
end Go.Proofs.YtpliddkdahgbpaaDoor
