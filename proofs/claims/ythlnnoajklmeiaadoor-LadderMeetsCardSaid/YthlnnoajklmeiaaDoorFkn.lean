/- The chapter's rows: 'known' answers true. -/
import Derived.Test.YthlnnoajklmeiaaDoorFi
namespace Go.Proofs.YthlnnoajklmeiaaDoor
set_option linter.unusedVariables false
set_option linter.unusedSimpArgs false
open Go.RowKit

theorem invR {x y : Fin PP} (h : y = x ^ (PP - 2)) (w : World) (hp : PG w) : Calls Tryd.prog 30 #[.agg (ev x)] w (EPost y w) := by
  have h2 := inv_any x w hp
  rw [← h] at h2
  exact h2
theorem four_two : sm 4 = sm 2 * sm 2 := by decide +kernel
theorem two_nz : sm 2 ≠ 0 := by decide +kernel
theorem half_four {y : Fin PP} (h : y = sm 2 ^ (PP - 2)) : y * sm 4 = sm 2 := by
  have h2 := fp_inv PP_prime two_nz
  rw [← h] at h2
  rw [four_two]
  generalize sm 2 = t at *
  grind
theorem less_one : (sm 0 - sm 1).val = PP - 1 := by decide +kernel
theorem row_0 : (ks (PP - 1))[0]? = some (.int .u8 236) := by
  rw [ks_get _ (by omega), show (PP - 1) / 256 ^ 0 % 256 = 236 by decide +kernel]
  rfl
theorem row_1 : (ks (PP - 1))[1]? = some (.int .u8 255) := by
  rw [ks_get _ (by omega), show (PP - 1) / 256 ^ 1 % 256 = 255 by decide +kernel]
  rfl
theorem row_30 : (ks (PP - 1))[30]? = some (.int .u8 255) := by
  rw [ks_get _ (by omega), show (PP - 1) / 256 ^ 30 % 256 = 255 by decide +kernel]
  rfl
theorem row_31 : (ks (PP - 1))[31]? = some (.int .u8 127) := by
  rw [ks_get _ (by omega), show (PP - 1) / 256 ^ 31 % 256 = 127 by decide +kernel]
  rfl
theorem bytes_row {x : Fin PP} {n : Nat} (h : x.val = n) (w : World) : Calls Tryd.prog 31 #[.agg (ev x)] w (KeyPost n w) := by
  subst h
  exact bytesF x w
end Go.Proofs.YthlnnoajklmeiaaDoor
