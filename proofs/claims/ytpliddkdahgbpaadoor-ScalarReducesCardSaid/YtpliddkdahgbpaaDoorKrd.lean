/- The walk of ScalarReduces. -/
import Derived.Test.YtpliddkdahgbpaaDoorSu
import Derived.Deep.DeepCutAuto
import Derived.Deep.CutBlock
namespace Go.Proofs.YtpliddkdahgbpaaDoor
set_option linter.unusedVariables false
set_option linter.unusedSimpArgs false
open Go.RowKit

theorem ls_bvs (N : Nat) : ls N = bvs (kbl N 64) := by
  rw [ls, ncs, bvs]
  congr 1
  rw [lb, kbl, List.map_map, List.map_map]
  apply List.map_congr_left
  intro i _
  have h : N / 256 ^ i % 256 < 256 := Nat.mod_lt _ (by omega)
  show nc .u8 _ = bv _
  rw [bv_def, u8_nat h]
  rfl
theorem bs_long {W : World} {g N B : Nat} (h : Blk W g 23 (ls N)) (hB : g < B) : BS W B (some ⟨g, 0, none⟩) 64 64 (kbl N 64) := by
  rw [ls_bvs] at h
  exact BS.ofBlk h 64 (kbl_len N 64).symm B hB
theorem reduceR {N r : Nat} (h : r = N % LL) (w : World) (hog : OG w) (hN : N < 256 ^ 64) : Calls Tryd.prog 8 #[.agg (ls N)] w (KeyPost r w) := by
  rw [h]
  exact reduce_any N w hog hN
theorem clampR {n c : Nat} (h : c = clampN n) (w : World) : Calls Tryd.prog 12 #[.agg (ks n)] w (KeyPost c w) := by
  rw [h]
  exact clamp_any n w
theorem rclampR {n c : Nat} (h : c = clampN n) (w : World) : Calls Tryd.prog 13 #[.agg (ks n)] w (KeyPost c w) := by
  rw [h]
  exact rclamp_any n w
end Go.Proofs.YtpliddkdahgbpaaDoor
