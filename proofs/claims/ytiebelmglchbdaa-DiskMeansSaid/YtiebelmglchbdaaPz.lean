/- Package disk (layer 14): writes that are put together. -/
import Derived.Test.YtiebelmglchbdaaPa
namespace Go.Proofs.Ytiebelmglchbdaa
set_option linter.unusedVariables false
set_option linter.unusedSimpArgs false
set_option maxRecDepth 100000
open Go Go.RowKit

theorem bd_write5 (n : Int) (f : Nat → UInt8) (W : World) : (Instr.build 82 [(0, .int .i64 n), (1, .agg (bvs (rb5 f)))].toArray).run Try.prog W = .ok (.agg (.int .i64 n :: (rb5 f).map bv).toArray) W := by kernel_rfl
theorem bd_write {p : Nat × List UInt8} (h : p.2.length = 512) (W : World) : (Instr.build 82 [(0, .int .i64 (p.1 : Int)), (1, .agg (bvs p.2))].toArray).run Try.prog W = .ok (.agg (dwa p)) W := by
  have := bd_write5 (p.1 : Int) (fun i => p.2.getD i 0) W
  rw [← eq_rb5 h] at this
  exact this
theorem bs_write5 (n : Int) (f : Nat → UInt8) (W : World) : (Instr.buildSlice 55 1 [(0, .agg (.int .i64 n :: (rb5 f).map bv).toArray)].toArray).run Try.prog W = .ok (.slice (some ⟨W.heap.size, 0, none⟩) 1 1) (W.alloc (.cells (.int .i64 n :: (rb5 f).map bv).toArray 82)) := by kernel_rfl
theorem bs_write {p : Nat × List UInt8} (h : p.2.length = 512) (W : World) : (Instr.buildSlice 55 1 [(0, .agg (dwa p))].toArray).run Try.prog W = .ok (.slice (some ⟨W.heap.size, 0, none⟩) 1 1) (W.alloc (.cells (dwa p) 82)) := by
  have := bs_write5 (p.1 : Int) (fun i => p.2.getD i 0) W
  rw [← eq_rb5 h] at this
  exact this
end Go.Proofs.Ytiebelmglchbdaa
