/- From the statements' words to the walks' for a seat whose rows list poly.p: the variable as the program's text lays it. -/
import Derived.Test.YtghbknebaknmjaaDoorRows
import Derived.Test.YtghbknebaknmjaaDoorQh
import Derived.Test.YtghbknebaknmjaaDoorIk
import Derived.ProofKit
import Derived.LaidMore
import Derived.OpenShut
import Derived.Stop.Joined
import Derived.ChangeOld
import Derived.Below
import Derived.Deep.SlicePairs
import Derived.ChangeArms
namespace Go.Proofs.YtghbknebaknmjaaDoor
set_option linter.unusedVariables false
set_option linter.unusedSimpArgs false
set_option maxRecDepth 100000
open Go.ChangeShapes Go.WideShapes Go.ChangeAt Go.RowKit Go.Deep

theorem own : ownKnob Tryd.prog.godebug = none := by kernel_rfl
theorem laidOut : laidOutB Tryd.prog = true := by kernel_rfl
def laidP : List (String × DataW Unit) := [("escutcheon/poly.p", Rows.laid_escutcheon_poly_p)]
theorem door_met (os : Os) (args : Array Value) : laidMetH Tryd.prog laidP ((World.doorLaid Tryd.prog 400 os).forCall (fun _ _ => 0) ⟨#[], args, []⟩).memory :=
  laidMetH_of_parts3 (fuel := 8) (laidMet_of_run' 8 (by kernel_rfl) (by kernel_rfl)) (by kernel_rfl) (by kernel_rfl)
theorem cells_u64 : Tryd.prog.cellsOf 24 = 1 := by kernel_rfl
def litsOf (L : List Nat) : List (DataW Unit) := L.map fun x => .lit (.int .u64 ((x : Nat) : Int))
/-- A listed array's cells. -/
theorem var_cells {W : World} {nm : String} {g : Nat} {t : TypeId} {k fuel : Nat} {cs : Array Value} {L : List Nat} {p : List MemPlace} (hg : Tryd.prog.globalNamed nm = some g) (hv : W.var? Tryd.prog nm = some cs) (hu : Tryd.prog.underlying t = some (.array k 24)) (hc : Tryd.prog.cellsOf t = k)
    (hd : DataW.trod (fun _ => ()) Tryd.prog W 0 (fun _ => true) false fuel t cs.toList = some (.agg (litsOf L), p)) (hk : k = L.length) : ∀ i x : Nat, L[i]? = some x → W.cell? ⟨g, i, none⟩ = some (.int .u64 (x : Int)) := by
  obtain ⟨xs, m1, rfl, hx1, hlen, hn3, hel⟩ := DataW.trod_array hu hd
  simp only [Prod.mk.injEq, DataW.agg.injEq] at hx1
  intro i x hx
  have hi : i < k := by rw [hk]; exact (List.getElem?_eq_some_iff.1 hx).1
  have h1 := hel i hi
  rw [cells_u64, Nat.mul_one] at h1
  have hxi : xs[i]? = some xs[i] := List.getElem?_eq_getElem (by omega)
  rw [hxi] at h1
  obtain ⟨z, e1, e2, e3⟩ := DataW.trod_int Tryd.underlying24 h1
  have hl : i < cs.toList.length := by rw [hlen, hc]; omega
  have hd : (cs.toList.drop i).take 1 = [cs.toList[i]] := by
    rw [List.drop_eq_getElem_cons hl]
    rfl
  have h2 : cs.toList[i]? = some (.int .u64 z) := by
    have : (cs.toList.drop i).take 1 = [.int .u64 z] := e1
    rw [hd] at this
    rw [List.getElem?_eq_getElem hl]
    simpa using this
  have h3 : (xs.map (·.1))[i]? = some (.lit (.int .u64 z)) := by
    rw [List.getElem?_map, hxi]
    simp [e2]
  rw [← hx1.1, litsOf, List.getElem?_map, hx] at h3
  injection h3 with h3
  injection h3 with h3
  injection h3 with h3 h4
  have := World.var?_cell hg hv i
  rw [this, h4, ← h2]
  simp
theorem gP : Tryd.prog.globalNamed "escutcheon/poly.p" = some 0 := by kernel_rfl
theorem tP : (Tryd.prog.globals[0]?).map (·.type) = some 62 := by kernel_rfl
theorem cells_n3 : Tryd.prog.cellsOf 62 = 3 := by kernel_rfl
theorem lP : Rows.laid_escutcheon_poly_p = .agg (litsOf [18446744073709551611, 18446744073709551615, 3]) := by kernel_rfl
theorem PM_words : wdg PM 0 = 18446744073709551611 ∧ wdg PM 1 = 18446744073709551615 ∧ wdg PM 2 = 3 := by decide +kernel
theorem pg_of_laid {W : World} (h : laidMetH Tryd.prog laidP W) : PG W := by
  rw [MakeChecks.laidMetH_plain _ _ _ (by kernel_rfl)] at h
  obtain ⟨ps, ⟨g0, t0, cs0, f0, p0, q0, hg0, ht0, hv0, hd0, _, _⟩, _, _⟩ := h
  obtain rfl := Option.some.inj (gP.symm.trans hg0)
  obtain rfl := Option.some.inj (tP.symm.trans ht0)
  rw [lP] at hd0
  have c0 := var_cells gP hv0 Tryd.underlying62 cells_n3 hd0 rfl
  obtain ⟨w0, w1, w2⟩ := PM_words
  refine ⟨block_lt_of_cell (c0 0 _ rfl), fun i hi => ?_⟩
  obtain rfl | rfl | rfl : i = 0 ∨ i = 1 ∨ i = 2 := by omega
  · rw [w0]; exact c0 0 _ rfl
  · rw [w1]; exact c0 1 _ rfl
  · rw [w2]; exact c0 2 _ rfl
end Go.Proofs.YtghbknebaknmjaaDoor
