/- From the statements' words to the walks': the variable primes as the program's text lays it. -/
import Derived.Test.YtagifgadcbhinaaDoorRows
import Derived.Test.YtagifgadcbhinaaDoorHz
import Derived.ProofKit
import Derived.LaidMore
import Derived.OpenShut
import Derived.Stop.Joined
import Derived.ChangeOld
import Derived.Below
namespace Go.Proofs.YtagifgadcbhinaaDoor
set_option linter.unusedVariables false
set_option linter.unusedSimpArgs false
open Go.ChangeShapes Go.WideShapes Go.ChangeAt Go.RowKit

theorem own : ownKnob Tryd.prog.godebug = none := by kernel_rfl
theorem laidOut : laidOutB Tryd.prog = true := by kernel_rfl
/-! The variable. -/
def laidP : List (String × DataW Unit) := [("escutcheon/sha.primes", Rows.laid_escutcheon_sha_primes)]
theorem gP : Tryd.prog.globalNamed "escutcheon/sha.primes" = some 0 := by kernel_rfl
theorem tP : (Tryd.prog.globals[0]?).map (·.type) = some 41 := by kernel_rfl
theorem cells_u64 : Tryd.prog.cellsOf 35 = 1 := by kernel_rfl
theorem door_met (os : Os) (args : Array Value) : laidMetH Tryd.prog laidP ((World.doorLaid Tryd.prog 400 os).forCall (fun _ _ => 0) ⟨#[], args, []⟩).memory :=
  laidMetH_of_parts3 (fuel := 8) (laidMet_of_run' 8 (by kernel_rfl) (by kernel_rfl)) (by kernel_rfl) (by kernel_rfl)
theorem pm_of_laid {W : World} (h : laidMetH Tryd.prog laidP W) : PM W := by
  rw [MakeChecks.laidMetH_plain _ _ _ (by kernel_rfl)] at h
  obtain ⟨ps, ⟨g0, t0, cs0, f0, p0, q0, hg0, ht0, hv0, hd0, _, _⟩, _, _⟩ := h
  obtain rfl := Option.some.inj (gP.symm.trans hg0)
  obtain rfl := Option.some.inj (tP.symm.trans ht0)
  obtain ⟨xs, m1, rfl, hx1, hlen, hn3, hel⟩ := DataW.trod_array Tryd.underlying41 hd0
  have hc80 : Tryd.prog.cellsOf 41 = 80 := by kernel_rfl
  simp only [Prod.mk.injEq, Rows.laid_escutcheon_sha_primes, DataW.agg.injEq] at hx1
  have hcell : ∀ i : Nat, i < 80 → ∃ k : Int, cs0.toList[i]? = some (.int .u64 k) ∧ (xs.map (·.1))[i]? = some (.lit (.int .u64 k)) := by
    intro i hi
    have h1 := hel i hi
    rw [cells_u64, Nat.mul_one] at h1
    have hxi : xs[i]? = some xs[i] := List.getElem?_eq_getElem (by omega)
    rw [hxi] at h1
    obtain ⟨k, e1, e2, e3⟩ := DataW.trod_int Tryd.underlying35 h1
    have hl : i < cs0.toList.length := by rw [hlen, hc80]; omega
    have hd : (cs0.toList.drop i).take 1 = [cs0.toList[i]] := by
      rw [List.drop_eq_getElem_cons hl]
      rfl
    refine ⟨k, ?_, ?_⟩
    · have : (cs0.toList.drop i).take 1 = [.int .u64 k] := e1
      rw [hd] at this
      rw [List.getElem?_eq_getElem hl]
      simpa using this
    · rw [List.getElem?_map, hxi]
      simp [e2]
  have hlist : ∀ ys : List (DataW Unit), [DataW.lit (H := Unit) (.int .u64 2), .lit (.int .u64 3), .lit (.int .u64 5), .lit (.int .u64 7), .lit (.int .u64 11), .lit (.int .u64 13), .lit (.int .u64 17), .lit (.int .u64 19), .lit (.int .u64 23), .lit (.int .u64 29), .lit (.int .u64 31), .lit (.int .u64 37), .lit (.int .u64 41), .lit (.int .u64 43), .lit (.int .u64 47), .lit (.int .u64 53), .lit (.int .u64 59), .lit (.int .u64 61), .lit (.int .u64 67), .lit (.int .u64 71), .lit (.int .u64 73), .lit (.int .u64 79), .lit (.int .u64 83), .lit (.int .u64 89), .lit (.int .u64 97), .lit (.int .u64 101), .lit (.int .u64 103), .lit (.int .u64 107), .lit (.int .u64 109), .lit (.int .u64 113), .lit (.int .u64 127), .lit (.int .u64 131), .lit (.int .u64 137), .lit (.int .u64 139), .lit (.int .u64 149), .lit (.int .u64 151), .lit (.int .u64 157), .lit (.int .u64 163), .lit (.int .u64 167), .lit (.int .u64 173), .lit (.int .u64 179), .lit (.int .u64 181), .lit (.int .u64 191), .lit (.int .u64 193), .lit (.int .u64 197), .lit (.int .u64 199), .lit (.int .u64 211), .lit (.int .u64 223), .lit (.int .u64 227), .lit (.int .u64 229), .lit (.int .u64 233), .lit (.int .u64 239), .lit (.int .u64 241), .lit (.int .u64 251), .lit (.int .u64 257), .lit (.int .u64 263), .lit (.int .u64 269), .lit (.int .u64 271), .lit (.int .u64 277), .lit (.int .u64 281), .lit (.int .u64 283), .lit (.int .u64 293), .lit (.int .u64 307), .lit (.int .u64 311), .lit (.int .u64 313), .lit (.int .u64 317), .lit (.int .u64 331), .lit (.int .u64 337), .lit (.int .u64 347), .lit (.int .u64 349), .lit (.int .u64 353), .lit (.int .u64 359), .lit (.int .u64 367), .lit (.int .u64 373), .lit (.int .u64 379), .lit (.int .u64 383), .lit (.int .u64 389), .lit (.int .u64 397), .lit (.int .u64 401), .lit (.int .u64 409)] = ys → ys = PR.map (fun p : Nat => DataW.lit (H := Unit) (.int .u64 (p : Int))) := fun ys e => e.symm
  have hxs := hlist _ hx1.1
  have hat : ∀ i, i < 80 → W.cell? ⟨0, i, none⟩ = some (.int .u64 ((PR.getD i 0 : Nat) : Int)) := by
    intro i hi
    obtain ⟨k', h1, h2⟩ := hcell i hi
    have hpi : PR[i]? = some (PR.getD i 0) := by simp [List.getD, List.getElem?_eq_getElem (show i < PR.length by rw [PR_len]; exact hi)]
    rw [hxs, List.getElem?_map, hpi] at h2
    injection h2 with h2
    injection h2 with h2
    injection h2 with h2 h3
    have := World.var?_cell hg0 hv0 i
    rw [this, h3]
    rw [← h1]
    simp
  exact ⟨block_lt_of_cell (hat 0 (by omega)), hat⟩
end Go.Proofs.YtagifgadcbhinaaDoor
