/- From the form's reading of a slice of integers to our words. -/
import Derived.Test.YtkohaibihkckbaaDoorBs
import Derived.Test.YtkohaibihkckbaaDoorRows
import Derived.OpenShut
import Derived.Deep.SlicePairs
import Derived.ChangeArms
namespace Go.Proofs.YtkohaibihkckbaaDoor
set_option linter.unusedVariables false
set_option linter.unusedSimpArgs false
open Go Go.RowKit Go.ChangeShapes Go.WideShapes Go.Deep

section
variable {H : Type} {enc : TypeId × Value → H} {W : World} {held : Bool}
theorem is_read {a : Option Addr} {len cap : Nat} {d : DataW H} {p : List MemPlace} (h : DataW.Trod enc Tryd.prog W 0 (fun _ => true) held 23 (.slice a len cap) d p) : ∃ zs, IS W W.heap.size a len zs := by
  obtain ⟨fuel, hf⟩ := h
  rcases open_ints Tryd.underlying23 Tryd.underlying3 (by kernel_rfl) hf with ⟨hcs, _⟩ | ⟨x, l, c, zs, hcs, _, h1, h2, h3, _, h4, h5⟩
  · simp [Value.cells] at hcs
    obtain ⟨rfl, rfl, rfl⟩ := hcs
    exact ⟨[], ⟨rfl, fun h => absurd h (by omega), fun z hz => by cases hz⟩⟩
  · simp [Value.cells] at hcs
    obtain ⟨rfl, rfl, rfl⟩ := hcs
    have h3 : zs.length = cap := by simpa using h3
    refine ⟨zs.take len, ⟨by simp; omega, fun hp => ?_, fun z hz => ?_⟩⟩
    · obtain ⟨b, o, spot⟩ := x
      have hc0 := h4 0 (by omega)
      have hs : spot = none := by simpa [Addr.add] using World.cell?_spot hc0
      subst hs
      refine ⟨b, o, rfl, ?_, fun j y hy => ?_⟩
      · simpa [Addr.add] using World.block_lt_of_cell? W _ hc0
      · rw [List.getElem?_take] at hy
        split at hy
        · rename_i hj
          have hj' : j < zs.length := by omega
          rw [List.getElem?_eq_getElem hj'] at hy
          injection hy with hy
          subst hy
          have := h4 j hj'
          rw [Addr.add_lit] at this
          rw [this]
          simp [List.getD, List.getElem?_eq_getElem hj']
        · cases hy
    · have := h5 z (List.mem_of_mem_take hz)
      have h6 := bounds_i64 this
      omega
end
end Go.Proofs.YtkohaibihkckbaaDoor
