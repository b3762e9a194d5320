/- From the form's reading of a slice of bytes, and of a slice of integers, to our words. -/
import Derived.Test.YtagifgadcbhinaaDoorJc
import Derived.Test.YtagifgadcbhinaaDoorRows
import Derived.OpenShut
import Derived.Deep.SlicePairs
import Derived.ChangeArms
namespace Go.Proofs.YtagifgadcbhinaaDoor
set_option linter.unusedVariables false
set_option linter.unusedSimpArgs false
open Go Go.RowKit Go.ChangeShapes Go.WideShapes Go.Deep

theorem u8_ofI {n : Int} (h : (Lit.int .u8 n).wf = true) : ((UInt8.ofNat n.toNat).toNat : Int) = n := by
  have := bounds_u8 h
  have h2 : n.toNat < 256 := by omega
  rw [UInt8.toNat_ofNat', Nat.mod_eq_of_lt (by simpa using h2)]
  omega
section
variable {H : Type} {enc : TypeId × Value → H} {W : World} {held : Bool}
theorem bs_read {a : Option Addr} {len cap : Nat} {d : DataW H} {p : List MemPlace} (h : DataW.Trod enc Tryd.prog W 0 (fun _ => true) held 22 (.slice a len cap) d p) : ∃ l, BS W W.heap.size a len cap l ∧ len ≤ maxLen := by
  obtain ⟨fuel, hf⟩ := h
  rcases open_ints Tryd.underlying22 Tryd.underlying5 (by kernel_rfl) hf with ⟨hcs, _⟩ | ⟨x, l, c, zs, hcs, _, h1, h2, h3, _, h4, h5⟩
  · simp [Value.cells] at hcs
    obtain ⟨rfl, rfl, rfl⟩ := hcs
    exact ⟨[], BS.nil _ _, Nat.zero_le _⟩
  · simp [Value.cells] at hcs
    obtain ⟨rfl, rfl, rfl⟩ := hcs
    have h3 : zs.length = cap := by simpa using h3
    refine ⟨(zs.take len).map fun n => UInt8.ofNat n.toNat, ⟨by simp; omega, h1, by intro e; (cases e), fun hp => ?_⟩, by omega⟩
    obtain ⟨b, o, spot⟩ := x
    have hc0 := h4 0 (by omega)
    have hs : spot = none := by simpa [Addr.add] using World.cell?_spot hc0
    subst hs
    refine ⟨b, o, rfl, ?_, fun j y hy => ?_⟩
    · simpa [Addr.add] using World.block_lt_of_cell? W _ hc0
    · rw [List.getElem?_map, List.getElem?_take] at hy
      split at hy
      · rename_i hj
        have hj' : j < zs.length := by omega
        rw [List.getElem?_eq_getElem hj'] at hy
        simp only [Option.map_some, Option.some.injEq] at hy
        subst hy
        have := h4 j hj'
        rw [Addr.add_lit] at this
        rw [this, u8_ofI (h5 _ (List.getElem_mem hj'))]
        simp [List.getD, List.getElem?_eq_getElem hj']
      · simp at hy
theorem is_read {a : Option Addr} {len cap : Nat} {d : DataW H} {p : List MemPlace} (h : DataW.Trod enc Tryd.prog W 0 (fun _ => true) held 23 (.slice a len cap) d p) : ∃ zs, IS W W.heap.size a len zs ∧ len ≤ maxLen := by
  obtain ⟨fuel, hf⟩ := h
  rcases open_ints Tryd.underlying23 Tryd.underlying3 (by kernel_rfl) hf with ⟨hcs, _⟩ | ⟨x, l, c, zs, hcs, _, h1, h2, h3, _, h4, h5⟩
  · simp [Value.cells] at hcs
    obtain ⟨rfl, rfl, rfl⟩ := hcs
    exact ⟨[], ⟨rfl, fun h => absurd h (by omega), fun z hz => by cases hz⟩, Nat.zero_le _⟩
  · simp [Value.cells] at hcs
    obtain ⟨rfl, rfl, rfl⟩ := hcs
    have h3 : zs.length = cap := by simpa using h3
    refine ⟨zs.take len, ⟨by simp; omega, fun hp => ?_, fun z hz => ?_⟩, by omega⟩
    · obtain ⟨b, o, spot⟩ := x
      have hc0 := h4 0 (by omega)
      have hs : spot = none := by simpa [Addr.add] using World.cell?_spot hc0
      subst hs
      refine ⟨b, o, rfl, ?_, fun j y hy => ?_⟩
      · simpa [Addr.add] using World.block_lt_of_cell? W _ hc0
      · rw [List.getElem?_take] at hy
        split at hy
        · rename_i hj
          have hj' : j < zs.length := by omega
          rw [List.getElem?_eq_getElem hj'] at hy
          injection hy with hy
          subst hy
          have := h4 j hj'
          rw [Addr.add_lit] at this
          rw [this]
          simp [List.getD, List.getElem?_eq_getElem hj']
        · cases hy
    · have := h5 z (List.mem_of_mem_take hz)
      have h6 := bounds_i64 this
      omega
end
end Go.Proofs.YtagifgadcbhinaaDoor
