/- Layer 14's laws: a slice of bytes that comes in: from the form's reading to our words. -/
import Derived.Test.YtiebelmglchbdaaPm
namespace Go.Proofs.Ytiebelmglchbdaa
set_option linter.unusedVariables false
set_option linter.unusedSimpArgs false
open Go Go.RowKit Go.ChangeShapes Go.WideShapes Go.ChangeAt Go.Deep

theorem bsP_read {H : Type} {enc : TypeId × Value → H} {W : World} {held : Bool} {a : Option Addr} {len cap : Nat} {d : DataW H} {p : List MemPlace} (h : DataW.Trod enc Try.prog W 0 (fun _ => true) held 39 (.slice a len cap) d p) : ∃ l, BS W W.heap.size a len cap l ∧ len ≤ maxLen := by
  obtain ⟨fuel, hf⟩ := h
  rcases open_ints Try.underlying39 Try.underlying5 (by kernel_rfl) hf with ⟨hcs, _⟩ | ⟨x, l, c, zs, hcs, _, h1, h2, h3, _, h4, h5⟩
  · simp [Value.cells] at hcs
    obtain ⟨rfl, rfl, rfl⟩ := hcs
    exact ⟨[], BS.nil _ _, Nat.zero_le _⟩
  · simp [Value.cells] at hcs
    obtain ⟨rfl, rfl, rfl⟩ := hcs
    have h3 : zs.length = cap := by simpa using h3
    refine ⟨(zs.take len).map fun n => UInt8.ofNat n.toNat, ⟨by simp; omega, h1, by intro e; (cases e), fun hp => ?_⟩, by omega⟩
    obtain ⟨b, o, spot⟩ := x
    have hc0 := h4 0 (by omega)
    have hs : spot = none := by simpa [Addr.add] using World.cell?_spot hc0
    subst hs
    refine ⟨b, o, rfl, ?_, fun j y hy => ?_⟩
    · simpa [Addr.add] using World.block_lt_of_cell? W _ hc0
    · rw [List.getElem?_map, List.getElem?_take] at hy
      split at hy
      · rename_i hj
        have hj' : j < zs.length := by omega
        rw [List.getElem?_eq_getElem hj'] at hy
        simp only [Option.map_some, Option.some.injEq] at hy
        subst hy
        have := h4 j hj'
        rw [Addr.add_lit] at this
        rw [this]
        have h6 := u8_ofP (h5 _ (List.getElem_mem hj'))
        simp only [List.getD, List.getElem?_eq_getElem hj', Option.getD_some]
        rw [h6]
        rfl
      · simp at hy
end Go.Proofs.Ytiebelmglchbdaa
