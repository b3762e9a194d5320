/- From the form's reading of arrays of bytes, of words and of slices of bytes to the walks' words. -/
import Derived.Test.YthjechjffhhiiaaDoorIa
import Derived.Test.YthjechjffhhiiaaDoorRow
import Derived.Test.YthjechjffhhiiaaDoorRows
import Derived.Deep.SlicePairs
import Derived.ChangeArms
import Derived.LaidMore
import Derived.ProofKit
import Derived.OpenShut
import Derived.ChangeOld
import Derived.ChangeSlices
import Derived.Below
namespace Go.Proofs.YthjechjffhhiiaaDoor
set_option linter.unusedVariables false
set_option linter.unusedSimpArgs false
set_option maxRecDepth 100000
open Go Go.RowKit Go.ChangeShapes Go.WideShapes Go.ChangeAt Go.Deep

section
variable {H : Type} {enc : TypeId × Value → H} {W : World} {held : Bool}
theorem bs_trod {fuel : Nat} {cs : List Value} {y : DataW H × List MemPlace} (hf : DataW.trod enc Tryd.prog W 0 (fun _ => true) held fuel 22 cs = some y) :
    ∃ a len cap l, cs = [.slice a len cap] ∧ BS W W.heap.size a len cap l ∧ len ≤ maxLen := by
  rcases open_ints Tryd.underlying22 Tryd.underlying5 (by kernel_rfl) hf with ⟨hcs, _⟩ | ⟨x, l, c, zs, hcs, _, hl, hm, hz, _, hcell, hwz⟩
  · exact ⟨none, 0, 0, [], hcs, BS.nil _ _, Nat.zero_le _⟩
  · obtain ⟨l', h1, h2⟩ := bs_of_row (w := W) (a := some x) (len := l) (cap := c) (zs := zs) (.inr ⟨x, rfl, hl, hm, by simpa using hz, hcell, hwz⟩)
    exact ⟨some x, l, c, l', hcs, h1, h2⟩
theorem bs_read {a : Option Addr} {len cap : Nat} {d : DataW H} {p : List MemPlace} (h : DataW.Trod enc Tryd.prog W 0 (fun _ => true) held 22 (.slice a len cap) d p) : ∃ l, BS W W.heap.size a len cap l := by
  obtain ⟨fuel, hf⟩ := h
  obtain ⟨a', len', cap', l, h1, h2, _⟩ := bs_trod hf
  simp [Value.cells] at h1
  obtain ⟨rfl, rfl, rfl⟩ := h1
  exact ⟨l, h2⟩
theorem cells_u8 : Tryd.prog.cellsOf 5 = 1 := by kernel_rfl
def byteOf : Value → UInt8
  | .int _ n => UInt8.ofNat n.toNat
  | _ => 0
/-- An array of N bytes that comes in. -/
theorem arr_open {T : TypeId} {N : Nat} (hu : Tryd.prog.underlying T = some (.array N 5)) (hc : Tryd.prog.cellsOf T = N) {W : World} {base : Nat} {v : Value} {d : DataW H} {p : List MemPlace} (hv : Value.okWide Tryd.prog W .any base T v) (h : DataW.Trod enc Tryd.prog W 0 (fun _ => true) true T v d p) :
    ∃ f : Nat → UInt8, v = .agg (bvs (rb N f)) := by
  obtain ⟨cs, rfl, hsz, _⟩ : ∃ cs, v = .agg cs ∧ cs.size = Tryd.prog.cellsOf T ∧ Row.okWide Tryd.prog W .any base T cs := by
    simpa [Value.okWide, hu] using hv
  rw [hc] at hsz
  obtain ⟨fuel, hf⟩ := h
  obtain ⟨xs, m, rfl, hx, hlen, hn, hel⟩ := DataW.trod_array hu hf
  obtain ⟨l⟩ := cs
  have hlN : l.length = N := by simpa using hsz
  refine ⟨fun i => byteOf (l.getD i undef), ?_⟩
  congr 1
  apply Array.ext_getElem?
  intro i
  rw [bvs_get, show (⟨l⟩ : Array Value)[i]? = l[i]? by simp]
  by_cases hi : i < N
  · have h1 := hel i hi
    rw [cells_u8, Nat.mul_one] at h1
    have hxi : xs[i]? = some xs[i] := List.getElem?_eq_getElem (by omega)
    rw [hxi] at h1
    obtain ⟨k, e1, e2, e3⟩ := DataW.trod_int Tryd.underlying5 h1
    have hli : l[i]? = some l[i] := List.getElem?_eq_getElem (by omega)
    have hd : (l.drop i).take 1 = [l[i]] := by
      rw [List.drop_eq_getElem_cons (by omega)]
      rfl
    have hvi : l[i] = .int .u8 k := by
      have : (l.drop i).take 1 = [.int .u8 k] := e1
      rw [hd] at this
      simpa using this
    rw [rb_get hi, hli, hvi]
    simp only [List.getD, hli, hvi, Option.getD_some, Option.map_some, byteOf]
    rw [bv_def, u8_of e3]
  · rw [List.getElem?_eq_none (by omega), List.getElem?_eq_none (by rw [rb_len]; omega)]
    rfl
theorem u32_of {n : Int} (h : (Lit.int .u32 n).wf = true) : Value.int .u32 n = wc (UInt32.ofNat n.toNat) := by
  have := bounds_u32 h
  unfold wc
  rw [UInt32.toNat_ofNat', Nat.mod_eq_of_lt (by omega)]
  congr 1
  omega
end
end Go.Proofs.YthjechjffhhiiaaDoor
