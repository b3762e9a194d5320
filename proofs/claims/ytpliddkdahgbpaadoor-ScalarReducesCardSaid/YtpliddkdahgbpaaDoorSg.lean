/- From the statements' words to the walks': 64 bytes that come in are a number's. -/
import Derived.Test.YtpliddkdahgbpaaDoorSc
import Derived.Test.YtpliddkdahgbpaaDoorSu
namespace Go.Proofs.YtpliddkdahgbpaaDoor
set_option linter.unusedVariables false
set_option linter.unusedSimpArgs false
open Go.ChangeShapes Go.WideShapes Go.ChangeAt Go.RowKit

theorem lb_numL {l : List Nat} (h : l.length = 64) (hl : ∀ b ∈ l, b < 256) : lb (numL l) = l := by
  apply List.ext_getElem?
  intro i
  by_cases hi : i < 64
  · rw [lb_get _ hi, numL_dig l hl i (by omega)]
  · rw [List.getElem?_eq_none (by rw [lb_len]; omega), List.getElem?_eq_none (by omega)]

section
variable {H : Type} {enc : TypeId × Value → H}
theorem cells_long : Tryd.prog.cellsOf 23 = 64 := by kernel_rfl
theorem long_open {W : World} {base : Nat} {v : Value} {d : DataW H} {p : List MemPlace} (hv : Value.okWide Tryd.prog W .any base 23 v) (h : DataW.Trod enc Tryd.prog W 0 (fun _ => true) true 23 v d p) :
    ∃ n, v = .agg (ls n) ∧ n < 13407807929942597099574024998205846127479365820592393377723561443721764030073546976801874298166903427690031858186486050853753882811946569946433649006084096 := by
  obtain ⟨cs, rfl, hsz, _⟩ : ∃ cs, v = .agg cs ∧ cs.size = Tryd.prog.cellsOf 23 ∧ Row.okWide Tryd.prog W .any base 23 cs := by
    simpa [Value.okWide, Tryd.underlying23] using hv
  rw [cells_long] at hsz
  obtain ⟨fuel, hf⟩ := h
  obtain ⟨xs, m, rfl, hx, hlen, hn, hel⟩ := DataW.trod_array Tryd.underlying23 hf
  obtain ⟨l⟩ := cs
  have hl64 : l.length = 64 := by simpa using hsz
  have hcell : ∀ i, i < 64 → ∃ b : Nat, l[i]? = some (.int .u8 (b : Int)) ∧ b < 256 := by
    intro i hi
    have h1 := hel i hi
    rw [cells_u8, Nat.mul_one] at h1
    have hxi : xs[i]? = some xs[i] := List.getElem?_eq_getElem (by omega)
    rw [hxi] at h1
    obtain ⟨k, e1, e2, e3⟩ := DataW.trod_int Tryd.underlying5 h1
    have hli : l[i]? = some l[i] := List.getElem?_eq_getElem (by omega)
    have hd : (l.drop i).take 1 = [l[i]] := by
      rw [List.drop_eq_getElem_cons (by omega)]
      rfl
    have hv : l[i] = .int .u8 k := by
      have : (l.drop i).take 1 = [.int .u8 k] := e1
      rw [hd] at this
      simpa using this
    have hk : 0 ≤ k ∧ k < 256 := by
      have := e3
      simp [Lit.wf, IntKind.min, IntKind.max, IntKind.signed, IntKind.bits] at this
      omega
    obtain ⟨b, rfl⟩ := Int.eq_ofNat_of_zero_le hk.1
    exact ⟨b, by rw [hli, hv], by omega⟩
  have hmap : l = (l.map natOf).map (nc .u8) := by
    apply List.ext_getElem?
    intro i
    by_cases hi : i < 64
    · obtain ⟨b, hb, _⟩ := hcell i hi
      rw [List.getElem?_map, List.getElem?_map, hb]
      rfl
    · rw [List.getElem?_eq_none (by omega), List.getElem?_eq_none (by simp; omega)]
  have hlt : ∀ b ∈ l.map natOf, b < 256 := by
    intro b hb
    obtain ⟨x, hx, rfl⟩ := List.mem_map.1 hb
    obtain ⟨i, hi, rfl⟩ := List.getElem_of_mem hx
    obtain ⟨c, hc, hc2⟩ := hcell i (by omega)
    rw [List.getElem?_eq_getElem hi] at hc
    injection hc with hc
    rw [hc]
    exact hc2
  refine ⟨numL (l.map natOf), ?_, ?_⟩
  · rw [ls, lb_numL (by simp [hl64]) hlt, ncs, ← hmap]
  · have := numL_lt (l.map natOf) hlt
    rw [List.length_map, hl64] at this
    exact this
end

end Go.Proofs.YtpliddkdahgbpaaDoor
