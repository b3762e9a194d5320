/- From the statements' words to the walks': a key that comes in is a number's bytes; the variable p as the program's text lays it. -/
import Derived.Test.YtnfckoamjeafhaaDoorRows
import Derived.Test.YtnfckoamjeafhaaDoorFz
import Derived.ProofKit
import Derived.LaidMore
import Derived.OpenShut
import Derived.Stop.Joined
import Derived.ChangeOld
import Derived.Below
namespace Go.Proofs.YtnfckoamjeafhaaDoor
set_option linter.unusedVariables false
set_option linter.unusedSimpArgs false
open Go.ChangeShapes Go.WideShapes Go.ChangeAt Go.RowKit

theorem own : ownKnob Tryd.prog.godebug = none := by kernel_rfl
theorem laidOut : laidOutB Tryd.prog = true := by kernel_rfl

/-- The number of bytes. -/
def numL : List Nat → Nat
  | [] => 0
  | b :: r => b + 256 * numL r
theorem numL_dig : ∀ (l : List Nat), (∀ b ∈ l, b < 256) → ∀ i, i < l.length → some (numL l / 256 ^ i % 256) = l[i]?
  | [], _, i, h => absurd h (by simp)
  | b :: r, hl, 0, _ => by
    have hb := hl b (by simp)
    simp [numL]
    omega
  | b :: r, hl, i + 1, h => by
    have hb := hl b (by simp)
    have ih := numL_dig r (fun c hc => hl c (by simp [hc])) i (by simpa using h)
    have e : (b + 256 * numL r) / 256 ^ (i + 1) = numL r / 256 ^ i := by
      rw [Nat.pow_succ', ← Nat.div_div_eq_div_mul]
      congr 1
      omega
    show some ((b + 256 * numL r) / 256 ^ (i + 1) % 256) = (b :: r)[i + 1]?
    rw [e, ih]
    simp
theorem numL_lt : ∀ (l : List Nat), (∀ b ∈ l, b < 256) → numL l < 256 ^ l.length
  | [], _ => by simp [numL]
  | b :: r, hl => by
    have hb := hl b (by simp)
    have ih := numL_lt r (fun c hc => hl c (by simp [hc]))
    rw [List.length_cons, Nat.pow_succ]
    unfold numL
    omega
theorem kb_numL {l : List Nat} (h : l.length = 32) (hl : ∀ b ∈ l, b < 256) : kb (numL l) = l := by
  apply List.ext_getElem?
  intro i
  by_cases hi : i < 32
  · rw [kb_get _ hi, numL_dig l hl i (by omega)]
  · rw [List.getElem?_eq_none (by rw [kb_len]; omega), List.getElem?_eq_none (by omega)]

section
variable {H : Type} {enc : TypeId × Value → H}
theorem cells_key : Tryd.prog.cellsOf 23 = 32 := by kernel_rfl
theorem cells_u8 : Tryd.prog.cellsOf 5 = 1 := by kernel_rfl
def natOf : Value → Nat
  | .int _ n => n.toNat
  | _ => 0
theorem key_open {W : World} {base : Nat} {v : Value} {d : DataW H} {p : List MemPlace} (hv : Value.okWide Tryd.prog W .any base 23 v) (h : DataW.Trod enc Tryd.prog W 0 (fun _ => true) true 23 v d p) :
    ∃ n, v = .agg (ks n) ∧ n < 115792089237316195423570985008687907853269984665640564039457584007913129639936 := by
  obtain ⟨cs, rfl, hsz, _⟩ : ∃ cs, v = .agg cs ∧ cs.size = Tryd.prog.cellsOf 23 ∧ Row.okWide Tryd.prog W .any base 23 cs := by
    simpa [Value.okWide, Tryd.underlying23] using hv
  rw [cells_key] at hsz
  obtain ⟨fuel, hf⟩ := h
  obtain ⟨xs, m, rfl, hx, hlen, hn, hel⟩ := DataW.trod_array Tryd.underlying23 hf
  obtain ⟨l⟩ := cs
  have hl32 : l.length = 32 := by simpa using hsz
  have hcell : ∀ i, i < 32 → ∃ b : Nat, l[i]? = some (.int .u8 (b : Int)) ∧ b < 256 := by
    intro i hi
    have h1 := hel i hi
    rw [cells_u8, Nat.mul_one] at h1
    have hxi : xs[i]? = some xs[i] := List.getElem?_eq_getElem (by omega)
    rw [hxi] at h1
    obtain ⟨k, e1, e2, e3⟩ := DataW.trod_int Tryd.underlying5 h1
    have hli : l[i]? = some l[i] := List.getElem?_eq_getElem (by omega)
    have hd : (l.drop i).take 1 = [l[i]] := by
      rw [List.drop_eq_getElem_cons (by omega)]
      rfl
    have hv : l[i] = .int .u8 k := by
      have : (l.drop i).take 1 = [.int .u8 k] := e1
      rw [hd] at this
      simpa using this
    have hk : 0 ≤ k ∧ k < 256 := by
      have := e3
      simp [Lit.wf, IntKind.min, IntKind.max, IntKind.signed, IntKind.bits] at this
      omega
    obtain ⟨b, rfl⟩ := Int.eq_ofNat_of_zero_le hk.1
    exact ⟨b, by rw [hli, hv], by omega⟩
  have hmap : l = (l.map natOf).map (nc .u8) := by
    apply List.ext_getElem?
    intro i
    by_cases hi : i < 32
    · obtain ⟨b, hb, _⟩ := hcell i hi
      rw [List.getElem?_map, List.getElem?_map, hb]
      rfl
    · rw [List.getElem?_eq_none (by omega), List.getElem?_eq_none (by simp; omega)]
  have hlt : ∀ b ∈ l.map natOf, b < 256 := by
    intro b hb
    obtain ⟨x, hx, rfl⟩ := List.mem_map.1 hb
    obtain ⟨i, hi, rfl⟩ := List.getElem_of_mem hx
    obtain ⟨c, hc, hc2⟩ := hcell i (by omega)
    rw [List.getElem?_eq_getElem hi] at hc
    injection hc with hc
    rw [hc]
    exact hc2
  refine ⟨numL (l.map natOf), ?_, ?_⟩
  · rw [ks, kb_numL (by simp [hl32]) hlt, ncs, ← hmap]
  · have := numL_lt (l.map natOf) hlt
    rw [List.length_map, hl32] at this
    exact this
end

/-! The variable. -/
def laidP : List (String × DataW Unit) := [("escutcheon/field.p", Rows.laid_escutcheon_field_p)]
theorem gP : Tryd.prog.globalNamed "escutcheon/field.p" = some 0 := by kernel_rfl
theorem tP : (Tryd.prog.globals[0]?).map (·.type) = some 25 := by kernel_rfl
theorem cells_u64 : Tryd.prog.cellsOf 24 = 1 := by kernel_rfl
theorem door_met (os : Os) (args : Array Value) : laidMetH Tryd.prog laidP ((World.doorLaid Tryd.prog 400 os).forCall (fun _ _ => 0) ⟨#[], args, []⟩).memory :=
  laidMetH_of_parts3 (fuel := 8) (laidMet_of_run' 8 (by kernel_rfl) (by kernel_rfl)) (by kernel_rfl) (by kernel_rfl)
theorem pg_of_laid {W : World} (h : laidMetH Tryd.prog laidP W) : PG W := by
  rw [MakeChecks.laidMetH_plain _ _ _ (by kernel_rfl)] at h
  obtain ⟨ps, ⟨g0, t0, cs0, f0, p0, q0, hg0, ht0, hv0, hd0, _, _⟩, _, _⟩ := h
  obtain rfl := Option.some.inj (gP.symm.trans hg0)
  obtain rfl := Option.some.inj (tP.symm.trans ht0)
  obtain ⟨xs, m1, rfl, hx1, hlen, hn3, hel⟩ := DataW.trod_array Tryd.underlying25 hd0
  have hc4 : Tryd.prog.cellsOf 25 = 4 := by kernel_rfl
  simp only [Prod.mk.injEq, Rows.laid_escutcheon_field_p, DataW.agg.injEq] at hx1
  have hcell : ∀ i : Nat, i < 4 → ∃ k : Int, cs0.toList[i]? = some (.int .u64 k) ∧ (xs.map (·.1))[i]? = some (.lit (.int .u64 k)) := by
    intro i hi
    have h1 := hel i hi
    rw [cells_u64, Nat.mul_one] at h1
    have hxi : xs[i]? = some xs[i] := List.getElem?_eq_getElem (by omega)
    rw [hxi] at h1
    obtain ⟨k, e1, e2, e3⟩ := DataW.trod_int Tryd.underlying24 h1
    have hl : i < cs0.toList.length := by rw [hlen, hc4]; omega
    have hd : (cs0.toList.drop i).take 1 = [cs0.toList[i]] := by
      rw [List.drop_eq_getElem_cons hl]
      rfl
    refine ⟨k, ?_, ?_⟩
    · have : (cs0.toList.drop i).take 1 = [.int .u64 k] := e1
      rw [hd] at this
      rw [List.getElem?_eq_getElem hl]
      simpa using this
    · rw [List.getElem?_map, hxi]
      simp [e2]
  have hat : ∀ (i : Nat) (k : Int), i < 4 → [DataW.lit (H := Unit) (.int .u64 18446744073709551597), .lit (.int .u64 18446744073709551615), .lit (.int .u64 18446744073709551615), .lit (.int .u64 9223372036854775807)][i]? = some (.lit (.int .u64 k)) → W.cell? ⟨0, i, none⟩ = some (.int .u64 k) := by
    intro i k hi hk
    obtain ⟨k', h1, h2⟩ := hcell i hi
    rw [← hx1.1] at h2
    rw [hk] at h2
    injection h2 with h2
    injection h2 with h2
    injection h2 with h2 h3
    subst h3
    have := World.var?_cell hg0 hv0 i
    rw [this]
    rw [← h1]
    simp
  have c0 := hat 0 _ (by omega) rfl
  exact ⟨block_lt_of_cell c0, c0, hat 1 _ (by omega) rfl, hat 2 _ (by omega) rfl, hat 3 _ (by omega) rfl⟩
end Go.Proofs.YtnfckoamjeafhaaDoor
