/- Layer 14's laws: what comes in: slices of whole numbers, steps; from the form's reading to our words. -/
import Derived.Test.YtiebelmglchbdaaPl
import Derived.Test.YtiebelmglchbdaaRows
import Derived.OpenShut
import Derived.Deep.SlicePairs
import Derived.ChangeArms
import Derived.ChangeOld
import Derived.ShutString
import Derived.ChangeSlices
import Derived.ChangeAt
namespace Go.Proofs.Ytiebelmglchbdaa
set_option linter.unusedVariables false
set_option linter.unusedSimpArgs false
set_option maxRecDepth 100000
open Go Go.RowKit Go.ChangeShapes Go.WideShapes Go.ChangeAt Go.Deep

/-- A slice of whole numbers that was there. -/
structure IP (w : World) (B : Nat) (A : Option Addr) (n : Nat) (l : List Int) : Prop where
  len : l.length = n
  big : ∀ x ∈ l, -9223372036854775808 ≤ x ∧ x < 9223372036854775808
  max_ : n ≤ maxLen
  at_ : 0 < n → ∃ b o, A = some ⟨b, o, none⟩ ∧ b < B ∧ ∀ (j : Nat) (z : Int), l[j]? = some z → w.cell? ⟨b, o + j, none⟩ = some (.int .i64 z)
theorem IP.pk {w : World} {A : Option Addr} {n : Nat} {l : List Int} (h : IP w w.heap.size A n l) (hh : Hep) : PK w hh A n l := by
  refine ⟨h.len, h.big, ?_⟩
  rcases Nat.eq_zero_or_pos n with h0 | h0
  · exact ⟨0, 0, fun hp => by omega⟩
  · obtain ⟨b, o, e, hb, hc⟩ := h.at_ h0
    exact ⟨b, o, fun _ => ⟨e, fun W hW _ i x hx => (hW.cell (p := ⟨b, o + i, none⟩) hb).trans (hc i x hx)⟩⟩
/-- A step. -/
structure St5 where
  k : Int
  n : Int
  m : Int
  f : UInt8
  ps : List Int
/-- .. how it lies. -/
structure SH where
  s : St5
  A : Option Addr
  cp : Nat
def SH.no : SH := ⟨⟨0, 0, 0, 0, []⟩, none, 0⟩
def SH.cs (x : SH) : Array Value := #[.int .i64 x.s.k, .int .i64 x.s.n, .int .i64 x.s.m, bv x.s.f, .slice x.A x.s.ps.length x.cp]
theorem SH.size (x : SH) : x.cs.size = 5 := rfl
structure SOk (w : World) (B : Nat) (x : SH) : Prop where
  k : -9223372036854775808 ≤ x.s.k ∧ x.s.k < 9223372036854775808
  n : -9223372036854775808 ≤ x.s.n ∧ x.s.n < 9223372036854775808
  m : -9223372036854775808 ≤ x.s.m ∧ x.s.m < 9223372036854775808
  ip : IP w B x.A x.s.ps.length x.s.ps
/-- A slice of steps that comes in. -/
structure SL (W : World) (A : Option Addr) (len cap g o : Nat) (sub : Nat → SH) : Prop where
  max_ : len ≤ maxLen
  at_ : 0 < len → A = some ⟨g, o, none⟩ ∧ g < W.heap.size ∧ ∀ i, i < len → ∀ (j : Nat) (v : Value), (sub i).cs[j]? = some v → W.cell? ⟨g, o + i * 5 + j, none⟩ = some v
  ok : ∀ i, i < len → SOk W W.heap.size (sub i)
theorem i64_of {n : Int} (h : (Lit.int .i64 n).wf = true) : -9223372036854775808 ≤ n ∧ n < 9223372036854775808 := by
  have := bounds_i64 h
  omega
theorem u8_ofP {n : Int} (h : (Lit.int .u8 n).wf = true) : .int .u8 n = bv (UInt8.ofNat n.toNat) := by
  have := bounds_u8 h
  have h2 : n.toNat < 256 := by omega
  unfold bv
  rw [UInt8.toNat_ofNat', Nat.mod_eq_of_lt (by simpa using h2)]
  congr 1
  omega
section
variable {H : Type} {enc : TypeId × Value → H} {W : World} {held : Bool}
theorem ip_trod {fuel : Nat} {cs : List Value} {y : DataW H × List MemPlace} (hf : DataW.trod enc Try.prog W 0 (fun _ => true) held fuel 33 cs = some y) : ∃ a len cap l, cs = [.slice a len cap] ∧ IP W W.heap.size a len l := by
  rcases open_ints Try.underlying33 Try.underlying3 (by kernel_rfl) hf with ⟨hcs, _⟩ | ⟨x, l, c, zs, hcs, _, h1, h2, h3, _, h4, h5⟩
  · exact ⟨none, 0, 0, [], hcs, rfl, fun z hz => (by cases hz), Nat.zero_le _, fun h => absurd h (by omega)⟩
  · have h3 : zs.length = c := by simpa using h3
    refine ⟨some x, l, c, zs.take l, hcs, by simp; omega, fun z hz => i64_of (h5 z (List.mem_of_mem_take hz)), by omega, fun hp => ?_⟩
    obtain ⟨b, o, spot⟩ := x
    have hc0 := h4 0 (by omega)
    have hs : spot = none := by simpa [Addr.add] using World.cell?_spot hc0
    subst hs
    refine ⟨b, o, rfl, ?_, fun j y hy => ?_⟩
    · simpa [Addr.add] using World.block_lt_of_cell? W _ hc0
    · rw [List.getElem?_take] at hy
      split at hy
      · rename_i hj
        have hj' : j < zs.length := by omega
        rw [List.getElem?_eq_getElem hj'] at hy
        injection hy with hy
        subst hy
        have := h4 j hj'
        rw [Addr.add_lit] at this
        rw [this]
        simp [List.getD, List.getElem?_eq_getElem hj']
      · cases hy
theorem ip_read {A : Option Addr} {len cap : Nat} {d : DataW H} {p : List MemPlace} (h : DataW.Trod enc Try.prog W 0 (fun _ => true) held 33 (.slice A len cap) d p) : ∃ l, IP W W.heap.size A len l := by
  obtain ⟨fuel, hf⟩ := h
  obtain ⟨a', len', cap', l, h1, h2⟩ := ip_trod hf
  simp [Value.cells] at h1
  obtain ⟨rfl, rfl, rfl⟩ := h1
  exact ⟨l, h2⟩
theorem cells_step : Try.prog.cellsOf 35 = 5 := by kernel_rfl
theorem step_trod {fuel : Nat} {cs : List Value} {y : DataW H × List MemPlace} (h : DataW.trod enc Try.prog W 0 (fun _ => true) held fuel 35 cs = some y) : ∃ x : SH, cs = x.cs.toList ∧ SOk W W.heap.size x := by
  obtain ⟨xs, n, rfl, rfl, hlen, hxs, hel⟩ := DataW.trod_struct Try.underlying35 h
  rw [cells_step] at hlen
  match xs, hxs, cs, hlen with
  | [x0, x1, x2, x3, x4], _, [c0, c1, c2, c3, c4], _ =>
    have h0 : DataW.trod enc Try.prog W 0 (fun _ => true) held n 3 [c0] = some x0 := hel 0 _ rfl
    have h1 : DataW.trod enc Try.prog W 0 (fun _ => true) held n 3 [c1] = some x1 := hel 1 _ rfl
    have h2 : DataW.trod enc Try.prog W 0 (fun _ => true) held n 3 [c2] = some x2 := hel 2 _ rfl
    have h3 : DataW.trod enc Try.prog W 0 (fun _ => true) held n 5 [c3] = some x3 := hel 3 _ rfl
    have h4 : DataW.trod enc Try.prog W 0 (fun _ => true) held n 33 [c4] = some x4 := hel 4 _ rfl
    obtain ⟨k, e0, _, w0⟩ := DataW.trod_int Try.underlying3 h0
    obtain ⟨nn, e1, _, w1⟩ := DataW.trod_int Try.underlying3 h1
    obtain ⟨mm, e2, _, w2⟩ := DataW.trod_int Try.underlying3 h2
    obtain ⟨ff, e3, _, w3⟩ := DataW.trod_int Try.underlying5 h3
    obtain ⟨A, len, cap, l, e4, hip⟩ := ip_trod h4
    injection e0 with e0
    injection e1 with e1
    injection e2 with e2
    injection e3 with e3
    injection e4 with e4
    subst e0 e1 e2 e3 e4
    have hl := hip.len
    subst hl
    refine ⟨⟨⟨k, nn, mm, UInt8.ofNat ff.toNat, l⟩, A, cap⟩, ?_, i64_of w0, i64_of w1, i64_of w2, hip⟩
    show [_, _, _, Value.int .u8 ff, _] = _
    rw [u8_ofP w3]
    rfl
theorem step_read {v : Value} {d : DataW H} {p : List MemPlace} {base : Nat} (hv : Value.okWide Try.prog W .any base 35 v) (h : DataW.Trod enc Try.prog W 0 (fun _ => true) held 35 v d p) : ∃ x : SH, v = .agg x.cs ∧ SOk W W.heap.size x := by
  obtain ⟨cs, rfl, _⟩ : ∃ cs, v = .agg cs ∧ cs.size = Try.prog.cellsOf 35 ∧ Row.okWide Try.prog W .any base 35 cs := by
    simpa [Value.okWide, Try.underlying35] using hv
  obtain ⟨fuel, hf⟩ := h
  obtain ⟨x, e, hx⟩ := step_trod hf
  refine ⟨x, ?_, hx⟩
  have e2 : cs.toList = x.cs.toList := e
  rw [Array.toList_inj.1 e2]
theorem steps_read {A : Option Addr} {len cap : Nat} {d : DataW H} {p : List MemPlace} (h : DataW.Trod enc Try.prog W 0 (fun _ => true) held 22 (.slice A len cap) d p) : ∃ g o sub, SL W A len cap g o sub := by
  obtain ⟨fuel, hf⟩ := h
  rcases DataW.trod_slice Try.underlying22 hf with ⟨e6, _⟩ | ⟨A', len', cap', elems, rest, m, hm, e6, _, _, hl, hc, hlen, hel, _, _⟩
  · simp [Value.cells] at e6
    obtain ⟨rfl, rfl, rfl⟩ := e6
    exact ⟨0, 0, fun _ => SH.no, Nat.zero_le _, fun h => absurd h (Nat.lt_irrefl 0), fun i hi => absurd hi (Nat.not_lt_zero _)⟩
  · simp [Value.cells] at e6
    obtain ⟨rfl, rfl, rfl⟩ := e6
    have hall : ∀ i, ∃ x : SH, i < len → SOk W W.heap.size x ∧ ∀ (j : Nat) (v : Value), x.cs[j]? = some v → W.cell? ((A'.add (i * 5)).add j) = some v := fun i => by
      by_cases hi : i < len
      · have h1 := hel i hi
        have h2 : elems[i]? = some elems[i] := List.getElem?_eq_getElem (by omega)
        rw [h2, Option.bind_eq_some_iff, cells_step] at h1
        obtain ⟨ci, h3, h4⟩ := h1
        obtain ⟨x, rfl, hx⟩ := step_trod h4
        refine ⟨x, fun _ => ⟨hx, fun j v hj => ?_⟩⟩
        have hj7 : j < 5 := by
          have := (Array.getElem?_eq_some_iff.1 hj).1
          rwa [x.size] at this
        rw [(World.cells?_some h3).2.2 j hj7, Array.getElem?_toList]
        exact hj
      · exact ⟨SH.no, fun h => absurd h hi⟩
    obtain ⟨sub, hsub⟩ := Classical.skolem.1 hall
    obtain ⟨g, o, spot⟩ := A'
    refine ⟨g, o, sub, by omega, fun h => ?_, fun i hi => (hsub i hi).1⟩
    have hc0 : W.cell? ⟨g, o, spot⟩ = some (.int .i64 (sub 0).s.k) := (hsub 0 h).2 0 _ rfl
    have hsp : spot = none := World.cell?_spot hc0
    subst hsp
    refine ⟨rfl, World.block_lt_of_cell? W _ hc0, fun i hi j v hv => ?_⟩
    have := (hsub i hi).2 j v hv
    rwa [Addr.add_lit, Addr.add_lit] at this
end
end Go.Proofs.Ytiebelmglchbdaa
