/- From the statements' words to the walks' for a seat whose rows list blake.start and blake.orders: the variables as the program's text lays them. -/
import Derived.Test.YthjechjffhhiiaaDoorRows
import Derived.Test.YthjechjffhhiiaaDoorBq
import Derived.Test.YthjechjffhhiiaaDoorIk
import Derived.ProofKit
import Derived.LaidMore
import Derived.OpenShut
import Derived.Stop.Joined
import Derived.ChangeOld
import Derived.Below
import Derived.Deep.SlicePairs
import Derived.ChangeArms
namespace Go.Proofs.YthjechjffhhiiaaDoor
set_option linter.unusedVariables false
set_option linter.unusedSimpArgs false
set_option maxRecDepth 100000
open Go.ChangeShapes Go.WideShapes Go.ChangeAt Go.RowKit Go.Deep

theorem own : ownKnob Tryd.prog.godebug = none := by kernel_rfl
theorem laidOut : laidOutB Tryd.prog = true := by kernel_rfl
def laidP : List (String × DataW Unit) := [("escutcheon/blake.start", Rows.laid_escutcheon_blake_start), ("escutcheon/blake.orders", Rows.laid_escutcheon_blake_orders)]
theorem door_met (os : Os) (args : Array Value) : laidMetH Tryd.prog laidP ((World.doorLaid Tryd.prog 400 os).forCall (fun _ _ => 0) ⟨#[], args, []⟩).memory :=
  laidMetH_of_parts3 (fuel := 8) (laidMet_of_run' 8 (by kernel_rfl) (by kernel_rfl)) (by kernel_rfl) (by kernel_rfl)
theorem cells_u32 : Tryd.prog.cellsOf 45 = 1 := by kernel_rfl
theorem cells_int : Tryd.prog.cellsOf 3 = 1 := by kernel_rfl
theorem cells_a16 : Tryd.prog.cellsOf 69 = 16 := by kernel_rfl
def litsOf (K : IntKind) (L : List Nat) : List (DataW Unit) := L.map fun x => .lit (.int K ((x : Nat) : Int))
/-- An array of numbers, cell by cell. -/
theorem ints_cells {W : World} {et t : TypeId} {K : IntKind} {k fuel : Nat} {cs : List Value} {L : List Nat} {p : List MemPlace} {held : Bool} (he : Tryd.prog.underlying et = some (.int K)) (hc1 : Tryd.prog.cellsOf et = 1) (hu : Tryd.prog.underlying t = some (.array k et)) (hc : Tryd.prog.cellsOf t = k)
    (hd : DataW.trod (fun _ => ()) Tryd.prog W 0 (fun _ => true) held fuel t cs = some (.agg (litsOf K L), p)) (hk : k = L.length) : ∀ i x : Nat, L[i]? = some x → cs[i]? = some (.int K (x : Int)) := by
  obtain ⟨xs, m1, rfl, hx1, hlen, hn3, hel⟩ := DataW.trod_array hu hd
  simp only [Prod.mk.injEq, DataW.agg.injEq] at hx1
  intro i x hx
  have hi : i < k := by rw [hk]; exact (List.getElem?_eq_some_iff.1 hx).1
  have h1 := hel i hi
  rw [hc1, Nat.mul_one] at h1
  have hxi : xs[i]? = some xs[i] := List.getElem?_eq_getElem (by omega)
  rw [hxi] at h1
  obtain ⟨z, e1, e2, e3⟩ := DataW.trod_int he h1
  have hl : i < cs.length := by rw [hlen, hc]; omega
  have hd : (cs.drop i).take 1 = [cs[i]] := by
    rw [List.drop_eq_getElem_cons hl]
    rfl
  have h2 : cs[i]? = some (.int K z) := by
    have : (cs.drop i).take 1 = [.int K z] := e1
    rw [hd] at this
    rw [List.getElem?_eq_getElem hl]
    simpa using this
  have h3 : (xs.map (·.1))[i]? = some (.lit (.int K z)) := by
    rw [List.getElem?_map, hxi]
    simp [e2]
  rw [← hx1.1, litsOf, List.getElem?_map, hx] at h3
  injection h3 with h3
  injection h3 with h3
  injection h3 with h3 h4
  rw [h2, h4]
/-- An array of these. -/
theorem rows_cells {W : World} {et t tt : TypeId} {K : IntKind} {k m fuel : Nat} {cs : List Value} {R : List (List Nat)} {p : List MemPlace} {held : Bool} (he : Tryd.prog.underlying et = some (.int K)) (hc1 : Tryd.prog.cellsOf et = 1) (hu : Tryd.prog.underlying t = some (.array k et)) (hc : Tryd.prog.cellsOf t = k)
    (hu2 : Tryd.prog.underlying tt = some (.array m t)) (hd : DataW.trod (fun _ => ()) Tryd.prog W 0 (fun _ => true) held fuel tt cs = some (.agg (R.map fun L => .agg (litsOf K L)), p)) (hm : m = R.length) (hk : ∀ L ∈ R, k = L.length) :
    ∀ (r : Nat) (L : List Nat), R[r]? = some L → ∀ i x : Nat, L[i]? = some x → cs[k * r + i]? = some (.int K (x : Int)) := by
  obtain ⟨xs, m1, rfl, hx1, hlen, hn3, hel⟩ := DataW.trod_array hu2 hd
  simp only [Prod.mk.injEq, DataW.agg.injEq] at hx1
  intro r L hL i x hx
  have hr : r < m := by rw [hm]; exact (List.getElem?_eq_some_iff.1 hL).1
  have h1 := hel r hr
  rw [hc] at h1
  have hxr : xs[r]? = some xs[r] := List.getElem?_eq_getElem (by omega)
  have hdat : xs[r].1 = .agg (litsOf K L) := by
    have h3 : (xs.map (·.1))[r]? = some xs[r].1 := by rw [List.getElem?_map, hxr]; rfl
    rw [← hx1.1, List.getElem?_map, hL] at h3
    exact (Option.some.inj h3).symm
  rw [hxr, show xs[r] = (.agg (litsOf K L), xs[r].2) by rw [← hdat]] at h1
  have hLk := hk L (List.mem_of_getElem? hL)
  have h2 := ints_cells he hc1 hu hc h1 hLk i x hx
  have hi : i < k := by rw [hLk]; exact (List.getElem?_eq_some_iff.1 hx).1
  rw [List.getElem?_take, if_pos hi, List.getElem?_drop, Nat.mul_comm] at h2
  exact h2
theorem gS : Tryd.prog.globalNamed "escutcheon/blake.start" = some 0 := by kernel_rfl
theorem gO : Tryd.prog.globalNamed "escutcheon/blake.orders" = some 1 := by kernel_rfl
theorem tS : (Tryd.prog.globals[0]?).map (·.type) = some 58 := by kernel_rfl
theorem tO : (Tryd.prog.globals[1]?).map (·.type) = some 70 := by kernel_rfl
theorem cells_bst : Tryd.prog.cellsOf 58 = 8 := by kernel_rfl
theorem lS : Rows.laid_escutcheon_blake_start = .agg (litsOf .u32 [1779033703, 3144134277, 1013904242, 2773480762, 1359893119, 2600822924, 528734635, 1541459225]) := by kernel_rfl
theorem lO : Rows.laid_escutcheon_blake_orders = .agg (ORD.map fun L => .agg (litsOf .i64 L)) := by kernel_rfl
theorem iv_words : ∀ i, i < 8 → ([1779033703, 3144134277, 1013904242, 2773480762, 1359893119, 2600822924, 528734635, 1541459225] : List Nat)[i]? = some (ivB i).toNat := by decide +kernel
theorem ord_rows : ∀ r, r < 10 → ∃ L, ORD[r]? = some L ∧ ∀ i, i < 16 → L[i]? = some (ord r i) := by
  intro r hr
  have h : ∀ r, r < 10 → ∀ i, i < 16 → (ORD.getD r [])[i]? = some (ord r i) := by decide +kernel
  have hl : r < ORD.length := hr
  refine ⟨ORD[r], List.getElem?_eq_getElem hl, fun i hi => ?_⟩
  have := h r hr i hi
  rw [List.getD_eq_getElem?_getD, List.getElem?_eq_getElem hl] at this
  exact this
theorem pg_of_laid {W : World} (h : laidMetH Tryd.prog laidP W) : PG W := by
  rw [MakeChecks.laidMetH_plain _ _ _ (by kernel_rfl)] at h
  obtain ⟨ps, ⟨g0, t0, cs0, f0, p0, q0, hg0, ht0, hv0, hd0, ⟨g1, t1, cs1, f1, p1, q1, hg1, ht1, hv1, hd1, _, _⟩, _⟩, _, _⟩ := h
  obtain rfl := Option.some.inj (gS.symm.trans hg0)
  obtain rfl := Option.some.inj (tS.symm.trans ht0)
  obtain rfl := Option.some.inj (gO.symm.trans hg1)
  obtain rfl := Option.some.inj (tO.symm.trans ht1)
  rw [lS] at hd0
  rw [lO] at hd1
  have c0 := ints_cells Tryd.underlying45 cells_u32 Tryd.underlying58 cells_bst hd0 rfl
  have c1 := rows_cells Tryd.underlying3 cells_int Tryd.underlying69 cells_a16 Tryd.underlying70 hd1 rfl (by decide)
  have s0 : ∀ i, i < 8 → W.cell? ⟨0, i, none⟩ = some (wc (ivB i)) := fun i hi => by
    rw [World.var?_cell gS hv0 i, ← Array.getElem?_toList, c0 i _ (iv_words i hi)]
    rfl
  have s1 : ∀ r, r < 10 → ∀ i, i < 16 → W.cell? ⟨1, 16 * r + i, none⟩ = some (.int .i64 ((ord r i : Nat) : Int)) := fun r hr i hi => by
    obtain ⟨L, hL, hLi⟩ := ord_rows r hr
    rw [World.var?_cell gO hv1 _, ← Array.getElem?_toList, c1 r L hL i _ (hLi i hi)]
  exact ⟨block_lt_of_cell (s1 0 (by decide) 0 (by decide)), s0, s1⟩
end Go.Proofs.YthjechjffhhiiaaDoor
