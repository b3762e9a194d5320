/- The walk of FieldInverts. -/
import Derived.Test.YtnfckoamjeafhaaDoorFrt
import Derived.Test.YtnfckoamjeafhaaDoorLk
import Derived.Deep.DeepCutAuto
import Derived.Deep.CutBlock
namespace Go.Proofs.YtnfckoamjeafhaaDoor
set_option linter.unusedVariables false
set_option linter.unusedSimpArgs false
open Go.RowKit

theorem rootB {u v r : Fin PP} {b : Bool} (h : (r, b) = rootC EE II u v) (w : World) (hp : PG w) : Calls Tryd.prog 9 #[.agg (ev u), .agg (ev v)] w fun e w' => e = .returned (.tuple #[.agg (ev r), .bool b]) ∧ Below w.heap.size w w' := by
  have h2 := rootX u v w hp
  rw [← h] at h2
  exact h2
theorem wpList_load_wanted {P : Program} {ops : Array Oper} {rest : List Oper} {o : Oper} {a : Act} {w : World} {Q : Exit → Act → World → Prop} (hw : Region.wanted o (yielded ops a.tmps) = true) (ty : TypeId) (x : Operand) (ho : o.op = .load ty x)
    (g : Nat) (hx : a.eval x = .pointer (some ⟨g, 0, none⟩)) (t : TypeId) (cs : Array Value) (fr : Nat × Nat) (d : TypeDesc) (hg : w.heap[g]? = some (.cells cs t fr))
    (hu : P.underlying ty = some d) (hd : (match d with | .struct _ | .array _ _ => true | _ => false) = true) (hi : (P.info? ty).map (·.size) = some cs.size)
    (h : wpList P ops Q rest (a.put o.dst (.agg cs)) w) : wpList P ops Q (o :: rest) a w :=
  wpList_step fun K hK => by
    rw [if_pos hw]
    exact wp_load_row ty x ho g hx t cs fr d hg hu hd hi (hK _ _ h)
theorem fr_world {w W : World} {L : List (Nat × TypeId × Array Value)} {R : List (Nat × TypeId × Nat)} (h : Fr w W L R) : ∃ W', W' = W := ⟨W, rfl⟩
theorem rootS {u r : Fin PP} (h : (r, true) = rootC EE II u (sm 1)) : r * r = u := by
  have h2 := (rootC_spec (p := PP) (e := EE) (i := II) (u := u) (v := sm 1) (by rw [← h])).1
  rw [← h, sm_one] at h2
  have h3 : 1 * (r * r) = u := h2
  grind
theorem root_neg_same {x r s : Fin PP} {b c : Bool} (h : (r, b) = rootC EE II x (sm 1)) (h' : (s, c) = rootC EE II (-x) (sm 1)) : c = b := by
  have h2 := roots_neg (p := PP) (e := EE) (i := II) (x := x) PP_prime PP_EE II_sq
  rw [sm_one] at h h'
  rw [← h, ← h'] at h2
  exact h2.symm
theorem root_prod {x y r t o : Fin PP} {b c d : Bool} (h : (r, b) = rootC EE II x (sm 1)) (h' : (o, d) = rootC EE II y (sm 1)) (h'' : (t, c) = rootC EE II (x * y) (sm 1)) (hbd : b = d) : c = true := by
  rw [sm_one] at h h' h''
  have h2 := roots_mul (p := PP) (e := EE) (i := II) (x := x) (y := y) PP_prime PP_EE II_sq (by rw [← h, ← h']; exact hbd)
  rw [← h''] at h2
  exact h2
theorem root_prod_no {x y r t o : Fin PP} {b d : Bool} (h : (r, b) = rootC EE II x (sm 1)) (h' : (o, d) = rootC EE II y (sm 1)) (h'' : (t, true) = rootC EE II (x * y) (sm 1)) (hbd : b ≠ d) : x * y = sm 0 := by
  rw [sm_one] at h h' h''
  apply Classical.byContradiction
  intro hc
  have h2 := roots_mul_no (p := PP) (e := EE) (i := II) (x := x) (y := y) PP_prime PP_EE II_sq (by rw [← h, ← h']; exact hbd) hc
  rw [← h''] at h2
  cases h2
theorem i_mul {x y ix iy ixy : Fin PP} (h1 : ix = x ^ (PP - 2)) (h2 : iy = y ^ (PP - 2)) (h3 : ixy = (x * y) ^ (PP - 2)) : ixy = ix * iy := by
  rw [h1, h2, h3]
  exact inv_mul x y _
theorem i_inv {x ix iix : Fin PP} (h1 : ix = x ^ (PP - 2)) (h2 : iix = ix ^ (PP - 2)) : iix = x := by
  rw [h2, h1]
  exact inv_inv PP_prime (by rw [PP_eq]; omega)
theorem i_neg {x ix inx : Fin PP} (h1 : ix = x ^ (PP - 2)) (h2 : inx = (-x) ^ (PP - 2)) : inx = -ix := by
  rw [h2, h1]
  exact neg_inv PP_EE
end Go.Proofs.YtnfckoamjeafhaaDoor
