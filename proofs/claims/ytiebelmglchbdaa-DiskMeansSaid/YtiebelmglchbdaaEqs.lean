/- '==' of two arrays of integers, as lists. No dump is imported. -/
import Derived.Stop.BytesEq
import Derived.Laws.StructEq
namespace Go.Proofs.Ytiebelmglchbdaa
set_option linter.unusedVariables false
set_option linter.unusedSimpArgs false
open Go

def nc (k : IntKind) (x : Nat) : Value := .int k (x : Int)
/-- An array's cells. -/
def ncs (k : IntKind) (l : List Nat) : Array Value := (l.map (nc k)).toArray
theorem ncs_size (k : IntKind) (l : List Nat) : (ncs k l).size = l.length := by simp [ncs]
theorem ncs_get (k : IntKind) (l : List Nat) (i : Nat) : (ncs k l)[i]? = l[i]?.map (nc k) := by simp [ncs]
theorem ncs_set (k : IntKind) (l : List Nat) (i x : Nat) : (ncs k l).setIfInBounds i (.int k (x : Int)) = ncs k (l.set i x) := by
  show (ncs k l).setIfInBounds i (nc k x) = _
  simp [ncs, List.map_set]
theorem ncs_one (k : IntKind) (l : List Nat) : (ncs k l).all (·.oneCell') = true := by
  rw [Array.all_eq_true_iff_forall_mem]
  intro v hv
  simp only [ncs, List.mem_toArray, List.mem_map] at hv
  obtain ⟨x, _, rfl⟩ := hv
  rfl
theorem all_range_nats : ∀ (xs ys : List Nat), xs.length = ys.length → ((List.range xs.length).all fun i => xs.getD i 0 == ys.getD i 0) = (xs == ys)
  | [], [], _ => rfl
  | x :: xs, y :: ys, h => by
    have ih := all_range_nats xs ys (by simpa using h)
    rw [List.length_cons, List.range_succ_eq_map, List.all_cons, List.all_map]
    simp only [List.getD_cons_zero, Function.comp_def, List.getD_cons_succ, ih]
    simp [List.cons_beq_cons]
  | [], _ :: _, h => by simp at h
  | _ :: _, [], h => by simp at h
section
variable {P : Program} (w : World)
theorem run_equalIn_nats (d : Nat) (t e : TypeId) (n : Nat) (k : IntKind) (ht : P.underlying t = some (.array n e)) (he : P.underlying e = some (.int k)) (hsz : ∀ w, (sizeOf e).run P w = .ok 1 w)
    (xs ys : List Nat) (hx : xs.length = n) (hy : ys.length = n) :
    (Op.equalIn (d + 2) t (.agg (ncs k xs)) (.agg (ncs k ys))).run P w = .ok (xs == ys) w := by
  unfold ncs
  rw [← all_range_nats xs ys (hx.trans hy.symm), hx, List.range_eq_range', Op.equalIn]
  simp only [Sem.run_bind, run_underlying ht, Result.andThen_ok, hsz, Std.Legacy.Range.forIn_eq_forIn_range', Std.Legacy.Range.size, Nat.sub_zero, Nat.add_sub_cancel, Nat.div_one]
  have hl : ∀ i ∈ List.range' 0 n 1, i < n := fun i hi => by simpa using (List.mem_range'_1.1 hi).2
  generalize List.range' 0 n 1 = l at hl ⊢
  induction l with
  | nil => simp
  | cons i l ih =>
    have hi : i < n := hl i (by simp)
    have px : (part e (xs.map (nc k)).toArray (i * 1)).run P w = .ok (nc k (xs.getD i 0)) w := by
      simp [part, isAgg, run_underlying he, List.getD, List.getElem?_eq_getElem (show i < xs.length by omega)]
    have py : (part e (ys.map (nc k)).toArray (i * 1)).run P w = .ok (nc k (ys.getD i 0)) w := by
      simp [part, isAgg, run_underlying he, List.getD, List.getElem?_eq_getElem (show i < ys.length by omega)]
    have pe : (Op.equalIn (d + 1) e (nc k (xs.getD i 0)) (nc k (ys.getD i 0))).run P w = .ok (xs.getD i 0 == ys.getD i 0) w := by
      rw [nc, nc, run_equalIn_int w d e k k _ _ he]
      congr 1
      rw [Bool.eq_iff_iff]
      simp
      omega
    simp only [List.forIn_cons, Sem.run_bind, px, py, pe, Result.andThen_ok, List.all_cons]
    cases hb : (xs.getD i 0 == ys.getD i 0)
    · simp
    · simp only [Bool.not_true, Bool.false_eq_true, if_false, Sem.run_pure, Result.andThen_ok, Bool.true_and]
      exact ih fun j hj => hl j (by simp [hj])
/-- 'a[i]' of an array's value. -/
theorem run_index_nats (t e : TypeId) (n : Nat) (k : IntKind) (ht : P.underlying t = some (.array n e)) (he : P.underlying e = some (.int k)) (hsz : ∀ w, (sizeOf e).run P w = .ok 1 w)
    (l : List Nat) (i x : Nat) (hi : i < n) (hx : l[i]? = some x) : (Instr.index t (.agg (ncs k l)) (.int .i64 (i : Int))).run P w = .ok (.int k (x : Int)) w := by
  have hc : (ncs k l)[i]? = some (.int k (x : Int)) := by rw [ncs_get, hx]; rfl
  simp [Instr.index, asIntOf, run_underlying ht, hsz, part, isAgg, run_underlying he, hc]
  intro h
  exact absurd h (by omega)
end
end Go.Proofs.Ytiebelmglchbdaa
