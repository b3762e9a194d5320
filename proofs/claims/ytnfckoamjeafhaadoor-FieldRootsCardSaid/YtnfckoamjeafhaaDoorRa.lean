/- The document's all, Add, Neg, Sub. -/
import Derived.Test.YtnfckoamjeafhaaDoorMo
namespace Go.Proofs.YtnfckoamjeafhaaDoor
set_option linter.unusedVariables false
set_option linter.unusedSimpArgs false
open Go Go.RowKit

theorem mod_norm (T : Nat) : ModOf 17 (dgl T 17) := mod_gen true (fun h => by cases h) 17 (dgl T 17) (cols_dgl (by omega) (by omega)) (fun _ => dgl_small T 17)
theorem mod_any {n : Nat} {l : List Nat} (h : Cols n l) : ModOf n l := mod_gen false (fun _ => mod_norm) n l h (fun h => by cases h)
theorem mod_dgl (T m : Nat) (h1 : 16 ≤ m) (h2 : m ≤ 17) (hT : T < 65536 ^ m) (A : Option Addr) (c B : Nat) (w : World) (hU : US w B A m c (dgl T m)) (hB : B ≤ w.heap.size) : Calls Tryd.prog 39 #[.slice A m c] w (NumPost (T % PP) w) := by
  have := mod_any (cols_dgl (T := T) h1 h2) A c B w hU hB
  rw [dval_dgl, Nat.mod_eq_of_lt hT] at this
  exact this
theorem lt16 {n : Nat} (h : n < PP) : n < 65536 ^ 16 := by rw [pow16]; omega
theorem PP_lim : PP < 115792089237316195423570985008687907853269984665640564039457584007913129639936 := by rw [PP_eq]; omega
theorem modPP_lt (n : Nat) : n % PP < PP := Nat.mod_lt _ (by rw [PP_eq]; omega)
/-- What 'all' answers: a slice of a number's digits. -/
def AllPost (n : Nat) (w : World) (e : Ending) (w' : World) : Prop := ∃ A c, e = .returned (.slice A 16 c) ∧ US w' w'.heap.size A 16 c (dgl n 16) ∧ Below w.heap.size w w'
set_option maxRecDepth 100000 in
set_option maxHeartbeats 1000000 in
theorem rall_any (n : Nat) (w : World) : Calls Tryd.prog 43 #[.agg (ds n)] w (AllPost n w) := by
  have hfr := (Fr.start w).row (ds n) 32 (g := w.heap.size) rfl
  have hus := us_ds (hfr.get (g := w.heap.size) (t := 32) (cs := ds n) (by simp)) (B := w.heap.size + 1) (by omega)
  have HFR := Lib.hid hfr
  have HUS := Lib.hid hus
  clear hfr hus
  go_enter Tryd.func43, Tryd.ntmps43
  go_wp2_with (at_builtin; refine wpList_app_ownU rfl (.const (.slice none 0 0)) (.tmp 3) 61 rfl 24 Tryd.underlying61 info_u64 (w.heap.size + 1) (.slice none 0 0) [] rfl (OwnU.nil _ _ _) (w.heap.size + 1) 16 16 (some ⟨w.heap.size, 0, none⟩) (dgl n 16) rfl HUS.out (by simp) (by simp) ?_; intro v1 w1 hown1 hg1 hat1)
  rw [List.nil_append] at hown1
  obtain ⟨A, m, c, rfl, hU, _⟩ := hown1.form
  have hl := hU.len
  rw [dgl_len] at hl
  subst hl
  have hb := HFR.out.below.grown hg1 (by simp) (by intro g h; cases h)
  go_ret
  exact ⟨A, c, rfl, hU, hb⟩

/-! Add. -/
def addl (a b k : Nat) : List Nat := (List.range k).map fun t => a / 65536 ^ t % 65536 + b / 65536 ^ t % 65536
theorem addl_len (a b k : Nat) : (addl a b k).length = k := by simp [addl]
theorem addl_step (a b k : Nat) : addl a b (k + 1) = addl a b k ++ [a / 65536 ^ k % 65536 + b / 65536 ^ k % 65536] := by simp [addl, List.range_succ]
theorem addl_small (a b k j : Nat) : (addl a b k).getD j 0 ≤ 1048576 := by
  by_cases h : j < k
  · have h1 := Nat.mod_lt (a / 65536 ^ j) (show 0 < 65536 by omega)
    have h2 := Nat.mod_lt (b / 65536 ^ j) (show 0 < 65536 by omega)
    simp [addl, List.getD, h]
    omega
  · simp [addl, List.getD, h]
theorem dval_addl (a b : Nat) : ∀ k, dval (addl a b k) = a % 65536 ^ k + b % 65536 ^ k
  | 0 => by simp [addl, dval, Nat.mod_one]
  | k + 1 => by
    rw [addl_step, dval_append, dval_addl a b k, addl_len, Nat.mod_pow_succ, Nat.mod_pow_succ]
    simp [dval, Nat.mul_add]
    omega
theorem cols_addl (a b : Nat) : Cols 16 (addl a b 16) := ⟨by omega, by omega, .inl rfl, addl_small a b 16⟩
end Go.Proofs.YtnfckoamjeafhaaDoor
