/- Package disk (layer 14): what its inner functions come to, over told rows. -/
import Derived.Test.YtiebelmglchbdaaPa
import Derived.Test.YtiebelmglchbdaaPj
namespace Go.Proofs.Ytiebelmglchbdaa
set_option linter.unusedVariables false
set_option linter.unusedSimpArgs false
set_option maxRecDepth 100000
open Go Go.RowKit

theorem zd_lss_int {k m : Int} {b : Bool} (h : decide (k < m) = b) (p q : Operand) (W : World) : (do eqGuard .lss 3 p q (.int .i64 k) (.int .i64 m); binOp .lss 3 (.int .i64 k) (.int .i64 m) : Sem Value).run Try.prog W = .ok (.bool b) W := by
  go_simp
  all_goals exact h
theorem zd_leq_int {k m : Int} {b : Bool} (h : decide (k ≤ m) = b) (p q : Operand) (W : World) : (do eqGuard .leq 3 p q (.int .i64 k) (.int .i64 m); binOp .leq 3 (.int .i64 k) (.int .i64 m) : Sem Value).run Try.prog W = .ok (.bool b) W := by
  go_simp
  all_goals exact h
theorem zd_gtr_int {k m : Int} {b : Bool} (h : decide (m < k) = b) (p q : Operand) (W : World) : (do eqGuard .gtr 3 p q (.int .i64 k) (.int .i64 m); binOp .gtr 3 (.int .i64 k) (.int .i64 m) : Sem Value).run Try.prog W = .ok (.bool b) W := by
  go_simp
  all_goals exact h
theorem zd_geq_int {k m : Int} {b : Bool} (h : decide (m ≤ k) = b) (p q : Operand) (W : World) : (do eqGuard .geq 3 p q (.int .i64 k) (.int .i64 m); binOp .geq 3 (.int .i64 k) (.int .i64 m) : Sem Value).run Try.prog W = .ok (.bool b) W := by
  go_simp
  all_goals exact h
theorem zd_eql_int {k m : Int} {b : Bool} (h : decide (k = m) = b) (p q : Operand) (W : World) : (do eqGuard .eql 3 p q (.int .i64 k) (.int .i64 m); binOp .eql 3 (.int .i64 k) (.int .i64 m) : Sem Value).run Try.prog W = .ok (.bool b) W := by
  go_simp
  all_goals exact h
theorem zd_add_int {k m c : Int} (hc : k + m = c) (h : -9223372036854775808 ≤ c ∧ c < 9223372036854775808) (p q : Operand) (W : World) : (do eqGuard .add 3 p q (.int .i64 k) (.int .i64 m); binOp .add 3 (.int .i64 k) (.int .i64 m) : Sem Value).run Try.prog W = .ok (.int .i64 c) W := by
  subst hc
  have e : IntKind.i64.wrap (k + m) = k + m := IntWalk.i64_in _ (by omega)
  go_simp
theorem zd_sub_int {k m c : Int} (hc : k - m = c) (h : -9223372036854775808 ≤ c ∧ c < 9223372036854775808) (p q : Operand) (W : World) : (do eqGuard .sub 3 p q (.int .i64 k) (.int .i64 m); binOp .sub 3 (.int .i64 k) (.int .i64 m) : Sem Value).run Try.prog W = .ok (.int .i64 c) W := by
  subst hc
  have e : IntKind.i64.wrap (k - m) = k - m := IntWalk.i64_in _ (by omega)
  go_simp
theorem zd_lss_i64 {k m : Int} {b : Bool} (h : decide (k < m) = b) (p q : Operand) (W : World) : (do eqGuard .lss 2 p q (.int .i64 k) (.int .i64 m); binOp .lss 2 (.int .i64 k) (.int .i64 m) : Sem Value).run Try.prog W = .ok (.bool b) W := by
  go_simp
  all_goals exact h
theorem zd_leq_i64 {k m : Int} {b : Bool} (h : decide (k ≤ m) = b) (p q : Operand) (W : World) : (do eqGuard .leq 2 p q (.int .i64 k) (.int .i64 m); binOp .leq 2 (.int .i64 k) (.int .i64 m) : Sem Value).run Try.prog W = .ok (.bool b) W := by
  go_simp
  all_goals exact h
theorem zd_gtr_i64 {k m : Int} {b : Bool} (h : decide (m < k) = b) (p q : Operand) (W : World) : (do eqGuard .gtr 2 p q (.int .i64 k) (.int .i64 m); binOp .gtr 2 (.int .i64 k) (.int .i64 m) : Sem Value).run Try.prog W = .ok (.bool b) W := by
  go_simp
  all_goals exact h
theorem zd_geq_i64 {k m : Int} {b : Bool} (h : decide (m ≤ k) = b) (p q : Operand) (W : World) : (do eqGuard .geq 2 p q (.int .i64 k) (.int .i64 m); binOp .geq 2 (.int .i64 k) (.int .i64 m) : Sem Value).run Try.prog W = .ok (.bool b) W := by
  go_simp
  all_goals exact h
theorem zd_eql_i64 {k m : Int} {b : Bool} (h : decide (k = m) = b) (p q : Operand) (W : World) : (do eqGuard .eql 2 p q (.int .i64 k) (.int .i64 m); binOp .eql 2 (.int .i64 k) (.int .i64 m) : Sem Value).run Try.prog W = .ok (.bool b) W := by
  go_simp
  all_goals exact h
theorem zd_add_i64 {k m c : Int} (hc : k + m = c) (h : -9223372036854775808 ≤ c ∧ c < 9223372036854775808) (p q : Operand) (W : World) : (do eqGuard .add 2 p q (.int .i64 k) (.int .i64 m); binOp .add 2 (.int .i64 k) (.int .i64 m) : Sem Value).run Try.prog W = .ok (.int .i64 c) W := by
  subst hc
  have e : IntKind.i64.wrap (k + m) = k + m := IntWalk.i64_in _ (by omega)
  go_simp
theorem zd_sub_i64 {k m c : Int} (hc : k - m = c) (h : -9223372036854775808 ≤ c ∧ c < 9223372036854775808) (p q : Operand) (W : World) : (do eqGuard .sub 2 p q (.int .i64 k) (.int .i64 m); binOp .sub 2 (.int .i64 k) (.int .i64 m) : Sem Value).run Try.prog W = .ok (.int .i64 c) W := by
  subst hc
  have e : IntKind.i64.wrap (k - m) = k - m := IntWalk.i64_in _ (by omega)
  go_simp
theorem zd_lss_errno {k m : Int} {b : Bool} (h : decide (k < m) = b) (p q : Operand) (W : World) : (do eqGuard .lss 26 p q (.int .i64 k) (.int .i64 m); binOp .lss 26 (.int .i64 k) (.int .i64 m) : Sem Value).run Try.prog W = .ok (.bool b) W := by
  go_simp
  all_goals exact h
theorem zd_leq_errno {k m : Int} {b : Bool} (h : decide (k ≤ m) = b) (p q : Operand) (W : World) : (do eqGuard .leq 26 p q (.int .i64 k) (.int .i64 m); binOp .leq 26 (.int .i64 k) (.int .i64 m) : Sem Value).run Try.prog W = .ok (.bool b) W := by
  go_simp
  all_goals exact h
theorem zd_gtr_errno {k m : Int} {b : Bool} (h : decide (m < k) = b) (p q : Operand) (W : World) : (do eqGuard .gtr 26 p q (.int .i64 k) (.int .i64 m); binOp .gtr 26 (.int .i64 k) (.int .i64 m) : Sem Value).run Try.prog W = .ok (.bool b) W := by
  go_simp
  all_goals exact h
theorem zd_geq_errno {k m : Int} {b : Bool} (h : decide (m ≤ k) = b) (p q : Operand) (W : World) : (do eqGuard .geq 26 p q (.int .i64 k) (.int .i64 m); binOp .geq 26 (.int .i64 k) (.int .i64 m) : Sem Value).run Try.prog W = .ok (.bool b) W := by
  go_simp
  all_goals exact h
theorem zd_eql_errno {k m : Int} {b : Bool} (h : decide (k = m) = b) (p q : Operand) (W : World) : (do eqGuard .eql 26 p q (.int .i64 k) (.int .i64 m); binOp .eql 26 (.int .i64 k) (.int .i64 m) : Sem Value).run Try.prog W = .ok (.bool b) W := by
  go_simp
  all_goals exact h
theorem zd_add_errno {k m c : Int} (hc : k + m = c) (h : -9223372036854775808 ≤ c ∧ c < 9223372036854775808) (p q : Operand) (W : World) : (do eqGuard .add 26 p q (.int .i64 k) (.int .i64 m); binOp .add 26 (.int .i64 k) (.int .i64 m) : Sem Value).run Try.prog W = .ok (.int .i64 c) W := by
  subst hc
  have e : IntKind.i64.wrap (k + m) = k + m := IntWalk.i64_in _ (by omega)
  go_simp
theorem zd_sub_errno {k m c : Int} (hc : k - m = c) (h : -9223372036854775808 ≤ c ∧ c < 9223372036854775808) (p q : Operand) (W : World) : (do eqGuard .sub 26 p q (.int .i64 k) (.int .i64 m); binOp .sub 26 (.int .i64 k) (.int .i64 m) : Sem Value).run Try.prog W = .ok (.int .i64 c) W := by
  subst hc
  have e : IntKind.i64.wrap (k - m) = k - m := IntWalk.i64_in _ (by omega)
  go_simp
theorem zd_quo {k m : Nat} (h : k < 9223372036854775808) (hm : 0 < m) (p q : Operand) (W : World) : (do eqGuard .quo 3 p q (.int .i64 (k : Int)) (.int .i64 (m : Int)); binOp .quo 3 (.int .i64 (k : Int)) (.int .i64 (m : Int)) : Sem Value).run Try.prog W = .ok (.int .i64 ((k / m : Nat) : Int)) W := by
  have e0 : ∀ d : Nat, d ≤ k → IntKind.i64.wrap (d : Int) = d := fun d hd => IntWalk.i64_in _ (by omega)
  have h2 : k / m ≤ k := Nat.div_le_self k m
  have h3 : ((k / m : Nat) : Int) = (k : Int) / (m : Int) := Int.natCast_ediv k m
  have e1 : ((k : Int)).tdiv (m : Int) = (k : Int) / (m : Int) := Int.tdiv_eq_ediv_of_nonneg (by omega)
  have e : IntKind.i64.wrap ((k : Int) / (m : Int)) = (k : Int) / (m : Int) := by rw [← h3]; exact e0 _ h2
  have h0 : ¬ m = 0 := by omega
  go_simp
theorem zd_lss_u8 {k m : Int} {b : Bool} (h : decide (k < m) = b) (p q : Operand) (W : World) : (do eqGuard .lss 5 p q (.int .u8 k) (.int .u8 m); binOp .lss 5 (.int .u8 k) (.int .u8 m) : Sem Value).run Try.prog W = .ok (.bool b) W := by
  go_simp
  all_goals exact h
theorem zd_leq_u8 {k m : Int} {b : Bool} (h : decide (k ≤ m) = b) (p q : Operand) (W : World) : (do eqGuard .leq 5 p q (.int .u8 k) (.int .u8 m); binOp .leq 5 (.int .u8 k) (.int .u8 m) : Sem Value).run Try.prog W = .ok (.bool b) W := by
  go_simp
  all_goals exact h
theorem zd_gtr_u8 {k m : Int} {b : Bool} (h : decide (m < k) = b) (p q : Operand) (W : World) : (do eqGuard .gtr 5 p q (.int .u8 k) (.int .u8 m); binOp .gtr 5 (.int .u8 k) (.int .u8 m) : Sem Value).run Try.prog W = .ok (.bool b) W := by
  go_simp
  all_goals exact h
theorem zd_geq_u8 {k m : Int} {b : Bool} (h : decide (m ≤ k) = b) (p q : Operand) (W : World) : (do eqGuard .geq 5 p q (.int .u8 k) (.int .u8 m); binOp .geq 5 (.int .u8 k) (.int .u8 m) : Sem Value).run Try.prog W = .ok (.bool b) W := by
  go_simp
  all_goals exact h
theorem zd_eql_u8 {k m : Int} {b : Bool} (h : decide (k = m) = b) (p q : Operand) (W : World) : (do eqGuard .eql 5 p q (.int .u8 k) (.int .u8 m); binOp .eql 5 (.int .u8 k) (.int .u8 m) : Sem Value).run Try.prog W = .ok (.bool b) W := by
  go_simp
  all_goals exact h
theorem zd_neq_int {k m : Int} {b : Bool} (h : decide (k ≠ m) = b) (p q : Operand) (W : World) : (do eqGuard .neq 3 p q (.int .i64 k) (.int .i64 m); binOp .neq 3 (.int .i64 k) (.int .i64 m) : Sem Value).run Try.prog W = .ok (.bool b) W := by
  have e : (!decide (k = m)) = b := by rw [← h, decide_not]
  go_simp
  exact e
theorem zd_neq_i64 {k m : Int} {b : Bool} (h : decide (k ≠ m) = b) (p q : Operand) (W : World) : (do eqGuard .neq 2 p q (.int .i64 k) (.int .i64 m); binOp .neq 2 (.int .i64 k) (.int .i64 m) : Sem Value).run Try.prog W = .ok (.bool b) W := by
  have e : (!decide (k = m)) = b := by rw [← h, decide_not]
  go_simp
  exact e
theorem zd_neq_u8 {k m : Int} {b : Bool} (h : decide (k ≠ m) = b) (p q : Operand) (W : World) : (do eqGuard .neq 5 p q (.int .u8 k) (.int .u8 m); binOp .neq 5 (.int .u8 k) (.int .u8 m) : Sem Value).run Try.prog W = .ok (.bool b) W := by
  have e : (!decide (k = m)) = b := by rw [← h, decide_not]
  go_simp
  exact e
theorem zd_neq_errno {k m : Int} {b : Bool} (h : decide (k ≠ m) = b) (p q : Operand) (W : World) : (do eqGuard .neq 26 p q (.int .i64 k) (.int .i64 m); binOp .neq 26 (.int .i64 k) (.int .i64 m) : Sem Value).run Try.prog W = .ok (.bool b) W := by
  have e : (!decide (k = m)) = b := by rw [← h, decide_not]
  go_simp
  exact e
theorem div_neg {n b : Int} (hb : 0 < b) (h : n.tmod b < 0) : n.tdiv b - 1 = n / b ∧ n.tmod b + b = n % b := by
  have h1 := Int.tdiv_eq_ediv (a := n) (b := b)
  have h2 := Int.tmod_eq_emod (a := n) (b := b)
  have h3 := Int.emod_nonneg n (show b ≠ 0 by omega)
  have h4 := Int.sign_eq_one_of_pos hb
  by_cases hd : 0 ≤ n ∨ b ∣ n
  · rw [if_pos hd] at h2
    omega
  · rw [if_neg hd] at h1 h2
    omega
theorem div_pos {n b : Int} (hb : 0 < b) (h : 0 ≤ n.tmod b) : n.tdiv b = n / b ∧ n.tmod b = n % b := by
  have h1 := Int.tdiv_eq_ediv (a := n) (b := b)
  have h2 := Int.tmod_eq_emod (a := n) (b := b)
  have h3 := Int.emod_lt_of_pos n hb
  by_cases hd : 0 ≤ n ∨ b ∣ n
  · rw [if_pos hd] at h1 h2
    omega
  · rw [if_neg hd] at h2
    omega
theorem tdiv_in {n b : Int} (hn : -9223372036854775808 ≤ n ∧ n < 9223372036854775808) (hb : 1 < b) : -9223372036854775807 ≤ n.tdiv b ∧ n.tdiv b < 9223372036854775808 := by
  have h := Int.natAbs_tdiv_le_natAbs n b
  have h2 : n ≠ -9223372036854775808 ∨ n = -9223372036854775808 := by omega
  rcases h2 with h2 | rfl
  · omega
  · have e := Int.tdiv_eq_ediv (a := -9223372036854775808) (b := b)
    have h3 : (-9223372036854775808 : Int) / b ≥ -4611686018427387904 - 1 := by
      have := Int.ediv_mul_le (-9223372036854775808) (show b ≠ 0 by omega)
      have h5 := Int.lt_ediv_add_one_mul_self (-9223372036854775808) (show 0 < b by omega)
      by_cases h6 : -4611686018427387905 ≤ (-9223372036854775808 : Int) / b
      · exact h6
      · exfalso
        have h7 : ((-9223372036854775808 : Int) / b + 1) * b ≤ (-4611686018427387905) * b := Int.mul_le_mul_of_nonneg_right (by omega) (by omega)
        omega
    have h4 := Int.sign_eq_one_of_pos (show 0 < b by omega)
    have h8 : (-9223372036854775808 : Int) / b ≤ 0 := Int.le_of_lt_add_one (Int.lt_of_lt_of_le (Int.ediv_neg_of_neg_of_pos (by decide) (by omega)) (by decide))
    split at e <;> omega
theorem zd_quoT {n b : Int} (hn : -9223372036854775808 ≤ n ∧ n < 9223372036854775808) (hb : 1 < b) (p q : Operand) (W : World) : (do eqGuard .quo 3 p q (.int .i64 n) (.int .i64 b); binOp .quo 3 (.int .i64 n) (.int .i64 b) : Sem Value).run Try.prog W = .ok (.int .i64 (n.tdiv b)) W := by
  have h2 := tdiv_in hn hb
  have e : IntKind.i64.wrap (n.tdiv b) = n.tdiv b := IntWalk.i64_in _ (by omega)
  have hb0 : b ≠ 0 := by omega
  go_simp
theorem tmod_in {n b : Int} (hb : 1 < b) : -b < n.tmod b ∧ n.tmod b < b := ⟨Int.lt_tmod_of_pos n (by omega), Int.tmod_lt_of_pos n (by omega)⟩
theorem zd_remT {n b : Int} (hb : 1 < b ∧ b ≤ 1000) (p q : Operand) (W : World) : (do eqGuard .rem 3 p q (.int .i64 n) (.int .i64 b); binOp .rem 3 (.int .i64 n) (.int .i64 b) : Sem Value).run Try.prog W = .ok (.int .i64 (n.tmod b)) W := by
  have h2 := tmod_in (n := n) hb.1
  have e : IntKind.i64.wrap (n.tmod b) = n.tmod b := IntWalk.i64_in _ (by omega)
  have hb0 : b ≠ 0 := by omega
  go_simp
/-- How many bytes last. -/
def lastN (p : Int) (last : Bool) : Nat := (lastsB p last).getD 0
section
variable {P : Program} {n : Nat} {w0 w w' : World} {a : Act} {e : Env} {h h' : Hep} {Q : Exit → Act → World → Prop} {ops : Array Oper} {rest : List Oper} {o : Oper} {y : List Oper} {G : List (World → Prop)}
theorem does_nilCheckQ {x : Operand} {g f : Nat} (ho : o.op = .nilCheck x) (hx : sev e x = some (.pointer (some ⟨g, f, none⟩))) : Does P Q n w0 e h o (.pointer (some ⟨g, f, none⟩)) := does_run fun a w H => by
  simp [execOp, ho, H.ev hx, Result.andThen]
theorem end_tmps2 {fn : Func} {R : Ending → World → Prop} {p q : Tmp} {u v : Value} (hr : fn.results = #[.tmp p, .tmp q]) (hp : look e p = some u) (hq : look e q = some v) (H : St n w0 a w e h) (hR : Below w0.heap.size w0 w → R (.returned (.tuple #[u, v])) w) : bodyPost P fn R .ret a w := by
  refine bodyPost_ret ?_ H.defers (hR H.below)
  have h1 := H.ev (x := .tmp p) hp
  have h2 := H.ev (x := .tmp q) hq
  simp only [Act.eval, Array.getD_eq_getD_getElem?] at h1 h2
  simp [results, hr, h1, h2]
/-- A plain operation, in whatever world. -/
theorem runP {v : Value} (H : St n w0 a w e h) (hs : simV e o.op = some v) : ∀ W, (execOp a.eval o).run P W = .ok (.value v) W := fun W => simV_of (w0 := W) (h := []) ⟨H.size, H.defers, H.env, Below.refl _ _, (fun p hp => by cases hp), (fun p hp => by cases hp), List.Pairwise.nil⟩ hs
/-- A call over told rows. -/
theorem pl_callV {d : Nat} {f : FuncId} {args : List Operand} {tys : Array TypeId} {vs : List Value} {v : Value} (hk : chk n ops e o = some d) (ho : o.op = .call { callee := .value (.func f), args := args.toArray, argTypes := tys }) (hf : Ours P f) (hx : sevs e args = some vs)
    (hc : Kn w0 w h → Calls P f vs.toArray w (fun r W' => r = .returned v ∧ Kn w0 W' h')) (H : St n w0 a w e h)
    (next : ∀ a w, St n w0 a w ((d, v) :: e) h' → wpList P ops Q rest a w) : wpList P ops Q (o :: rest) a w :=
  wpList_step fun K hK => by
    obtain ⟨h1, h2⟩ := chk_of hk
    obtain ⟨q1, q2, q3⟩ := dstS_of h2
    rw [wantS_of H h1, if_pos rfl]
    unfold Oper.wp
    rw [run_call ho hf rfl, H.evs hx, Oper.upon_enter]
    refine (hc H.kn).mono ?_
    rintro r W' ⟨rfl, K2⟩
    refine hK _ _ (next _ _ ?_)
    rw [q1]
    exact (H.again K2).put _ q2 q3
/-- .. of which there is some. -/
theorem pl_callX {ι : Type} {vf : ι → Value} {hf' : ι → Hep} {F : ι → Prop} {d : Nat} {f : FuncId} {args : List Operand} {tys : Array TypeId} {vs : List Value} (hk : chk n ops e o = some d) (ho : o.op = .call { callee := .value (.func f), args := args.toArray, argTypes := tys }) (hf : Ours P f) (hx : sevs e args = some vs)
    (hc : Kn w0 w h → Calls P f vs.toArray w (fun r W' => ∃ i, r = .returned (vf i) ∧ F i ∧ Kn w0 W' (hf' i))) (H : St n w0 a w e h)
    (next : ∀ i a w, F i → St n w0 a w ((d, vf i) :: e) (hf' i) → wpList P ops Q rest a w) : wpList P ops Q (o :: rest) a w :=
  wpList_step fun K hK => by
    obtain ⟨h1, h2⟩ := chk_of hk
    obtain ⟨q1, q2, q3⟩ := dstS_of h2
    rw [wantS_of H h1, if_pos rfl]
    unfold Oper.wp
    rw [run_call ho hf rfl, H.evs hx, Oper.upon_enter]
    refine (hc H.kn).mono ?_
    rintro r W' ⟨i, rfl, hF, K2⟩
    refine hK _ _ (next i _ _ hF ?_)
    rw [q1]
    exact (H.again K2).put _ q2 q3
/-- A load out of a told block, wherever it stands. -/
theorem does_loadMem {t : TypeId} {x : Operand} {g f : Nat} {t' : Tid} {cs : Array Value} {v : Value} (ho : o.op = .load t x) (hx : sev e x = some (.pointer (some ⟨g, f, none⟩))) (hk : (g, t', cs) ∈ h)
    (hv : ∀ W, Blk W g t' cs → (Instr.loadAt t (.pointer (some ⟨g, f, none⟩))).run P W = .ok v W) : Does P Q n w0 e h o v := does_run fun a w H => by
  unfold execOp
  simp only [ho, H.ev hx, Sem.run_bind, hv w (H.heap _ hk), Result.andThen_ok, Sem.run_pure]
/-- What a map at a told block holds. -/
theorem does_lookV {mt kt et : TypeId} {x y : Operand} {b c k : Nat} {l : List EntI} {i : Int} {z v : Value} (ho : o.op = .lookup mt x y false) (hx : sev e x = some (.map (some b))) (hy : sev e y = some (.int .i64 i)) (hk : h[k]? = some (b, .map (entsI l) c, #[])) (hm : P.underlying mt = some (.map kt et)) (hkt : P.underlying kt = some (.int .i64)) (hz : ∀ W, (zeroValue et).run P W = .ok z W) (hv : (lookI l i).getD z = v) : Does P Q n w0 e h o v := by
  rw [← hv]
  exact does_lookI ho hx hy hk hm hkt hz
theorem run_lookO {mt kt et : TypeId} {b c : Nat} {l : List EntI} (hm : P.underlying mt = some (.map kt et)) (hk : P.underlying kt = some (.int .i64)) (hb : Blk w b (.map (entsI l) c) #[]) {z : Value} (hz : (zeroValue et).run P w = .ok z w) (n : Int) :
    (Instr.lookup mt (.map (some b)) (.int .i64 n) true).run P w = .ok (.tuple #[(lookI l n).getD z, .bool (lookI l n).isSome]) w := by
  have hf : (Instr.findKey kt (.int .i64 n) (entsI l).toList).run P w = .ok (findI n l 0) w := MapKept.run_findKey hk (findNow_int n l 0)
  have hc : ∀ e m, (Instr.checkKey e (m + 1) kt (.int .i64 n)).run P w = .ok () w := fun e m => MapKept.run_checkKey hk (by simp [MapKept.IsKey]) e m
  unfold Instr.lookup lookI
  simp only [Sem.run_bind, run_underlying hm, Result.andThen_ok, MapKept.run_getObj_map hb.2, Sem.run_pure]
  rw [hc _ 9999]
  simp only [Result.andThen_ok, hf]
  cases findI n l 0 with
  | none => simp [hz, Result.andThen]
  | some p => simp [Result.andThen]
/-- .. and whether it does. -/
theorem does_lookO {mt kt et : TypeId} {x y : Operand} {b c k : Nat} {l : List EntI} {i : Int} {z : Value} {r : Option Value} (ho : o.op = .lookup mt x y true) (hx : sev e x = some (.map (some b))) (hy : sev e y = some (.int .i64 i)) (hk : h[k]? = some (b, .map (entsI l) c, #[])) (hm : P.underlying mt = some (.map kt et)) (hkt : P.underlying kt = some (.int .i64)) (hz : ∀ W, (zeroValue et).run P W = .ok z W) (hr : lookI l i = r) : Does P Q n w0 e h o (.tuple #[r.getD z, .bool r.isSome]) := does_run fun a w H => by
  subst hr
  have hb : Blk w b (.map (entsI l) c) #[] := H.heap _ (List.mem_iff_getElem?.2 ⟨k, hk⟩)
  simp [execOp, ho, H.ev hx, H.ev hy, run_lookO hm hkt hb (hz w), Result.andThen]
end
theorem dk_size {nb nb' lf lf' : Int} {vM vU vQ vM' vU' vQ' : Value} {hf dd hf' dd' : Bool} : (dkC nb vM vU vQ hf lf dd).size = (dkC nb' vM' vU' vQ' hf' lf' dd').size := rfl
theorem zero_int (W : World) : (zeroValue 3).run Try.prog W = .ok (.int .i64 0) W := by kernel_rfl
theorem ld_w0 {g : Nat} {t : TypeId} {p : Nat × List UInt8} (W : World) (h : Blk W g t (dwa p)) : (Instr.loadAt 3 (.pointer (some ⟨g, 0, none⟩))).run Try.prog W = .ok (.int .i64 (p.1 : Int)) W := by
  have hc : W.cell? ⟨g, 0, none⟩ = some (.int .i64 (p.1 : Int)) := h.cell 0
  go_simp
theorem dwa_get {p : Nat × List UInt8} {j : Nat} : (dwa p)[j]? = (dwv p)[j]? := List.getElem?_toArray
/-- A row of writes, and one of them. -/
theorem ld_wAt {g : Nat} {t : TypeId} {cur : Array Value} {L : List (Nat × List UInt8)} {k : Nat} {p : Nat × List UInt8} (hL : ∀ p ∈ L, p.2.length = 512) (hc : cur.toList.take (L.length * 513) = dwcs L) (hp : L[k]? = some p) (W : World) (h : Blk W g t cur) : (Instr.loadAt 82 (.pointer (some ⟨g, 0 + k * 513, none⟩))).run Try.prog W = .ok (.agg (dwa p)) W := by
  refine ld_write (hL p (List.mem_iff_getElem?.2 ⟨k, hp⟩)) W fun j u hu => ?_
  rw [h.cell, Nat.zero_add, ← Array.getElem?_toList]
  have h1 := dwcs_at hL hp hu
  rw [← hc, List.getElem?_take] at h1
  split at h1
  · exact h1
  · cases h1
theorem ld_bAt {g : Nat} {t : TypeId} {cur : Array Value} {L : List (Nat × List UInt8)} {k : Nat} {p : Nat × List UInt8} (hL : ∀ p ∈ L, p.2.length = 512) (hc : cur.toList.take (L.length * 513) = dwcs L) (hp : L[k]? = some p) (W : World) (h : Blk W g t cur) : (Instr.loadAt 77 (.pointer (some ⟨g, 0 + k * 513 + 1, none⟩))).run Try.prog W = .ok (.agg (bvs p.2)) W := by
  refine ld_block (hL p (List.mem_iff_getElem?.2 ⟨k, hp⟩)) W fun j x hx => ?_
  rw [h.cell, Nat.zero_add, ← Array.getElem?_toList]
  have h1 := dwcs_at hL hp (dwv_byte hx)
  rw [← hc, List.getElem?_take] at h1
  split at h1
  · rw [Nat.add_assoc]; exact h1
  · cases h1
theorem sl_part {g k : Nat} (hk : k ≤ 512) (W : World) : (Instr.sliceAt 77 (.pointer (some ⟨g, 1, none⟩)) none (some (.int .i64 ((k : Nat) : Int))) none).run Try.prog W = .ok (.slice (some ⟨g, 1, none⟩) k 512) W := by
  have h1 : (0 : Int) ≤ (k : Int) := by omega
  have h2 : (k : Int) ≤ 512 := by omega
  go_simp
theorem torn_copy {n k : Nat} {b t : List UInt8} (hk : k ≤ 512) (hb : b.length = 512) (ht : t.length = 512) : spliceA (bvs b) 0 (((dwa (n, t)).toList.drop 1).take k) = bvs (tornB k t b) := by
  apply Array.toList_inj.1
  unfold spliceA tornB bvs dwa dwv
  simp [List.map_take, List.map_drop, ht, Nat.min_eq_left hk]
theorem size_u8P : (Try.prog.info? 5).map (·.size) = some 1 := by kernel_rfl
attribute [local irreducible] bvs dwa entsI zeroB lastsB
set_option maxHeartbeats 4000000 in
theorem divided_any (n b : Int) (hn : -9223372036854775808 ≤ n ∧ n < 9223372036854775808) (hb : 1 < b ∧ b ≤ 1000) (w : World) : Calls Try.prog 53 #[.int .i64 n, .int .i64 b] w (fun rr w' => rr = .returned (.tuple #[.int .i64 (n / b), .int .i64 (n % b)]) ∧ Below w.heap.size w w') := by
  have hd_ := tdiv_in hn hb.1
  have hm_ := tmod_in (n := n) hb.1
  refine calls_st (vs := [.int .i64 n, .int .i64 b]) 21 Try.func53 rfl Try.ntmps53 rfl (fun a W H => ?_)
  replace H : St 21 w a W [(0, .int .i64 n), (1, .int .i64 b)] [] := H
  refine sqR H gs0 fun Z_ z_ => rS 2 rfl <| rN0 z_ ?_
  try clear H a W
  intro a W H
  replace H := H.km [1, 0] []
  refine sqD [.v 6 _ [], .v 7 _ [], .v 8 _ [0, 1], .v 9 _ [], .v 10 _ [], .v 11 _ [3, 4], .v 4 _ [2]] (by kernel_rfl) (by kernel_rfl) H gs0 (fun _ => ⟨oS rfl rfl, oS rfl rfl, oV rfl (does_binOp rfl rfl rfl (zd_quoT (by omega) (by omega) _ _)), oS rfl rfl, oS rfl rfl, oV rfl (does_binOp rfl rfl rfl (zd_remT (by omega) _ _)), oS rfl rfl, trivial⟩) fun Z_ z_ => rK [1, 1, 1, 1, 1, 1, 1, 0] [] [] <| rS 1 rfl <| rK [1, 1, 0, 0, 0, 0, 0, 0, 0] [] [] <| rN0 z_ ?_
  try clear H a W
  intro a W H
  refine wp_seq_k (fun K3 hK3 => ?_)
  refine sqR H gs0 fun Z_ z_ => rS 1 rfl <| rV rfl (does_binOp rfl rfl rfl (zd_lss_int (k := (n.tmod b)) (m := 0) rfl _ _)) <| rK [1, 0] [] [] <| rN0 z_ ?_
  try clear H a W
  intro a W H
  cases hq1 : decide ((n.tmod b) < 0) with
  | true =>
    rw [hq1] at H
    have hq1p := of_decide_eq_true hq1
    refine wp_cond_true (H.ev rfl) ?_
    refine sqR H gs0 fun Z_ z_ => rS 1 rfl <| rV rfl (does_binOp rfl rfl rfl (zd_sub_int (k := (n.tdiv b)) (m := 1) (c := (n.tdiv b) - 1) rfl (by omega) _ _)) <| rS 2 rfl <| rV rfl (does_binOp rfl rfl rfl (zd_add_int (k := (n.tmod b)) (m := b) (c := (n.tmod b) + b) rfl (by omega) _ _)) <| rK [1, 1, 1, 1, 1, 1, 1, 0] [] [] <| rS 1 rfl <| rK [1, 1, 1, 1, 1, 1, 1, 0] [] [] <| rS 1 rfl <| rK [1, 1, 0, 0, 0, 0, 0, 0, 0] [] [] <| rN0 z_ ?_
    try clear H a W
    intro a W H
    refine wp_ret ?_
    repeat (first | (with_reducible refine then_ret ?_) | (with_reducible refine blk_ret ?_))
    refine end_tmps2 (p := 4) (q := 5) rfl rfl rfl H (fun hb_ => ?_)
    obtain ⟨e1, e2⟩ := div_neg (n := n) (b := b) (by omega) (by omega)
    rw [e1, e2]
    exact ⟨rfl, hb_⟩
  | false =>
    rw [hq1] at H
    have hq1p := of_decide_eq_false hq1
    refine wp_cond_false (H.ev rfl) ?_
    refine wp_skip ?_
    refine hK3 _ _ ?_
    clear hK3
    refine sqR H gs0 fun Z_ z_ => rS 2 rfl <| rK [1, 1, 1, 1, 0] [] [] <| rS 1 rfl <| rK [1, 1, 1, 1, 0] [] [] <| rS 1 rfl <| rK [1, 1, 0, 0, 0, 0] [] [] <| rN0 z_ ?_
    try clear H a W
    intro a W H
    refine wp_ret ?_
    repeat (first | (with_reducible refine then_ret ?_) | (with_reducible refine blk_ret ?_))
    refine end_tmps2 (p := 4) (q := 5) rfl rfl rfl H (fun hb_ => ?_)
    obtain ⟨e1, e2⟩ := div_pos (n := n) (b := b) (by omega) (by omega)
    rw [e1, e2]
    exact ⟨rfl, hb_⟩
set_option maxHeartbeats 4000000 in
theorem lasting_any (n : Int) (last : Bool) (hn : -9223372036854775808 ≤ n ∧ n < 9223372036854775808) (w : World) : Calls Try.prog 47 #[.int .i64 n, .bool last] w (fun rr w' => rr = .returned (.int .i64 ((lastN n last : Nat) : Int)) ∧ Below w.heap.size w w') := by
  refine calls_st (vs := [.int .i64 n, .bool last]) 27 Try.func47 rfl Try.ntmps47 rfl (fun a W H => ?_)
  replace H : St 27 w a W [(0, .int .i64 n), (1, .bool last)] [] := H
  refine sqR H gs0 fun Z_ z_ => rS 1 rfl <| rN0 z_ ?_
  try clear H a W
  intro a W H
  refine sqR H gs0 fun Z_ z_ => rS 1 rfl <| rV rfl (does_call rfl ⟨_, Try.func53, by kernel_rfl⟩ rfl (fun W hb => divided_any n 3 (by omega) (by omega) W)) <| rS 5 rfl <| rK [1, 1, 0, 0, 0, 0, 0, 1, 0] [] [] <| rN0 z_ ?_
  try clear H a W
  intro a W H
  refine wp_seq_k (fun K3 hK3 => ?_)
  refine sqR H gs0 fun Z_ z_ => rS 1 rfl <| rV rfl (does_binOp rfl rfl rfl (zd_eql_int (k := (n % 3)) (m := 0) rfl _ _)) <| rK [1, 0] [] [] <| rN0 z_ ?_
  try clear H a W
  intro a W H
  cases hq1 : decide ((n % 3) = 0) with
  | true =>
    rw [hq1] at H
    have hq1p := of_decide_eq_true hq1
    refine wp_cond_true (H.ev rfl) ?_
    refine sqR H gs0 fun Z_ z_ => rK [1, 1, 1, 0] [] [] <| rS 1 rfl <| rK [1, 0] [] [] <| rN0 z_ ?_
    try clear H a W
    intro a W H
    refine wp_ret ?_
    repeat (first | (with_reducible refine then_ret ?_) | (with_reducible refine blk_ret ?_))
    refine end_tmp (p := 4) rfl rfl H (fun hb => ?_)
    have he : ((lastN n last : Nat) : Int) = 0 := by
      unfold lastN lastsB
      repeat' split
      all_goals (first | rfl | (simp only [Option.getD_none, Option.getD_some]; omega) | (exfalso; simp_all; omega) | (exfalso; omega) | simp_all)
    rw [he]
    exact ⟨rfl, hb⟩
  | false =>
    rw [hq1] at H
    have hq1p := of_decide_eq_false hq1
    refine wp_cond_false (H.ev rfl) ?_
    refine wp_skip ?_
    refine hK3 _ _ ?_
    clear hK3
    refine wp_seq_k (fun K6 hK6 => ?_)
    refine wp_seq_k (fun K7 hK7 => ?_)
    cases hq2 : decide ((n % 3) = 2) with
    | true =>
      have hq2p := of_decide_eq_true hq2
      refine rgP H gs0 (rS 1 rfl <| rV rfl (does_binOp rfl rfl rfl (zd_eql_int (k := (n % 3)) (m := 2) hq2 _ _)) <| rS 3 rfl <| rK [1, 0, 0, 0, 0, 0, 0, 1, 1, 0] [] [] <| rZ0 ?_)
      try clear H a W
      intro a W H
      refine hK7 _ _ ?_
      clear hK7
      cases hq3 : last with
      | true =>
        rw [hq3] at H
        refine wp_cond_true (H.ev rfl) ?_
        refine sqR H gs0 fun Z_ z_ => rS 1 rfl <| rV rfl (does_call rfl ⟨_, Try.func53, by kernel_rfl⟩ rfl (fun W hb => divided_any (n / 3) 513 (by omega) (by omega) W)) <| rS 5 rfl <| rK [1, 0, 0, 0, 0, 0, 0, 0, 0] [] [] <| rN0 z_ ?_
        try clear H a W
        intro a W H
        refine sqR H gs0 fun Z_ z_ => rS 1 rfl <| rK [1, 1, 0] [] [] <| rS 1 rfl <| rK [1, 0, 0] [] [] <| rN0 z_ ?_
        try clear H a W
        intro a W H
        refine wp_ret ?_
        repeat (first | (with_reducible refine then_ret ?_) | (with_reducible refine blk_ret ?_))
        refine end_tmp (p := 4) rfl rfl H (fun hb => ?_)
        have he : ((lastN n true : Nat) : Int) = ((n / 3) % 513) := by
          unfold lastN lastsB
          repeat' split
          all_goals (first | rfl | (simp only [Option.getD_none, Option.getD_some]; omega) | (exfalso; simp_all; omega) | (exfalso; omega) | simp_all)
        try rw [hq3]
        rw [he]
        exact ⟨rfl, hb⟩
      | false =>
        rw [hq3] at H
        refine wp_cond_false (H.ev rfl) ?_
        refine wp_skip ?_
        refine hK6 _ _ ?_
        clear hK6
        refine sqR H gs0 fun Z_ z_ => rK [1, 1, 0] [] [] <| rS 1 rfl <| rK [1, 0, 0] [] [] <| rN0 z_ ?_
        try clear H a W
        intro a W H
        refine wp_ret ?_
        repeat (first | (with_reducible refine then_ret ?_) | (with_reducible refine blk_ret ?_))
        refine end_tmp (p := 4) rfl rfl H (fun hb => ?_)
        have he : ((lastN n false : Nat) : Int) = 512 := by
          unfold lastN lastsB
          repeat' split
          all_goals (first | rfl | (simp only [Option.getD_none, Option.getD_some]; omega) | (exfalso; simp_all; omega) | (exfalso; omega) | simp_all)
        try rw [hq3]
        rw [he]
        exact ⟨rfl, hb⟩
    | false =>
      have hq2p := of_decide_eq_false hq2
      refine rgP H gs0 (rS 1 rfl <| rV rfl (does_binOp rfl rfl rfl (zd_eql_int (k := (n % 3)) (m := 2) hq2 _ _)) <| rS 3 rfl <| rK [1, 0, 0, 0, 0, 0, 0, 1, 1, 0] [] [] <| rZ0 ?_)
      try clear H a W
      intro a W H
      refine hK7 _ _ ?_
      clear hK7
      refine wp_cond_false (H.ev rfl) ?_
      refine wp_skip ?_
      refine hK6 _ _ ?_
      clear hK6
      refine sqR H gs0 fun Z_ z_ => rK [1, 1, 0] [] [] <| rS 1 rfl <| rK [1, 0, 0] [] [] <| rN0 z_ ?_
      try clear H a W
      intro a W H
      refine wp_ret ?_
      repeat (first | (with_reducible refine then_ret ?_) | (with_reducible refine blk_ret ?_))
      refine end_tmp (p := 4) rfl rfl H (fun hb => ?_)
      have he : ((lastN n last : Nat) : Int) = 512 := by
        unfold lastN lastsB
        repeat' split
        all_goals (first | rfl | (simp only [Option.getD_none, Option.getD_some]; omega) | (exfalso; simp_all; omega) | (exfalso; omega) | simp_all)
      rw [he]
      exact ⟨rfl, hb⟩
set_option maxHeartbeats 4000000 in
theorem isNone_p {p : Nat} {nb lf : Int} {vM vU vQ : Value} {hf dd : Bool} {hh : Hep} (w0 w : World) (K : Kn w0 w ([(p, .ty 58, (dkC nb vM vU vQ hf lf dd))] ++ hh)) : Calls Try.prog 40 #[.pointer (some ⟨p, 0, none⟩)] w (fun rr w' => rr = .returned (.bool (decide (nb = 0))) ∧ Kn w0 w' ([(p, .ty 58, (dkC nb vM vU vQ hf lf dd))] ++ hh)) := by
  refine calls_kn (vs := [.pointer (some ⟨p, 0, none⟩)]) 12 Try.func40 rfl Try.ntmps40 rfl K (fun a W H => ?_)
  replace H : St 12 w0 a W [(0, .pointer (some ⟨p, 0, none⟩))] ((p, 58, (dkC nb vM vU vQ hf lf dd)) :: hh) := H
  refine sqR H gs0 fun Z_ z_ => rS 1 rfl <| rN0 z_ ?_
  try clear H a W
  intro a W H
  refine sqR H gs0 fun Z_ z_ => rS 1 rfl <| rV rfl (does_binOp rfl rfl rfl (fun W => ptr_nil W)) <| rS 2 rfl <| rV rfl (does_nilCheckQ rfl rfl) <| rV rfl (does_fieldAddr rfl rfl (fa_dk 0 (by decide))) <| rV rfl (does_loadAt (v := .int .i64 nb) rfl rfl (k := 0) rfl ld_dk0) <| rV rfl (does_binOp rfl rfl rfl (zd_eql_int (k := nb) (m := 0) rfl _ _)) <| rS 1 rfl <| rK [1, 1, 1, 1, 1, 1, 1, 1, 1, 0] [] [] <| rS 1 rfl <| rK [1, 0, 0, 0, 0, 0, 0, 0, 0, 0, 0] [] [] <| rN0 z_ ?_
  try clear H a W
  intro a W H
  refine wp_ret ?_
  repeat (first | (with_reducible refine then_ret ?_) | (with_reducible refine blk_ret ?_))
  refine end_tmp (p := 2) rfl rfl H (fun hb => ?_)
  refine ⟨by rw [show decide (nb = 0) = (decide (nb = 0)) from by first | rfl | assumption], ?_⟩
  show Kn w0 W ((p, .ty 58, (dkC nb vM vU vQ hf lf dd)) :: hh)
  have H_ := H.pickF (h := [(p, .ty 58, (dkC nb vM vU vQ hf lf dd))]) (t := hh) [] [0] rfl
  exact H_.kn
set_option maxHeartbeats 4000000 in
theorem isNone_nil  {hh : Hep} (w0 w : World) (K : Kn w0 w (([] : Hep) ++ hh)) : Calls Try.prog 40 #[.pointer none] w (fun rr w' => rr = .returned (.bool true) ∧ Kn w0 w' (([] : Hep) ++ hh)) := by
  refine calls_kn (vs := [.pointer none]) 12 Try.func40 rfl Try.ntmps40 rfl K (fun a W H => ?_)
  replace H : St 12 w0 a W [(0, .pointer none)] (hh) := H
  refine sqR H gs0 fun Z_ z_ => rS 1 rfl <| rN0 z_ ?_
  try clear H a W
  intro a W H
  refine sqR H gs0 fun Z_ z_ => rS 1 rfl <| rV rfl (does_binOp rfl rfl rfl (fun W => nil_nil W)) <| rS 7 rfl <| rK [1, 1, 1, 1, 1, 1, 1, 1, 1, 0] [] [] <| rS 1 rfl <| rK [1, 0, 0, 0, 0, 0, 0, 0, 0, 0, 0] [] [] <| rN0 z_ ?_
  try clear H a W
  intro a W H
  refine wp_ret ?_
  repeat (first | (with_reducible refine then_ret ?_) | (with_reducible refine blk_ret ?_))
  refine end_tmp (p := 2) rfl rfl H (fun hb => ?_)
  refine ⟨rfl, ?_⟩
  show Kn w0 W (hh)
  have H_ := H.pickF (h := []) (t := hh) [] [] rfl
  exact H_.kn
set_option maxHeartbeats 4000000 in
theorem has_p {p : Nat} {nb lf : Int} {vM vU vQ : Value} {hf dd : Bool} (n : Int) {hh : Hep} (w0 w : World) (K : Kn w0 w ([(p, .ty 58, (dkC nb vM vU vQ hf lf dd))] ++ hh)) : Calls Try.prog 41 #[.pointer (some ⟨p, 0, none⟩), .int .i64 n] w (fun rr w' => rr = .returned (.bool (decide (0 ≤ n ∧ n < nb))) ∧ Kn w0 w' ([(p, .ty 58, (dkC nb vM vU vQ hf lf dd))] ++ hh)) := by
  refine calls_kn (vs := [.pointer (some ⟨p, 0, none⟩), .int .i64 n]) 15 Try.func41 rfl Try.ntmps41 rfl K (fun a W H => ?_)
  replace H : St 15 w0 a W [(0, .pointer (some ⟨p, 0, none⟩)), (1, .int .i64 n)] ((p, 58, (dkC nb vM vU vQ hf lf dd)) :: hh) := H
  refine sqR H gs0 fun Z_ z_ => rS 1 rfl <| rN0 z_ ?_
  try clear H a W
  intro a W H
  refine wp_seq_k (fun K2 hK2 => ?_)
  cases hq1 : decide (0 ≤ n) with
  | true =>
    have hq1p := of_decide_eq_true hq1
    refine rgP H gs0 (rS 1 rfl <| rV rfl (does_binOp rfl rfl rfl (zd_geq_int (k := n) (m := 0) hq1 _ _)) <| rS 3 rfl <| rV rfl (does_nilCheckQ rfl rfl) <| rV rfl (does_fieldAddr rfl rfl (fa_dk 0 (by decide))) <| rV rfl (does_loadAt (v := .int .i64 nb) rfl rfl (k := 0) rfl ld_dk0) <| rV rfl (does_binOp rfl rfl rfl (zd_lss_int (k := n) (m := nb) rfl _ _)) <| rS 1 rfl <| rK [1, 1, 1, 1, 1, 1, 1, 1, 1, 1, 0] [] [] <| rS 1 rfl <| rK [1, 0, 0, 0, 0, 0, 0, 0, 0, 0, 0, 0, 0] [] [] <| rZ0 ?_)
    try clear H a W
    intro a W H
    refine hK2 _ _ ?_
    clear hK2
    refine wp_ret ?_
    repeat (first | (with_reducible refine then_ret ?_) | (with_reducible refine blk_ret ?_))
    refine end_tmp (p := 4) rfl rfl H (fun hb => ?_)
    refine ⟨by rw [show decide (0 ≤ n ∧ n < nb) = (decide (n < nb)) from by first | (rw [decide_eq_decide]; omega) | exact decide_eq_true (by omega) | exact decide_eq_false (by omega)], ?_⟩
    show Kn w0 W ((p, .ty 58, (dkC nb vM vU vQ hf lf dd)) :: hh)
    have H_ := H.pickF (h := [(p, .ty 58, (dkC nb vM vU vQ hf lf dd))]) (t := hh) [] [0] rfl
    exact H_.kn
  | false =>
    have hq1p := of_decide_eq_false hq1
    refine rgP H gs0 (rS 1 rfl <| rV rfl (does_binOp rfl rfl rfl (zd_geq_int (k := n) (m := 0) hq1 _ _)) <| rS 8 rfl <| rK [1, 1, 1, 1, 1, 1, 1, 1, 1, 1, 0] [] [] <| rS 1 rfl <| rK [1, 0, 0, 0, 0, 0, 0, 0, 0, 0, 0, 0, 0] [] [] <| rZ0 ?_)
    try clear H a W
    intro a W H
    refine hK2 _ _ ?_
    clear hK2
    refine wp_ret ?_
    repeat (first | (with_reducible refine then_ret ?_) | (with_reducible refine blk_ret ?_))
    refine end_tmp (p := 4) rfl rfl H (fun hb => ?_)
    refine ⟨by rw [show decide (0 ≤ n ∧ n < nb) = false from by first | (rw [decide_eq_decide]; omega) | exact decide_eq_true (by omega) | exact decide_eq_false (by omega)], ?_⟩
    show Kn w0 W ((p, .ty 58, (dkC nb vM vU vQ hf lf dd)) :: hh)
    have H_ := H.pickF (h := [(p, .ty 58, (dkC nb vM vU vQ hf lf dd))]) (t := hh) [] [0] rfl
    exact H_.kn
/-- A step of the fuse: whether it is dead, what is left, the error. -/
def stepP (hf : Bool) (lf : Int) (dd : Bool) : Bool × Int × Int := if hf = false then (dd, lf, 0) else if lf = 0 then (true, lf, 17) else (dd, lf - 1, 0)
set_option maxHeartbeats 4000000 in
theorem step_p {p : Nat} {nb lf : Int} {vM vU vQ : Value} {hf dd : Bool} (hlf : 0 ≤ lf ∧ lf < 9223372036854775808) {hh : Hep} (w0 w : World) (K : Kn w0 w ([(p, .ty 58, (dkC nb vM vU vQ hf lf dd))] ++ hh)) : Calls Try.prog 48 #[.pointer (some ⟨p, 0, none⟩)] w (fun rr w' => rr = .returned (.int .i64 (stepP hf lf dd).2.2) ∧ Kn w0 w' ([(p, .ty 58, (dkC nb vM vU vQ hf ((stepP hf lf dd).2.1) ((stepP hf lf dd).1)))] ++ hh)) := by
  refine calls_kn (vs := [.pointer (some ⟨p, 0, none⟩)]) 23 Try.func48 rfl Try.ntmps48 rfl K (fun a W H => ?_)
  replace H : St 23 w0 a W [(0, .pointer (some ⟨p, 0, none⟩))] ((p, 58, (dkC nb vM vU vQ hf lf dd)) :: hh) := H
  refine sqR H gs0 fun Z_ z_ => rS 1 rfl <| rN0 z_ ?_
  try clear H a W
  intro a W H
  refine wp_seq_k (fun K2 hK2 => ?_)
  refine wp_seq_k (fun K3 hK3 => ?_)
  cases hq1 : hf with
  | true =>
    try rw [hq1] at H
    replace H : St 23 w0 a W [(2, .int .i64 0), (0, .pointer (some ⟨p, 0, none⟩))] ((p, 58, (dkC nb vM vU vQ true lf dd)) :: hh) := H
    refine rgP H gs0 (rS 1 rfl <| rV rfl (does_nilCheckQ rfl rfl) <| rV rfl (does_fieldAddr rfl rfl (fa_dk 4 (by decide))) <| rV rfl (does_loadAt (v := .bool true) rfl rfl (k := 0) rfl ld_dk4) <| rS 1 rfl <| rK [1, 0, 0, 0, 0] [] [] <| rZ0 ?_)
    try clear H a W
    intro a W H
    refine hK3 _ _ ?_
    clear hK3
    refine wp_cond_false (H.ev rfl) ?_
    refine wp_skip ?_
    refine hK2 _ _ ?_
    clear hK2
    refine wp_seq_k (fun K4 hK4 => ?_)
    refine sqR H gs0 fun Z_ z_ => rS 1 rfl <| rV rfl (does_nilCheckQ rfl rfl) <| rV rfl (does_fieldAddr rfl rfl (fa_dk 5 (by decide))) <| rV rfl (does_loadAt (v := .int .i64 lf) rfl rfl (k := 0) rfl ld_dk5) <| rV rfl (does_binOp rfl rfl rfl (zd_eql_int (k := lf) (m := 0) rfl _ _)) <| rK [1, 0, 0, 0, 0, 0] [] [] <| rN0 z_ ?_
    try clear H a W
    intro a W H
    cases hq2 : decide (lf = 0) with
    | true =>
      rw [hq2] at H
      have hq2p := of_decide_eq_true hq2
      refine wp_cond_true (H.ev rfl) ?_
      refine sqR H gs0 fun Z_ z_ => rS 1 rfl <| rV rfl (does_nilCheckQ rfl rfl) <| rV rfl (does_fieldAddr rfl rfl (fa_dk 6 (by decide))) <| rX [1] (c := (dkC nb vM vU vQ true lf true)) ⟨rfl, rfl⟩ rfl rfl rfl (st_dk6) rfl <| rK [0, 0, 0, 0] [] [] <| rN0 z_ ?_
      try clear H a W
      intro a W H
      refine sqR H gs0 fun Z_ z_ => rK [0] [] [] <| rS 1 rfl <| rN0 z_ ?_
      try clear H a W
      intro a W H
      refine wp_ret ?_
      repeat (first | (with_reducible refine then_ret ?_) | (with_reducible refine blk_ret ?_))
      refine end_tmp (p := 2) rfl rfl H (fun hb => ?_)
      have he : stepP hf lf dd = (true, lf, 17) := by
        unfold stepP
        rw [hq1]
        rw [if_neg (by decide), if_pos hq2p]
      rw [he]
      rw [hq1]
      refine ⟨rfl, ?_⟩
      show Kn w0 W ((p, .ty 58, (dkC nb vM vU vQ true lf true)) :: hh)
      have H_ := H.pickF (h := [(p, .ty 58, (dkC nb vM vU vQ true lf true))]) (t := hh) [] [0] rfl
      exact H_.kn
    | false =>
      rw [hq2] at H
      have hq2p := of_decide_eq_false hq2
      refine wp_cond_false (H.ev rfl) ?_
      refine wp_skip ?_
      refine hK4 _ _ ?_
      clear hK4
      refine sqR H gs0 fun Z_ z_ => rS 1 rfl <| rV rfl (does_nilCheckQ rfl rfl) <| rV rfl (does_fieldAddr rfl rfl (fa_dk 5 (by decide))) <| rV rfl (does_loadAt (v := .int .i64 lf) rfl rfl (k := 0) rfl ld_dk5) <| rV rfl (does_binOp rfl rfl rfl (zd_sub_int (k := lf) (m := 1) (c := lf - 1) rfl (by omega) _ _)) <| rV rfl (does_nilCheckQ rfl rfl) <| rV rfl (does_fieldAddr rfl rfl (fa_dk 5 (by decide))) <| rX [1] (c := (dkC nb vM vU vQ true (lf - 1) dd)) ⟨rfl, rfl⟩ rfl rfl rfl (st_dk5) rfl <| rK [0, 0, 0, 0, 0, 0, 0, 0, 1, 0] [] [] <| rN0 z_ ?_
      try clear H a W
      intro a W H
      refine sqR H gs0 fun Z_ z_ => rK [0] [] [] <| rS 1 rfl <| rN0 z_ ?_
      try clear H a W
      intro a W H
      refine wp_ret ?_
      repeat (first | (with_reducible refine then_ret ?_) | (with_reducible refine blk_ret ?_))
      refine end_tmp (p := 2) rfl rfl H (fun hb => ?_)
      have he : stepP hf lf dd = (dd, lf - 1, 0) := by
        unfold stepP
        rw [hq1]
        rw [if_neg (by decide), if_neg hq2p]
      rw [he]
      rw [hq1]
      refine ⟨rfl, ?_⟩
      show Kn w0 W ((p, .ty 58, (dkC nb vM vU vQ true (lf - 1) dd)) :: hh)
      have H_ := H.pickF (h := [(p, .ty 58, (dkC nb vM vU vQ true (lf - 1) dd))]) (t := hh) [] [0] rfl
      exact H_.kn
  | false =>
    try rw [hq1] at H
    replace H : St 23 w0 a W [(2, .int .i64 0), (0, .pointer (some ⟨p, 0, none⟩))] ((p, 58, (dkC nb vM vU vQ false lf dd)) :: hh) := H
    refine rgP H gs0 (rS 1 rfl <| rV rfl (does_nilCheckQ rfl rfl) <| rV rfl (does_fieldAddr rfl rfl (fa_dk 4 (by decide))) <| rV rfl (does_loadAt (v := .bool false) rfl rfl (k := 0) rfl ld_dk4) <| rS 1 rfl <| rK [1, 0, 0, 0, 0] [] [] <| rZ0 ?_)
    try clear H a W
    intro a W H
    refine hK3 _ _ ?_
    clear hK3
    refine wp_cond_true (H.ev rfl) ?_
    refine sqR H gs0 fun Z_ z_ => rK [1, 0] [] [] <| rS 1 rfl <| rK [1, 0] [] [] <| rN0 z_ ?_
    try clear H a W
    intro a W H
    refine wp_ret ?_
    repeat (first | (with_reducible refine then_ret ?_) | (with_reducible refine blk_ret ?_))
    refine end_tmp (p := 2) rfl rfl H (fun hb => ?_)
    have he : stepP hf lf dd = (dd, lf, 0) := by
      unfold stepP
      rw [hq1]
      exact if_pos rfl
    rw [he]
    rw [hq1]
    refine ⟨rfl, ?_⟩
    show Kn w0 W ((p, .ty 58, (dkC nb vM vU vQ false lf dd)) :: hh)
    have H_ := H.pickF (h := [(p, .ty 58, (dkC nb vM vU vQ false lf dd))]) (t := hh) [] [0] rfl
    exact H_.kn
end Go.Proofs.Ytiebelmglchbdaa
