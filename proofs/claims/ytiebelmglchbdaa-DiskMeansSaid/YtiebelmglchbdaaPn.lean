/- Layer 14's laws: how much steps have; a step done. -/
import Derived.Test.YtiebelmglchbdaaPm
namespace Go.Proofs.Ytiebelmglchbdaa
set_option linter.unusedVariables false
set_option linter.unusedSimpArgs false
set_option maxRecDepth 100000
open Go Go.RowKit

theorem bx_step (c : Array Value) (W : World) : (Instr.box 35 (.agg c)).run Try.prog W = .ok (.pointer (some ⟨W.heap.size, 0, none⟩)) (W.alloc (.cells c 35)) := by kernel_rfl
theorem fa_step (k : Nat) (hk : k < 5) {g : Nat} (W : World) : (Instr.fieldAt 35 (.pointer (some ⟨g, 0, none⟩)) k).run Try.prog W = .ok (.pointer (some ⟨g, k, none⟩)) W := by
  rcases k with _ | _ | _ | _ | _ | k
  · kernel_rfl
  · kernel_rfl
  · kernel_rfl
  · kernel_rfl
  · kernel_rfl
  · omega
theorem fa_step4 {g o : Nat} (W : World) : (Instr.fieldAt 35 (.pointer (some ⟨g, o, none⟩)) 4).run Try.prog W = .ok (.pointer (some ⟨g, o + 4, none⟩)) W := by kernel_rfl
theorem fa_step0 {g o : Nat} (W : World) : (Instr.fieldAt 35 (.pointer (some ⟨g, o, none⟩)) 0).run Try.prog W = .ok (.pointer (some ⟨g, o, none⟩)) W := by kernel_rfl
section
variable {g : Nat} {t : TypeId} {x : SH}
theorem ld_step0 (W : World) (h : Blk W g t x.cs) : (Instr.loadAt 3 (.pointer (some ⟨g, 0, none⟩))).run Try.prog W = .ok (.int .i64 x.s.k) W := ld_numC rfl W h
theorem ld_step1 (W : World) (h : Blk W g t x.cs) : (Instr.loadAt 3 (.pointer (some ⟨g, 1, none⟩))).run Try.prog W = .ok (.int .i64 x.s.n) W := ld_numC rfl W h
theorem ld_step2 (W : World) (h : Blk W g t x.cs) : (Instr.loadAt 3 (.pointer (some ⟨g, 2, none⟩))).run Try.prog W = .ok (.int .i64 x.s.m) W := ld_numC rfl W h
theorem ld_step3 (W : World) (h : Blk W g t x.cs) : (Instr.loadAt 5 (.pointer (some ⟨g, 3, none⟩))).run Try.prog W = .ok (bv x.s.f) W := ld_u8t rfl W h
theorem ld_step4 (W : World) (h : Blk W g t x.cs) : (Instr.loadAt 33 (.pointer (some ⟨g, 4, none⟩))).run Try.prog W = .ok (.slice x.A x.s.ps.length x.cp) W := by
  have hc : W.cell? ⟨g, 4, none⟩ = some (.slice x.A x.s.ps.length x.cp) := h.cell 4
  go_simp
end
theorem ia_steps {A : Option Addr} {j n c o g : Nat} (hA : A = some ⟨g, o, none⟩) (hj : j < n) (W : World) : (Instr.indexAt 22 (.slice A n c) (.int .i64 (j : Int))).run Try.prog W = .ok (.pointer (some ⟨g, o + j * 5, none⟩)) W := by
  subst hA
  have h1 : (0 : Int) ≤ (j : Int) := by omega
  have h2 : (j : Int) < (n : Int) := by omega
  go_simp
theorem ld_slI {g f : Nat} {A : Option Addr} {n c : Nat} (W : World) (hc : W.cell? ⟨g, f, none⟩ = some (.slice A n c)) : (Instr.loadAt 33 (.pointer (some ⟨g, f, none⟩))).run Try.prog W = .ok (.slice A n c) W := by go_simp
theorem ld_stepO {w : World} {g o : Nat} {x : SH} (hc : ∀ (j : Nat) (v : Value), x.cs[j]? = some v → w.cell? ⟨g, o + j, none⟩ = some v) : (Instr.loadAt 35 (.pointer (some ⟨g, o, none⟩))).run Try.prog w = .ok (.agg x.cs) w := by
  have hr : w.rangeAt g o x.cs.toList := fun j v hv => hc j v (by rw [← Array.getElem?_toList]; exact hv)
  have := run_loadAt_mid (P := Try.prog) w g o 35 x.cs.toList _ hr Try.underlying35 rfl (by rw [Array.length_toList, x.size]; kernel_rfl)
  rwa [Array.toArray_toList] at this
section
variable {n : Nat} {w0 w w' : World} {a : Act} {e : Env} {h : Hep} {Q : Exit → Act → World → Prop} {o : Oper} {ops : Array Oper}
theorem does_stepO {x : Operand} {g i : Nat} {y : SH} (ho : o.op = .load 35 x) (hx : sev e x = some (.pointer (some ⟨g, i, none⟩))) (hg : g < w0.heap.size) (hc : ∀ (j : Nat) (v : Value), y.cs[j]? = some v → w0.cell? ⟨g, i + j, none⟩ = some v) : Does Try.prog Q n w0 e h o (.agg y.cs) := does_run fun a w H => by
  unfold execOp
  have h1 := ld_stepO (w := w) (g := g) (o := i) (x := y) fun j v hv => (H.below.cell (p := ⟨g, i + j, none⟩) hg).trans (hc j v hv)
  simp only [ho, H.ev hx, Sem.run_bind, h1, Result.andThen_ok, Sem.run_pure]
theorem does_minP {P : Program} {x y : Operand} {k m : Nat} {tys : Array TypeId} (ho : o.op = .call { callee := .builtin .min, args := #[x, y], argTypes := tys }) (hx : sev e x = some (.int .i64 (k : Int))) (hy : sev e y = some (.int .i64 (m : Int))) : Does P Q n w0 e h o (.int .i64 ((min k m : Nat) : Int)) := does_run fun a w H => by
  have e2 : (if m < k then (m : Int) else (k : Int)) = ((min k m : Nat) : Int) := by split <;> omega
  simp [execOp, ho, resolve, invoke, builtin, H.ev hx, H.ev hy, Builtin.min_, Builtin.min2, Result.andThen, e2]
theorem does_minI {P : Program} {x y : Operand} {k m : Int} {tys : Array TypeId} (ho : o.op = .call { callee := .builtin .min, args := #[x, y], argTypes := tys }) (hx : sev e x = some (.int .i64 k)) (hy : sev e y = some (.int .i64 m)) : Does P Q n w0 e h o (.int .i64 (min k m)) := does_run fun a w H => by
  have e2 : (if m < k then m else k) = min k m := by split <;> omega
  simp [execOp, ho, resolve, invoke, builtin, H.ev hx, H.ev hy, Builtin.min_, Builtin.min2, Result.andThen, e2]
/-- How many bytes a step writes. -/
def blkN (m : Int) : Nat := (max 0 (min m 2000)).toNat
theorem blkN_le (m : Int) : blkN m ≤ 2000 := by unfold blkN; omega
theorem does_maxI {P : Program} {x y : Operand} {m : Int} {tys : Array TypeId} (ho : o.op = .call { callee := .builtin .max, args := #[x, y], argTypes := tys }) (hx : sev e x = some (.int .i64 0)) (hy : sev e y = some (.int .i64 (min m 2000))) : Does P Q n w0 e h o (.int .i64 ((blkN m : Nat) : Int)) := does_run fun a w H => by
  have e2 : (if 0 < min m 2000 then min m 2000 else 0) = ((blkN m : Nat) : Int) := by unfold blkN; split <;> omega
  have e3 : (if min m 2000 < 0 then 0 else min m 2000) = ((blkN m : Nat) : Int) := by unfold blkN; split <;> omega
  have e4 : (if min m 2000 ≤ 0 then 0 else min m 2000) = ((blkN m : Nat) : Int) := by unfold blkN; split <;> omega
  simp [execOp, ho, resolve, invoke, builtin, H.ev hx, H.ev hy, Builtin.max_, Builtin.max2, Result.andThen]
  first | exact e2 | exact e3 | exact e4 | omega
/-- A row of bytes that a call makes, wherever the call stands. -/
theorem blk_fact {x : UInt8} {k : Nat} (hk : k ≤ 100000) (H : St n w0 a w e h) : Calls Try.prog 33 #[bv x, .int .i64 ((k : Nat) : Int)] w (fun r W' => ∃ v, r = .returned v ∧ Below w.heap.size w W' ∧ NewS k w0.heap.size h (.ty 5) (bvs (blkB x k)) v W') := by
  refine (block_new x k hk w).mono ?_
  rintro rr w' ⟨g, e, hb, hg, hB⟩
  exact ⟨_, e, hb, g, rfl, g, rfl, hB, Nat.le_trans H.below.size hg, fun p hp => Nat.ne_of_lt (Nat.lt_of_lt_of_le (H.heap p hp).lt hg)⟩
end
/-- What a step does, and answers. -/
def dDo (D : Dk) (s : St5) : Dk × Int :=
  if s.k = 1 then dWrite D s.n (blkB s.f 512) else if s.k = 2 then dSync D else if s.k = 3 then dFuse D s.n else if s.k = 4 then (dCrash D s.ps, 0)
  else if s.k = 5 then dEdit D s.n s.m s.f else if s.k = 6 then dWrite D s.n (blkB s.f (blkN s.m)) else (D, 0)
def sumM (sub : Nat → SH) : Nat → Nat
  | 0 => 0
  | k + 1 => sumM sub k + min (sub k).s.ps.length 1001
theorem sumM_le (sub : Nat → SH) (k : Nat) : sumM sub k ≤ k * 1001 := by
  induction k with
  | zero => exact Nat.zero_le _
  | succ k ih =>
    show sumM sub k + min _ 1001 ≤ _
    omega
theorem max_big : maxLen < 9223372036854775808 := by unfold maxLen; omega
attribute [local irreducible] bvs dwa entsI zeroB lastsB stepP lastN xorB rb dWrite dSync dFuse dCrash dEdit
set_option maxHeartbeats 4000000 in
theorem much_K {hh : Hep} {A : Option Addr} {len cap g o M : Nat} {sub : Nat → SH} (w0 w : World) (hL : SL w0 A len cap g o sub) (hM : M ≤ 100) (K : Kn w0 w hh) : Calls Try.prog 10 #[.slice A len cap, .int .i64 ((M : Nat) : Int)] w (fun rr w' => ∃ b : Bool, rr = .returned (.bool b) ∧ (b = false → len ≤ M) ∧ Kn w0 w' hh) := by
  have hmax := hL.max_
  have hbig := max_big
  refine calls_kn (vs := [.slice A len cap, .int .i64 ((M : Nat) : Int)]) 35 Try.func10 rfl Try.ntmps10 rfl K (fun a W H => ?_)
  replace H : St 35 w0 a W [(0, .slice A len cap), (1, .int .i64 ((M : Nat) : Int))] (hh) := H
  refine sqR H gs0 fun Z_ z_ => rS 1 rfl <| rN0 z_ ?_
  try clear H a W
  intro a W H
  refine sqR H gs0 fun Z_ z_ => rS 1 rfl <| rN0 z_ ?_
  try clear H a W
  intro a W H
  refine wp_seq_k (fun K3 hK3 => ?_)
  refine sqR H gs0 fun Z_ z_ => rS 1 rfl <| rN0 z_ ?_
  try clear H a W
  intro a W H
  refine wp_block ?_
  replace H : St 35 w0 a W [(6, .int .i64 ((0 : Nat) : Int)), (5, .int .i64 ((sumM sub 0 : Nat) : Int)), (4, .bool false), (0, .slice A len cap), (1, .int .i64 ((M : Nat) : Int))] (hh) := H.pickF (h := []) (t := hh) [0, 1, 2, 3, 4] [] rfl
  refine wp_rounds (min len (M + 1)) (fun k a W => St 35 w0 a W [(6, .int .i64 ((k : Nat) : Int)), (5, .int .i64 ((sumM sub k : Nat) : Int)), (4, .bool false), (0, .slice A len cap), (1, .int .i64 ((M : Nat) : Int))] (hh)) (k0 := 0) H (by omega) ?_
  try clear H a W
  intro k a W hk H
  by_cases hk2 : k < (min len (M + 1))
  · have hsk := sumM_le sub k
    have hmx := Nat.mul_le_mul_right 1001 (show k ≤ M by omega)
    refine wp_seq_k (fun K5 hK5 => ?_)
    refine sqR H gs0 fun Z_ z_ => rS 2 rfl <| rV rfl (does_len Try.underlying22 rfl rfl) <| rV rfl (does_binOp rfl rfl rfl (zd_lss_int (k := ((k : Nat) : Int)) (m := ((len : Nat) : Int)) (decide_eq_true (by omega)) _ _)) <| rS 3 rfl <| rV rfl (does_binOp rfl rfl rfl (zd_leq_int (k := ((k : Nat) : Int)) (m := ((M : Nat) : Int)) (decide_eq_true (by omega)) _ _)) <| rS 1 rfl <| rN0 z_ ?_
    try clear H a W
    intro a W H
    refine wp_cond_true (H.ev rfl) ?_
    refine wp_skip ?_
    refine hK5 _ _ ?_
    clear hK5
    refine wp_seq_k (fun K7 hK7 => ?_)
    refine wp_block ?_
    refine rgP H gs0 (rS 3 rfl <| rV rfl (does_indexAddr rfl rfl rfl (ia_steps (j := k) (hL.at_ (by omega)).1 (by omega))) <| rV rfl (does_fieldAddr rfl rfl fa_step4) <| rV rfl (does_loadCell (v := .slice (sub k).A (sub k).s.ps.length (sub k).cp) rfl rfl ((hL.at_ (by omega)).2.2 k (by omega) 4 _ rfl) (hL.at_ (by omega)).2.1 ld_slI) <| rV rfl (does_len Try.underlying33 rfl rfl) <| rV rfl (does_minP (k := ((sub k).s.ps.length)) (m := 1001) rfl rfl rfl) <| rV rfl (does_binOp rfl rfl rfl (zd_add_int (k := ((sumM sub k : Nat) : Int)) (m := ((min ((sub k).s.ps.length) 1001 : Nat) : Int)) (c := ((sumM sub k : Nat) : Int) + ((min ((sub k).s.ps.length) 1001 : Nat) : Int)) rfl (by omega) _ _)) <| rK [1, 1, 1, 1, 1, 1, 1, 1, 1, 1, 1, 1, 1, 1, 1, 1, 1, 1, 1, 0] [] [] <| rS 1 rfl <| rZ0 ?_)
    try clear H a W
    intro a W H
    refine blk_normal ?_
    refine hK7 _ _ ?_
    clear hK7
    refine rgP H gs0 (rS 1 rfl <| rV rfl (does_binOp rfl rfl rfl (zd_add_int (k := ((k : Nat) : Int)) (m := 1) (c := ((k + 1 : Nat) : Int)) (by omega) (by omega) _ _)) <| rK [1, 1, 1, 1, 1, 1, 1, 1, 1, 1, 1, 1, 1, 1, 1, 1, 1, 1, 1, 1, 1, 0] [] [] <| rS 1 rfl <| rZ0 ?_)
    try clear H a W
    intro a W H
    refine ⟨k + 1, by omega, by omega, ?_⟩
    show St 35 w0 a W [(6, .int .i64 ((k + 1 : Nat) : Int)), (5, .int .i64 ((sumM sub (k + 1) : Nat) : Int)), (4, .bool false), (0, .slice A len cap), (1, .int .i64 ((M : Nat) : Int))] (hh)
    exact H.pickF (h := []) (t := hh) [0, 3, 22, 23, 24] [] rfl
  · obtain rfl : (min len (M + 1)) = k := by omega
    refine wp_seq_k (fun K8 hK8 => ?_)
    refine wp_seq_k (fun K9 hK9 => ?_)
    cases hq1 : decide ((((min len (M + 1)) : Nat) : Int) < ((len : Nat) : Int)) with
    | true =>
      have hq1p := of_decide_eq_true hq1
      refine rgP H gs0 (rS 2 rfl <| rV rfl (does_len Try.underlying22 rfl rfl) <| rV rfl (does_binOp rfl rfl rfl (zd_lss_int (k := (((min len (M + 1)) : Nat) : Int)) (m := ((len : Nat) : Int)) hq1 _ _)) <| rS 3 rfl <| rV rfl (does_binOp rfl rfl rfl (zd_leq_int (k := (((min len (M + 1)) : Nat) : Int)) (m := ((M : Nat) : Int)) (decide_eq_false (by omega)) _ _)) <| rS 1 rfl <| rK [1, 0, 0, 0, 0, 0, 0, 0, 0] [] [] <| rZ0 ?_)
      try clear H a W
      intro a W H
      refine hK9 _ _ ?_
      clear hK9
      refine wp_cond_false (H.ev rfl) ?_
      refine wp_exit ?_
      repeat (first | (with_reducible refine then_exit ?_) | (with_reducible refine blk_pass (by decide) ?_))
      refine blk_exit ?_
      refine hK3 _ _ ?_
      clear hK3
      refine wp_seq_k (fun K10 hK10 => ?_)
      cases hq2 : decide (((M : Nat) : Int) < ((len : Nat) : Int)) with
      | true =>
        have hq2p := of_decide_eq_true hq2
        refine rgP H gs0 (rS 1 rfl <| rV rfl (does_len Try.underlying22 rfl rfl) <| rS 1 rfl <| rV rfl (does_binOp rfl rfl rfl (zd_gtr_int (k := ((len : Nat) : Int)) (m := ((M : Nat) : Int)) hq2 _ _)) <| rS 4 rfl <| rK [1, 1, 1, 1, 1, 1, 1, 1, 1, 1, 1, 0] [] [] <| rS 1 rfl <| rK [1, 0, 0, 0, 0, 0, 0, 0, 0, 0, 0, 0, 0, 0] [] [] <| rZ0 ?_)
        try clear H a W
        intro a W H
        refine hK10 _ _ ?_
        clear hK10
        refine wp_ret ?_
        repeat (first | (with_reducible refine then_ret ?_) | (with_reducible refine blk_ret ?_))
        refine end_tmp (p := 4) rfl rfl H (fun hb => ?_)
        refine ⟨true, rfl, ?_, H.kn⟩
        intro hf
        first | omega | exact absurd hf (by decide) | (have h_ := of_decide_eq_false hf; omega) | simp_all <;> omega
      | false =>
        have hq2p := of_decide_eq_false hq2
        refine rgP H gs0 (rS 1 rfl <| rV rfl (does_len Try.underlying22 rfl rfl) <| rS 1 rfl <| rV rfl (does_binOp rfl rfl rfl (zd_gtr_int (k := ((len : Nat) : Int)) (m := ((M : Nat) : Int)) hq2 _ _)) <| rS 2 rfl <| rV rfl (does_binOp rfl rfl rfl (zd_gtr_int (k := ((sumM sub (min len (M + 1)) : Nat) : Int)) (m := 1000) rfl _ _)) <| rS 1 rfl <| rK [1, 1, 1, 1, 1, 1, 1, 1, 1, 1, 1, 0] [] [] <| rS 1 rfl <| rK [1, 0, 0, 0, 0, 0, 0, 0, 0, 0, 0, 0, 0, 0] [] [] <| rZ0 ?_)
        try clear H a W
        intro a W H
        refine hK10 _ _ ?_
        clear hK10
        refine wp_ret ?_
        repeat (first | (with_reducible refine then_ret ?_) | (with_reducible refine blk_ret ?_))
        refine end_tmp (p := 4) rfl rfl H (fun hb => ?_)
        refine ⟨(decide (1000 < ((sumM sub (min len (M + 1)) : Nat) : Int))), rfl, ?_, H.kn⟩
        intro hf
        first | omega | exact absurd hf (by decide) | (have h_ := of_decide_eq_false hf; omega) | simp_all <;> omega
    | false =>
      have hq1p := of_decide_eq_false hq1
      refine rgP H gs0 (rS 2 rfl <| rV rfl (does_len Try.underlying22 rfl rfl) <| rV rfl (does_binOp rfl rfl rfl (zd_lss_int (k := (((min len (M + 1)) : Nat) : Int)) (m := ((len : Nat) : Int)) hq1 _ _)) <| rS 5 rfl <| rK [1, 0, 0, 0, 0, 0, 0, 0, 0] [] [] <| rZ0 ?_)
      try clear H a W
      intro a W H
      refine hK9 _ _ ?_
      clear hK9
      refine wp_cond_false (H.ev rfl) ?_
      refine wp_exit ?_
      repeat (first | (with_reducible refine then_exit ?_) | (with_reducible refine blk_pass (by decide) ?_))
      refine blk_exit ?_
      refine hK3 _ _ ?_
      clear hK3
      refine wp_seq_k (fun K11 hK11 => ?_)
      cases hq3 : decide (((M : Nat) : Int) < ((len : Nat) : Int)) with
      | true =>
        have hq3p := of_decide_eq_true hq3
        refine rgP H gs0 (rS 1 rfl <| rV rfl (does_len Try.underlying22 rfl rfl) <| rS 1 rfl <| rV rfl (does_binOp rfl rfl rfl (zd_gtr_int (k := ((len : Nat) : Int)) (m := ((M : Nat) : Int)) hq3 _ _)) <| rS 4 rfl <| rK [1, 1, 1, 1, 1, 1, 1, 1, 1, 1, 1, 0] [] [] <| rS 1 rfl <| rK [1, 0, 0, 0, 0, 0, 0, 0, 0, 0, 0, 0, 0, 0] [] [] <| rZ0 ?_)
        try clear H a W
        intro a W H
        refine hK11 _ _ ?_
        clear hK11
        refine wp_ret ?_
        repeat (first | (with_reducible refine then_ret ?_) | (with_reducible refine blk_ret ?_))
        refine end_tmp (p := 4) rfl rfl H (fun hb => ?_)
        refine ⟨true, rfl, ?_, H.kn⟩
        intro hf
        first | omega | exact absurd hf (by decide) | (have h_ := of_decide_eq_false hf; omega) | simp_all <;> omega
      | false =>
        have hq3p := of_decide_eq_false hq3
        refine rgP H gs0 (rS 1 rfl <| rV rfl (does_len Try.underlying22 rfl rfl) <| rS 1 rfl <| rV rfl (does_binOp rfl rfl rfl (zd_gtr_int (k := ((len : Nat) : Int)) (m := ((M : Nat) : Int)) hq3 _ _)) <| rS 2 rfl <| rV rfl (does_binOp rfl rfl rfl (zd_gtr_int (k := ((sumM sub (min len (M + 1)) : Nat) : Int)) (m := 1000) rfl _ _)) <| rS 1 rfl <| rK [1, 1, 1, 1, 1, 1, 1, 1, 1, 1, 1, 0] [] [] <| rS 1 rfl <| rK [1, 0, 0, 0, 0, 0, 0, 0, 0, 0, 0, 0, 0, 0] [] [] <| rZ0 ?_)
        try clear H a W
        intro a W H
        refine hK11 _ _ ?_
        clear hK11
        refine wp_ret ?_
        repeat (first | (with_reducible refine then_ret ?_) | (with_reducible refine blk_ret ?_))
        refine end_tmp (p := 4) rfl rfl H (fun hb => ?_)
        refine ⟨(decide (1000 < ((sumM sub (min len (M + 1)) : Nat) : Int))), rfl, ?_, H.kn⟩
        intro hf
        first | omega | exact absurd hf (by decide) | (have h_ := of_decide_eq_false hf; omega) | simp_all <;> omega
set_option maxHeartbeats 8000000 in
theorem do_K {p : Nat} {D : Dk} {r hh : Hep} (w0 w : World) (hP : PO p D r) (x : SH) (hx : SOk w0 w0.heap.size x) (hl : D.L.length < 10000) (K : Kn w0 w (r ++ hh)) : Calls Try.prog 15 #[.pointer (some ⟨p, 0, none⟩), .agg (x.cs)] w (fun rr w' => ∃ r', rr = .returned (.int .i64 (dDo D x.s).2) ∧ PO p (dDo D x.s).1 r' ∧ Kn w0 w' (r' ++ hh)) := by
  have hxn := hx.n
  have hmx := hx.ip.max_
  have hbig := max_big
  have hb6 := blkN_le x.s.m
  refine calls_kn (vs := [.pointer (some ⟨p, 0, none⟩), .agg (x.cs)]) 61 Try.func15 rfl Try.ntmps15 rfl K (fun a W H => ?_)
  replace H : St 61 w0 a W [(0, .pointer (some ⟨p, 0, none⟩)), (1, .agg (x.cs))] ((r ++ hh)) := H
  refine sqR H gs0 fun Z_ z_ => rB rfl rfl rfl (bx_step _) fun g1 => rS 1 rfl <| rK [1, 1, 1, 0] [] [] <| rN0 z_ ?_
  try clear H a W
  intro a W H
  refine wp_seq_k (fun K2 hK2 => ?_)
  refine sqR H gs0 fun Z_ z_ => rV rfl (does_fieldAddr rfl rfl (fa_step 0 (by decide))) <| rV rfl (does_loadAt (v := .int .i64 x.s.k) rfl rfl (k := 0) rfl ld_step0) <| rK [1, 0] [] [] <| rN0 z_ ?_
  try clear H a W
  intro a W H
  refine wp_block ?_
  refine sqR H gs0 fun Z_ z_ => rV rfl (does_binOp rfl rfl rfl (zd_eql_int (k := x.s.k) (m := 1) rfl _ _)) <| rS 1 rfl <| rK [1, 0] [] [] <| rN0 z_ ?_
  try clear H a W
  intro a W H
  cases hq1 : decide (x.s.k = 1) with
  | true =>
    rw [hq1] at H
    have hq1p := of_decide_eq_true hq1
    refine wp_cond_true (H.ev rfl) ?_
    refine wp_seq_k (fun K5 hK5 => ?_)
    refine d2 [.v 9 _ [], .v 10 _ [], .v 11 _ [1], .v 12 _ [], .v 13 _ [3], .f 14 _ [4]] (by kernel_rfl) (by kernel_rfl) H gs0 ⟨oS rfl rfl, oV rfl (does_fieldAddr rfl rfl (fa_step 1 (by decide))), oV rfl (does_loadAt (v := .int .i64 x.s.n) rfl rfl (k := 0) rfl ld_step1), oV rfl (does_fieldAddr rfl rfl (fa_step 3 (by decide))), oV rfl (does_loadAt (v := bv x.s.f) rfl rfl (k := 0) rfl ld_step3), ⟨oC rfl rfl ⟨_, Try.func33, by kernel_rfl⟩ rfl (fun a w H _ => blk_fact (x := x.s.f) (k := 512) (by have h_ := blkN_le x.s.m; omega) H), fun _ => inferInstance⟩, trivial⟩ (rNwS fun g2 => rI0 ?_)
    try clear H a W
    intro a W H
    replace H : St 61 w0 a W [(14, .slice (some ⟨g2, 0, none⟩) 512 512), (13, bv x.s.f), (12, .pointer (some ⟨g1, 3, none⟩)), (11, .int .i64 x.s.n), (10, .pointer (some ⟨g1, 1, none⟩)), (9, .pointer (some ⟨p, 0, none⟩)), (7, .bool true), (6, .int .i64 x.s.k), (4, .int .i64 0), (3, .pointer (some ⟨g1, 0, none⟩)), (0, .pointer (some ⟨p, 0, none⟩))] (r ++ (([(g2, .ty 5, bvs (blkB x.s.f 512)), (g1, .ty 35, x.cs)] : Hep) ++ hh)) := H.perm' (((List.Perm.refl _).append_left ([(g2, .ty 5, bvs (blkB x.s.f 512)), (g1, .ty 35, x.cs)] : Hep)).trans (List.perm_append_comm_assoc ([(g2, .ty 5, bvs (blkB x.s.f 512)), (g1, .ty 35, x.cs)] : Hep) r hh))
    refine pl_callX rfl rfl ⟨_, Try.func28, by kernel_rfl⟩ rfl (fun K_ => by have h_ := po_write (hh := (([(g2, .ty 5, bvs (blkB x.s.f 512)), (g1, .ty 35, x.cs)] : Hep) ++ hh)) (b := blkB x.s.f 512) (gb := g2) (cb := 512) hP x.s.n (by rw [blk_len _ _]; omega) (List.mem_append_left _ (List.mem_iff_getElem?.2 ⟨0, rfl⟩)) hl w0 _ K_; rw [show (blkB x.s.f 512).length = 512 from (blk_len _ _)] at h_; exact h_) H ?_
    try clear H a W
    rintro r1 a W hP1 H
    replace hP1 : PO p (dWrite D x.s.n (blkB x.s.f 512)).1 r1 := hP1
    replace H := H.perm' (List.perm_append_comm_assoc r1 ([(g2, .ty 5, bvs (blkB x.s.f 512)), (g1, .ty 35, x.cs)] : Hep) hh)
    replace H : St 61 w0 a W [(15, .int .i64 ((dWrite D x.s.n (blkB x.s.f 512)).2)), (14, .slice (some ⟨g2, 0, none⟩) 512 512), (13, bv x.s.f), (12, .pointer (some ⟨g1, 3, none⟩)), (11, .int .i64 x.s.n), (10, .pointer (some ⟨g1, 1, none⟩)), (9, .pointer (some ⟨p, 0, none⟩)), (7, .bool true), (6, .int .i64 x.s.k), (4, .int .i64 0), (3, .pointer (some ⟨g1, 0, none⟩)), (0, .pointer (some ⟨p, 0, none⟩))] ((g2, 5, bvs (blkB x.s.f 512)) :: (g1, 35, x.cs) :: (r1 ++ hh)) := H
    refine rgO H gs0 (rV rfl (does_call rfl ⟨_, Try.func13, by kernel_rfl⟩ rfl (fun W hb => num_any _ W)) <| rK [1, 1, 1, 1, 1, 1, 1, 1, 1, 1, 0] [] [] <| rS 1 rfl <| rK [1, 0, 0, 0, 0, 0, 0, 0, 0, 0, 0, 0, 0] [1, 0] [] <| rZ0 ?_)
    try clear H a W
    intro a W H
    refine hK5 _ _ ?_
    clear hK5
    refine wp_ret ?_
    repeat (first | (with_reducible refine then_ret ?_) | (with_reducible refine blk_ret ?_))
    refine end_tmp (p := 4) rfl rfl H (fun hb => ?_)
    have hd : dDo D x.s = dWrite D x.s.n (blkB x.s.f 512) := by
      unfold dDo
      rw [if_pos hq1p]
    rw [hd]
    refine ⟨r1, rfl, hP1, ?_⟩
    show Kn w0 W (r1 ++ hh)
    have H_ := H.pickF (h := [(g2, .ty 5, bvs (blkB x.s.f 512))]) (t := (r1 ++ hh)) [] [] rfl
    exact H_.kn
  | false =>
    rw [hq1] at H
    have hq1p := of_decide_eq_false hq1
    refine wp_cond_false (H.ev rfl) ?_
    refine sqR H gs0 fun Z_ z_ => rV rfl (does_binOp rfl rfl rfl (zd_eql_int (k := x.s.k) (m := 2) rfl _ _)) <| rS 1 rfl <| rK [1, 0, 0] [] [] <| rN0 z_ ?_
    try clear H a W
    intro a W H
    cases hq2 : decide (x.s.k = 2) with
    | true =>
      rw [hq2] at H
      have hq2p := of_decide_eq_true hq2
      refine wp_cond_true (H.ev rfl) ?_
      refine wp_seq_k (fun K7 hK7 => ?_)
      refine rgP H gs0 (rS 1 rfl <| rI0 ?_)
      try clear H a W
      intro a W H
      replace H : St 61 w0 a W [(19, .pointer (some ⟨p, 0, none⟩)), (17, .bool true), (6, .int .i64 x.s.k), (4, .int .i64 0), (3, .pointer (some ⟨g1, 0, none⟩)), (0, .pointer (some ⟨p, 0, none⟩))] (r ++ (([(g1, .ty 35, x.cs)] : Hep) ++ hh)) := H.perm' (((List.Perm.refl _).append_left ([(g1, .ty 35, x.cs)] : Hep)).trans (List.perm_append_comm_assoc ([(g1, .ty 35, x.cs)] : Hep) r hh))
      refine pl_callX rfl rfl ⟨_, Try.func27, by kernel_rfl⟩ rfl (fun K_ => po_sync (hh := (([(g1, .ty 35, x.cs)] : Hep) ++ hh)) hP w0 _ K_) H ?_
      try clear H a W
      rintro r2 a W hP2 H
      replace hP2 : PO p (dSync D).1 r2 := hP2
      replace H := H.perm' (List.perm_append_comm_assoc r2 ([(g1, .ty 35, x.cs)] : Hep) hh)
      replace H : St 61 w0 a W [(20, .int .i64 ((dSync D).2)), (19, .pointer (some ⟨p, 0, none⟩)), (17, .bool true), (6, .int .i64 x.s.k), (4, .int .i64 0), (3, .pointer (some ⟨g1, 0, none⟩)), (0, .pointer (some ⟨p, 0, none⟩))] ((g1, 35, x.cs) :: (r2 ++ hh)) := H
      refine rgO H gs0 (rV rfl (does_call rfl ⟨_, Try.func13, by kernel_rfl⟩ rfl (fun W hb => num_any _ W)) <| rK [1, 1, 1, 1, 1, 0] [] [] <| rS 1 rfl <| rK [1, 0, 0, 0, 0, 0, 0, 0] [0] [] <| rZ0 ?_)
      try clear H a W
      intro a W H
      refine hK7 _ _ ?_
      clear hK7
      refine wp_ret ?_
      repeat (first | (with_reducible refine then_ret ?_) | (with_reducible refine blk_ret ?_))
      refine end_tmp (p := 4) rfl rfl H (fun hb => ?_)
      have hd : dDo D x.s = dSync D := by
        unfold dDo
        rw [if_neg hq1p, if_pos hq2p]
      rw [hd]
      refine ⟨r2, rfl, hP2, ?_⟩
      show Kn w0 W (r2 ++ hh)
      exact H.kn
    | false =>
      rw [hq2] at H
      have hq2p := of_decide_eq_false hq2
      refine wp_cond_false (H.ev rfl) ?_
      refine sqR H gs0 fun Z_ z_ => rV rfl (does_binOp rfl rfl rfl (zd_eql_int (k := x.s.k) (m := 3) rfl _ _)) <| rS 1 rfl <| rK [1, 0, 0] [] [] <| rN0 z_ ?_
      try clear H a W
      intro a W H
      cases hq3 : decide (x.s.k = 3) with
      | true =>
        rw [hq3] at H
        have hq3p := of_decide_eq_true hq3
        refine wp_cond_true (H.ev rfl) ?_
        refine wp_seq_k (fun K9 hK9 => ?_)
        refine rgP H gs0 (rS 1 rfl <| rV rfl (does_fieldAddr rfl rfl (fa_step 1 (by decide))) <| rV rfl (does_loadAt (v := .int .i64 x.s.n) rfl rfl (k := 0) rfl ld_step1) <| rI0 ?_)
        try clear H a W
        intro a W H
        replace H : St 61 w0 a W [(26, .int .i64 x.s.n), (25, .pointer (some ⟨g1, 1, none⟩)), (24, .pointer (some ⟨p, 0, none⟩)), (22, .bool true), (6, .int .i64 x.s.k), (4, .int .i64 0), (3, .pointer (some ⟨g1, 0, none⟩)), (0, .pointer (some ⟨p, 0, none⟩))] (r ++ (([(g1, .ty 35, x.cs)] : Hep) ++ hh)) := H.perm' (((List.Perm.refl _).append_left ([(g1, .ty 35, x.cs)] : Hep)).trans (List.perm_append_comm_assoc ([(g1, .ty 35, x.cs)] : Hep) r hh))
        refine pl_callX rfl rfl ⟨_, Try.func26, by kernel_rfl⟩ rfl (fun K_ => po_fuse (hh := (([(g1, .ty 35, x.cs)] : Hep) ++ hh)) hP x.s.n (by omega) w0 _ K_) H ?_
        try clear H a W
        rintro r3 a W hP3 H
        replace hP3 : PO p (dFuse D x.s.n).1 r3 := hP3
        replace H := H.perm' (List.perm_append_comm_assoc r3 ([(g1, .ty 35, x.cs)] : Hep) hh)
        replace H : St 61 w0 a W [(27, .int .i64 ((dFuse D x.s.n).2)), (26, .int .i64 x.s.n), (25, .pointer (some ⟨g1, 1, none⟩)), (24, .pointer (some ⟨p, 0, none⟩)), (22, .bool true), (6, .int .i64 x.s.k), (4, .int .i64 0), (3, .pointer (some ⟨g1, 0, none⟩)), (0, .pointer (some ⟨p, 0, none⟩))] ((g1, 35, x.cs) :: (r3 ++ hh)) := H
        refine rgO H gs0 (rV rfl (does_call rfl ⟨_, Try.func13, by kernel_rfl⟩ rfl (fun W hb => num_any _ W)) <| rK [1, 1, 1, 1, 1, 1, 1, 0] [] [] <| rS 1 rfl <| rK [1, 0, 0, 0, 0, 0, 0, 0, 0, 0] [0] [] <| rZ0 ?_)
        try clear H a W
        intro a W H
        refine hK9 _ _ ?_
        clear hK9
        refine wp_ret ?_
        repeat (first | (with_reducible refine then_ret ?_) | (with_reducible refine blk_ret ?_))
        refine end_tmp (p := 4) rfl rfl H (fun hb => ?_)
        have hd : dDo D x.s = dFuse D x.s.n := by
          unfold dDo
          rw [if_neg hq1p, if_neg hq2p, if_pos hq3p]
        rw [hd]
        refine ⟨r3, rfl, hP3, ?_⟩
        show Kn w0 W (r3 ++ hh)
        exact H.kn
      | false =>
        rw [hq3] at H
        have hq3p := of_decide_eq_false hq3
        refine wp_cond_false (H.ev rfl) ?_
        refine sqR H gs0 fun Z_ z_ => rV rfl (does_binOp rfl rfl rfl (zd_eql_int (k := x.s.k) (m := 4) rfl _ _)) <| rS 1 rfl <| rK [1, 0, 0] [] [] <| rN0 z_ ?_
        try clear H a W
        intro a W H
        cases hq4 : decide (x.s.k = 4) with
        | true =>
          rw [hq4] at H
          have hq4p := of_decide_eq_true hq4
          refine wp_cond_true (H.ev rfl) ?_
          refine wp_seq_k (fun K11 hK11 => ?_)
          refine rgP H gs0 (rS 1 rfl <| rV rfl (does_fieldAddr rfl rfl (fa_step 4 (by decide))) <| rV rfl (does_loadAt (v := .slice x.A x.s.ps.length x.cp) rfl rfl (k := 0) rfl ld_step4) <| rI0 ?_)
          try clear H a W
          intro a W H
          replace H : St 61 w0 a W [(33, .slice x.A x.s.ps.length x.cp), (32, .pointer (some ⟨g1, 4, none⟩)), (31, .pointer (some ⟨p, 0, none⟩)), (29, .bool true), (6, .int .i64 x.s.k), (4, .int .i64 0), (3, .pointer (some ⟨g1, 0, none⟩)), (0, .pointer (some ⟨p, 0, none⟩))] (r ++ (([(g1, .ty 35, x.cs)] : Hep) ++ hh)) := H.perm' (((List.Perm.refl _).append_left ([(g1, .ty 35, x.cs)] : Hep)).trans (List.perm_append_comm_assoc ([(g1, .ty 35, x.cs)] : Hep) r hh))
          refine pl_callX rfl rfl ⟨_, Try.func23, by kernel_rfl⟩ rfl (fun K_ => po_crash (hh := (([(g1, .ty 35, x.cs)] : Hep) ++ hh)) w0 hP (hx.ip.pk _) (by omega) _ K_) H ?_
          try clear H a W
          rintro r4 a W hP4 H
          replace hP4 : PO p (dCrash D x.s.ps) r4 := hP4
          replace H := H.perm' (List.perm_append_comm_assoc r4 ([(g1, .ty 35, x.cs)] : Hep) hh)
          replace H : St 61 w0 a W [(34, .int .i64 0), (33, .slice x.A x.s.ps.length x.cp), (32, .pointer (some ⟨g1, 4, none⟩)), (31, .pointer (some ⟨p, 0, none⟩)), (29, .bool true), (6, .int .i64 x.s.k), (4, .int .i64 0), (3, .pointer (some ⟨g1, 0, none⟩)), (0, .pointer (some ⟨p, 0, none⟩))] ((g1, 35, x.cs) :: (r4 ++ hh)) := H
          refine rgO H gs0 (rV rfl (does_call rfl ⟨_, Try.func13, by kernel_rfl⟩ rfl (fun W hb => num_any _ W)) <| rK [1, 1, 1, 1, 1, 1, 1, 0] [] [] <| rS 1 rfl <| rK [1, 0, 0, 0, 0, 0, 0, 0, 0, 0] [0] [] <| rZ0 ?_)
          try clear H a W
          intro a W H
          refine hK11 _ _ ?_
          clear hK11
          refine wp_ret ?_
          repeat (first | (with_reducible refine then_ret ?_) | (with_reducible refine blk_ret ?_))
          refine end_tmp (p := 4) rfl rfl H (fun hb => ?_)
          have hd : dDo D x.s = (dCrash D x.s.ps, 0) := by
            unfold dDo
            rw [if_neg hq1p, if_neg hq2p, if_neg hq3p, if_pos hq4p]
          rw [hd]
          refine ⟨r4, rfl, hP4, ?_⟩
          show Kn w0 W (r4 ++ hh)
          exact H.kn
        | false =>
          rw [hq4] at H
          have hq4p := of_decide_eq_false hq4
          refine wp_cond_false (H.ev rfl) ?_
          refine sqR H gs0 fun Z_ z_ => rV rfl (does_binOp rfl rfl rfl (zd_eql_int (k := x.s.k) (m := 5) rfl _ _)) <| rS 1 rfl <| rK [1, 0, 0] [] [] <| rN0 z_ ?_
          try clear H a W
          intro a W H
          cases hq5 : decide (x.s.k = 5) with
          | true =>
            rw [hq5] at H
            have hq5p := of_decide_eq_true hq5
            refine wp_cond_true (H.ev rfl) ?_
            refine wp_seq_k (fun K13 hK13 => ?_)
            refine rgP H gs0 (rS 1 rfl <| rV rfl (does_fieldAddr rfl rfl (fa_step 1 (by decide))) <| rV rfl (does_loadAt (v := .int .i64 x.s.n) rfl rfl (k := 0) rfl ld_step1) <| rV rfl (does_fieldAddr rfl rfl (fa_step 2 (by decide))) <| rV rfl (does_loadAt (v := .int .i64 x.s.m) rfl rfl (k := 0) rfl ld_step2) <| rV rfl (does_fieldAddr rfl rfl (fa_step 3 (by decide))) <| rV rfl (does_loadAt (v := bv x.s.f) rfl rfl (k := 0) rfl ld_step3) <| rI0 ?_)
            try clear H a W
            intro a W H
            replace H : St 61 w0 a W [(44, bv x.s.f), (43, .pointer (some ⟨g1, 3, none⟩)), (42, .int .i64 x.s.m), (41, .pointer (some ⟨g1, 2, none⟩)), (40, .int .i64 x.s.n), (39, .pointer (some ⟨g1, 1, none⟩)), (38, .pointer (some ⟨p, 0, none⟩)), (36, .bool true), (6, .int .i64 x.s.k), (4, .int .i64 0), (3, .pointer (some ⟨g1, 0, none⟩)), (0, .pointer (some ⟨p, 0, none⟩))] (r ++ (([(g1, .ty 35, x.cs)] : Hep) ++ hh)) := H.perm' (((List.Perm.refl _).append_left ([(g1, .ty 35, x.cs)] : Hep)).trans (List.perm_append_comm_assoc ([(g1, .ty 35, x.cs)] : Hep) r hh))
            refine pl_callX rfl rfl ⟨_, Try.func30, by kernel_rfl⟩ rfl (fun K_ => po_edit (hh := (([(g1, .ty 35, x.cs)] : Hep) ++ hh)) hP x.s.n x.s.m x.s.f w0 _ K_) H ?_
            try clear H a W
            rintro r5 a W hP5 H
            replace hP5 : PO p (dEdit D x.s.n x.s.m x.s.f).1 r5 := hP5
            replace H := H.perm' (List.perm_append_comm_assoc r5 ([(g1, .ty 35, x.cs)] : Hep) hh)
            replace H : St 61 w0 a W [(45, .int .i64 ((dEdit D x.s.n x.s.m x.s.f).2)), (44, bv x.s.f), (43, .pointer (some ⟨g1, 3, none⟩)), (42, .int .i64 x.s.m), (41, .pointer (some ⟨g1, 2, none⟩)), (40, .int .i64 x.s.n), (39, .pointer (some ⟨g1, 1, none⟩)), (38, .pointer (some ⟨p, 0, none⟩)), (36, .bool true), (6, .int .i64 x.s.k), (4, .int .i64 0), (3, .pointer (some ⟨g1, 0, none⟩)), (0, .pointer (some ⟨p, 0, none⟩))] ((g1, 35, x.cs) :: (r5 ++ hh)) := H
            refine rgO H gs0 (rV rfl (does_call rfl ⟨_, Try.func13, by kernel_rfl⟩ rfl (fun W hb => num_any _ W)) <| rK [1, 1, 1, 1, 1, 1, 1, 1, 1, 1, 1, 0] [] [] <| rS 1 rfl <| rK [1, 0, 0, 0, 0, 0, 0, 0, 0, 0, 0, 0, 0, 0] [0] [] <| rZ0 ?_)
            try clear H a W
            intro a W H
            refine hK13 _ _ ?_
            clear hK13
            refine wp_ret ?_
            repeat (first | (with_reducible refine then_ret ?_) | (with_reducible refine blk_ret ?_))
            refine end_tmp (p := 4) rfl rfl H (fun hb => ?_)
            have hd : dDo D x.s = dEdit D x.s.n x.s.m x.s.f := by
              unfold dDo
              rw [if_neg hq1p, if_neg hq2p, if_neg hq3p, if_neg hq4p, if_pos hq5p]
            rw [hd]
            refine ⟨r5, rfl, hP5, ?_⟩
            show Kn w0 W (r5 ++ hh)
            exact H.kn
          | false =>
            rw [hq5] at H
            have hq5p := of_decide_eq_false hq5
            refine wp_cond_false (H.ev rfl) ?_
            refine sqR H gs0 fun Z_ z_ => rV rfl (does_binOp rfl rfl rfl (zd_eql_int (k := x.s.k) (m := 6) rfl _ _)) <| rS 1 rfl <| rK [1, 0, 0, 0] [] [] <| rN0 z_ ?_
            try clear H a W
            intro a W H
            cases hq6 : decide (x.s.k = 6) with
            | true =>
              rw [hq6] at H
              have hq6p := of_decide_eq_true hq6
              refine wp_cond_true (H.ev rfl) ?_
              refine wp_seq_k (fun K15 hK15 => ?_)
              refine d2 [.v 49 _ [], .v 50 _ [], .v 51 _ [1], .v 52 _ [], .v 53 _ [3], .v 54 _ [], .v 55 _ [5], .v 56 _ [6], .v 57 _ [7], .f 58 _ [4, 8]] (by kernel_rfl) (by kernel_rfl) H gs0 ⟨oS rfl rfl, oV rfl (does_fieldAddr rfl rfl (fa_step 1 (by decide))), oV rfl (does_loadAt (v := .int .i64 x.s.n) rfl rfl (k := 0) rfl ld_step1), oV rfl (does_fieldAddr rfl rfl (fa_step 3 (by decide))), oV rfl (does_loadAt (v := bv x.s.f) rfl rfl (k := 0) rfl ld_step3), oV rfl (does_fieldAddr rfl rfl (fa_step 2 (by decide))), oV rfl (does_loadAt (v := .int .i64 x.s.m) rfl rfl (k := 0) rfl ld_step2), oV rfl (does_minI (k := x.s.m) (m := 2000) rfl rfl rfl), oV rfl (does_maxI (m := x.s.m) rfl rfl rfl), ⟨oC rfl rfl ⟨_, Try.func33, by kernel_rfl⟩ rfl (fun a w H _ => blk_fact (x := x.s.f) (k := (blkN x.s.m)) (by have h_ := blkN_le x.s.m; omega) H), fun _ => inferInstance⟩, trivial⟩ (rNwS fun g3 => rI0 ?_)
              try clear H a W
              intro a W H
              replace H : St 61 w0 a W [(58, .slice (some ⟨g3, 0, none⟩) (blkN x.s.m) (blkN x.s.m)), (57, .int .i64 ((blkN x.s.m : Nat) : Int)), (56, .int .i64 (min x.s.m 2000)), (55, .int .i64 x.s.m), (54, .pointer (some ⟨g1, 2, none⟩)), (53, bv x.s.f), (52, .pointer (some ⟨g1, 3, none⟩)), (51, .int .i64 x.s.n), (50, .pointer (some ⟨g1, 1, none⟩)), (49, .pointer (some ⟨p, 0, none⟩)), (47, .bool true), (4, .int .i64 0), (3, .pointer (some ⟨g1, 0, none⟩)), (0, .pointer (some ⟨p, 0, none⟩))] (r ++ (([(g3, .ty 5, bvs (blkB x.s.f (blkN x.s.m))), (g1, .ty 35, x.cs)] : Hep) ++ hh)) := H.perm' (((List.Perm.refl _).append_left ([(g3, .ty 5, bvs (blkB x.s.f (blkN x.s.m))), (g1, .ty 35, x.cs)] : Hep)).trans (List.perm_append_comm_assoc ([(g3, .ty 5, bvs (blkB x.s.f (blkN x.s.m))), (g1, .ty 35, x.cs)] : Hep) r hh))
              refine pl_callX rfl rfl ⟨_, Try.func28, by kernel_rfl⟩ rfl (fun K_ => by have h_ := po_write (hh := (([(g3, .ty 5, bvs (blkB x.s.f (blkN x.s.m))), (g1, .ty 35, x.cs)] : Hep) ++ hh)) (b := blkB x.s.f (blkN x.s.m)) (gb := g3) (cb := (blkN x.s.m)) hP x.s.n (by rw [blk_len _ _]; omega) (List.mem_append_left _ (List.mem_iff_getElem?.2 ⟨0, rfl⟩)) hl w0 _ K_; rw [show (blkB x.s.f (blkN x.s.m)).length = (blkN x.s.m) from (blk_len _ _)] at h_; exact h_) H ?_
              try clear H a W
              rintro r6 a W hP6 H
              replace hP6 : PO p (dWrite D x.s.n (blkB x.s.f (blkN x.s.m))).1 r6 := hP6
              replace H := H.perm' (List.perm_append_comm_assoc r6 ([(g3, .ty 5, bvs (blkB x.s.f (blkN x.s.m))), (g1, .ty 35, x.cs)] : Hep) hh)
              replace H : St 61 w0 a W [(59, .int .i64 ((dWrite D x.s.n (blkB x.s.f (blkN x.s.m))).2)), (58, .slice (some ⟨g3, 0, none⟩) (blkN x.s.m) (blkN x.s.m)), (57, .int .i64 ((blkN x.s.m : Nat) : Int)), (56, .int .i64 (min x.s.m 2000)), (55, .int .i64 x.s.m), (54, .pointer (some ⟨g1, 2, none⟩)), (53, bv x.s.f), (52, .pointer (some ⟨g1, 3, none⟩)), (51, .int .i64 x.s.n), (50, .pointer (some ⟨g1, 1, none⟩)), (49, .pointer (some ⟨p, 0, none⟩)), (47, .bool true), (4, .int .i64 0), (3, .pointer (some ⟨g1, 0, none⟩)), (0, .pointer (some ⟨p, 0, none⟩))] ((g3, 5, bvs (blkB x.s.f (blkN x.s.m))) :: (g1, 35, x.cs) :: (r6 ++ hh)) := H
              refine rgO H gs0 (rV rfl (does_call rfl ⟨_, Try.func13, by kernel_rfl⟩ rfl (fun W hb => num_any _ W)) <| rK [1, 1, 1, 1, 1, 1, 1, 1, 1, 1, 1, 1, 1, 0] [] [] <| rS 1 rfl <| rK [1, 0, 0, 0, 0, 0, 0, 0, 0, 0, 0, 0, 0, 0, 0, 0] [1, 0] [] <| rZ0 ?_)
              try clear H a W
              intro a W H
              refine hK15 _ _ ?_
              clear hK15
              refine wp_ret ?_
              repeat (first | (with_reducible refine then_ret ?_) | (with_reducible refine blk_ret ?_))
              refine end_tmp (p := 4) rfl rfl H (fun hb => ?_)
              have hd : dDo D x.s = dWrite D x.s.n (blkB x.s.f (blkN x.s.m)) := by
                unfold dDo
                rw [if_neg hq1p, if_neg hq2p, if_neg hq3p, if_neg hq4p, if_neg hq5p, if_pos hq6p]
              rw [hd]
              refine ⟨r6, rfl, hP6, ?_⟩
              show Kn w0 W (r6 ++ hh)
              have H_ := H.pickF (h := [(g3, .ty 5, bvs (blkB x.s.f (blkN x.s.m)))]) (t := (r6 ++ hh)) [] [] rfl
              exact H_.kn
            | false =>
              rw [hq6] at H
              have hq6p := of_decide_eq_false hq6
              refine wp_cond_false (H.ev rfl) ?_
              refine wp_skip ?_
              refine blk_normal ?_
              refine hK2 _ _ ?_
              clear hK2
              refine sqR H gs0 fun Z_ z_ => rK [1, 0] [] [] <| rS 1 rfl <| rK [1, 0, 0, 0] [0] [] <| rN0 z_ ?_
              try clear H a W
              intro a W H
              refine wp_ret ?_
              repeat (first | (with_reducible refine then_ret ?_) | (with_reducible refine blk_ret ?_))
              refine end_tmp (p := 4) rfl rfl H (fun hb => ?_)
              have hd : dDo D x.s = (D, 0) := by
                unfold dDo
                rw [if_neg hq1p, if_neg hq2p, if_neg hq3p, if_neg hq4p, if_neg hq5p, if_neg hq6p]
              rw [hd]
              refine ⟨r, rfl, hP, ?_⟩
              show Kn w0 W (r ++ hh)
              exact H.kn
end Go.Proofs.Ytiebelmglchbdaa
