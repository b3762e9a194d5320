/- Words, contracts and walks (Xg, Xh, Ze, Xi, Xj, Xk, Tm), laid together. No condition. -/
import Derived.Test.YtonhkclkddobhaaDoorYb
import Derived.MapKept
import Derived.ChangeMaps5
namespace Go.Proofs.YtonhkclkddobhaaDoor
set_option linter.unusedVariables false
set_option linter.unusedSimpArgs false
set_option maxRecDepth 100000
open Go Go.RowKit
theorem andNot_all : (List.range 256).all (fun m => decide (bits .andNot .u8 (m : Int) 31 = ((32 * (m / 32) : Nat) : Int))) = true := by decide +kernel
theorem bd_andNot31 {m : Nat} (h : m < 256) (p q : Operand) (W : World) : (do eqGuard .andNot 5 p q (.int .u8 (m : Int)) (.int .u8 31); binOp .andNot 5 (.int .u8 (m : Int)) (.int .u8 31) : Sem Value).run Tryd.prog W = .ok (.int .u8 ((32 * (m / 32) : Nat) : Int)) W := by
  have e := of_decide_eq_true (List.all_eq_true.1 andNot_all m (List.mem_range.2 h))
  obtain ⟨y, hy⟩ : ∃ y, 32 * (m / 32) = y := ⟨_, rfl⟩
  rw [hy] at e ⊢
  go_simp
theorem bd_and31 {m : Nat} (h : m < 256) (p q : Operand) (W : World) : (do eqGuard .and 5 p q (.int .u8 (m : Int)) (.int .u8 31); binOp .and 5 (.int .u8 (m : Int)) (.int .u8 31) : Sem Value).run Tryd.prog W = .ok (.int .u8 ((m % 32 : Nat) : Int)) W := by
  have e0 : m &&& 31 = m % 32 := Nat.and_two_pow_sub_one_eq_mod m 5
  have e : bits .and .u8 (m : Int) 31 = (m : Int) % 32 := by
    have := u8_and_nat m 31 h (by decide)
    rw [e0] at this
    simpa using this
  go_simp
def tabA : Array Value := #[.int .u8 0, .int .u8 1, .int .u8 2, .int .u8 3, .int .u8 4, .int .u8 6, .int .u8 12, .int .u8 48, .int .u8 160, .int .u8 49, .int .u8 24]
theorem ld_tabA {w : World} (hc : ∀ i, i < 11 → w.cell? ⟨0, i, none⟩ = some (.int .u8 ((tabQ i : Nat) : Int))) : (Instr.loadAt 78 (.pointer (some ⟨0, 0, none⟩))).run Tryd.prog w = .ok (.agg tabA) w := by
  have hr : w.rangeAt 0 0 tabA.toList := fun j v hv => by
    have hj : j < 11 := by
      have := (List.getElem?_eq_some_iff.1 hv).1
      exact this
    rw [Nat.zero_add, hc j hj, ← hv]
    obtain rfl | rfl | rfl | rfl | rfl | rfl | rfl | rfl | rfl | rfl | rfl : j = 0 ∨ j = 1 ∨ j = 2 ∨ j = 3 ∨ j = 4 ∨ j = 5 ∨ j = 6 ∨ j = 7 ∨ j = 8 ∨ j = 9 ∨ j = 10 := by omega
    all_goals rfl
  have := run_loadAt_mid (P := Tryd.prog) w 0 0 78 tabA.toList _ hr Tryd.underlying78 rfl (by kernel_rfl)
  rwa [Array.toArray_toList] at this
theorem does_tabA {n : Nat} {w0 : World} {e : Env} {h : Hep} {Q : Exit → Act → World → Prop} {o : Oper} {x : Operand} (ho : o.op = .load 78 x) (hx : sev e x = some (.pointer (some ⟨0, 0, none⟩))) (hpg : PGt w0) : Does Tryd.prog Q n w0 e h o (.agg tabA) := does_run fun a w H => by
  unfold execOp
  have h1 := ld_tabA (w := w) (hpg.ext H.below).cell
  simp only [ho, H.ev hx, Sem.run_bind, h1, Result.andThen_ok, Sem.run_pure]
theorem ix_tabA {k : Nat} (h : k < 11) (W : World) : (Instr.index 78 (.agg tabA) (.int .i64 (k : Int))).run Tryd.prog W = .ok (.int .u8 ((tabQ k : Nat) : Int)) W := by
  obtain rfl | rfl | rfl | rfl | rfl | rfl | rfl | rfl | rfl | rfl | rfl : k = 0 ∨ k = 1 ∨ k = 2 ∨ k = 3 ∨ k = 4 ∨ k = 5 ∨ k = 6 ∨ k = 7 ∨ k = 8 ∨ k = 9 ∨ k = 10 := by omega
  all_goals kernel_rfl
theorem kind_find {m N : Nat} (hm : m < 256) (h5 : ¬ m / 32 = 5) (hpos : ∀ i, i < N → ¬ tabQ i = m) (hend : N = 11 ∨ N < 11 ∧ ¬ ¬ tabQ N = m) : kindQ m = if N = 11 then 0 else (N : Int) := by
  rcases hend with rfl | ⟨h1, h2⟩
  · rw [if_pos rfl]
    have h := fun i hi => hpos i hi
    have h0 : m ≠ 0 := fun e => h 0 (by omega) e.symm
    have h1 : m ≠ 1 := fun e => h 1 (by omega) e.symm
    have h2 : m ≠ 2 := fun e => h 2 (by omega) e.symm
    have h3 : m ≠ 3 := fun e => h 3 (by omega) e.symm
    have h4 : m ≠ 4 := fun e => h 4 (by omega) e.symm
    have h5_ : m ≠ 6 := fun e => h 5 (by omega) e.symm
    have h6 : m ≠ 12 := fun e => h 6 (by omega) e.symm
    have h7 : m ≠ 48 := fun e => h 7 (by omega) e.symm
    have h9 : m ≠ 49 := fun e => h 9 (by omega) e.symm
    have h10 : m ≠ 24 := fun e => h 10 (by omega) e.symm
    unfold kindQ
    simp only [h5, h0, h1, h2, h3, h4, h5_, h6, h7, h9, h10, if_false]
  · have h2 : tabQ N = m := Decidable.of_not_not h2
    subst h2
    rw [if_neg (by omega)]
    obtain rfl | rfl | rfl | rfl | rfl | rfl | rfl | rfl | rfl | rfl | rfl : N = 0 ∨ N = 1 ∨ N = 2 ∨ N = 3 ∨ N = 4 ∨ N = 5 ∨ N = 6 ∨ N = 7 ∨ N = 8 ∨ N = 9 ∨ N = 10 := by omega
    all_goals first | decide | (exfalso; exact h5 (by decide))
theorem kindQ_not {m N : Nat} (hm : m < 256) (h5 : ¬ m / 32 = 5) : tnQ m = 0 := by
  unfold tnQ
  rw [if_neg h5]
theorem bd_derKN (k n : Int) (W : World) : (Instr.build 27 [(0, .int .i64 k), (2, .int .i64 n)].toArray).run Tryd.prog W = .ok (.agg (DH.mk k false n SL.no [] SL.no SL.no).cs) W := by kernel_rfl
theorem cv_bI {x : Nat} (hx : x < 256) (W : World) : (convert 5 2 (.int .u8 (x : Int))).run Tryd.prog W = .ok (.int .i64 (x : Int)) W := by
  have e : IntKind.i64.wrap (x : Int) = (x : Int) := IntWalk.i64_in _ (by omega)
  go_simp
theorem ud_shlI {n s : Nat} (hs : s ≤ 64) (p q : Operand) (W : World) : (do eqGuard .shl 36 p q (.int .u64 (n : Int)) (.int .i64 (s : Int)); binOp .shl 36 (.int .u64 (n : Int)) (.int .i64 (s : Int)) : Sem Value).run Tryd.prog W = .ok (.int .u64 ((n * 2 ^ s % 18446744073709551616 : Nat) : Int)) W := by
  have h1 : (0 : Int) ≤ (s : Int) := by omega
  have h2 : (s : Int) ≤ 64 := by omega
  have e : IntKind.u64.wrap ((n : Int) * 2 ^ s) = (n : Int) * 2 ^ s % 18446744073709551616 := by
    have e1 : ∀ x : Int, IntKind.u64.wrap x = x % 18446744073709551616 := fun x => by simp [IntKind.wrap, IntKind.bits, IntKind.signed]
    rw [e1]
  go_simp
theorem zd_shrN {x : Int} {s : Nat} (hs : s ≤ 64) (p q : Operand) (W : World) : (do eqGuard .shr 2 p q (.int .i64 x) (.int .i64 (s : Int)); binOp .shr 2 (.int .i64 x) (.int .i64 (s : Int)) : Sem Value).run Tryd.prog W = .ok (.int .i64 (x.fdiv (2 ^ s))) W := by
  have h1 : (0 : Int) ≤ (s : Int) := by omega
  have h2 : (s : Int) ≤ 64 := by omega
  rw [Int.fdiv_eq_ediv_of_nonneg _ (Int.le_of_lt (Int.pow_pos (by decide)))]
  go_simp
/-- What arcs are read so far: the number that is not whole yet, the arcs. -/
def aqS (l : List UInt8) : Nat → Nat × List Nat
  | 0 => (0, [])
  | k + 1 => if 128 ≤ (l.getD k 0).toNat then (((aqS l k).1 * 128 + (l.getD k 0).toNat % 128) % 18446744073709551616, (aqS l k).2)
    else (0, if (aqS l k).2.isEmpty then [min ((((aqS l k).1 * 128 + (l.getD k 0).toNat % 128) % 18446744073709551616) / 40) 2, ((aqS l k).1 * 128 + (l.getD k 0).toNat % 128) % 18446744073709551616 - 40 * min ((((aqS l k).1 * 128 + (l.getD k 0).toNat % 128) % 18446744073709551616) / 40) 2]
      else (aqS l k).2 ++ [((aqS l k).1 * 128 + (l.getD k 0).toNat % 128) % 18446744073709551616])
def aqN (l : List UInt8) (k : Nat) : Nat := (aqS l k).1
def aqA (l : List UInt8) (k : Nat) : List Nat := (aqS l k).2
theorem aqN_lt (l : List UInt8) : ∀ k, aqN l k < 18446744073709551616
  | 0 => by unfold aqN aqS; omega
  | k + 1 => by
    unfold aqN aqS
    split
    · show (((aqS l k).1 * 128 + (l.getD k 0).toNat % 128) % 18446744073709551616) < _
      omega
    · show 0 < 18446744073709551616
      omega
theorem aqA_len (l : List UInt8) : ∀ k, (aqA l k).length ≤ 2 * k
  | 0 => Nat.le_refl _
  | k + 1 => by
    have ih := aqA_len l k
    unfold aqA at ih ⊢
    unfold aqS
    split
    · show (aqS l k).2.length ≤ _
      omega
    · show (if (aqS l k).2.isEmpty then _ else _ : List Nat).length ≤ _
      split
      · simp
        omega
      · rw [List.length_append, List.length_singleton]
        omega
theorem aqs_go (l : List UInt8) : ∀ k, k ≤ l.length → arcsQ (l.drop k) (aqN l k) (aqA l k) = arcsQ l 0 []
  | 0, _ => rfl
  | k + 1, hk => by
    rw [← aqs_go l k (by omega)]
    have e : l.drop k = l.getD k 0 :: l.drop (k + 1) := by
      rw [List.drop_eq_getElem_cons (by omega), List.getD_eq_getElem?_getD, List.getElem?_eq_getElem (by omega)]
      rfl
    rw [e, arcsQ]
    unfold aqN aqA
    conv => lhs; rw [aqS]
    by_cases h : 128 ≤ (l.getD k 0).toNat
    · rw [if_pos h, if_pos h]
    · rw [if_neg h, if_neg h]
theorem aqs_end (l : List UInt8) : arcsQ l 0 [] = aqA l l.length := by
  rw [← aqs_go l l.length (Nat.le_refl _), List.drop_length]
  rfl
theorem aqN_0 (l : List UInt8) : aqN l 0 = 0 := rfl
theorem aqA_0 (l : List UInt8) : aqA l 0 = [] := rfl
theorem aq_more {l : List UInt8} {k : Nat} (h : 128 ≤ (l.getD k 0).toNat) : aqN l (k + 1) = (aqN l k * 128 + (l.getD k 0).toNat % 128) % 18446744073709551616 ∧ aqA l (k + 1) = aqA l k := by
  unfold aqN aqA
  conv => lhs; rw [aqS]
  conv => rhs; lhs; rw [aqS]
  rw [if_pos h]
  exact ⟨rfl, rfl⟩
theorem aq_first {l : List UInt8} {k : Nat} (h : ¬ 128 ≤ (l.getD k 0).toNat) (h0 : (aqA l k).length = 0) {m f : Nat} (hm : m = (aqN l k * 128 + (l.getD k 0).toNat % 128) % 18446744073709551616) (hf : f = min (m / 40) 2) : aqN l (k + 1) = 0 ∧ aqA l (k + 1) = [] ++ [f, m - 40 * f] := by
  subst hf
  subst hm
  have e : (aqA l k).isEmpty = true := by rw [List.eq_nil_of_length_eq_zero h0]; rfl
  unfold aqN aqA at *
  conv => lhs; rw [aqS]
  conv => rhs; lhs; rw [aqS]
  rw [if_neg h, if_pos e]
  exact ⟨rfl, rfl⟩
theorem aq_next {l : List UInt8} {k : Nat} (h : ¬ 128 ≤ (l.getD k 0).toNat) (h0 : ¬ (aqA l k).length = 0) {m : Nat} (hm : m = (aqN l k * 128 + (l.getD k 0).toNat % 128) % 18446744073709551616) : aqN l (k + 1) = 0 ∧ aqA l (k + 1) = aqA l k ++ [m] := by
  subst hm
  have e : (aqA l k).isEmpty = false := by
    cases hq : aqA l k with
    | nil => rw [hq] at h0; exact absurd rfl h0
    | cons x r => rfl
  unfold aqN aqA at *
  conv => lhs; rw [aqS]
  conv => rhs; lhs; rw [aqS]
  rw [if_neg h, e]
  exact ⟨rfl, rfl⟩
theorem ud_shl7 (n : Nat) (p q : Operand) (W : World) : (do eqGuard .shl 36 p q (.int .u64 (n : Int)) (.int .u64 7); binOp .shl 36 (.int .u64 (n : Int)) (.int .u64 7) : Sem Value).run Tryd.prog W = .ok (.int .u64 ((n * 128 % 18446744073709551616 : Nat) : Int)) W := by
  have e : IntKind.u64.wrap ((n : Int) * 128) = (n : Int) * 128 % 18446744073709551616 := by
    have e1 : ∀ x : Int, IntKind.u64.wrap x = x % 18446744073709551616 := fun x => by simp [IntKind.wrap, IntKind.bits, IntKind.signed]
    rw [e1]
  go_simp
theorem bd_and127 {m : Nat} (h : m < 256) (p q : Operand) (W : World) : (do eqGuard .and 5 p q (.int .u8 (m : Int)) (.int .u8 127); binOp .and 5 (.int .u8 (m : Int)) (.int .u8 127) : Sem Value).run Tryd.prog W = .ok (.int .u8 ((m % 128 : Nat) : Int)) W := by
  have e0 : m &&& 127 = m % 128 := Nat.and_two_pow_sub_one_eq_mod m 7
  have e : bits .and .u8 (m : Int) 127 = (m : Int) % 128 := by
    have := u8_and_nat m 127 h (by decide)
    rw [e0] at this
    simpa using this
  go_simp
theorem does_minU {P : Program} {n : Nat} {w0 : World} {e : Env} {h : Hep} {Q : Exit → Act → World → Prop} {o : Oper} {x y : Operand} {k m : Nat} {tys : Array TypeId} (ho : o.op = .call { callee := .builtin .min, args := #[x, y], argTypes := tys }) (hx : sev e x = some (.int .u64 (k : Int))) (hy : sev e y = some (.int .u64 (m : Int))) : Does P Q n w0 e h o (.int .u64 ((min k m : Nat) : Int)) := does_run fun a w H => by
  have e2 : (if m < k then (m : Int) else (k : Int)) = ((min k m : Nat) : Int) := by split <;> omega
  simp [execOp, ho, resolve, invoke, builtin, H.ev hx, H.ev hy, Builtin.min_, Builtin.min2, Result.andThen, e2]
attribute [local irreducible] aqN aqA bvs byteD dvD beD putF updF rb takeQ numQ accD tabQ kindQ tnQ
theorem tab8 : tabQ 8 = 160 := by
  unfold tabQ
  rfl
theorem kind8 {m : Nat} (h : m / 32 = 5) : kindQ m = 8 := by
  unfold kindQ
  exact if_pos h
theorem tn8 {m : Nat} (h : m / 32 = 5) : tnQ m = ((m % 32 : Nat) : Int) := by
  unfold tnQ
  exact if_pos h
set_option maxHeartbeats 4000000 in
theorem tagged_any (m : Nat) (w : World) (hm : m < 256) (hpg : PGt w) : Calls Tryd.prog 27 #[.int .u8 ((m : Nat) : Int)] w (fun rr w' => rr = .returned (.agg (DH.mk (kindQ m) false (tnQ m) SL.no [] SL.no SL.no).cs) ∧ Below w.heap.size w w') := by
  refine calls_st (vs := [.int .u8 ((m : Nat) : Int)]) 26 Tryd.func27 rfl Tryd.ntmps27 rfl (fun a W H => ?_)
  replace H : St 26 w a W [(0, .int .u8 ((m : Nat) : Int))] [] := H
  refine sqR H gs0 fun Z_ z_ => rA rfl rfl al_der fun g1 => rN0 z_ ?_
  try clear H a W
  intro a W H
  refine wp_seq_k (fun K2 hK2 => ?_)
  refine sqR H gs0 fun Z_ z_ => rS 1 rfl <| rV rfl (does_binOp rfl rfl rfl (bd_andNot31 (m := m) (by omega) _ _)) <| rV rfl (does_indexAddr rfl rfl rfl (ia_tabQ (k := 8) (by decide) (by decide))) <| rV rfl (does_loadCell (v := .int .u8 ((tabQ 8 : Nat) : Int)) rfl rfl (hpg.cell 8 (by decide)) hpg.lt ld_tabQ) <| rV rfl (does_binOp rfl rfl rfl (zd_eql_u8 (k := ((32 * (m / 32) : Nat) : Int)) (m := ((tabQ 8 : Nat) : Int)) rfl _ _)) <| rK [1, 0, 0, 0, 0] [] [] <| rN0 z_ ?_
  try clear H a W
  intro a W H
  cases hq1 : decide (((32 * (m / 32) : Nat) : Int) = ((tabQ 8 : Nat) : Int)) with
  | true =>
    rw [hq1] at H
    have hq1p := of_decide_eq_true hq1
    refine wp_cond_true (H.ev rfl) ?_
    refine sqR H gs0 fun Z_ z_ => rS 1 rfl <| rV rfl (does_binOp rfl rfl rfl (bd_and31 (m := m) (by omega) _ _)) <| rV rfl (does_convert rfl rfl (cv_bI (by omega))) <| rV rfl (does_build rfl rfl (bd_derKN 8 ((m % 32 : Nat) : Int))) <| rW [1] ⟨rfl, rfl⟩ rfl rfl rfl (info_der (DH.mk 8 false ((m % 32 : Nat) : Int) SL.no [] SL.no SL.no)) (size_der DH.no (DH.mk 8 false ((m % 32 : Nat) : Int) SL.no [] SL.no SL.no)) (DH.mk 8 false ((m % 32 : Nat) : Int) SL.no [] SL.no SL.no).one <| rK [0, 0, 0, 0, 0] [] [] <| rN0 z_ ?_
    try clear H a W
    intro a W H
    refine wp_ret ?_
    repeat (first | (with_reducible refine then_ret ?_) | (with_reducible refine blk_ret ?_))
    refine end_cell (p := 2) rfl rfl (k := 0) rfl Tryd.underlying27 rfl (info_der _) H (fun hb => ?_)
    have h5_ : m / 32 = 5 := by have e8_ : tabQ 8 = 160 := tab8; omega
    refine ⟨?_, hb⟩
    rw [show kindQ m = 8 from kind8 h5_, show tnQ m = ((m % 32 : Nat) : Int) from tn8 h5_]
  | false =>
    rw [hq1] at H
    have hq1p := of_decide_eq_false hq1
    refine wp_cond_false (H.ev rfl) ?_
    refine wp_skip ?_
    refine hK2 _ _ ?_
    clear hK2
    refine wp_seq_k (fun K5 hK5 => ?_)
    refine sqR H gs0 fun Z_ z_ => rV rfl (does_tabA rfl rfl hpg) <| rS 1 rfl <| rK [1, 1, 0] [] [] <| rN0 z_ ?_
    try clear H a W
    intro a W H
    obtain ⟨N, hN, hpos, hend⟩ := rounds_at (fun i => ¬ tabQ i = m) 11
    refine wp_block ?_
    replace H : St 26 w a W [(15, .int .i64 ((0 : Nat) : Int)), (14, .agg tabA), (2, .pointer (some ⟨g1, 0, none⟩)), (0, .int .u8 ((m : Nat) : Int))] [(g1, 27, DH.no.cs)] := H.pick [0, 1, 2, 3] [0] rfl
    refine wp_rounds N (fun k a W => St 26 w a W [(15, .int .i64 ((k : Nat) : Int)), (14, .agg tabA), (2, .pointer (some ⟨g1, 0, none⟩)), (0, .int .u8 ((m : Nat) : Int))] [(g1, 27, DH.no.cs)]) (k0 := 0) H (by omega) ?_
    try clear H a W
    intro k a W hk H
    by_cases hk2 : k < N
    · have hp_ := hpos k hk2
      refine sqR H gs0 fun Z_ z_ => rV rfl (does_binOp rfl rfl rfl (zd_lss_int (k := ((k : Nat) : Int)) (m := 11) (decide_eq_true (by omega)) _ _)) <| rN0 z_ ?_
      try clear H a W
      intro a W H
      refine cdT H rfl ?_
      refine wp_seq_k (fun K8 hK8 => ?_)
      refine wp_block ?_
      refine sqR H gs0 fun Z_ z_ => rS 1 rfl <| rV rfl (does_index rfl rfl rfl (ix_tabA (k := k) (by omega))) <| rS 2 rfl <| rN0 z_ ?_
      try clear H a W
      intro a W H
      refine sqR H gs0 fun Z_ z_ => rS 2 rfl <| rV rfl (does_binOp rfl rfl rfl (zd_eql_u8 (k := ((tabQ k : Nat) : Int)) (m := ((m : Nat) : Int)) (decide_eq_false (by omega)) _ _)) <| rN0 z_ ?_
      try clear H a W
      intro a W H
      refine wp_cond_false (H.ev rfl) ?_
      refine wp_skip ?_
      refine blk_normal ?_
      refine hK8 _ _ ?_
      clear hK8
      refine rgP H gs0 (rV rfl (does_binOp rfl rfl rfl (zd_add_int (k := ((k : Nat) : Int)) (m := 1) (c := ((k + 1 : Nat) : Int)) (by omega) (by omega) _ _)) <| rK [1, 1, 1, 1, 1, 1, 1, 1, 1, 0] [] [] <| rS 1 rfl <| rZ0 ?_)
      try clear H a W
      intro a W H
      refine ⟨k + 1, by omega, by omega, ?_⟩
      show St 26 w a W [(15, .int .i64 ((k + 1 : Nat) : Int)), (14, .agg tabA), (2, .pointer (some ⟨g1, 0, none⟩)), (0, .int .u8 ((m : Nat) : Int))] [(g1, 27, DH.no.cs)]
      exact H.pick [0, 10, 11, 12] [0] rfl
    · obtain rfl : N = k := by omega
      rcases hend with hend | hend
      · refine sqR H gs0 fun Z_ z_ => rV rfl (does_binOp rfl rfl rfl (zd_lss_int (k := ((N : Nat) : Int)) (m := 11) (decide_eq_false (by omega)) _ _)) <| rN0 z_ ?_
        try clear H a W
        intro a W H
        refine wp_seq_k (fun K12 hK12 => ?_)
        refine wp_cond_false (H.ev rfl) ?_
        refine wp_exit ?_
        repeat (first | (with_reducible refine then_exit ?_) | (with_reducible refine blk_pass (by decide) ?_))
        refine blk_exit ?_
        refine hK5 _ _ ?_
        clear hK5
        refine sqR H gs0 fun Z_ z_ => rV rfl (does_build (ps := []) rfl rfl bd_der0) <| rW [1] ⟨rfl, rfl⟩ rfl rfl rfl (info_der (DH.mk 0 false 0 SL.no [] SL.no SL.no)) (size_der DH.no (DH.mk 0 false 0 SL.no [] SL.no SL.no)) (DH.mk 0 false 0 SL.no [] SL.no SL.no).one <| rK [0, 0, 0, 0, 1, 0] [] [] <| rN0 z_ ?_
        try clear H a W
        intro a W H
        refine wp_ret ?_
        repeat (first | (with_reducible refine then_ret ?_) | (with_reducible refine blk_ret ?_))
        refine end_cell (p := 2) rfl rfl (k := 0) rfl Tryd.underlying27 rfl (info_der _) H (fun hb => ?_)
        have h5_ : ¬ m / 32 = 5 := by have e8_ : tabQ 8 = 160 := tab8; omega
        refine ⟨?_, hb⟩
        rw [kindQ_not (N := N) hm h5_, kind_find hm h5_ hpos (by first | exact .inl hend | exact .inr ⟨by omega, by omega⟩)]
        first | rw [if_pos (by omega)] | rw [if_neg (by omega)]
      · refine sqR H gs0 fun Z_ z_ => rV rfl (does_binOp rfl rfl rfl (zd_lss_int (k := ((N : Nat) : Int)) (m := 11) (decide_eq_true (by omega)) _ _)) <| rN0 z_ ?_
        try clear H a W
        intro a W H
        refine cdT H rfl ?_
        refine wp_seq_k (fun K15 hK15 => ?_)
        refine wp_block ?_
        refine sqR H gs0 fun Z_ z_ => rS 1 rfl <| rV rfl (does_index rfl rfl rfl (ix_tabA (k := N) (by omega))) <| rS 2 rfl <| rK [1, 1, 0, 0, 0, 1, 0] [] [] <| rN0 z_ ?_
        try clear H a W
        intro a W H
        refine sqR H gs0 fun Z_ z_ => rS 2 rfl <| rV rfl (does_binOp rfl rfl rfl (zd_eql_u8 (k := ((tabQ N : Nat) : Int)) (m := ((m : Nat) : Int)) (decide_eq_true (by omega)) _ _)) <| rK [1, 0, 0, 0, 1, 1, 1, 0] [] [] <| rN0 z_ ?_
        try clear H a W
        intro a W H
        refine wp_cond_true (H.ev rfl) ?_
        refine sqR H gs0 fun Z_ z_ => rS 1 rfl <| rV rfl (does_build rfl rfl (bd_derK ((N : Nat) : Int))) <| rW [1] ⟨rfl, rfl⟩ rfl rfl rfl (info_der (DH.mk ((N : Nat) : Int) false 0 SL.no [] SL.no SL.no)) (size_der DH.no (DH.mk ((N : Nat) : Int) false 0 SL.no [] SL.no SL.no)) (DH.mk ((N : Nat) : Int) false 0 SL.no [] SL.no SL.no).one <| rK [0, 0, 0, 0] [] [] <| rN0 z_ ?_
        try clear H a W
        intro a W H
        refine wp_ret ?_
        repeat (first | (with_reducible refine then_ret ?_) | (with_reducible refine blk_ret ?_))
        refine end_cell (p := 2) rfl rfl (k := 0) rfl Tryd.underlying27 rfl (info_der _) H (fun hb => ?_)
        have h5_ : ¬ m / 32 = 5 := by have e8_ : tabQ 8 = 160 := tab8; omega
        refine ⟨?_, hb⟩
        rw [kindQ_not (N := N) hm h5_, kind_find hm h5_ hpos (by first | exact .inl hend | exact .inr ⟨by omega, by omega⟩)]
        first | rw [if_pos (by omega)] | rw [if_neg (by omega)]
theorem intQ_yes {b : List UInt8} (h : gokQ b = true) : intQ b = (s64 (accD b 0 * 2 ^ (64 - 8 * b.length) % 18446744073709551616)).fdiv (2 ^ (64 - 8 * b.length)) := if_pos (of_decide_eq_true h)
theorem intQ_no {b : List UInt8} (h : gokQ b = false) : intQ b = 0 := if_neg (of_decide_eq_false h)
set_option maxHeartbeats 4000000 in
theorem int_of {Ab : Option Addr} {nb cb : Nat} {lb : List UInt8} (w : World) (hFb : BF lb (.slice Ab nb cb) w) (hlb : lb.length = nb) (hnb : nb ≤ 900000) : Calls Tryd.prog 41 #[.slice Ab nb cb] w (fun rr w' => rr = .returned (.int .i64 (intQ lb)) ∧ Below w.heap.size w w') := by
  refine calls_st (vs := [.slice Ab nb cb]) 23 Tryd.func41 rfl Tryd.ntmps41 rfl (fun a W H => ?_)
  replace H : St 23 w a W [(0, .slice Ab nb cb)] [] := H
  refine sqR H gs0 fun Z_ z_ => rS 1 rfl <| rN0 z_ ?_
  try clear H a W
  intro a W H
  refine wp_seq_k (fun K2 hK2 => ?_)
  cases hq1 : gokQ lb with
  | true =>
    refine rgP H gs0 (rS 1 rfl <| rV rfl (does_call rfl ⟨_, Tryd.func38, by kernel_rfl⟩ rfl (fun W hb => by have h_ := get_any (w := W) (hFb.below hb) (by omega); rw [gok_yes hq1] at h_; exact h_)) <| rS 5 rfl <| rK [1, 1, 0, 0, 0, 0, 0] [] [] <| rZ0 ?_)
    try clear H a W
    intro a W H
    refine hK2 _ _ ?_
    clear hK2
    refine wp_seq_k (fun K3 hK3 => ?_)
    refine sqR H gs0 fun Z_ z_ => rS 1 rfl <| rV rfl (does_binOp rfl rfl rfl (er_neq (k := 0) (m := 0) (decide_eq_false (by decide)) _ _)) <| rK [1, 0, 0] [] [] <| rN0 z_ ?_
    try clear H a W
    intro a W H
    refine wp_cond_false (H.ev rfl) ?_
    refine wp_skip ?_
    refine hK3 _ _ ?_
    clear hK3
    refine wp_seq_k (fun K5 hK5 => ?_)
    have hnb8 : 1 ≤ nb ∧ nb ≤ 8 := by have h_ : 1 ≤ lb.length ∧ lb.length ≤ 8 := of_decide_eq_true hq1; omega
    refine rgP H gs0 (rS 1 rfl <| rV rfl (does_len Tryd.underlying23 rfl rfl) <| rV rfl (does_binOp rfl rfl rfl (zd_mulE (k := nb) (by omega) _ _)) <| rV rfl (does_binOp rfl rfl rfl (zd_sub_int (k := 64) (m := ((nb * 8 : Nat) : Int)) (c := ((64 - (nb * 8) : Nat) : Int)) (by omega) (by omega) _ _)) <| rS 1 rfl <| rK [1, 0, 0, 0, 0, 0, 1, 1, 0] [] [] <| rZ0 ?_)
    try clear H a W
    intro a W H
    obtain ⟨ab, hab⟩ : ∃ ab, 64 - nb * 8 = ab := ⟨_, rfl⟩
    try rw [show 64 - (nb * 8) = ab from hab] at H
    replace H : St 23 w a W [(5, .int .i64 ((ab : Nat) : Int)), (3, .int .u64 ((accD lb 0 : Nat) : Int)), (2, .int .i64 0)] [] := H
    have hac_ : accD lb 0 < 18446744073709551616 := accD_lt _ _ (by decide)
    refine hK5 _ _ ?_
    clear hK5
    refine sqR H gs0 fun Z_ z_ => rS 2 rfl <| rV rfl (does_binOp rfl rfl rfl (ud_shlI (s := ab) (by omega) _ _)) <| rV rfl (does_convert rfl rfl (cv_s64 (by omega))) <| rS 1 rfl <| rV rfl (does_binOp rfl rfl rfl (zd_shrN (s := ab) (by omega) _ _)) <| rK [1, 1, 1, 1, 1, 1, 1, 1, 0] [] [] <| rS 1 rfl <| rK [1, 0, 0, 0, 0, 0, 0, 0, 0] [] [] <| rN0 z_ ?_
    try clear H a W
    intro a W H
    refine wp_ret ?_
    repeat (first | (with_reducible refine then_ret ?_) | (with_reducible refine blk_ret ?_))
    refine end_tmp (p := 2) rfl rfl H (fun hb => ?_)
    exact ⟨by rw [intQ_yes hq1, show 64 - 8 * lb.length = ab by omega], hb⟩
  | false =>
    refine rgP H gs0 (rS 1 rfl <| rV rfl (does_call rfl ⟨_, Tryd.func38, by kernel_rfl⟩ rfl (fun W hb => by have h_ := get_any (w := W) (hFb.below hb) (by omega); rw [gok_no hq1] at h_; exact h_)) <| rS 5 rfl <| rK [1, 1, 0, 0, 0, 0, 0] [] [] <| rZ0 ?_)
    try clear H a W
    intro a W H
    refine hK2 _ _ ?_
    clear hK2
    refine wp_seq_k (fun K7 hK7 => ?_)
    refine sqR H gs0 fun Z_ z_ => rS 1 rfl <| rV rfl (does_binOp rfl rfl rfl (er_neq (k := 2) (m := 0) (decide_eq_true (by decide)) _ _)) <| rK [1, 0, 0] [] [] <| rN0 z_ ?_
    try clear H a W
    intro a W H
    refine wp_cond_true (H.ev rfl) ?_
    refine sqR H gs0 fun Z_ z_ => rK [1, 1, 0] [] [] <| rS 1 rfl <| rK [1, 0] [] [] <| rN0 z_ ?_
    try clear H a W
    intro a W H
    refine wp_ret ?_
    repeat (first | (with_reducible refine then_ret ?_) | (with_reducible refine blk_ret ?_))
    refine end_tmp (p := 2) rfl rfl H (fun hb => ?_)
    exact ⟨by rw [intQ_no hq1], hb⟩
set_option maxHeartbeats 4000000 in
theorem darcs_walk {lb : List UInt8} {Ab : Option Addr} {nb cb gb ob : Nat} (w : World) (hb1 : nb ≤ 100000) (hlb : lb.length = nb) (hnb : nb < 9223372036854775808) (hbb : 0 < nb → Ab = some ⟨gb, ob, none⟩ ∧ gb < w.heap.size ∧ ∀ i, i < nb → w.cell? ⟨gb, ob + i, none⟩ = some (.int .u8 (((lb.getD i 0).toNat : Nat) : Int))) : Calls Tryd.prog 42 #[.slice Ab nb cb] w (fun rr w' => ∃ v, rr = .returned v ∧ Below w.heap.size w w' ∧ w'.ownsRow w.heap.size 36 1 v (arcsQ lb 0 []).length ((arcsQ lb 0 []).map nvD)) := by
  refine calls_st (vs := [.slice Ab nb cb]) 42 Tryd.func42 rfl Tryd.ntmps42 rfl (fun a W H => ?_)
  replace H : St 42 w a W [(0, .slice Ab nb cb)] [] := H
  refine sqR H gs0 fun Z_ z_ => rS 1 rfl <| rN0 z_ ?_
  try clear H a W
  intro a W H
  refine sqR H gs0 fun Z_ z_ => rS 1 rfl <| rN0 z_ ?_
  try clear H a W
  intro a W H
  refine sqR H gs0 fun Z_ z_ => rS 1 rfl <| rN0 z_ ?_
  try clear H a W
  intro a W H
  refine wp_seq_k (fun K4 hK4 => ?_)
  refine sqR H gs0 fun Z_ z_ => rS 1 rfl <| rV rfl (does_len Tryd.underlying23 rfl rfl) <| rS 1 rfl <| rK [1, 1, 1, 1, 1, 1, 0] [] [] <| rN0 z_ ?_
  try clear H a W
  intro a W H
  refine wp_block ?_
  rw [show Value.int .u64 0 = .int .u64 ((aqN lb 0 : Nat) : Int) by rw [aqN_0]; rfl] at H
  replace H : St 42 w a W [(10, .int .i64 ((0 : Nat) : Int)), (4, .int .u64 ((aqN lb 0 : Nat) : Int)), (3, .slice none 0 0), (9, .int .i64 ((nb : Nat) : Int)), (8, .slice Ab nb cb), (2, .slice none 0 0)] [] := H.pick [0, 3, 4, 1, 2, 5] [] rfl
  refine wp_rounds nb (fun k a W => ∃ vo, NF w.heap.size [] (aqA lb k) vo W ∧ St 42 w a W [(10, .int .i64 ((k : Nat) : Int)), (4, .int .u64 ((aqN lb k : Nat) : Int)), (3, vo), (9, .int .i64 ((nb : Nat) : Int)), (8, .slice Ab nb cb), (2, .slice none 0 0)] []) (k0 := 0) (show ∃ vo, NF w.heap.size [] (aqA lb 0) vo W ∧ St 42 w a W [(10, .int .i64 ((0 : Nat) : Int)), (4, .int .u64 ((aqN lb 0 : Nat) : Int)), (3, vo), (9, .int .i64 ((nb : Nat) : Int)), (8, .slice Ab nb cb), (2, .slice none 0 0)] [] from ⟨_, (by rw [aqA_0]; exact nf_nil _ _ _), H⟩) (by omega) ?_
  try clear H a W
  intro k a W hk H_
  obtain ⟨vo, hout, H⟩ := H_
  by_cases hk2 : k < nb
  · have hn_ := aqN_lt lb k
    have hl_ := aqA_len lb k
    have hyk_ := byt_lt lb k
    refine sqR H (gsC hout gs0) fun Z_ z_ => rV rfl (does_binOp rfl rfl rfl (zd_lss_int (k := ((k : Nat) : Int)) (m := ((nb : Nat) : Int)) (decide_eq_true (by omega)) _ _)) <| rN z_ ?_
    try clear hout H a W
    rintro a W H ⟨hout, -⟩
    refine cdT H rfl ?_
    refine wp_seq_k (fun K7 hK7 => ?_)
    refine wp_block ?_
    refine sqR H (gsC hout gs0) fun Z_ z_ => rV rfl (does_indexAddr rfl rfl rfl (ia_bytD (j := k) (hbb (by omega)).1 (by omega))) <| rV rfl (does_loadCell (v := .int .u8 (((lb.getD k 0).toNat : Nat) : Int)) rfl rfl ((hbb (by omega)).2.2 k (by omega)) (hbb (by omega)).2.1 ld_bytD) <| rS 1 rfl <| rN z_ ?_
    try clear hout H a W
    rintro a W H ⟨hout, -⟩
    refine sqR H (gsC hout gs0) fun Z_ z_ => rS 1 rfl <| rV rfl (does_binOp rfl rfl rfl (ud_shl7 _ _ _)) <| rS 1 rfl <| rV rfl (does_binOp rfl rfl rfl (bd_and127 (m := (lb.getD k 0).toNat) (byt_lt _ _) _ _)) <| rV rfl (does_convert rfl rfl (cv_bU (by omega))) <| rV rfl (does_binOp rfl rfl rfl (ud_or (k := ((aqN lb k) * 128 % 18446744073709551616) / 128) (c := 128) (x := ((lb.getD k 0).toNat) % 128) (m := (aqN lb k) * 128 % 18446744073709551616) ⟨7, rfl⟩ (by omega) (by omega) (by omega) _ _)) <| rK [1, 1, 1, 1, 1, 1, 1, 1, 1, 1, 1, 0] [] [] <| rS 1 rfl <| rN z_ ?_
    try clear hout H a W
    rintro a W H ⟨hout, -⟩
    refine wp_seq_k (fun K10 hK10 => ?_)
    refine sqR H (gsC hout gs0) fun Z_ z_ => rS 1 rfl <| rV rfl (does_binOp rfl rfl rfl (zd_geq_u8 (k := (((lb.getD k 0).toNat : Nat) : Int)) (m := 128) rfl _ _)) <| rN z_ ?_
    try clear hout H a W
    rintro a W H ⟨hout, -⟩
    cases hq1 : decide (128 ≤ (((lb.getD k 0).toNat : Nat) : Int)) with
    | true =>
      rw [hq1] at H
      have hq1p := of_decide_eq_true hq1
      refine wp_cond_true (H.ev rfl) ?_
      refine wp_exit ?_
      repeat (first | (with_reducible refine then_exit ?_) | (with_reducible refine blk_pass (by decide) ?_))
      refine blk_exit ?_
      refine hK7 _ _ ?_
      clear hK7
      refine rgP H (gsC hout gs0) (rV rfl (does_binOp rfl rfl rfl (zd_add_int (k := ((k : Nat) : Int)) (m := 1) (c := ((k + 1 : Nat) : Int)) (by omega) (by omega) _ _)) <| rK [1, 1, 1, 1, 1, 1, 1, 1, 1, 1, 1, 1, 1, 1, 0] [] [] <| rS 1 rfl <| rZ ?_)
      try clear hout H a W
      rintro a W H ⟨hout, -⟩
      have hmm_ : (aqN lb k * 128 + (lb.getD k 0).toNat % 128) % 18446744073709551616 = aqN lb k * 128 % 18446744073709551616 + (lb.getD k 0).toNat % 128 := by omega
      have h_ := aq_more (l := lb) (k := k) (by omega)
      refine ⟨k + 1, by omega, by omega, ?_⟩
      show ∃ vo, NF w.heap.size [] (aqA lb (k + 1)) vo W ∧ St 42 w a W [(10, .int .i64 ((k + 1 : Nat) : Int)), (4, .int .u64 ((aqN lb (k + 1) : Nat) : Int)), (3, vo), (9, .int .i64 ((nb : Nat) : Int)), (8, .slice Ab nb cb), (2, .slice none 0 0)] []
      refine ⟨_, (by rw [h_.2]; exact hout), ?_⟩
      rw [h_.1]
      rw [hmm_]
      exact H.pick [0, 4, 15, 16, 17, 18] [] rfl
    | false =>
      rw [hq1] at H
      have hq1p := of_decide_eq_false hq1
      refine wp_cond_false (H.ev rfl) ?_
      refine wp_skip ?_
      refine hK10 _ _ ?_
      clear hK10
      refine wp_seq_k (fun K12 hK12 => ?_)
      refine sqR H (gsC hout gs0) fun Z_ z_ => rS 1 rfl <| rOV rfl (fun a W H ⟨hout, _⟩ => ob_lenN H (wanted_none rfl) rfl rfl hout) <| rV rfl (does_binOp rfl rfl rfl (zd_eql_int (k := (((aqA lb k).length : Nat) : Int)) (m := 0) rfl _ _)) <| rN z_ ?_
      try clear hout H a W
      rintro a W H ⟨hout, -⟩
      cases hq2 : decide ((((aqA lb k).length : Nat) : Int) = 0) with
      | true =>
        rw [hq2] at H
        have hq2p := of_decide_eq_true hq2
        refine wp_cond_true (H.ev rfl) ?_
        refine sqR H (gsC hout gs0) fun Z_ z_ => rS 1 rfl <| rV rfl (does_binOp rfl rfl rfl (ud_quo (k := ((aqN lb k) * 128 % 18446744073709551616 + ((lb.getD k 0).toNat) % 128)) (m := 40) (by omega) (by omega) _ _)) <| rV rfl (does_minU (k := (((aqN lb k) * 128 % 18446744073709551616 + ((lb.getD k 0).toNat) % 128) / 40)) (m := 2) rfl rfl rfl) <| rS 1 rfl <| rN z_ ?_
        try clear hout H a W
        rintro a W H ⟨hout, -⟩
        refine wp_seq_k (fun K15 hK15 => ?_)
        refine rgP H (gsC hout gs0) (rS 2 rfl <| rO rfl (fun a W H _ => ob_newN1 (x := min (((aqN lb k) * 128 % 18446744073709551616 + ((lb.getD k 0).toNat) % 128) / 40) 2) (by omega) H (wanted_none rfl) rfl rfl) fun v30 => rI ?_)
        try clear hout H a W
        rintro a W H ⟨hv30, hout, -⟩
        refine pl_R (R := WRr w.heap.size []) (F := NF w.heap.size [] ((aqA lb k) ++ [min (((aqN lb k) * 128 % 18446744073709551616 + ((lb.getD k 0).toNat) % 128) / 40) 2])) wrr_st (ob_appN H (wanted_none rfl) rfl rfl rfl hout hv30 (by simp) (by simp only [List.length_append, List.length_cons, List.length_nil]; omega)) rfl rfl rfl H ?_
        try clear H a W
        intro v31 a W hv31 hR_ H
        clear hR_
        replace H : St 42 w a W [(31, v31), (30, v30), (29, .int .u64 ((min (((aqN lb k) * 128 % 18446744073709551616 + ((lb.getD k 0).toNat) % 128) / 40) 2 : Nat) : Int)), (28, vo), (7, .int .u64 ((min (((aqN lb k) * 128 % 18446744073709551616 + ((lb.getD k 0).toNat) % 128) / 40) 2 : Nat) : Int)), (27, .int .u64 ((min (((aqN lb k) * 128 % 18446744073709551616 + ((lb.getD k 0).toNat) % 128) / 40) 2 : Nat) : Int)), (26, .int .u64 ((((aqN lb k) * 128 % 18446744073709551616 + ((lb.getD k 0).toNat) % 128) / 40 : Nat) : Int)), (25, .int .u64 (((aqN lb k) * 128 % 18446744073709551616 + ((lb.getD k 0).toNat) % 128 : Nat) : Int)), (24, .bool true), (23, .int .i64 (((aqA lb k).length : Nat) : Int)), (22, vo), (21, .bool false), (20, .int .u8 (((lb.getD k 0).toNat : Nat) : Int)), (4, .int .u64 (((aqN lb k) * 128 % 18446744073709551616 + ((lb.getD k 0).toNat) % 128 : Nat) : Int)), (19, .int .u64 (((aqN lb k) * 128 % 18446744073709551616 + ((lb.getD k 0).toNat) % 128 : Nat) : Int)), (18, .int .u64 ((((lb.getD k 0).toNat) % 128 : Nat) : Int)), (17, .int .u8 ((((lb.getD k 0).toNat) % 128 : Nat) : Int)), (16, .int .u8 (((lb.getD k 0).toNat : Nat) : Int)), (15, .int .u64 (((aqN lb k) * 128 % 18446744073709551616 : Nat) : Int)), (14, .int .u64 ((aqN lb k : Nat) : Int)), (6, .int .u8 (((lb.getD k 0).toNat : Nat) : Int)), (13, .int .u8 (((lb.getD k 0).toNat : Nat) : Int)), (12, .pointer (some ⟨gb, ob + k, none⟩)), (11, .bool true), (10, .int .i64 ((k : Nat) : Int)), (3, vo), (9, .int .i64 ((nb : Nat) : Int)), (8, .slice Ab nb cb), (2, .slice none 0 0)] [] := H
        refine rgO H (gsC hv31 gs0) (rK [1, 1, 1, 1, 1, 1, 1, 1, 1, 1, 1, 1, 1, 1, 1, 1, 1, 1, 1, 1, 1, 1, 1, 1, 1, 0] [] [] <| rS 1 rfl <| rZ ?_)
        try clear hv31 H a W
        rintro a W H ⟨hv31, -⟩
        refine hK15 _ _ ?_
        clear hK15
        refine rgP H (gsC hv31 gs0) (rS 2 rfl <| rV rfl (does_binOp rfl rfl rfl (ud_mul40r (m := min (((aqN lb k) * 128 % 18446744073709551616 + ((lb.getD k 0).toNat) % 128) / 40) 2) (by omega) _ _)) <| rV rfl (does_binOp rfl rfl rfl (ud_sub (k := (aqN lb k) * 128 % 18446744073709551616 + ((lb.getD k 0).toNat) % 128) (m := 40 * (min (((aqN lb k) * 128 % 18446744073709551616 + ((lb.getD k 0).toNat) % 128) / 40) 2)) (by omega) (by omega) _ _)) <| rK [1, 1, 1, 1, 1, 1, 1, 1, 1, 1, 1, 1, 1, 1, 1, 1, 1, 1, 0] [] [] <| rS 1 rfl <| rZ ?_)
        try clear hv31 H a W
        rintro a W H ⟨hv31, -⟩
        refine hK12 _ _ ?_
        clear hK12
        refine wp_seq_k (fun K16 hK16 => ?_)
        refine rgP H (gsC hv31 gs0) (rS 2 rfl <| rO rfl (fun a W H _ => ob_newN1 (x := ((aqN lb k) * 128 % 18446744073709551616 + ((lb.getD k 0).toNat) % 128) - (40 * (min (((aqN lb k) * 128 % 18446744073709551616 + ((lb.getD k 0).toNat) % 128) / 40) 2))) (by omega) H (wanted_none rfl) rfl rfl) fun v38 => rI ?_)
        try clear hv31 H a W
        rintro a W H ⟨hv38, hv31, -⟩
        refine pl_R (R := WRr w.heap.size []) (F := NF w.heap.size [] (((aqA lb k) ++ [min (((aqN lb k) * 128 % 18446744073709551616 + ((lb.getD k 0).toNat) % 128) / 40) 2]) ++ [((aqN lb k) * 128 % 18446744073709551616 + ((lb.getD k 0).toNat) % 128) - (40 * (min (((aqN lb k) * 128 % 18446744073709551616 + ((lb.getD k 0).toNat) % 128) / 40) 2))])) wrr_st (ob_appN H (wanted_none rfl) rfl rfl rfl hv31 hv38 (by simp) (by simp only [List.length_append, List.length_cons, List.length_nil]; omega)) rfl rfl rfl H ?_
        try clear H a W
        intro v39 a W hv39 hR_ H
        clear hR_
        replace H : St 42 w a W [(39, v39), (38, v38), (37, .int .u64 ((((aqN lb k) * 128 % 18446744073709551616 + ((lb.getD k 0).toNat) % 128) - (40 * (min (((aqN lb k) * 128 % 18446744073709551616 + ((lb.getD k 0).toNat) % 128) / 40) 2)) : Nat) : Int)), (36, v31), (4, .int .u64 ((((aqN lb k) * 128 % 18446744073709551616 + ((lb.getD k 0).toNat) % 128) - (40 * (min (((aqN lb k) * 128 % 18446744073709551616 + ((lb.getD k 0).toNat) % 128) / 40) 2)) : Nat) : Int)), (35, .int .u64 ((((aqN lb k) * 128 % 18446744073709551616 + ((lb.getD k 0).toNat) % 128) - (40 * (min (((aqN lb k) * 128 % 18446744073709551616 + ((lb.getD k 0).toNat) % 128) / 40) 2)) : Nat) : Int)), (34, .int .u64 ((40 * (min (((aqN lb k) * 128 % 18446744073709551616 + ((lb.getD k 0).toNat) % 128) / 40) 2) : Nat) : Int)), (33, .int .u64 ((min (((aqN lb k) * 128 % 18446744073709551616 + ((lb.getD k 0).toNat) % 128) / 40) 2 : Nat) : Int)), (32, .int .u64 (((aqN lb k) * 128 % 18446744073709551616 + ((lb.getD k 0).toNat) % 128 : Nat) : Int)), (3, v31), (31, v31), (30, v30), (29, .int .u64 ((min (((aqN lb k) * 128 % 18446744073709551616 + ((lb.getD k 0).toNat) % 128) / 40) 2 : Nat) : Int)), (28, vo), (7, .int .u64 ((min (((aqN lb k) * 128 % 18446744073709551616 + ((lb.getD k 0).toNat) % 128) / 40) 2 : Nat) : Int)), (27, .int .u64 ((min (((aqN lb k) * 128 % 18446744073709551616 + ((lb.getD k 0).toNat) % 128) / 40) 2 : Nat) : Int)), (26, .int .u64 ((((aqN lb k) * 128 % 18446744073709551616 + ((lb.getD k 0).toNat) % 128) / 40 : Nat) : Int)), (25, .int .u64 (((aqN lb k) * 128 % 18446744073709551616 + ((lb.getD k 0).toNat) % 128 : Nat) : Int)), (24, .bool true), (23, .int .i64 (((aqA lb k).length : Nat) : Int)), (22, vo), (21, .bool false), (20, .int .u8 (((lb.getD k 0).toNat : Nat) : Int)), (19, .int .u64 (((aqN lb k) * 128 % 18446744073709551616 + ((lb.getD k 0).toNat) % 128 : Nat) : Int)), (18, .int .u64 ((((lb.getD k 0).toNat) % 128 : Nat) : Int)), (17, .int .u8 ((((lb.getD k 0).toNat) % 128 : Nat) : Int)), (16, .int .u8 (((lb.getD k 0).toNat : Nat) : Int)), (15, .int .u64 (((aqN lb k) * 128 % 18446744073709551616 : Nat) : Int)), (14, .int .u64 ((aqN lb k : Nat) : Int)), (6, .int .u8 (((lb.getD k 0).toNat : Nat) : Int)), (13, .int .u8 (((lb.getD k 0).toNat : Nat) : Int)), (12, .pointer (some ⟨gb, ob + k, none⟩)), (11, .bool true), (10, .int .i64 ((k : Nat) : Int)), (9, .int .i64 ((nb : Nat) : Int)), (8, .slice Ab nb cb), (2, .slice none 0 0)] [] := H
        refine rgO H (gsC hv39 gs0) (rK [1, 1, 1, 1, 1, 1, 1, 1, 1, 0] [] [] <| rS 1 rfl <| rZ ?_)
        try clear hv39 H a W
        rintro a W H ⟨hv39, -⟩
        refine hK16 _ _ ?_
        clear hK16
        refine rgP H (gsC hv39 gs0) (rK [1, 1, 1, 1, 1, 0] [] [] <| rS 1 rfl <| rZ ?_)
        try clear hv39 H a W
        rintro a W H ⟨hv39, -⟩
        refine blk_normal ?_
        refine hK7 _ _ ?_
        clear hK7
        refine rgP H (gsC hv39 gs0) (rV rfl (does_binOp rfl rfl rfl (zd_add_int (k := ((k : Nat) : Int)) (m := 1) (c := ((k + 1 : Nat) : Int)) (by omega) (by omega) _ _)) <| rK [1, 1, 1, 1, 1, 1, 1, 1, 1, 1, 1, 1, 1, 1, 1, 1, 1, 1, 1, 1, 1, 1, 1, 1, 1, 1, 1, 1, 1, 1, 1, 1, 1, 1, 0] [] [] <| rS 1 rfl <| rZ ?_)
        try clear hv39 H a W
        rintro a W H ⟨hv39, -⟩
        have hmm_ : (aqN lb k * 128 + (lb.getD k 0).toNat % 128) % 18446744073709551616 = aqN lb k * 128 % 18446744073709551616 + (lb.getD k 0).toNat % 128 := by omega
        have h_ := aq_first (l := lb) (k := k) (by omega) (by omega) rfl rfl
        rw [hmm_] at h_
        have h2_ := hv39
        rw [List.eq_nil_of_length_eq_zero (l := aqA lb k) (by omega)] at h2_
        refine ⟨k + 1, by omega, by omega, ?_⟩
        show ∃ vo, NF w.heap.size [] (aqA lb (k + 1)) vo W ∧ St 42 w a W [(10, .int .i64 ((k + 1 : Nat) : Int)), (4, .int .u64 ((aqN lb (k + 1) : Nat) : Int)), (3, vo), (9, .int .i64 ((nb : Nat) : Int)), (8, .slice Ab nb cb), (2, .slice none 0 0)] []
        refine ⟨_, (by rw [h_.2]; exact h2_), ?_⟩
        rw [h_.1]
        exact H.pick [0, 2, 3, 35, 36, 37] [] rfl
      | false =>
        rw [hq2] at H
        have hq2p := of_decide_eq_false hq2
        refine wp_cond_false (H.ev rfl) ?_
        refine wp_skip ?_
        refine hK12 _ _ ?_
        clear hK12
        refine wp_seq_k (fun K17 hK17 => ?_)
        refine rgP H (gsC hout gs0) (rS 2 rfl <| rO rfl (fun a W H _ => ob_newN1 (x := (aqN lb k) * 128 % 18446744073709551616 + ((lb.getD k 0).toNat) % 128) (by omega) H (wanted_none rfl) rfl rfl) fun v38 => rI ?_)
        try clear hout H a W
        rintro a W H ⟨hv38, hout, -⟩
        refine pl_R (R := WRr w.heap.size []) (F := NF w.heap.size [] ((aqA lb k) ++ [(aqN lb k) * 128 % 18446744073709551616 + ((lb.getD k 0).toNat) % 128])) wrr_st (ob_appN H (wanted_none rfl) rfl rfl rfl hout hv38 (by simp) (by simp only [List.length_append, List.length_cons, List.length_nil]; omega)) rfl rfl rfl H ?_
        try clear H a W
        intro v39 a W hv39 hR_ H
        clear hR_
        replace H : St 42 w a W [(39, v39), (38, v38), (37, .int .u64 (((aqN lb k) * 128 % 18446744073709551616 + ((lb.getD k 0).toNat) % 128 : Nat) : Int)), (36, vo), (24, .bool false), (23, .int .i64 (((aqA lb k).length : Nat) : Int)), (22, vo), (21, .bool false), (20, .int .u8 (((lb.getD k 0).toNat : Nat) : Int)), (4, .int .u64 (((aqN lb k) * 128 % 18446744073709551616 + ((lb.getD k 0).toNat) % 128 : Nat) : Int)), (19, .int .u64 (((aqN lb k) * 128 % 18446744073709551616 + ((lb.getD k 0).toNat) % 128 : Nat) : Int)), (18, .int .u64 ((((lb.getD k 0).toNat) % 128 : Nat) : Int)), (17, .int .u8 ((((lb.getD k 0).toNat) % 128 : Nat) : Int)), (16, .int .u8 (((lb.getD k 0).toNat : Nat) : Int)), (15, .int .u64 (((aqN lb k) * 128 % 18446744073709551616 : Nat) : Int)), (14, .int .u64 ((aqN lb k : Nat) : Int)), (6, .int .u8 (((lb.getD k 0).toNat : Nat) : Int)), (13, .int .u8 (((lb.getD k 0).toNat : Nat) : Int)), (12, .pointer (some ⟨gb, ob + k, none⟩)), (11, .bool true), (10, .int .i64 ((k : Nat) : Int)), (3, vo), (9, .int .i64 ((nb : Nat) : Int)), (8, .slice Ab nb cb), (2, .slice none 0 0)] [] := H
        refine rgO H (gsC hv39 gs0) (rK [1, 1, 1, 1, 1, 1, 1, 1, 1, 1, 1, 1, 1, 1, 1, 1, 1, 1, 1, 1, 1, 0] [] [] <| rS 1 rfl <| rZ ?_)
        try clear hv39 H a W
        rintro a W H ⟨hv39, -⟩
        refine hK17 _ _ ?_
        clear hK17
        refine rgP H (gsC hv39 gs0) (rK [1, 1, 1, 1, 1, 1, 1, 1, 1, 1, 0] [] [] <| rS 1 rfl <| rZ ?_)
        try clear hv39 H a W
        rintro a W H ⟨hv39, -⟩
        refine blk_normal ?_
        refine hK7 _ _ ?_
        clear hK7
        refine rgP H (gsC hv39 gs0) (rV rfl (does_binOp rfl rfl rfl (zd_add_int (k := ((k : Nat) : Int)) (m := 1) (c := ((k + 1 : Nat) : Int)) (by omega) (by omega) _ _)) <| rK [1, 1, 1, 1, 1, 1, 1, 1, 1, 1, 1, 1, 1, 1, 1, 1, 1, 1, 1, 1, 1, 1, 0] [] [] <| rS 1 rfl <| rZ ?_)
        try clear hv39 H a W
        rintro a W H ⟨hv39, -⟩
        have hmm_ : (aqN lb k * 128 + (lb.getD k 0).toNat % 128) % 18446744073709551616 = aqN lb k * 128 % 18446744073709551616 + (lb.getD k 0).toNat % 128 := by omega
        have h_ := aq_next (l := lb) (k := k) (by omega) (by omega) rfl
        rw [hmm_] at h_
        refine ⟨k + 1, by omega, by omega, ?_⟩
        show ∃ vo, NF w.heap.size [] (aqA lb (k + 1)) vo W ∧ St 42 w a W [(10, .int .i64 ((k + 1 : Nat) : Int)), (4, .int .u64 ((aqN lb (k + 1) : Nat) : Int)), (3, vo), (9, .int .i64 ((nb : Nat) : Int)), (8, .slice Ab nb cb), (2, .slice none 0 0)] []
        refine ⟨_, (by rw [h_.2]; exact hv39), ?_⟩
        rw [h_.1]
        exact H.pick [0, 2, 3, 23, 24, 25] [] rfl
  · obtain rfl : nb = k := by omega
    refine sqR H (gsC hout gs0) fun Z_ z_ => rV rfl (does_binOp rfl rfl rfl (zd_lss_int (k := ((nb : Nat) : Int)) (m := ((nb : Nat) : Int)) (decide_eq_false (by omega)) _ _)) <| rK [1, 1, 1, 1, 0] [] [] <| rN z_ ?_
    try clear hout H a W
    rintro a W H ⟨hout, -⟩
    refine wp_seq_k (fun K19 hK19 => ?_)
    refine wp_cond_false (H.ev rfl) ?_
    refine wp_exit ?_
    repeat (first | (with_reducible refine then_exit ?_) | (with_reducible refine blk_pass (by decide) ?_))
    refine blk_exit ?_
    refine hK4 _ _ ?_
    clear hK4
    refine sqR H (gsC hout gs0) fun Z_ z_ => rS 1 rfl <| rK [1, 1, 1, 1, 1, 1, 0] [] [] <| rS 1 rfl <| rK [1, 0, 0, 0, 0, 0, 0] [] [] <| rN z_ ?_
    try clear hout H a W
    rintro a W H ⟨hout, -⟩
    refine wp_ret ?_
    repeat (first | (with_reducible refine then_ret ?_) | (with_reducible refine blk_ret ?_))
    refine end_tmp (p := 2) rfl rfl H (fun hb => ?_)
    exact ⟨_, rfl, hb, by rw [aqs_end, hlb]; exact hout.1⟩
theorem darcs_any {v : Value} {l : List UInt8} (w : World) (hv : BF l v w) (hl : l.length ≤ 100000) : Calls Tryd.prog 42 #[v] w (fun rr w' => ∃ v, rr = .returned v ∧ Below w.heap.size w w' ∧ w'.ownsRow w.heap.size 36 1 v (arcsQ l 0 []).length ((arcsQ l 0 []).map nvD)) := by
  obtain ⟨A, n, c, rfl, hb⟩ := hv
  obtain ⟨g, o, h⟩ := hb.nat (Nat.le_refl _)
  have := hb.len
  exact darcs_walk w (by omega) hb.len (by omega) h
theorem arcsQ_lt : ∀ (l : List UInt8) (n : Nat) (acc : List Nat), (∀ x ∈ acc, x < 18446744073709551616) → ∀ x ∈ arcsQ l n acc, x < 18446744073709551616
  | [], n, acc, ha => ha
  | b :: r, n, acc, ha => by
    unfold arcsQ
    split
    · exact arcsQ_lt r _ acc ha
    · refine arcsQ_lt r 0 _ fun x hx => ?_
      split at hx
      · rcases List.mem_cons.1 hx with rfl | hx
        · omega
        · rw [List.mem_singleton.1 hx]
          omega
      · rcases List.mem_append.1 hx with hx | hx
        · exact ha x hx
        · rw [List.mem_singleton.1 hx]
          omega
theorem arcsQ_len (l : List UInt8) : (arcsQ l 0 []).length ≤ 2 * l.length := by
  rw [aqs_end]
  exact aqA_len l l.length
end Go.Proofs.YtonhkclkddobhaaDoor
namespace Go.Proofs.YtonhkclkddobhaaDoor
set_option linter.unusedVariables false
set_option linter.unusedSimpArgs false
set_option maxRecDepth 100000
open Go Go.RowKit
theorem zlt : (0 : Nat) < 9223372036854775808 := by decide
theorem dc_flat {C : Nat → Nat → Value → Prop} {k n : Int} {f : Bool} {tx : List UInt8} (hk : -9223372036854775808 ≤ k ∧ k < 9223372036854775808) (hn : -9223372036854775808 ≤ n ∧ n < 9223372036854775808) (hl : tx.length < 9223372036854775808) : DC C (.mk k f n [] tx [] []) (DH.mk k f n SL.no tx SL.no SL.no) :=
  DC.mk (x := DH.mk k f n SL.no tx SL.no SL.no) (fun _ => DH.no) hk hn ⟨zlt, hl, zlt, zlt⟩ rfl (Nat.le_refl _) (fun _ => rfl) (fun h => absurd (show 0 < 0 from h) (by decide)) rfl (Nat.le_refl _) (fun _ => rfl) (fun y hy => by cases hy) (fun h => absurd (show 0 < 0 from h) (by decide)) rfl (Nat.le_refl _) (fun h => absurd (show 0 < 0 from h) (by decide)) (fun i T h => by simp at h)
theorem dc_B {k n : Int} {f : Bool} {A : Option Addr} {c : Nat} {t : Hep} {l : List UInt8} (hk : -9223372036854775808 ≤ k ∧ k < 9223372036854775808) (hn : -9223372036854775808 ≤ n ∧ n < 9223372036854775808) (hl : l.length < 9223372036854775808) (hv : OutD 5 1 t (.slice A l.length c) l.length (l.map bv)) : DC (TN t) (.mk k f n l [] [] []) (DH.mk k f n (SL.mk A l.length c) [] SL.no SL.no) := by
  obtain ⟨A', c', e1, hc⟩ := hv.form
  injection e1 with e1 e2 e3
  subst e1 e3
  refine DC.mk (x := DH.mk k f n (SL.mk A l.length c) [] SL.no SL.no) (fun _ => DH.no) hk hn ⟨hl, zlt, zlt, zlt⟩ rfl hc (fun e => ?_) (fun h0 => ?_) rfl (Nat.le_refl _) (fun _ => rfl) (fun y hy => by cases hy) (fun h => absurd (show 0 < 0 from h) (by decide)) rfl (Nat.le_refl _) (fun h => absurd (show 0 < 0 from h) (by decide)) (fun i T h => by simp at h)
  · rcases hv with ⟨_, e2, _, _⟩ | ⟨g, cap, cur, _, e2, _⟩
    · injection e2
    · injection e2 with e3
      have e : A = none := e
      rw [e] at e3
      cases e3
  · obtain ⟨g, cur, rfl, rfl, hcell⟩ := hv.at_ h0
    refine ⟨g, 0, rfl, fun j y hy => ⟨_, cur, List.mem_singleton.2 rfl, ?_⟩⟩
    rw [Nat.zero_add]
    exact hcell j _ (by rw [List.getElem?_map, hy]; rfl)
theorem dc_A {k n : Int} {f : Bool} {A : Option Addr} {c : Nat} {t : Hep} {l : List Nat} (hk : -9223372036854775808 ≤ k ∧ k < 9223372036854775808) (hn : -9223372036854775808 ≤ n ∧ n < 9223372036854775808) (hlt : ∀ x ∈ l, x < 18446744073709551616) (hl : l.length < 9223372036854775808) (hv : OutD 36 1 t (.slice A l.length c) l.length (l.map nvD)) : DC (TN t) (.mk k f n [] [] l []) (DH.mk k f n SL.no [] (SL.mk A l.length c) SL.no) := by
  obtain ⟨A', c', e1, hc⟩ := hv.form
  injection e1 with e1 e2 e3
  subst e1 e3
  refine DC.mk (x := DH.mk k f n SL.no [] (SL.mk A l.length c) SL.no) (fun _ => DH.no) hk hn ⟨zlt, zlt, hl, zlt⟩ rfl (Nat.le_refl _) (fun _ => rfl) (fun h => absurd (show 0 < 0 from h) (by decide)) rfl hc (fun e => ?_) hlt (fun h0 => ?_) rfl (Nat.le_refl _) (fun h => absurd (show 0 < 0 from h) (by decide)) (fun i T h => by simp at h)
  · rcases hv with ⟨_, e2, _, _⟩ | ⟨g, cap, cur, _, e2, _⟩
    · injection e2
    · injection e2 with e3
      have e : A = none := e
      rw [e] at e3
      cases e3
  · obtain ⟨g, cur, rfl, rfl, hcell⟩ := hv.at_ h0
    refine ⟨g, 0, rfl, fun j y hy => ⟨_, cur, List.mem_singleton.2 rfl, ?_⟩⟩
    rw [Nat.zero_add]
    exact hcell j _ (by rw [List.getElem?_map, hy]; rfl)
theorem dc_K {k n : Int} {f : Bool} {A : Option Addr} {c : Nat} {t t2 : Hep} {xs : List DH} {Ts : List DT} (hk : -9223372036854775808 ≤ k ∧ k < 9223372036854775808) (hn : -9223372036854775808 ≤ n ∧ n < 9223372036854775808) (hl : xs.length < 9223372036854775808) (hT : Ts.length = xs.length) (hv : OutD 27 7 t (.slice A xs.length c) xs.length (kidV xs)) (hd : ∀ (i : Nat) (x : DH) (T : DT), xs[i]? = some x → Ts[i]? = some T → DC (TN t2) T x) :
    DC (TN (t ++ t2)) (.mk k f n [] [] [] Ts) (DH.mk k f n SL.no [] SL.no (SL.mk A xs.length c)) := by
  obtain ⟨A', c', e1, hc⟩ := hv.form
  injection e1 with e1 e2 e3
  subst e1 e3
  refine DC.mk (x := DH.mk k f n SL.no [] SL.no (SL.mk A xs.length c)) (fun i => xs.getD i DH.no) hk hn ⟨zlt, zlt, zlt, hl⟩ rfl (Nat.le_refl _) (fun _ => rfl) (fun h => absurd (show 0 < 0 from h) (by decide)) rfl (Nat.le_refl _) (fun _ => rfl) (fun y hy => by cases hy) (fun h => absurd (show 0 < 0 from h) (by decide)) hT hc (fun h0 => ?_) (fun i T hT2 => ?_)
  · obtain ⟨g, cur, rfl, rfl, hcell⟩ := hv.at_ h0
    refine ⟨g, 0, rfl, fun i hi j u hu => ⟨_, cur, List.mem_append.2 (.inl (List.mem_singleton.2 rfl)), ?_⟩⟩
    have hi : i < xs.length := hi
    rw [Nat.zero_add]
    refine hcell _ _ (kidV_get (List.getElem?_eq_getElem hi) ?_)
    rw [List.getD_eq_getElem?_getD, List.getElem?_eq_getElem hi] at hu
    exact hu
  · have hi : i < xs.length := by have := (List.getElem?_eq_some_iff.1 hT2).1; omega
    have hx : xs[i]? = some xs[i] := List.getElem?_eq_getElem hi
    rw [List.getD_eq_getElem?_getD, hx]
    exact (hd i _ T hx hT2).mono fun g k v hc => hc.more fun p hp => List.mem_append.2 (.inr hp)
section
variable {n : Nat} {w0 w w' : World} {a : Act} {e : Env} {h h' t t2 : Hep} {Q : Exit → Act → World → Prop} {ops : Array Oper} {rest : List Oper} {o : Oper}
/-- An append onto nothing. -/
theorem pl_appNB {d : Nat} {x y : Operand} {u : Value} {l : List UInt8} (ho : o.op = .call { callee := .builtin .append, args := #[x, y], argTypes := #[23, 23] }) (hx : sev e x = some (.slice none 0 0)) (hy : sev e y = some u) (hu : BF l u w) (hs : l.length ≤ 900000) (hg : o.guard = none) (hdst : o.dst = some d) (hl : Nat.blt d n = true) (hf : e.all (fun p => !Nat.beq p.1 d) = true) (H : St n w0 a w e h)
    (next : ∀ A c t a w', OutD 5 1 t (.slice A l.length c) l.length (l.map bv) → St n w0 a w' ((d, .slice A l.length c) :: e) (h ++ t) → wpList Tryd.prog ops Q rest a w') : wpList Tryd.prog ops Q (o :: rest) a w :=
  wpList_plain hg fun K hK => by
    obtain ⟨A, k, c, rfl, hr⟩ := hu
    have hk := hr.len
    obtain ⟨v', w', h1, h2, h3, h4⟩ := run_app_own (P := Tryd.prog) (w := w) 23 o.type 5 Tryd.underlying23 u8_info w.heap.size (.slice none 0 0) [] (OwnB.nil _ _ _) _ k c A l hr (by simp only [List.length_nil]; omega) (Nat.le_refl _)
    have hown : w'.ownsRow w.heap.size 5 1 v' l.length (l.map bv) := by simpa [OwnB] using h2
    obtain ⟨t, ht, H'⟩ := own_told (B := 0) H (grown_none h3) hown
    obtain ⟨A', c', rfl, _⟩ := ht.form
    unfold Oper.wp
    simp [execOp, ho, resolve, invoke, builtin, H.ev hx, H.ev hy, h1, Result.andThen]
    refine hK _ _ (next A' c' t _ _ ht ?_)
    rw [hdst]
    exact H'.put _ hl hf
end
theorem Kn.news {w0 w w' : World} {h t : Hep} (K : Kn w0 w h) (hb : Below w.heap.size w w') (hn : NR w.heap.size t w') : Kn w0 w' (t ++ h) := by
  have hlt : ∀ p ∈ h, p.1 < w.heap.size := fun p hp => (K.heap p hp).lt
  refine ⟨K.below.trans (hb.mono K.below.size), fun p hp => ?_, fun p hp => ?_, List.pairwise_append.2 ⟨hn.apart, K.apart, fun p hp q hq => Nat.ne_of_gt (Nat.lt_of_lt_of_le (hlt q hq) (hn.own p hp))⟩⟩
  · rcases List.mem_append.1 hp with hp | hp
    · exact hn.heap p hp
    · exact (K.heap p hp).below hb (hlt p hp)
  · rcases List.mem_append.1 hp with hp | hp
    · exact Nat.le_trans K.below.size (hn.own p hp)
    · exact K.own p hp
attribute [local irreducible] bvs byteD rb takeQ numQ intQ arcsQ accD
theorem fillQ_1 (n : Int) (c : List UInt8) : fillQ 1 n c = .mk 1 (decide (c = [255])) n [] [] [] [] := rfl
theorem fillQ_2 (n : Int) (c : List UInt8) : fillQ 2 n c = .mk 2 false (intQ c) [] [] [] [] := rfl
theorem fillQ_5 (n : Int) (c : List UInt8) : fillQ 5 n c = .mk 5 false n [] [] (arcsQ c 0 []) [] := rfl
theorem fillQ_3 (n : Int) (c : List UInt8) : fillQ 3 n c = .mk 3 false n (c.drop (min 1 c.length)) [] [] [] := rfl
theorem fillQ_4 (n : Int) (c : List UInt8) : fillQ 4 n c = .mk 4 false n c [] [] [] := rfl
theorem fillQ_t {k : Int} {n : Int} {c : List UInt8} (h : k = 6 ∨ k = 10) : fillQ k n c = .mk k false n [] c [] [] := by
  rcases h with rfl | rfl <;> rfl
theorem fillQ_no {k : Int} {n : Int} {c : List UInt8} (h : k ≠ 1 ∧ k ≠ 2 ∧ k ≠ 3 ∧ k ≠ 4 ∧ k ≠ 5) (h2 : k ≠ 6 ∧ k ≠ 10) : fillQ k n c = .mk k false n [] [] [] [] := by
  unfold fillQ
  rw [if_neg h.1, if_neg h.2.1, if_neg h.2.2.2.2, if_neg (by omega), if_neg h.2.2.1, if_neg h.2.2.2.1]
theorem intQ_in (c : List UInt8) : -9223372036854775808 ≤ intQ c ∧ intQ c < 9223372036854775808 := by
  by_cases h : 1 ≤ c.length ∧ c.length ≤ 8
  · rw [intQ_num h]
    exact numD_in c
  · rw [intQ_no (decide_eq_false h)]
    decide
set_option maxHeartbeats 4000000 in
theorem filled_walk {Ac : Option Addr} {nc cc : Nat} {lc : List UInt8} (k n : Int) (w : World) (hk : -9223372036854775808 ≤ k ∧ k < 9223372036854775808) (hn : -9223372036854775808 ≤ n ∧ n < 9223372036854775808) (hFc : BF lc (.slice Ac nc cc) w) (hlc : lc.length = nc) (hnc : nc ≤ 100000) : Calls Tryd.prog 31 #[.agg ((DH.mk k false n SL.no [] SL.no SL.no).cs), .slice Ac nc cc] w (fun rr w' => ∃ (x : DH) (t : Hep), rr = .returned (.agg x.cs) ∧ Below w.heap.size w w' ∧ NR w.heap.size t w' ∧ DC (TN t) (fillQ k n lc) x) := by
  refine calls_st (vs := [.agg ((DH.mk k false n SL.no [] SL.no SL.no).cs), .slice Ac nc cc]) 44 Tryd.func31 rfl Tryd.ntmps31 rfl (fun a W H => ?_)
  replace H : St 44 w a W [(0, .agg ((DH.mk k false n SL.no [] SL.no SL.no).cs)), (1, .slice Ac nc cc)] [] := H
  refine sqR H gs0 fun Z_ z_ => rB rfl rfl rfl (bx_der (DH.mk k false n SL.no [] SL.no SL.no)) fun g1 => rA rfl rfl al_der fun g2 => rK [1, 1, 0] [] [] <| rN0 z_ ?_
  try clear H a W
  intro a W H
  refine wp_seq_k (fun K2 hK2 => ?_)
  refine sqR H gs0 fun Z_ z_ => rV rfl (does_fieldAddr rfl rfl fa_der0) <| rV rfl (does_loadAt (v := .int .i64 k) rfl rfl (k := 1) rfl ld_derK) <| rK [1, 0] [] [] <| rN0 z_ ?_
  try clear H a W
  intro a W H
  refine wp_block ?_
  refine wp_seq_k (fun K4 hK4 => ?_)
  refine wp_block ?_
  refine wp_seq_k (fun K5 hK5 => ?_)
  refine wp_block ?_
  refine wp_seq_k (fun K6 hK6 => ?_)
  refine wp_block ?_
  refine wp_seq_k (fun K7 hK7 => ?_)
  refine wp_block ?_
  refine wp_seq_k (fun K8 hK8 => ?_)
  refine wp_block ?_
  refine wp_seq_k (fun K9 hK9 => ?_)
  refine wp_block ?_
  refine wp_seq_k (fun K10 hK10 => ?_)
  refine wp_seq_k (fun K11 hK11 => ?_)
  refine sqR H gs0 fun Z_ z_ => rV rfl (does_binOp rfl rfl rfl (zd_eql_derkind (k := k) (m := 1) rfl _ _)) <| rS 1 rfl <| rK [1, 0] [] [] <| rN0 z_ ?_
  try clear H a W
  intro a W H
  cases hq1 : decide (k = 1) with
  | true =>
    rw [hq1] at H
    have hq1p := of_decide_eq_true hq1
    refine wp_cond_true (H.ev rfl) ?_
    refine wp_exit ?_
    repeat (first | (with_reducible refine then_exit ?_) | (with_reducible refine blk_pass (by decide) ?_))
    refine blk_exit ?_
    refine hK9 _ _ ?_
    clear hK9
    refine sqR H gs0 fun Z_ z_ => rS 1 rfl <| rO rfl (fun a W H _ => ob_byteOF (x := 255) H (wanted_none rfl) rfl rfl) fun v21 => rCV rfl rfl ⟨_, Tryd.func17, by kernel_rfl⟩ rfl (fun a W H ⟨hv21, _⟩ => (equalB_any (bf_old hFc H) hv21.bf)) <| rV rfl (does_fieldAddr rfl rfl fa_der1) <| rX [0, 1] (c := (DH.mk k (decide (lc = [255])) n SL.no [] SL.no SL.no).cs) ⟨rfl, rfl⟩ rfl rfl rfl (st_derF (u := (decide (lc = [255])))) sv_derF <| rK [0, 0, 0, 0, 0, 0] [] [] <| rN0 z_ ?_
    try clear H a W
    intro a W H
    refine wp_exit ?_
    repeat (first | (with_reducible refine then_exit ?_) | (with_reducible refine blk_pass (by decide) ?_))
    refine blk_exit ?_
    refine hK2 _ _ ?_
    clear hK2
    refine sqR H gs0 fun Z_ z_ => rV rfl (does_load rfl rfl (k := 1) rfl Tryd.underlying27 rfl (info_der (DH.mk k (decide (lc = [255])) n SL.no [] SL.no SL.no))) <| rW [1] ⟨rfl, rfl⟩ rfl rfl rfl (info_der (DH.mk k (decide (lc = [255])) n SL.no [] SL.no SL.no)) (size_der DH.no (DH.mk k (decide (lc = [255])) n SL.no [] SL.no SL.no)) (DH.mk k (decide (lc = [255])) n SL.no [] SL.no SL.no).one <| rK [0, 1, 0, 0] [] [] <| rN0 z_ ?_
    try clear H a W
    intro a W H
    refine wp_ret ?_
    repeat (first | (with_reducible refine then_ret ?_) | (with_reducible refine blk_ret ?_))
    refine end_cell (p := 4) rfl rfl (k := 0) rfl Tryd.underlying27 rfl (info_der _) H (fun hb => ?_)
    have H2 : St 44 w a W [(4, .pointer (some ⟨g2, 0, none⟩))] ([(g2, 27, (DH.mk k (decide (lc = [255])) n SL.no [] SL.no SL.no).cs), (g1, 27, (DH.mk k (decide (lc = [255])) n SL.no [] SL.no SL.no).cs)] ++ ([] : Hep)) := by rw [List.append_nil]; exact H
    refine ⟨_, ([] : Hep), rfl, hb, H2.nr, ?_⟩
    obtain rfl : k = 1 := by omega
    rw [fillQ_1]
    exact dc_flat (by decide) hn (by decide)
  | false =>
    rw [hq1] at H
    have hq1p := of_decide_eq_false hq1
    refine wp_cond_false (H.ev rfl) ?_
    refine wp_skip ?_
    refine hK11 _ _ ?_
    clear hK11
    refine wp_seq_k (fun K15 hK15 => ?_)
    refine sqR H gs0 fun Z_ z_ => rV rfl (does_binOp rfl rfl rfl (zd_eql_derkind (k := k) (m := 2) rfl _ _)) <| rS 1 rfl <| rK [1, 0, 0] [] [] <| rN0 z_ ?_
    try clear H a W
    intro a W H
    cases hq2 : decide (k = 2) with
    | true =>
      rw [hq2] at H
      have hq2p := of_decide_eq_true hq2
      refine wp_cond_true (H.ev rfl) ?_
      refine wp_exit ?_
      repeat (first | (with_reducible refine then_exit ?_) | (with_reducible refine blk_pass (by decide) ?_))
      refine blk_exit ?_
      refine hK8 _ _ ?_
      clear hK8
      refine sqR H gs0 fun Z_ z_ => rS 1 rfl <| rV rfl (does_call rfl ⟨_, Tryd.func41, by kernel_rfl⟩ rfl (fun W hb => int_of W (hFc.below hb) hlc (by omega))) <| rV rfl (does_fieldAddr rfl rfl fa_der2) <| rX [0, 1] (c := (DH.mk k false (intQ lc) SL.no [] SL.no SL.no).cs) ⟨rfl, rfl⟩ rfl rfl rfl (st_derN (u := (intQ lc))) sv_derN <| rK [0, 0, 0, 0, 0] [] [] <| rN0 z_ ?_
      try clear H a W
      intro a W H
      refine wp_exit ?_
      repeat (first | (with_reducible refine then_exit ?_) | (with_reducible refine blk_pass (by decide) ?_))
      refine blk_exit ?_
      refine hK2 _ _ ?_
      clear hK2
      refine sqR H gs0 fun Z_ z_ => rV rfl (does_load rfl rfl (k := 1) rfl Tryd.underlying27 rfl (info_der (DH.mk k false (intQ lc) SL.no [] SL.no SL.no))) <| rW [1] ⟨rfl, rfl⟩ rfl rfl rfl (info_der (DH.mk k false (intQ lc) SL.no [] SL.no SL.no)) (size_der DH.no (DH.mk k false (intQ lc) SL.no [] SL.no SL.no)) (DH.mk k false (intQ lc) SL.no [] SL.no SL.no).one <| rK [0, 1, 0, 0] [] [] <| rN0 z_ ?_
      try clear H a W
      intro a W H
      refine wp_ret ?_
      repeat (first | (with_reducible refine then_ret ?_) | (with_reducible refine blk_ret ?_))
      refine end_cell (p := 4) rfl rfl (k := 0) rfl Tryd.underlying27 rfl (info_der _) H (fun hb => ?_)
      have H2 : St 44 w a W [(4, .pointer (some ⟨g2, 0, none⟩))] ([(g2, 27, (DH.mk k false (intQ lc) SL.no [] SL.no SL.no).cs), (g1, 27, (DH.mk k false (intQ lc) SL.no [] SL.no SL.no).cs)] ++ ([] : Hep)) := by rw [List.append_nil]; exact H
      refine ⟨_, ([] : Hep), rfl, hb, H2.nr, ?_⟩
      obtain rfl : k = 2 := by omega
      rw [fillQ_2]
      exact dc_flat (by decide) (intQ_in lc) (by decide)
    | false =>
      rw [hq2] at H
      have hq2p := of_decide_eq_false hq2
      refine wp_cond_false (H.ev rfl) ?_
      refine wp_skip ?_
      refine hK15 _ _ ?_
      clear hK15
      refine wp_seq_k (fun K19 hK19 => ?_)
      refine sqR H gs0 fun Z_ z_ => rV rfl (does_binOp rfl rfl rfl (zd_eql_derkind (k := k) (m := 5) rfl _ _)) <| rS 1 rfl <| rK [1, 0, 0] [] [] <| rN0 z_ ?_
      try clear H a W
      intro a W H
      cases hq3 : decide (k = 5) with
      | true =>
        rw [hq3] at H
        have hq3p := of_decide_eq_true hq3
        refine wp_cond_true (H.ev rfl) ?_
        refine wp_exit ?_
        repeat (first | (with_reducible refine then_exit ?_) | (with_reducible refine blk_pass (by decide) ?_))
        refine blk_exit ?_
        refine hK7 _ _ ?_
        clear hK7
        refine wp_seq_k (fun K21 hK21 => ?_)
        refine rgP H gs0 (rS 1 rfl <| rI0 ?_)
        try clear H a W
        intro a W H
        refine pl_callOwn rfl ⟨_, Tryd.func42, by kernel_rfl⟩ rfl (darcs_any _ (bf_old hFc H) (by omega)) rfl rfl rfl rfl H ?_
        try clear H a W
        intro v7 t7 a W hOB H
        obtain ⟨A7, c7, rfl, hc7_⟩ := hOB.form
        replace H : St 44 w a W [(28, .slice A7 (arcsQ lc 0 []).length c7), (27, .slice Ac nc cc), (11, .bool true), (6, .int .i64 k), (4, .pointer (some ⟨g2, 0, none⟩)), (2, .pointer (some ⟨g1, 0, none⟩)), (1, .slice Ac nc cc)] ((g2, 27, DH.no.cs) :: (g1, 27, (DH.mk k false n SL.no [] SL.no SL.no).cs) :: t7) := H
        refine rgO H gs0 (rV rfl (does_fieldAddr rfl rfl fa_der5) <| rX [0, 1] (c := (DH.mk k false n SL.no [] (SL.mk A7 (arcsQ lc 0 []).length c7) SL.no).cs) ⟨rfl, rfl⟩ rfl rfl rfl (st_derA (u := (SL.mk A7 (arcsQ lc 0 []).length c7))) sv_derA <| rK [0, 0, 0, 0, 0] [] [] <| rZ0 ?_)
        try clear H a W
        intro a W H
        refine hK21 _ _ ?_
        clear hK21
        refine wp_exit ?_
        repeat (first | (with_reducible refine then_exit ?_) | (with_reducible refine blk_pass (by decide) ?_))
        refine blk_exit ?_
        refine hK2 _ _ ?_
        clear hK2
        refine sqR H gs0 fun Z_ z_ => rV rfl (does_load rfl rfl (k := 1) rfl Tryd.underlying27 rfl (info_der (DH.mk k false n SL.no [] (SL.mk A7 (arcsQ lc 0 []).length c7) SL.no))) <| rW [1] ⟨rfl, rfl⟩ rfl rfl rfl (info_der (DH.mk k false n SL.no [] (SL.mk A7 (arcsQ lc 0 []).length c7) SL.no)) (size_der DH.no (DH.mk k false n SL.no [] (SL.mk A7 (arcsQ lc 0 []).length c7) SL.no)) (DH.mk k false n SL.no [] (SL.mk A7 (arcsQ lc 0 []).length c7) SL.no).one <| rK [0, 1, 0, 0] [] [] <| rN0 z_ ?_
        try clear H a W
        intro a W H
        refine wp_ret ?_
        repeat (first | (with_reducible refine then_ret ?_) | (with_reducible refine blk_ret ?_))
        refine end_cell (p := 4) rfl rfl (k := 0) rfl Tryd.underlying27 rfl (info_der _) H (fun hb => ?_)
        have H2 : St 44 w a W [(4, .pointer (some ⟨g2, 0, none⟩))] ([(g2, 27, (DH.mk k false n SL.no [] (SL.mk A7 (arcsQ lc 0 []).length c7) SL.no).cs), (g1, 27, (DH.mk k false n SL.no [] (SL.mk A7 (arcsQ lc 0 []).length c7) SL.no).cs)] ++ t7) := H
        refine ⟨_, t7, rfl, hb, H2.nr, ?_⟩
        obtain rfl : k = 5 := by omega
        rw [fillQ_5]
        exact dc_A (by decide) hn (arcsQ_lt lc 0 [] (fun x hx => by cases hx)) (by have := arcsQ_len lc; omega) hOB
      | false =>
        rw [hq3] at H
        have hq3p := of_decide_eq_false hq3
        refine wp_cond_false (H.ev rfl) ?_
        refine wp_skip ?_
        refine hK19 _ _ ?_
        clear hK19
        refine wp_seq_k (fun K23 hK23 => ?_)
        refine wp_seq_k (fun K24 hK24 => ?_)
        refine sqR H gs0 fun Z_ z_ => rV rfl (does_binOp rfl rfl rfl (zd_eql_derkind (k := k) (m := 6) rfl _ _)) <| rS 1 rfl <| rK [1, 0, 0] [] [] <| rN0 z_ ?_
        try clear H a W
        intro a W H
        cases hq4 : decide (k = 6) with
        | true =>
          rw [hq4] at H
          have hq4p := of_decide_eq_true hq4
          refine wp_cond_true (H.ev rfl) ?_
          refine wp_skip ?_
          refine hK24 _ _ ?_
          clear hK24
          refine wp_cond_true (H.ev rfl) ?_
          refine wp_exit ?_
          repeat (first | (with_reducible refine then_exit ?_) | (with_reducible refine blk_pass (by decide) ?_))
          refine blk_exit ?_
          refine hK6 _ _ ?_
          clear hK6
          refine sqR H gs0 fun Z_ z_ => rS 1 rfl <| rOV rfl (fun a W H _ => ob_strD H (wanted_none rfl) rfl rfl (bf_old hFc H)) <| rV rfl (does_fieldAddr rfl rfl fa_der4) <| rX [0, 1] (c := (DH.mk k false n SL.no lc SL.no SL.no).cs) ⟨rfl, rfl⟩ rfl rfl rfl (st_derT (u := lc)) sv_derT <| rK [0, 0, 0, 0, 0] [] [] <| rN0 z_ ?_
          try clear H a W
          intro a W H
          refine wp_exit ?_
          repeat (first | (with_reducible refine then_exit ?_) | (with_reducible refine blk_pass (by decide) ?_))
          refine blk_exit ?_
          refine hK2 _ _ ?_
          clear hK2
          refine sqR H gs0 fun Z_ z_ => rV rfl (does_load rfl rfl (k := 1) rfl Tryd.underlying27 rfl (info_der (DH.mk k false n SL.no lc SL.no SL.no))) <| rW [1] ⟨rfl, rfl⟩ rfl rfl rfl (info_der (DH.mk k false n SL.no lc SL.no SL.no)) (size_der DH.no (DH.mk k false n SL.no lc SL.no SL.no)) (DH.mk k false n SL.no lc SL.no SL.no).one <| rK [0, 1, 0, 0] [] [] <| rN0 z_ ?_
          try clear H a W
          intro a W H
          refine wp_ret ?_
          repeat (first | (with_reducible refine then_ret ?_) | (with_reducible refine blk_ret ?_))
          refine end_cell (p := 4) rfl rfl (k := 0) rfl Tryd.underlying27 rfl (info_der _) H (fun hb => ?_)
          have H2 : St 44 w a W [(4, .pointer (some ⟨g2, 0, none⟩))] ([(g2, 27, (DH.mk k false n SL.no lc SL.no SL.no).cs), (g1, 27, (DH.mk k false n SL.no lc SL.no SL.no).cs)] ++ ([] : Hep)) := by rw [List.append_nil]; exact H
          refine ⟨_, ([] : Hep), rfl, hb, H2.nr, ?_⟩
          obtain rfl : k = 6 := by omega
          rw [fillQ_t (by decide)]
          exact dc_flat (by decide) hn (by omega)
        | false =>
          rw [hq4] at H
          have hq4p := of_decide_eq_false hq4
          refine wp_cond_false (H.ev rfl) ?_
          refine rgP H gs0 (rV rfl (does_binOp rfl rfl rfl (zd_eql_derkind (k := k) (m := 10) rfl _ _)) <| rK [1, 0] [] [] <| rS 1 rfl <| rK [1, 0] [] [] <| rZ0 ?_)
          try clear H a W
          intro a W H
          refine hK24 _ _ ?_
          clear hK24
          cases hq5 : decide (k = 10) with
          | true =>
            rw [hq5] at H
            have hq5p := of_decide_eq_true hq5
            refine wp_cond_true (H.ev rfl) ?_
            refine wp_exit ?_
            repeat (first | (with_reducible refine then_exit ?_) | (with_reducible refine blk_pass (by decide) ?_))
            refine blk_exit ?_
            refine hK6 _ _ ?_
            clear hK6
            refine sqR H gs0 fun Z_ z_ => rS 1 rfl <| rOV rfl (fun a W H _ => ob_strD H (wanted_none rfl) rfl rfl (bf_old hFc H)) <| rV rfl (does_fieldAddr rfl rfl fa_der4) <| rX [0, 1] (c := (DH.mk k false n SL.no lc SL.no SL.no).cs) ⟨rfl, rfl⟩ rfl rfl rfl (st_derT (u := lc)) sv_derT <| rK [0, 0, 0, 0, 0] [] [] <| rN0 z_ ?_
            try clear H a W
            intro a W H
            refine wp_exit ?_
            repeat (first | (with_reducible refine then_exit ?_) | (with_reducible refine blk_pass (by decide) ?_))
            refine blk_exit ?_
            refine hK2 _ _ ?_
            clear hK2
            refine sqR H gs0 fun Z_ z_ => rV rfl (does_load rfl rfl (k := 1) rfl Tryd.underlying27 rfl (info_der (DH.mk k false n SL.no lc SL.no SL.no))) <| rW [1] ⟨rfl, rfl⟩ rfl rfl rfl (info_der (DH.mk k false n SL.no lc SL.no SL.no)) (size_der DH.no (DH.mk k false n SL.no lc SL.no SL.no)) (DH.mk k false n SL.no lc SL.no SL.no).one <| rK [0, 1, 0, 0] [] [] <| rN0 z_ ?_
            try clear H a W
            intro a W H
            refine wp_ret ?_
            repeat (first | (with_reducible refine then_ret ?_) | (with_reducible refine blk_ret ?_))
            refine end_cell (p := 4) rfl rfl (k := 0) rfl Tryd.underlying27 rfl (info_der _) H (fun hb => ?_)
            have H2 : St 44 w a W [(4, .pointer (some ⟨g2, 0, none⟩))] ([(g2, 27, (DH.mk k false n SL.no lc SL.no SL.no).cs), (g1, 27, (DH.mk k false n SL.no lc SL.no SL.no).cs)] ++ ([] : Hep)) := by rw [List.append_nil]; exact H
            refine ⟨_, ([] : Hep), rfl, hb, H2.nr, ?_⟩
            obtain rfl : k = 10 := by omega
            rw [fillQ_t (by decide)]
            exact dc_flat (by decide) hn (by omega)
          | false =>
            rw [hq5] at H
            have hq5p := of_decide_eq_false hq5
            refine wp_cond_false (H.ev rfl) ?_
            refine wp_skip ?_
            refine hK23 _ _ ?_
            clear hK23
            refine wp_seq_k (fun K30 hK30 => ?_)
            refine sqR H gs0 fun Z_ z_ => rV rfl (does_binOp rfl rfl rfl (zd_eql_derkind (k := k) (m := 3) rfl _ _)) <| rS 1 rfl <| rK [1, 0, 0] [] [] <| rN0 z_ ?_
            try clear H a W
            intro a W H
            cases hq6 : decide (k = 3) with
            | true =>
              rw [hq6] at H
              have hq6p := of_decide_eq_true hq6
              refine wp_cond_true (H.ev rfl) ?_
              refine wp_exit ?_
              repeat (first | (with_reducible refine then_exit ?_) | (with_reducible refine blk_pass (by decide) ?_))
              refine blk_exit ?_
              refine hK5 _ _ ?_
              clear hK5
              refine rgP H gs0 (rS 2 rfl <| rV rfl (does_len Tryd.underlying23 rfl rfl) <| rV rfl (does_minZ (k := 1) (m := nc) rfl rfl rfl) <| rO rfl (fun a W H _ => ob_dropB (k := min 1 nc) H (wanted_none rfl) rfl rfl rfl (bf_old hFc H) (by rw [hlc]; exact Nat.min_le_right _ _)) fun v37 => rK [1, 1, 1, 1, 1, 1, 1, 1, 1, 0] [] [] <| rS 1 rfl <| rK [1, 0, 0, 0, 0, 0, 0, 0] [] [] <| rZ ?_)
              try clear H a W
              rintro a W H ⟨hv37, -⟩
              refine blk_normal ?_
              refine hK4 _ _ ?_
              clear hK4
              refine wp_seq_k (fun K32 hK32 => ?_)
              refine rgP H (gsC hv37 gs0) (rV rfl (does_fieldAddr rfl rfl fa_der3) <| rV rfl (does_loadAt (v := .slice none 0 0) rfl rfl (k := 1) rfl ld_derB) <| rS 1 rfl <| rI ?_)
              try clear hv37 H a W
              rintro a W H ⟨hv37, -⟩
              refine pl_appNB (l := (lc.drop (min 1 nc))) rfl rfl rfl hv37 (by (try rw [List.length_drop]); omega) rfl rfl rfl rfl H ?_
              try clear H a W
              intro A7 c7 t7 a W hOB H
              replace H : St 44 w a W [(41, .slice A7 (lc.drop (min 1 nc)).length c7), (40, v37), (39, .slice none 0 0), (38, .pointer (some ⟨g1, 3, none⟩)), (1, v37), (4, .pointer (some ⟨g2, 0, none⟩)), (2, .pointer (some ⟨g1, 0, none⟩))] ((g2, 27, DH.no.cs) :: (g1, 27, (DH.mk k false n SL.no [] SL.no SL.no).cs) :: t7) := H
              refine rgO H gs0 (rV rfl (does_fieldAddr rfl rfl fa_der3) <| rX [0, 1] (c := (DH.mk k false n (SL.mk A7 (lc.drop (min 1 nc)).length c7) [] SL.no SL.no).cs) ⟨rfl, rfl⟩ rfl rfl rfl (st_derB (u := (SL.mk A7 (lc.drop (min 1 nc)).length c7))) sv_derB <| rK [0, 0, 0, 0, 0, 0] [] [] <| rZ0 ?_)
              try clear H a W
              intro a W H
              refine hK32 _ _ ?_
              clear hK32
              refine wp_exit ?_
              repeat (first | (with_reducible refine then_exit ?_) | (with_reducible refine blk_pass (by decide) ?_))
              refine blk_exit ?_
              refine hK2 _ _ ?_
              clear hK2
              refine sqR H gs0 fun Z_ z_ => rV rfl (does_load rfl rfl (k := 1) rfl Tryd.underlying27 rfl (info_der (DH.mk k false n (SL.mk A7 (lc.drop (min 1 nc)).length c7) [] SL.no SL.no))) <| rW [1] ⟨rfl, rfl⟩ rfl rfl rfl (info_der (DH.mk k false n (SL.mk A7 (lc.drop (min 1 nc)).length c7) [] SL.no SL.no)) (size_der DH.no (DH.mk k false n (SL.mk A7 (lc.drop (min 1 nc)).length c7) [] SL.no SL.no)) (DH.mk k false n (SL.mk A7 (lc.drop (min 1 nc)).length c7) [] SL.no SL.no).one <| rK [0, 1, 0] [] [] <| rN0 z_ ?_
              try clear H a W
              intro a W H
              refine wp_ret ?_
              repeat (first | (with_reducible refine then_ret ?_) | (with_reducible refine blk_ret ?_))
              refine end_cell (p := 4) rfl rfl (k := 0) rfl Tryd.underlying27 rfl (info_der _) H (fun hb => ?_)
              have H2 : St 44 w a W [(4, .pointer (some ⟨g2, 0, none⟩))] ([(g2, 27, (DH.mk k false n (SL.mk A7 (lc.drop (min 1 nc)).length c7) [] SL.no SL.no).cs), (g1, 27, (DH.mk k false n (SL.mk A7 (lc.drop (min 1 nc)).length c7) [] SL.no SL.no).cs)] ++ t7) := H
              refine ⟨_, t7, rfl, hb, H2.nr, ?_⟩
              obtain rfl : k = 3 := by omega
              rw [fillQ_3, hlc]
              exact dc_B (by decide) hn (by rw [List.length_drop]; omega) hOB
            | false =>
              rw [hq6] at H
              have hq6p := of_decide_eq_false hq6
              refine wp_cond_false (H.ev rfl) ?_
              refine wp_skip ?_
              refine hK30 _ _ ?_
              clear hK30
              refine sqR H gs0 fun Z_ z_ => rV rfl (does_binOp rfl rfl rfl (zd_eql_derkind (k := k) (m := 4) rfl _ _)) <| rS 1 rfl <| rK [1, 0, 0, 0] [] [] <| rN0 z_ ?_
              try clear H a W
              intro a W H
              cases hq7 : decide (k = 4) with
              | true =>
                rw [hq7] at H
                have hq7p := of_decide_eq_true hq7
                refine wp_cond_true (H.ev rfl) ?_
                refine wp_exit ?_
                repeat (first | (with_reducible refine then_exit ?_) | (with_reducible refine blk_pass (by decide) ?_))
                refine blk_exit ?_
                refine hK4 _ _ ?_
                clear hK4
                refine wp_seq_k (fun K35 hK35 => ?_)
                refine rgP H gs0 (rV rfl (does_fieldAddr rfl rfl fa_der3) <| rV rfl (does_loadAt (v := .slice none 0 0) rfl rfl (k := 1) rfl ld_derB) <| rS 1 rfl <| rI0 ?_)
                try clear H a W
                intro a W H
                refine pl_appNB (l := lc) rfl rfl rfl (bf_old hFc H) (by (try rw [List.length_drop]); omega) rfl rfl rfl rfl H ?_
                try clear H a W
                intro A7 c7 t7 a W hOB H
                replace H : St 44 w a W [(41, .slice A7 lc.length c7), (40, .slice Ac nc cc), (39, .slice none 0 0), (38, .pointer (some ⟨g1, 3, none⟩)), (18, .bool true), (4, .pointer (some ⟨g2, 0, none⟩)), (2, .pointer (some ⟨g1, 0, none⟩)), (1, .slice Ac nc cc)] ((g2, 27, DH.no.cs) :: (g1, 27, (DH.mk k false n SL.no [] SL.no SL.no).cs) :: t7) := H
                refine rgO H gs0 (rV rfl (does_fieldAddr rfl rfl fa_der3) <| rX [0, 1] (c := (DH.mk k false n (SL.mk A7 lc.length c7) [] SL.no SL.no).cs) ⟨rfl, rfl⟩ rfl rfl rfl (st_derB (u := (SL.mk A7 lc.length c7))) sv_derB <| rK [0, 0, 0, 0, 0, 0, 1, 1, 0] [] [] <| rZ0 ?_)
                try clear H a W
                intro a W H
                refine hK35 _ _ ?_
                clear hK35
                refine wp_exit ?_
                repeat (first | (with_reducible refine then_exit ?_) | (with_reducible refine blk_pass (by decide) ?_))
                refine blk_exit ?_
                refine hK2 _ _ ?_
                clear hK2
                refine sqR H gs0 fun Z_ z_ => rV rfl (does_load rfl rfl (k := 1) rfl Tryd.underlying27 rfl (info_der (DH.mk k false n (SL.mk A7 lc.length c7) [] SL.no SL.no))) <| rW [1] ⟨rfl, rfl⟩ rfl rfl rfl (info_der (DH.mk k false n (SL.mk A7 lc.length c7) [] SL.no SL.no)) (size_der DH.no (DH.mk k false n (SL.mk A7 lc.length c7) [] SL.no SL.no)) (DH.mk k false n (SL.mk A7 lc.length c7) [] SL.no SL.no).one <| rK [0, 1, 0] [] [] <| rN0 z_ ?_
                try clear H a W
                intro a W H
                refine wp_ret ?_
                repeat (first | (with_reducible refine then_ret ?_) | (with_reducible refine blk_ret ?_))
                refine end_cell (p := 4) rfl rfl (k := 0) rfl Tryd.underlying27 rfl (info_der _) H (fun hb => ?_)
                have H2 : St 44 w a W [(4, .pointer (some ⟨g2, 0, none⟩))] ([(g2, 27, (DH.mk k false n (SL.mk A7 lc.length c7) [] SL.no SL.no).cs), (g1, 27, (DH.mk k false n (SL.mk A7 lc.length c7) [] SL.no SL.no).cs)] ++ t7) := H
                refine ⟨_, t7, rfl, hb, H2.nr, ?_⟩
                obtain rfl : k = 4 := by omega
                rw [fillQ_4]
                exact dc_B (by decide) hn (by omega) hOB
              | false =>
                rw [hq7] at H
                have hq7p := of_decide_eq_false hq7
                refine wp_cond_false (H.ev rfl) ?_
                refine wp_skip ?_
                refine hK10 _ _ ?_
                clear hK10
                refine wp_exit ?_
                repeat (first | (with_reducible refine then_exit ?_) | (with_reducible refine blk_pass (by decide) ?_))
                refine blk_exit ?_
                refine hK2 _ _ ?_
                clear hK2
                refine sqR H gs0 fun Z_ z_ => rV rfl (does_load rfl rfl (k := 1) rfl Tryd.underlying27 rfl (info_der (DH.mk k false n SL.no [] SL.no SL.no))) <| rW [1] ⟨rfl, rfl⟩ rfl rfl rfl (info_der (DH.mk k false n SL.no [] SL.no SL.no)) (size_der DH.no (DH.mk k false n SL.no [] SL.no SL.no)) (DH.mk k false n SL.no [] SL.no SL.no).one <| rK [0, 0, 1, 0, 0] [] [] <| rN0 z_ ?_
                try clear H a W
                intro a W H
                refine wp_ret ?_
                repeat (first | (with_reducible refine then_ret ?_) | (with_reducible refine blk_ret ?_))
                refine end_cell (p := 4) rfl rfl (k := 0) rfl Tryd.underlying27 rfl (info_der _) H (fun hb => ?_)
                have H2 : St 44 w a W [(4, .pointer (some ⟨g2, 0, none⟩))] ([(g2, 27, (DH.mk k false n SL.no [] SL.no SL.no).cs), (g1, 27, (DH.mk k false n SL.no [] SL.no SL.no).cs)] ++ ([] : Hep)) := by rw [List.append_nil]; exact H
                refine ⟨_, ([] : Hep), rfl, hb, H2.nr, ?_⟩
                rw [fillQ_no (by omega) (by omega)]
                exact dc_flat hk hn (by decide)
theorem filled_K {w0 w : World} {h : Hep} {lc : List UInt8} {v : Value} (k n : Int) (hk : -9223372036854775808 ≤ k ∧ k < 9223372036854775808) (hn : -9223372036854775808 ≤ n ∧ n < 9223372036854775808) (hv : BF lc v w0) (hlc : lc.length ≤ 100000) (K : Kn w0 w h) : Calls Tryd.prog 31 #[.agg (DH.mk k false n SL.no [] SL.no SL.no).cs, v] w (fun rr w' => ∃ i : DH × Hep, rr = .returned (.agg i.1.cs) ∧ DC (TN i.2) (fillQ k n lc) i.1 ∧ Kn w0 w' (i.2 ++ h)) := by
  obtain ⟨A, m, c, rfl, hb⟩ := hv.below K.below
  refine (filled_walk k n w hk hn ⟨_, _, _, rfl, hb⟩ hb.len (by rw [← hb.len]; exact hlc)).mono ?_
  rintro rr w' ⟨x, t, rfl, hbel, hnr, hd⟩
  exact ⟨(x, t), rfl, hd, K.news hbel hnr⟩
end Go.Proofs.YtonhkclkddobhaaDoor
namespace Go.Proofs.YtonhkclkddobhaaDoor
set_option linter.unusedVariables false
set_option linter.unusedSimpArgs false
open Go Go.RowKit
def headOkL (ms : List Nat) (m f : Nat) : List Nat → Bool
  | [] => true
  | [x] => (List.range m).all (fun j => Nat.beq j f || (closeM ms m x).testBit j)
  | x :: y :: _ => (List.range m).all (fun j => Nat.beq j f || (closeM ms m x).testBit j) && (closeM ms (m + 1) y).testBit f
def planOkL (ops : Array Oper) (n : Nat) (e : Env) (plan : List Fct) (ms : List Nat) (f : Nat) : Bool :=
  Nat.ble plan.length ops.size && downs 0 ms && psOkF ms plan && dstOkF ops.toList plan && distinct (plan.map (·.d)) && plan.all (fun it => Nat.blt it.d n && e.all (fun p => !Nat.beq p.1 it.d)) && lineUp ms plan.length plan.length (ms.drop plan.length) && headOkL ms plan.length f (ms.drop plan.length) && lastOk ms plan
/-- The rest, where f comes behind its first one. -/
def lateL (l : List Oper) (m f : Nat) : List Oper := match l.drop m with
  | [] => []
  | x :: r => match l[f]? with
    | some y => x :: y :: r
    | none => []
theorem left_pos {l : Array Bool} {i : Nat} : ∀ {m : Nat}, i < m → ¬ l.getD i false = true → 1 ≤ left l m := fun {m} hi hu => by
  have h := @left_zero l m
  apply Nat.succ_le_of_lt
  apply Nat.pos_of_ne_zero
  intro h0
  exact hu (h h0 i hi)
section
variable {P : Program} {n : Nat} {w0 w w' : World} {a : Act} {e : Env} {h : Hep} {Q : Exit → Act → World → Prop} {ops : Array Oper} {plan : List Fct} {ms : List Nat} {rest : List Oper} {o : Oper} {R R' : Rel}
theorem any_planL {J : World → Prop} {f : Nat} (hno : ∀ (j : Nat) (it : Fct), plan[j]? = some it → it.own = false ∧ it.til = none) (hJ : ∀ w w', J w → R w w' → J w') (hR : ∀ a w w', St n w0 a w e h → R w w' → St n w0 a w' e h) (hR' : ∀ a w w', St n w0 a w e h → R' w w' → St n w0 a w' e h) (hm : masks ops = ms) (hk : planOkL ops n e plan ms f = true) (ho : ObsJ P R R' J ms ops Q n w0 e h plan 0 ops.toList plan)
    (tail : ∀ a w, (∀ (j : Nat) (it : Fct), plan[j]? = some it → it.til = none → ∃ v, a.tmps[it.d]? = some v ∧ it.F v w) → St n w0 a w e h → ((∀ (j : Nat) (it : Fct), plan[j]? = some it → it.own = false) → J w) → wpList P ops Q (ops.toList.drop plan.length) a w)
    (late : ∀ a w, (∀ (j : Nat) (it : Fct), j ≠ f → plan[j]? = some it → ∃ v, a.tmps[it.d]? = some v ∧ it.F v w) → St n w0 a w e h → J w → wpList P ops Q (lateL ops.toList plan.length f) a w) :
    ∀ (fuel : Nat) (l : Array Bool) (a : Act) (w : World), l.size = ops.size → Down ops l → (∀ i, plan.length ≤ i → ¬ l.getD i false = true) → ops.size - plan.length + left l plan.length ≤ fuel → MidJ J plan n w0 e h l a w → wpAny P .any ops Q fuel l a w := by
  unfold planOkL at hk
  simp only [Bool.and_eq_true] at hk
  obtain ⟨⟨⟨⟨⟨⟨⟨⟨k1, k2⟩, k3⟩, k4⟩, k5⟩, k6⟩, k7⟩, k8⟩, k9⟩ := hk
  have hlen : plan.length ≤ ops.size := Nat.le_of_ble_eq_true k1
  have hmsl : ms.length = ops.size := by rw [← hm]; simp [masks]
  have after_all : ∀ (l : Array Bool) (i : Nat), l.size = ops.size → Down ops l → (∀ i, plan.length ≤ i → ¬ l.getD i false = true) → i ∈ Region.ready .any ops l → plan.length ≤ i → i = plan.length ∧ ∀ j, j < plan.length → j ≠ f → l.getD j false = true := by
    intro l i hs hd hB hr hge
    obtain ⟨_, o, hoo, _⟩ := mem_ready.1 hr
    have hilt : i < ops.size := (Array.getElem?_eq_some_iff.1 hoo).1
    have hg := masks_get hm hoo
    have e2 : ms.getD i 0 = maskOf (waits o) := by simp [hg]
    have hlist : ∀ j, (closeM ms i (maskOf (waits o))).testBit j = true → l.getD j false = true := fun j hc => close_listed hm hd hs i (maskOf (waits o)) (fun j hj => ready_waits hm hr j (by rw [e2]; exact hj)) j hc
    have hg2 : (ms.drop plan.length)[i - plan.length]? = some (maskOf (waits o)) := by
      rw [List.getElem?_drop, show plan.length + (i - plan.length) = i by omega]
      exact hg
    have him : i = plan.length := by
      apply Nat.le_antisymm _ hge
      apply Nat.le_of_not_lt
      intro hlt
      have hc := lineUp_get (Nat.le_refl _) k7 (i - plan.length) _ hg2 plan.length (Nat.le_refl _) (by omega)
      rw [show plan.length + (i - plan.length) = i by omega] at hc
      exact hB plan.length (Nat.le_refl _) (hlist _ hc)
    subst him
    have hdr : ms.drop plan.length = maskOf (waits o) :: ms.drop (plan.length + 1) := by
      have hlt2 : plan.length < ms.length := by omega
      rw [List.drop_eq_getElem_cons hlt2]
      congr 1
      rw [List.getElem?_eq_getElem hlt2] at hg
      exact Option.some.inj hg
    rw [hdr] at k8
    refine ⟨rfl, fun j hj hne => hlist j ?_⟩
    have k8a : (List.range plan.length).all (fun j => Nat.beq j f || (closeM ms plan.length (maskOf (waits o))).testBit j) = true := by
      unfold headOkL at k8
      cases hq : ms.drop (plan.length + 1) with
      | nil => rw [hq] at k8; exact k8
      | cons y r => rw [hq, Bool.and_eq_true] at k8; exact k8.1
    have h8 := List.all_eq_true.1 k8a j (List.mem_range.2 hj)
    rw [Bool.or_eq_true] at h8
    rcases h8 with h8 | h8
    · exact absurd (Nat.eq_of_beq_eq_true h8) hne
    · exact h8
  have fin : ∀ (fuel : Nat) (l : Array Bool) (a : Act) (w : World), l.size = ops.size → (∀ i, plan.length ≤ i → ¬ l.getD i false = true) → (∀ j, j < plan.length → l.getD j false = true) → ops.size - plan.length ≤ fuel → MidJ J plan n w0 e h l a w → wpAny P .any ops Q fuel l a w := by
    intro fuel l a w hs hB hall hf HJ
    have H := HJ.mid
    refine any_tail hm k2 k7 fuel plan.length l a w (Nat.le_refl _) hlen hf hs (fun i hi => ⟨fun h1 => ?_, fun h1 => hall i h1⟩) (tail a w (fun j it hj ht => H.vals j it hj (hall j (List.getElem?_eq_some_iff.1 hj).1) (fun k hk => by rw [ht] at hk; cases hk)) H.base (fun hno => HJ.jj fun j it hj hown => by rw [hno j it hj] at hown; cases hown))
    exact Classical.byContradiction fun hn => hB i (by omega) h1
  have late_ : ∀ (fuel : Nat) (l : Array Bool) (a : Act) (w : World), l.size = ops.size → Down ops l → (∀ i, plan.length ≤ i → ¬ l.getD i false = true) → plan.length ∈ Region.ready .any ops l → f < plan.length → (∀ j, j < plan.length → j ≠ f → l.getD j false = true) → ¬ l.getD f false = true → ops.size - plan.length ≤ fuel → MidJ J plan n w0 e h l a w → wpOp P ops Q plan.length (wpAny P .any ops Q fuel (l.setIfInBounds plan.length true)) a w := by
    intro fuel l a w hs hd hB hr hfl hoth hnf hfu HJ
    have H := HJ.mid
    obtain ⟨_, om, hom, _⟩ := mem_ready.1 hr
    have hmlt : plan.length < ops.size := (Array.getElem?_eq_some_iff.1 hom).1
    have hof : ops[f]? = some ops[f] := Array.getElem?_eq_getElem (by omega)
    have hl0 := late a w (fun j it hne hj => H.vals j it hj (hoth j (List.getElem?_eq_some_iff.1 hj).1 hne) (fun k hk => by rw [(hno j it hj).2] at hk; cases hk)) H.base (HJ.jj fun j it hj hown => by rw [(hno j it hj).1] at hown; cases hown)
    have hL : lateL ops.toList plan.length f = om :: ops[f] :: ops.toList.drop (plan.length + 1) := by
      unfold lateL
      have e1 : ops.toList.drop plan.length = om :: ops.toList.drop (plan.length + 1) := by
        rw [List.drop_eq_getElem_cons (by rw [Array.length_toList]; exact hmlt)]
        congr 1
        rw [Array.getElem?_eq_getElem hmlt] at hom
        rw [Array.getElem_toList]
        exact Option.some.inj hom
      rw [e1, Array.getElem?_toList, hof]
    rw [hL] at hl0
    have hd1 := down_set hd hr
    have hs1 : (l.setIfInBounds plan.length true).size = ops.size := by simpa using hs
    have hlm : plan.length < l.size := by omega
    -- behind the first one of the rest f alone is ready
    have next1 : ∀ a' w', wpList P ops Q (ops[f] :: ops.toList.drop (plan.length + 1)) a' w' → wpAny P .any ops Q fuel (l.setIfInBounds plan.length true) a' w' := by
      intro a' w' hl1
      obtain ⟨fuel, rfl⟩ : ∃ k, fuel = k + 1 := ⟨fuel - 1, by omega⟩
      have hnf1 : ¬ (l.setIfInBounds plan.length true).getD f false = true := fun hh => hnf (listed_set hh (by omega))
      have hfr : f ∈ Region.ready .any ops (l.setIfInBounds plan.length true) := by
        refine mem_ready.2 ⟨?_, ops[f], hof, fun x hx hb => ?_⟩
        · have hl2 : f < (l.setIfInBounds plan.length true).size := by omega
          simp [Array.getElem?_eq_getElem hl2] at hnf1 ⊢
          exact hnf1
        · have hg := masks_get hm hof
          have hx2 : (maskOf (waits ops[f])).testBit x.on = true := maskOf_bit.2 (mem_waits.2 ⟨x, hx, hb, rfl⟩)
          have := downs_get k2 f _ hg x.on hx2
          rw [set_other (by omega)]
          exact hoth _ (by omega) (by omega)
      refine ⟨fun hnil => (by rw [hnil] at hfr; cases hfr), fun i hr1 => ?_⟩
      have hu1 := not_listed hr1
      have hif : i = f := by
        apply Classical.byContradiction
        intro hne
        have hge : plan.length ≤ i := by
          apply Nat.le_of_not_lt
          intro hlt
          exact hu1 (getD_set_true (hoth i hlt hne))
        have hne2 : i ≠ plan.length := fun e1 => by
          subst e1
          exact hu1 (by simp [hlm])
        obtain ⟨_, o, hoo, _⟩ := mem_ready.1 hr1
        have hilt : i < ops.size := (Array.getElem?_eq_some_iff.1 hoo).1
        have hg := masks_get hm hoo
        have e2 : ms.getD i 0 = maskOf (waits o) := by simp [hg]
        have hlist : ∀ j, (closeM ms i (maskOf (waits o))).testBit j = true → (l.setIfInBounds plan.length true).getD j false = true := fun j hc => close_listed hm hd1 hs1 i (maskOf (waits o)) (fun j hj => ready_waits hm hr1 j (by rw [e2]; exact hj)) j hc
        by_cases him : i = plan.length + 1
        · subst him
          have hdr : ms.drop (plan.length + 1) = maskOf (waits o) :: ms.drop (plan.length + 1 + 1) := by
            have hlt2 : plan.length + 1 < ms.length := by omega
            rw [List.drop_eq_getElem_cons hlt2]
            congr 1
            rw [List.getElem?_eq_getElem hlt2] at hg
            exact Option.some.inj hg
          have hdr0 : ∃ x, ms.drop plan.length = x :: ms.drop (plan.length + 1) := ⟨_, List.drop_eq_getElem_cons (by omega)⟩
          obtain ⟨x, hdr0⟩ := hdr0
          rw [hdr0, hdr] at k8
          unfold headOkL at k8
          rw [Bool.and_eq_true] at k8
          exact hnf1 (hlist f k8.2)
        · have hg2 : (ms.drop plan.length)[i - plan.length]? = some (maskOf (waits o)) := by
            rw [List.getElem?_drop, show plan.length + (i - plan.length) = i by omega]
            exact hg
          have hc := lineUp_get (Nat.le_refl _) k7 (i - plan.length) _ hg2 (plan.length + 1) (by omega) (by omega)
          rw [show plan.length + (i - plan.length) = i by omega] at hc
          exact hB (plan.length + 1) (by omega) (listed_set (hlist _ hc) (by omega))
      subst hif
      have next2 : ∀ a' w', wpList P ops Q (ops.toList.drop (plan.length + 1)) a' w' → wpAny P .any ops Q fuel ((l.setIfInBounds plan.length true).setIfInBounds i true) a' w' := fun a' w' hl2 => by
        refine any_tail hm k2 k7 fuel (plan.length + 1) _ a' w' (by omega) (by omega) (by omega) (by simpa using hs) (fun j hj => ⟨fun h1 => ?_, fun h1 => ?_⟩) hl2
        · apply Nat.lt_of_not_le
          intro hge
          exact hB j (by omega) (listed_set (listed_set h1 (by omega)) (by omega))
        · by_cases e1 : j = i
          · subst e1
            have : j < (l.setIfInBounds plan.length true).size := by omega
            simp only [Array.getD_eq_getD_getElem?]
            rw [Array.getElem?_setIfInBounds_self_of_lt this]
            rfl
          · refine getD_set_true ?_
            by_cases e3 : j = plan.length
            · subst e3
              simp [hlm]
            · exact getD_set_true (hoth j (by omega) e1)
      unfold wpList at hl1
      unfold wpOp
      rw [hof]
      dsimp only
      split at hl1
      · rename_i hw
        rw [if_pos hw]
        exact hl1.imp (Oper.wp_mono next2) id
      · rename_i hw
        rw [if_neg hw]
        exact next2 _ _ hl1
    unfold wpList at hl0
    unfold wpOp
    rw [hom]
    dsimp only
    split at hl0
    · rename_i hw
      rw [if_pos hw]
      exact hl0.imp (Oper.wp_mono next1) id
    · rename_i hw
      rw [if_neg hw]
      exact next1 _ _ hl0
  intro fuel
  induction fuel with
  | zero =>
    intro l a w hs hd hB hf HJ
    exact fin 0 l a w hs hB (left_zero (by omega)) (by omega) HJ
  | succ fuel ih =>
    intro l a w hs hd hB hf HJ
    have H := HJ.mid
    by_cases hall : ∀ j, j < plan.length → l.getD j false = true
    · exact fin _ l a w hs hB hall (by omega) HJ
    have hex : ∃ i, i < plan.length ∧ ¬ l.getD i false = true := Classical.byContradiction fun hn => hall fun j hj => Classical.byContradiction fun hu => hn ⟨j, hj, hu⟩
    obtain ⟨i0, hi0, hu0, hlow⟩ := first_left _ hex
    refine ⟨fun hnil => ?_, fun i hr => ?_⟩
    · exfalso
      have hlt : i0 < ops.size := by omega
      have hin : i0 ∈ Region.ready .any ops l := by
        refine mem_ready.2 ⟨?_, ops[i0], Array.getElem?_eq_getElem hlt, fun x hx hb => hlow _ ?_⟩
        · have hl2 : i0 < l.size := by omega
          simp [Array.getElem?_eq_getElem hl2] at hu0 ⊢
          exact hu0
        · have hg := masks_get hm (Array.getElem?_eq_getElem hlt)
          have hx2 : (maskOf (waits ops[i0])).testBit x.on = true := maskOf_bit.2 (mem_waits.2 ⟨x, hx, hb, rfl⟩)
          have := downs_get k2 i0 _ hg x.on hx2
          omega
      rw [hnil] at hin
      cases hin
    · have hu := not_listed hr
      by_cases hge : plan.length ≤ i
      · obtain ⟨rfl, hoth⟩ := after_all l i hs hd hB hr hge
        have e0 : i0 = f := Classical.byContradiction fun hne => hu0 (hoth i0 hi0 hne)
        subst e0
        have hlf := left_pos hi0 hu0
        exact late_ fuel l a w hs hd hB hr hi0 hoth hu0 (by omega) HJ
      have hilt : i < plan.length := by omega
      have hios : i < ops.size := by omega
      have hit : plan[i]? = some plan[i] := List.getElem?_eq_getElem hilt
      have hoi : ops[i]? = some ops[i] := Array.getElem?_eq_getElem hios
      have hoi2 : ops.toList[i]? = some ops[i] := by simp [hios]
      have hob := ObsJ_get ho i _ _ hoi2 hit
      rw [Nat.zero_add] at hob
      have hdst := dstOkF_get k4 i _ _ hoi2 hit
      have hg := masks_get hm hoi
      have e2 : ms.getD i 0 = maskOf (waits ops[i]) := by simp [hg]
      have hps : ∀ j ∈ plan[i].ps, l.getD j false = true := fun j hj => ready_waits hm hr j (by rw [e2]; exact psOkF_get k3 i _ _ hg hit j hj)
      have h6 := List.all_eq_true.1 k6 _ (List.getElem_mem hilt)
      rw [Bool.and_eq_true] at h6
      have hdn : plan[i].d < n := by
        have := h6.1
        rw [Nat.blt_eq] at this
        exact this
      have hen : ∀ p ∈ e, p.1 ≠ plan[i].d := fun p hp e1 => by
        have := List.all_eq_true.1 h6.2 p hp
        rw [e1, Nat.beq_refl] at this
        cases this
      have hdd : ∀ j jt, plan[j]? = some jt → j ≠ i → jt.d ≠ plan[i].d := fun j jt hj hne =>
        distinct_get k5 j i jt.d plan[i].d (by rw [List.getElem?_map, hj]; rfl) (by rw [List.getElem?_map, hit]; rfl) hne
      have hs2 : (l.setIfInBounds i true).size = ops.size := by simpa using hs
      have hd2 := down_set hd hr
      have hB2 : ∀ j, plan.length ≤ j → ¬ (l.setIfInBounds i true).getD j false = true := fun j hj hl => hB j hj (listed_set hl (by omega))
      have hf2 : ops.size - plan.length + left (l.setIfInBounds i true) plan.length ≤ fuel := by
        have := left_set (l := l) (i := i) (by omega) hu plan.length hilt
        omega
      unfold wpOp
      rw [hoi]
      dsimp only
      have hin := List.all_eq_true.1 k9 i (List.mem_range.2 hilt)
      rw [hit] at hin
      simp only [Bool.and_eq_true] at hin
      obtain ⟨hin1, hin2⟩ := hin
      obtain ⟨e', hob2, hst⟩ := Chain.get (fun j hj it hjt => H.vals j it hjt (hps j hj) (fun k hk hl => by
        have := List.all_eq_true.1 hin1 j hj
        unfold tilOk at this
        rw [hjt] at this
        simp only [hk] at this
        rw [Nat.eq_of_beq_eq_true this] at hl
        exact hu hl)) (hob.1 a w) H.base
      have hob3 := hob2 hst (fun hoj => HJ.jj (fun j jt hj hown hl => by
        have hjp : j < plan.length := (List.getElem?_eq_some_iff.1 hj).1
        have hc := List.all_eq_true.1 hoj j (List.mem_range.2 hjp)
        rw [hj] at hc
        simp only [hown, Bool.not_true, Bool.false_or, Bool.or_eq_true] at hc
        rcases hc with hc | hc
        · rw [Nat.eq_of_beq_eq_true hc] at hl
          exact hu hl
        · have hjo : j < ops.size := by omega
          have hgj := masks_get hm (Array.getElem?_eq_getElem hjo)
          have e3 : ms.getD j 0 = maskOf (waits ops[j]) := by simp [hgj]
          refine hu (close_listed hm hd hs j _ (fun m hm2 => ?_) i hc)
          rw [e3, maskOf_bit, mem_waits] at hm2
          obtain ⟨x, hx, hb3, rfl⟩ := hm2
          exact hd j _ (Array.getElem?_eq_getElem hjo) hl x hx hb3))
      have fin : ∀ a' w', (∃ v, a' = a.put ops[i].dst v ∧ plan[i].rel R R' w w' ∧ plan[i].F v w') → wpAny P .any ops Q fuel (l.setIfInBounds i true) a' w' := ?_
      · rcases hob3 with ⟨hw, hwp2⟩ | ⟨hw, hp⟩
        · rw [hw, if_pos rfl]
          exact .inl (Oper.wp_mono fin hwp2)
        · rw [hw, if_neg (by decide)]
          exact fin _ _ hp
      intro a' w' hx
      obtain ⟨v, rfl, hb, hF⟩ := hx
      rw [hdst]
      have stab : ∀ (j : Nat) (jt : Fct), plan[j]? = some jt → (∀ v w w', jt.F v w → R w w' → jt.F v w') ∧ (jt.til = none → ∀ v w w', jt.F v w → R' w w' → jt.F v w') := fun j jt hj => by
        have hjl : j < ops.size := by have := (List.getElem?_eq_some_iff.1 hj).1; omega
        exact (ObsJ_get ho j ops[j] jt (by simp [hjl]) hj).2
      have hil : i < l.size := by omega
      cases hown : plan[i].own with
      | false =>
        unfold Fct.rel at hb
        rw [hown] at hb
        exact ih _ _ _ hs2 hd2 hB2 hf2 ⟨H.put hit hdn hen hdd (fun j jt hj _ _ _ v hv => (stab j jt hj).1 v w w' hv hb) (hR _ _ _ H.base hb) hF, fun hn => hJ _ _ (HJ.jj fun j jt hj hown hl => hn j jt hj hown (getD_set_true hl)) hb⟩
      | true =>
        unfold Fct.rel at hb
        rw [hown] at hb
        rw [hown] at hin2
        have hin2 : ownOk ms plan i = true := by simpa using hin2
        refine ih _ _ _ hs2 hd2 hB2 hf2 ⟨H.put hit hdn hen hdd (fun j jt hj hne hl ht v hv => ?_) (hR' _ _ _ H.base hb) hF, fun hn => ?_⟩
        rotate_left
        · exact absurd (by simp [hil]) (hn i _ hit hown)
        cases htil : jt.til with
        | none => exact (stab j jt hj).2 htil v w w' hv hb
        | some k =>
          exfalso
          have hnk := ht k htil
          have hjp : j < plan.length := (List.getElem?_eq_some_iff.1 hj).1
          have hc := List.all_eq_true.1 hin2 j (List.mem_range.2 hjp)
          rw [hj] at hc
          simp only [htil, Bool.or_eq_true] at hc
          rcases hc with ((hc | hc) | hc) | hc
          · rw [Nat.eq_of_beq_eq_true hc] at hnk
            exact hnk (by simp [show i < l.size by omega])
          · exact hne (Nat.eq_of_beq_eq_true hc)
          · exact hnk (getD_set_true (close_listed hm hd hs i _ (ready_waits hm hr) k hc))
          · have hjo : j < ops.size := by omega
            have hgj := masks_get hm (Array.getElem?_eq_getElem hjo)
            have e3 : ms.getD j 0 = maskOf (waits ops[j]) := by simp [hgj]
            refine hu (close_listed hm hd hs j _ (fun m hm2 => ?_) i hc)
            rw [e3, maskOf_bit, mem_waits] at hm2
            obtain ⟨x, hx, hb3, rfl⟩ := hm2
            exact hd j _ (Array.getElem?_eq_getElem hjo) hl x hx hb3
end
section
variable {P : Program} {n : Nat} {w0 w w' : World} {a : Act} {e e' : Env} {h h' : Hep} {G G' : List (World → Prop)} {Q : Exit → Act → World → Prop} {ops : Array Oper} {rest l : List Oper} {o : Oper} {plan : List It2}
/-- **The region.** -/
theorem d2L {id : Nat} (plan : List It2) (f : Nat) (hf : P.follows .mixedOrders = true) (hk : planOkL ops n e (plan.map It2.fct) (masks ops) f = true) (H : St n w0 a w e h) (g : GS G w) [hL : LastsL G] (ho : Obs2 P ops Q n w0 e h G plan ops.toList plan)
    (tail : nxt2 plan (fun e' G' => Rn P n w0 Q ops (ops.toList.drop plan.length) e' h G') e G)
    (late : nxt2 (plan.eraseIdx f) (fun e' G' => Rn P n w0 Q ops (lateL ops.toList plan.length f) e' h G') e G) : (Code.region id ops true).wp P Q a w := by
  refine wp_region_any hf ?_
  have none_ : ∀ i, ¬ (Array.replicate ops.size false).getD i false = true := fun i hi => by
    by_cases h : i < ops.size
    · simp [h] at hi
    · simp [h] at hi
  have hlen : (plan.map It2.fct).length = plan.length := List.length_map _
  refine any_planL (J := GS G) (fun j it hj => by
    rw [List.getElem?_map] at hj
    obtain ⟨x, _, rfl⟩ := Option.map_eq_some_iff.1 hj
    cases x <;> exact ⟨rfl, rfl⟩) (fun w w' h hb => hL.all _ _ h hb) (fun a w w' H hb => H.call hb) (fun a w w' H hb => H.call hb) rfl hk (Obs2.out 0 (no_own _ _) ho) (fun a w hv hst hg => ?_) (fun a w hv hst hg => ?_) ops.size _ a w.drew (by simp) (fun i o _ hi => absurd hi (none_ i)) (fun i _ => none_ i) ?_ ⟨⟨H.drew, fun j _ _ hj => absurd hj (none_ j)⟩, fun _ => hL.all _ _ g (Below.refl _ _).drew⟩
  · obtain ⟨e', G', h1, h2, h3⟩ := nxt2_of a w tail hst (hg fun j it hj => by
      rw [List.getElem?_map] at hj
      obtain ⟨x, _, rfl⟩ := Option.map_eq_some_iff.1 hj
      cases x <;> rfl) fun it hi => by
        obtain ⟨j, hj⟩ := List.mem_iff_getElem?.1 hi
        exact hv j it.fct (by rw [List.getElem?_map, hj]; rfl) (by cases it <;> rfl)
    rw [hlen]
    exact h1 a w h2 h3
  · obtain ⟨e', G', h1, h2, h3⟩ := nxt2_of a w late hst hg fun it hi => by
        obtain ⟨j, hj⟩ := List.mem_iff_getElem?.1 hi
        rw [List.getElem?_eraseIdx] at hj
        split at hj
        · exact hv j it.fct (by omega) (by rw [List.getElem?_map, hj]; rfl)
        · exact hv (j + 1) it.fct (by omega) (by rw [List.getElem?_map, hj]; rfl)
    rw [hlen]
    exact h1 a w h2 h3
  · have := left_le (Array.replicate ops.size false) (plan.map It2.fct).length
    unfold planOkL at hk
    simp only [Bool.and_eq_true] at hk
    have := Nat.le_of_ble_eq_true hk.1.1.1.1.1.1.1.1
    omega
end
end Go.Proofs.YtonhkclkddobhaaDoor
namespace Go.Proofs.YtonhkclkddobhaaDoor
set_option linter.unusedVariables false
set_option linter.unusedSimpArgs false
set_option maxRecDepth 100000
open Go Go.RowKit
theorem numQ1_lt (l : List UInt8) : (numQ l 1).1 < 256 := by
  unfold numQ
  split
  · rename_i h
    unfold takeQ at h ⊢
    split at h
    · rename_i h2
      rw [if_pos h2]
      cases l with
      | nil => exact absurd h2.2 (by decide)
      | cons x r =>
        have hx := x.toNat_lt
        show (0 * 256 + x.toNat) % 18446744073709551616 < 256
        omega
    · exact absurd h.1 (by decide)
  · exact (by decide : 0 < 256)
theorem numQ_big (l : List UInt8) (z : Int) : (numQ l z).1 < 18446744073709551616 := by
  unfold numQ
  split
  · exact accD_lt _ _ (by decide)
  · exact (by decide : 0 < 18446744073709551616)
theorem lenQ_hi {l l1 : List UInt8} {n1 : Nat} (h : numQ l 1 = (n1, l1)) (hn : 128 ≤ n1) : lenQ l = (s64 (numQ l1 ((n1 : Int) - 128)).1, (numQ l1 ((n1 : Int) - 128)).2) := by
  unfold lenQ
  rw [h]
  exact if_pos hn
theorem lenQ_lo {l l1 : List UInt8} {n1 : Nat} (h : numQ l 1 = (n1, l1)) (hn : ¬ 128 ≤ n1) : lenQ l = ((n1 : Int), l1) := by
  unfold lenQ
  rw [h]
  exact if_neg hn
theorem s64_in {x : Nat} (h : x < 18446744073709551616) : -9223372036854775808 ≤ s64 x ∧ s64 x < 9223372036854775808 := by
  unfold s64
  split <;> omega
theorem lenQ_in (l : List UInt8) : -9223372036854775808 ≤ (lenQ l).1 ∧ (lenQ l).1 < 9223372036854775808 := by
  unfold lenQ
  split
  · exact s64_in (numQ_big _ _)
  · have := numQ_big l 1
    have := numQ1_lt l
    dsimp only
    omega
theorem cv_sI {x : Nat} (hx : x < 18446744073709551616) (W : World) : (convert 36 3 (.int .u64 (x : Int))).run Tryd.prog W = .ok (.int .i64 (s64 x)) W := by
  have e : IntKind.i64.wrap (x : Int) = s64 x := by
    have e1 : ∀ x : Int, IntKind.i64.wrap x = (x + 9223372036854775808) % 18446744073709551616 - 9223372036854775808 := fun x => by simp [IntKind.wrap, IntKind.bits, IntKind.signed]; try omega
    rw [e1]
    unfold s64
    split <;> omega
  go_simp
theorem cv_nI {x : Nat} (hx : x < 256) (W : World) : (convert 36 3 (.int .u64 (x : Int))).run Tryd.prog W = .ok (.int .i64 (x : Int)) W := by
  have e : IntKind.i64.wrap (x : Int) = (x : Int) := IntWalk.i64_in _ (by omega)
  go_simp
theorem cv_n8 {x : Nat} (hx : x < 256) (W : World) : (convert 36 5 (.int .u64 (x : Int))).run Tryd.prog W = .ok (.int .u8 (x : Int)) W := by
  have := cv_uD hx W
  rwa [show bv (byteD x) = .int .u8 (x : Int) from by unfold bv; rw [byteD_nat hx]] at this
/-- A difference that may come round. -/
def subW (x : Int) : Int := if x ≤ 9223372036854775807 then x else x - 18446744073709551616
theorem zd_subW {k m : Int} (h : -9223372036854775808 ≤ k - m ∧ k - m < 18446744073709551616) (p q : Operand) (W : World) : (do eqGuard .sub 3 p q (.int .i64 k) (.int .i64 m); binOp .sub 3 (.int .i64 k) (.int .i64 m) : Sem Value).run Tryd.prog W = .ok (.int .i64 (subW (k - m))) W := by
  have e : IntKind.i64.wrap (k - m) = subW (k - m) := by
    have e1 : ∀ x : Int, IntKind.i64.wrap x = (x + 9223372036854775808) % 18446744073709551616 - 9223372036854775808 := fun x => by simp [IntKind.wrap, IntKind.bits, IntKind.signed]; try omega
    rw [e1]
    unfold subW
    split <;> omega
  go_simp
theorem zd_gtrI {k m : Int} {b : Bool} (h : decide (k > m) = b) (p q : Operand) (W : World) : (do eqGuard .gtr 3 p q (.int .i64 k) (.int .i64 m); binOp .gtr 3 (.int .i64 k) (.int .i64 m) : Sem Value).run Tryd.prog W = .ok (.bool b) W := by
  have e : decide (m < k) = b := h
  go_simp
  try exact e
theorem Kn.sub {w0 w : World} {h h' : Hep} (K : Kn w0 w h) (hs : h'.Sublist h) : Kn w0 w h' := ⟨K.below, fun p hp => K.heap p (hs.subset hp), fun p hp => K.own p (hs.subset hp), K.apart.sublist hs⟩
/-- Kids over told rows. -/
structure KC (t : Hep) (xs : List DH) (Ts : List DT) : Prop where
  len : Ts.length = xs.length
  at_ : ∀ (i : Nat) (x : DH) (T : DT), xs[i]? = some x → Ts[i]? = some T → DC (TN t) T x
theorem KC.nil (t : Hep) : KC t [] [] := ⟨rfl, fun i x T hx => by simp at hx⟩
theorem KC.more {t t' : Hep} {xs : List DH} {Ts : List DT} (K : KC t xs Ts) (ht : ∀ p ∈ t, p ∈ t') : KC t' xs Ts := ⟨K.len, fun i x T hx hT => (K.at_ i x T hx hT).mono fun g k v h => h.more ht⟩
theorem KC.snoc {t : Hep} {xs : List DH} {Ts : List DT} {x : DH} {T : DT} (K : KC t xs Ts) (hx : DC (TN t) T x) : KC t (xs ++ [x]) (Ts ++ [T]) := by
  have hl := K.len
  refine ⟨by simp [hl], fun i y S hy hS => ?_⟩
  by_cases hi : i < xs.length
  · rw [List.getElem?_append_left hi] at hy
    rw [List.getElem?_append_left (by omega)] at hS
    exact K.at_ i y S hy hS
  · rw [List.getElem?_append_right (by omega)] at hy hS
    rw [hl] at hS
    generalize i - xs.length = j at hy hS
    cases j with
    | zero =>
      injection hy with hy
      injection hS with hS
      subst hy hS
      exact hx
    | succ j => simp at hy
theorem kidsRQ_stop (rd : List UInt8 → DT × List UInt8) (f : Nat) {e : Nat} {l : List UInt8} (h : ¬ e < l.length) : kidsRQ rd f e l = ([], l) := by
  cases f with
  | zero => rfl
  | succ f => exact if_neg h
theorem kidsRQ_more {rd : List UInt8 → DT × List UInt8} {f e : Nat} {l l1 : List UInt8} {T : DT} (h : e < l.length) (h1 : rd l = (T, l1)) (hf : f ≠ 0) : kidsRQ rd f e l = (T :: (kidsRQ rd (f - 1) e l1).1, (kidsRQ rd (f - 1) e l1).2) := by
  obtain ⟨f, rfl⟩ := Nat.exists_eq_succ_of_ne_zero hf
  show (if e < l.length then _ else _) = _
  rw [if_pos h, h1]
  rfl
theorem kidsOfQ_no {rd : List UInt8 → DT × List UInt8} {l : List UInt8} {n : Int} {s : Bool} (h : subW ((l.length : Int) - n) < 0 ∨ s = true) (hn : -9223372036854775808 ≤ n ∧ n < 9223372036854775808) : kidsOfQ rd l n s = ([], l) := by
  unfold kidsOfQ
  refine if_pos ?_
  unfold subW at h
  rcases h with h | h
  · split at h <;> omega
  · exact .inr (.inr (.inr h))
theorem kidsOfQ_yes {rd : List UInt8 → DT × List UInt8} {l : List UInt8} {n : Int} {e : Nat} (h : subW ((l.length : Int) - n) = (e : Int)) (hl : l.length ≤ 100000) (hn : -9223372036854775808 ≤ n ∧ n < 9223372036854775808) : kidsOfQ rd l n false = kidsRQ rd l.length e l := by
  unfold subW at h
  have h2 : (l.length : Int) - n = (e : Int) ∧ (e : Int) ≤ 9223372036854775807 := by split at h <;> omega
  unfold kidsOfQ
  rw [if_neg (by rintro (h | h | h | h) <;> first | omega | cases h), h2.1, Int.toNat_natCast]
theorem readQ_kids {d n1 : Nat} {l l1 l2 : List UInt8} {z : Int} (h1 : numQ l 1 = (n1, l1)) (h2 : lenQ l1 = (z, l2)) (hk : isKids (kindQ n1)) : readQ (d + 1) l = (.mk (kindQ n1) false (tnQ n1) [] [] [] (kidsOfQ (readQ d) l2 z (decide (d = 0))).1, (kidsOfQ (readQ d) l2 z (decide (d = 0))).2) := by
  show (if isKids (kindQ (numQ l 1).1) then _ else _) = _
  rw [h1]
  dsimp only
  rw [if_pos hk, h2]
theorem readQ_fill {d n1 : Nat} {l l1 l2 : List UInt8} {z : Int} (h1 : numQ l 1 = (n1, l1)) (h2 : lenQ l1 = (z, l2)) (hk : ¬ isKids (kindQ n1)) : readQ (d + 1) l = (fillQ (kindQ n1) (tnQ n1) (takeQ l2 z).1, (takeQ l2 z).2) := by
  show (if isKids (kindQ (numQ l 1).1) then _ else _) = _
  rw [h1]
  dsimp only
  rw [if_neg hk, h2]
theorem kindQ_in (x : Nat) : 0 ≤ kindQ x ∧ kindQ x ≤ 10 := by
  unfold kindQ
  repeat' split
  all_goals decide
theorem tnQ_in (x : Nat) : 0 ≤ tnQ x ∧ tnQ x < 32 := by
  unfold tnQ
  split <;> omega
/-- What read answers, one deep and more. -/
def RdA (d : Nat) : Prop := ∀ (w0 w : World) (g : Nat) (c : Array Value) (hh : Hep) (l : List UInt8), l.length ≤ 100000 → PGt w0 → RdC w0 l c → Kn w0 w ([(g, 72, c)] ++ hh) → Calls Tryd.prog 15 #[.pointer (some ⟨g, 0, none⟩), .int .i64 ((d + 1 : Nat) : Int)] w (fun rr W' => ∃ i : DH × Hep × Array Value, rr = .returned (.agg i.1.cs) ∧ (DC (TN i.2.1) (readQ (d + 1) l).1 i.1 ∧ RdC w0 (readQ (d + 1) l).2 i.2.2) ∧ Kn w0 W' ([(g, 72, i.2.2)] ++ (i.2.1 ++ hh)))
/-- What readKids answers. -/
def KdF (d : Nat) (w0 : World) (l : List UInt8) (n : Int) (i : Option Addr × Nat × List DH × Hep × Hep × Array Value) : Prop := OutD 27 7 i.2.2.2.1 (.slice i.1 i.2.2.1.length i.2.1) i.2.2.1.length (kidV i.2.2.1) ∧ KC i.2.2.2.2.1 i.2.2.1 (kidsOfQ (readQ d) l n (decide (d = 0))).1 ∧ i.2.2.1.length ≤ 100000 ∧ RdC w0 (kidsOfQ (readQ d) l n (decide (d = 0))).2 i.2.2.2.2.2
def KdA (d : Nat) : Prop := ∀ (w0 w : World) (g : Nat) (c : Array Value) (hh : Hep) (l : List UInt8) (n : Int), l.length ≤ 100000 → -9223372036854775808 ≤ n ∧ n < 9223372036854775808 → PGt w0 → RdC w0 l c → Kn w0 w ([(g, 72, c)] ++ hh) → Calls Tryd.prog 30 #[.pointer (some ⟨g, 0, none⟩), .int .i64 n, .int .i64 ((d : Nat) : Int)] w (fun rr W' => ∃ i : Option Addr × Nat × List DH × Hep × Hep × Array Value, rr = .returned (.slice i.1 i.2.2.1.length i.2.1) ∧ KdF d w0 l n i ∧ Kn w0 W' ([(g, 72, i.2.2.2.2.2)] ++ ((i.2.2.2.1 ++ i.2.2.2.2.1) ++ hh)))
attribute [local irreducible] bvs byteD rb takeQ numQ intQ arcsQ accD lenQ s64 subW kindQ tnQ fillQ readQ kidsOfQ kidsRQ
set_option maxHeartbeats 4000000 in
theorem len_R {g : Nat} {c : Array Value} {hh : Hep} {l : List UInt8} (hl : l.length ≤ 100000) (w0 w : World) (hr : RdC w0 l c) (K : Kn w0 w ([(g, 72, c)] ++ hh)) : Calls Tryd.prog 29 #[.pointer (some ⟨g, 0, none⟩)] w (fun rr w' => ∃ c' : Array Value, rr = .returned (.int .i64 (lenQ l).1) ∧ RdC w0 (lenQ l).2 c' ∧ Kn w0 w' ([(g, 72, c')] ++ hh)) := by
  refine calls_kn (vs := [.pointer (some ⟨g, 0, none⟩)]) 15 Tryd.func29 rfl Tryd.ntmps29 rfl K (fun a W H => ?_)
  replace H : St 15 w0 a W [(0, .pointer (some ⟨g, 0, none⟩))] ((g, 72, c) :: hh) := H
  refine sqR H gs0 fun Z_ z_ => rS 1 rfl <| rN0 z_ ?_
  try clear H a W
  intro a W H
  refine wp_seq_k (fun K2 hK2 => ?_)
  refine rgP H gs0 (rS 1 rfl <| rI0 ?_)
  try clear H a W
  intro a W H
  refine pl_callE rfl ⟨_, Tryd.func28, by kernel_rfl⟩ rfl (fun K_ => num_R (hh := hh) 1 (by omega) w0 _ hr K_) rfl rfl rfl rfl H ?_
  try clear H a W
  rintro c1 a W hc1 H
  replace H : St 15 w0 a W [(5, .int .u64 (((numQ l 1).1 : Nat) : Int)), (4, .pointer (some ⟨g, 0, none⟩)), (2, .int .i64 0), (0, .pointer (some ⟨g, 0, none⟩))] ((g, 72, c1) :: hh) := H
  obtain ⟨n1, l1, hqq1⟩ : ∃ n_ l_, numQ l 1 = (n_, l_) := ⟨_, _, rfl⟩
  have hl1 : l1.length ≤ 100000 := by have h_ := numQ_le l 1; rw [hqq1] at h_; exact Nat.le_trans h_ (by omega)
  have hn1 : n1 < 18446744073709551616 := by have h_ := numQ_big l 1; rw [hqq1] at h_; exact h_
  have hm1 : n1 < 256 := by have h_ := numQ1_lt l; rw [hqq1] at h_; exact h_
  rw [hqq1] at H hc1
  replace hc1 : RdC w0 l1 c1 := hc1
  replace H : St 15 w0 a W [(5, .int .u64 ((n1 : Nat) : Int)), (4, .pointer (some ⟨g, 0, none⟩)), (2, .int .i64 0), (0, .pointer (some ⟨g, 0, none⟩))] ((g, 72, c1) :: hh) := H
  refine rgO H gs0 (rV rfl (does_convert rfl rfl (cv_nI (by omega))) <| rS 1 rfl <| rK [1, 0, 0, 0] [] [] <| rZ0 ?_)
  try clear H a W
  intro a W H
  refine hK2 _ _ ?_
  clear hK2
  refine wp_seq_k (fun K3 hK3 => ?_)
  refine sqR H gs0 fun Z_ z_ => rS 1 rfl <| rV rfl (does_binOp rfl rfl rfl (zd_geq_int (k := ((n1 : Nat) : Int)) (m := 128) rfl _ _)) <| rK [1, 0] [] [] <| rN0 z_ ?_
  try clear H a W
  intro a W H
  cases hq1 : decide (128 ≤ ((n1 : Nat) : Int)) with
  | true =>
    rw [hq1] at H
    have hq1p := of_decide_eq_true hq1
    refine wp_cond_true (H.ev rfl) ?_
    refine rgP H gs0 (rS 2 rfl <| rV rfl (does_binOp rfl rfl rfl (zd_sub_int (k := ((n1 : Nat) : Int)) (m := 128) rfl (by omega) _ _)) <| rI0 ?_)
    try clear H a W
    intro a W H
    refine pl_callE rfl ⟨_, Tryd.func28, by kernel_rfl⟩ rfl (fun K_ => num_R (hh := hh) (((n1 : Nat) : Int) - 128) (by omega) w0 _ hc1 K_) rfl rfl rfl rfl H ?_
    try clear H a W
    rintro c2 a W hc2 H
    replace H : St 15 w0 a W [(12, .int .u64 (((numQ l1 (((n1 : Nat) : Int) - 128)).1 : Nat) : Int)), (11, .int .i64 (((n1 : Nat) : Int) - 128)), (10, .int .i64 ((n1 : Nat) : Int)), (9, .pointer (some ⟨g, 0, none⟩)), (8, .bool true), (3, .int .i64 ((n1 : Nat) : Int)), (2, .int .i64 0), (0, .pointer (some ⟨g, 0, none⟩))] ((g, 72, c2) :: hh) := H
    obtain ⟨n2, l2, hqq2⟩ : ∃ n_ l_, numQ l1 (((n1 : Nat) : Int) - 128) = (n_, l_) := ⟨_, _, rfl⟩
    have hl2 : l2.length ≤ 100000 := by have h_ := numQ_le l1 (((n1 : Nat) : Int) - 128); rw [hqq2] at h_; exact Nat.le_trans h_ (by omega)
    have hn2 : n2 < 18446744073709551616 := by have h_ := numQ_big l1 (((n1 : Nat) : Int) - 128); rw [hqq2] at h_; exact h_
    rw [hqq2] at H hc2
    replace hc2 : RdC w0 l2 c2 := hc2
    replace H : St 15 w0 a W [(12, .int .u64 ((n2 : Nat) : Int)), (11, .int .i64 (((n1 : Nat) : Int) - 128)), (10, .int .i64 ((n1 : Nat) : Int)), (9, .pointer (some ⟨g, 0, none⟩)), (8, .bool true), (3, .int .i64 ((n1 : Nat) : Int)), (2, .int .i64 0), (0, .pointer (some ⟨g, 0, none⟩))] ((g, 72, c2) :: hh) := H
    refine rgO H gs0 (rV rfl (does_convert rfl rfl (cv_sI (by omega))) <| rK [1, 1, 1, 1, 1, 1, 0] [] [] <| rS 1 rfl <| rK [1, 0, 0, 0, 0, 0, 0, 1, 0] [] [] <| rZ0 ?_)
    try clear H a W
    intro a W H
    refine hK3 _ _ ?_
    clear hK3
    refine sqR H gs0 fun Z_ z_ => rS 1 rfl <| rK [1, 1, 0] [] [] <| rS 1 rfl <| rK [1, 0, 0] [] [] <| rN0 z_ ?_
    try clear H a W
    intro a W H
    refine wp_ret ?_
    repeat (first | (with_reducible refine then_ret ?_) | (with_reducible refine blk_ret ?_))
    refine end_tmp (p := 2) rfl rfl H (fun hb => ?_)
    refine ⟨c2, ?_, ?_, H.kn⟩
    · rw [lenQ_hi hqq1 (by omega), hqq2]
    · rw [lenQ_hi hqq1 (by omega), hqq2]
      exact hc2
  | false =>
    rw [hq1] at H
    have hq1p := of_decide_eq_false hq1
    refine wp_cond_false (H.ev rfl) ?_
    refine wp_skip ?_
    refine hK3 _ _ ?_
    clear hK3
    refine sqR H gs0 fun Z_ z_ => rS 1 rfl <| rK [1, 1, 1, 0] [] [] <| rS 1 rfl <| rK [1, 0, 0, 0, 0] [] [] <| rN0 z_ ?_
    try clear H a W
    intro a W H
    refine wp_ret ?_
    repeat (first | (with_reducible refine then_ret ?_) | (with_reducible refine blk_ret ?_))
    refine end_tmp (p := 2) rfl rfl H (fun hb => ?_)
    refine ⟨c1, ?_, ?_, H.kn⟩
    · rw [lenQ_lo hqq1 (by omega)]
    · rw [lenQ_lo hqq1 (by omega)]
      exact hc1
set_option maxHeartbeats 4000000 in
theorem kids_zero {g : Nat} {c : Array Value} {hh : Hep} {l : List UInt8} (n : Int) (hl : l.length ≤ 100000) (hn : -9223372036854775808 ≤ n ∧ n < 9223372036854775808) (w0 w : World) (hpg : PGt w0) (hr : RdC w0 l c) (K : Kn w0 w ([(g, 72, c)] ++ hh)) : Calls Tryd.prog 30 #[.pointer (some ⟨g, 0, none⟩), .int .i64 n, .int .i64 ((0 : Nat) : Int)] w (fun rr w' => ∃ i : Option Addr × Nat × List DH × Hep × Hep × Array Value, rr = .returned (.slice i.1 i.2.2.1.length i.2.1) ∧ KdF (0) w0 l n i ∧ Kn w0 w' ([(g, 72, i.2.2.2.2.2)] ++ ((i.2.2.2.1 ++ i.2.2.2.2.1) ++ hh))) := by
  obtain ⟨en, hen⟩ : ∃ en, subW (((l.length : Nat) : Int) - n) = en := ⟨_, rfl⟩
  have hsubW : ∀ (p q : Operand) (W : World), (do eqGuard .sub 3 p q (.int .i64 ((l.length : Nat) : Int)) (.int .i64 n); binOp .sub 3 (.int .i64 ((l.length : Nat) : Int)) (.int .i64 n) : Sem Value).run Tryd.prog W = .ok (.int .i64 en) W := fun p q W => by rw [← hen]; exact zd_subW (by omega) p q W
  have henr : -9223372036854775808 ≤ en ∧ en < 9223372036854775808 := by rw [← hen]; unfold subW; split <;> omega
  refine calls_kn (vs := [.pointer (some ⟨g, 0, none⟩), .int .i64 n, .int .i64 ((0 : Nat) : Int)]) 30 Tryd.func30 rfl Tryd.ntmps30 rfl K (fun a W H => ?_)
  replace H : St 30 w0 a W [(0, .pointer (some ⟨g, 0, none⟩)), (1, .int .i64 n), (2, .int .i64 ((0 : Nat) : Int))] ((g, 72, c) :: hh) := H
  refine sqR H gs0 fun Z_ z_ => rS 1 rfl <| rN0 z_ ?_
  try clear H a W
  intro a W H
  refine sqR H gs0 fun Z_ z_ => rS 1 rfl <| rCV rfl rfl ⟨_, Tryd.func40, by kernel_rfl⟩ rfl (fun a W H _ => (left_R hr (H.blk (k := 0) rfl))) <| rS 1 rfl <| rV rfl (does_binOp rfl rfl rfl (hsubW _ _)) <| rS 1 rfl <| rK [1, 0, 0, 0, 0, 1, 1, 0] [] [] <| rN0 z_ ?_
  try clear H a W
  intro a W H
  refine wp_seq_k (fun K3 hK3 => ?_)
  refine wp_seq_k (fun K4 hK4 => ?_)
  cases hq1 : decide (en < 0) with
  | true =>
    have hq1p := of_decide_eq_true hq1
    refine rgP H gs0 (rS 1 rfl <| rV rfl (does_binOp rfl rfl rfl (zd_lss_int (k := en) (m := 0) hq1 _ _)) <| rS 4 rfl <| rK [1, 0, 0, 0, 0, 0] [] [] <| rZ0 ?_)
    try clear H a W
    intro a W H
    refine hK4 _ _ ?_
    clear hK4
    refine wp_cond_true (H.ev rfl) ?_
    refine sqR H gs0 fun Z_ z_ => rK [1, 1, 0] [] [] <| rS 1 rfl <| rK [1, 0] [] [] <| rN0 z_ ?_
    try clear H a W
    intro a W H
    refine wp_ret ?_
    repeat (first | (with_reducible refine then_ret ?_) | (with_reducible refine blk_ret ?_))
    refine end_tmp (p := 6) rfl rfl H (fun hb => ?_)
    refine ⟨(none, 0, [], [], [], c), rfl, ⟨OutD.nil _ _, ?_, Nat.zero_le _, ?_⟩, H.kn⟩
    · rw [kidsOfQ_no (by rw [hen]; first | exact .inl (by omega) | exact .inr (by decide)) hn]
      first | exact KC.nil _ | exact hr
    · rw [kidsOfQ_no (by rw [hen]; first | exact .inl (by omega) | exact .inr (by decide)) hn]
      first | exact KC.nil _ | exact hr
  | false =>
    have hq1p := of_decide_eq_false hq1
    refine rgP H gs0 (rS 1 rfl <| rV rfl (does_binOp rfl rfl rfl (zd_lss_int (k := en) (m := 0) hq1 _ _)) <| rS 2 rfl <| rV rfl (does_binOp rfl rfl rfl (zd_eql_int (k := ((0 : Nat) : Int)) (m := 0) (decide_eq_true (by omega)) _ _)) <| rS 1 rfl <| rK [1, 0, 0, 0, 0, 0] [] [] <| rZ0 ?_)
    try clear H a W
    intro a W H
    refine hK4 _ _ ?_
    clear hK4
    refine wp_cond_true (H.ev rfl) ?_
    refine sqR H gs0 fun Z_ z_ => rK [1, 1, 0] [] [] <| rS 1 rfl <| rK [1, 0] [] [] <| rN0 z_ ?_
    try clear H a W
    intro a W H
    refine wp_ret ?_
    repeat (first | (with_reducible refine then_ret ?_) | (with_reducible refine blk_ret ?_))
    refine end_tmp (p := 6) rfl rfl H (fun hb => ?_)
    refine ⟨(none, 0, [], [], [], c), rfl, ⟨OutD.nil _ _, ?_, Nat.zero_le _, ?_⟩, H.kn⟩
    · rw [kidsOfQ_no (by rw [hen]; first | exact .inl (by omega) | exact .inr (by decide)) hn]
      first | exact KC.nil _ | exact hr
    · rw [kidsOfQ_no (by rw [hen]; first | exact .inl (by omega) | exact .inr (by decide)) hn]
      first | exact KC.nil _ | exact hr
set_option maxHeartbeats 4000000 in
theorem kids_step {g : Nat} {c : Array Value} {hh : Hep} {l : List UInt8} (n : Int) (hl : l.length ≤ 100000) (hn : -9223372036854775808 ≤ n ∧ n < 9223372036854775808) (d : Nat) (hd : d ≤ 100) (ih : RdA d) (w0 w : World) (hpg : PGt w0) (hr : RdC w0 l c) (K : Kn w0 w ([(g, 72, c)] ++ hh)) : Calls Tryd.prog 30 #[.pointer (some ⟨g, 0, none⟩), .int .i64 n, .int .i64 ((d + 1 : Nat) : Int)] w (fun rr w' => ∃ i : Option Addr × Nat × List DH × Hep × Hep × Array Value, rr = .returned (.slice i.1 i.2.2.1.length i.2.1) ∧ KdF (d + 1) w0 l n i ∧ Kn w0 w' ([(g, 72, i.2.2.2.2.2)] ++ ((i.2.2.2.1 ++ i.2.2.2.2.1) ++ hh))) := by
  obtain ⟨en, hen⟩ : ∃ en, subW (((l.length : Nat) : Int) - n) = en := ⟨_, rfl⟩
  have hsubW : ∀ (p q : Operand) (W : World), (do eqGuard .sub 3 p q (.int .i64 ((l.length : Nat) : Int)) (.int .i64 n); binOp .sub 3 (.int .i64 ((l.length : Nat) : Int)) (.int .i64 n) : Sem Value).run Tryd.prog W = .ok (.int .i64 en) W := fun p q W => by rw [← hen]; exact zd_subW (by omega) p q W
  have henr : -9223372036854775808 ≤ en ∧ en < 9223372036854775808 := by rw [← hen]; unfold subW; split <;> omega
  refine calls_kn (vs := [.pointer (some ⟨g, 0, none⟩), .int .i64 n, .int .i64 ((d + 1 : Nat) : Int)]) 30 Tryd.func30 rfl Tryd.ntmps30 rfl K (fun a W H => ?_)
  replace H : St 30 w0 a W [(0, .pointer (some ⟨g, 0, none⟩)), (1, .int .i64 n), (2, .int .i64 ((d + 1 : Nat) : Int))] ((g, 72, c) :: hh) := H
  refine sqR H gs0 fun Z_ z_ => rS 1 rfl <| rN0 z_ ?_
  try clear H a W
  intro a W H
  refine sqR H gs0 fun Z_ z_ => rS 1 rfl <| rCV rfl rfl ⟨_, Tryd.func40, by kernel_rfl⟩ rfl (fun a W H _ => (left_R hr (H.blk (k := 0) rfl))) <| rS 1 rfl <| rV rfl (does_binOp rfl rfl rfl (hsubW _ _)) <| rS 1 rfl <| rK [1, 0, 0, 0, 0, 1, 1, 0] [] [] <| rN0 z_ ?_
  try clear H a W
  intro a W H
  refine wp_seq_k (fun K3 hK3 => ?_)
  refine wp_seq_k (fun K4 hK4 => ?_)
  cases hq1 : decide (en < 0) with
  | true =>
    have hq1p := of_decide_eq_true hq1
    refine rgP H gs0 (rS 1 rfl <| rV rfl (does_binOp rfl rfl rfl (zd_lss_int (k := en) (m := 0) hq1 _ _)) <| rS 4 rfl <| rK [1, 0, 0, 0, 0, 0] [] [] <| rZ0 ?_)
    try clear H a W
    intro a W H
    refine hK4 _ _ ?_
    clear hK4
    refine wp_cond_true (H.ev rfl) ?_
    refine sqR H gs0 fun Z_ z_ => rK [1, 1, 0] [] [] <| rS 1 rfl <| rK [1, 0] [] [] <| rN0 z_ ?_
    try clear H a W
    intro a W H
    refine wp_ret ?_
    repeat (first | (with_reducible refine then_ret ?_) | (with_reducible refine blk_ret ?_))
    refine end_tmp (p := 6) rfl rfl H (fun hb => ?_)
    refine ⟨(none, 0, [], [], [], c), rfl, ⟨OutD.nil _ _, ?_, Nat.zero_le _, ?_⟩, H.kn⟩
    · rw [kidsOfQ_no (by rw [hen]; first | exact .inl (by omega) | exact .inr (by decide)) hn]
      first | exact KC.nil _ | exact hr
    · rw [kidsOfQ_no (by rw [hen]; first | exact .inl (by omega) | exact .inr (by decide)) hn]
      first | exact KC.nil _ | exact hr
  | false =>
    have hq1p := of_decide_eq_false hq1
    refine rgP H gs0 (rS 1 rfl <| rV rfl (does_binOp rfl rfl rfl (zd_lss_int (k := en) (m := 0) hq1 _ _)) <| rS 2 rfl <| rV rfl (does_binOp rfl rfl rfl (zd_eql_int (k := ((d + 1 : Nat) : Int)) (m := 0) (decide_eq_false (by omega)) _ _)) <| rS 1 rfl <| rK [1, 0, 0, 0, 0, 0] [] [] <| rZ0 ?_)
    try clear H a W
    intro a W H
    refine hK4 _ _ ?_
    clear hK4
    refine wp_cond_false (H.ev rfl) ?_
    refine wp_skip ?_
    refine hK3 _ _ ?_
    clear hK3
    refine sqR H gs0 fun Z_ z_ => rS 1 rfl <| rK [1, 0] [] [] <| rN0 z_ ?_
    try clear H a W
    intro a W H
    refine wp_seq_k (fun K7 hK7 => ?_)
    obtain ⟨e0, he0⟩ : ∃ e0 : Nat, en = (e0 : Int) := ⟨en.toNat, by omega⟩
    refine wp_block ?_
    replace H : St 30 w0 a W [(8, .slice none 0 0), (7, .int .i64 en), (0, .pointer (some ⟨g, 0, none⟩)), (2, .int .i64 ((d + 1 : Nat) : Int))] ((g, 72, c) :: (([] : Hep) ++ (([] : Hep) ++ hh))) := H.pickF (h := [(g, 72, c)]) (t := hh) [0, 1, 3, 4] [0] rfl
    refine wp_rounds l.length (fun k a W => ∃ (vA : Option Addr) (vc : Nat) (t1 t2 : Hep) (xs : List DH) (Ts : List DT) (lq : List UInt8) (cq : Array Value), kidsRQ (readQ (d + 1)) l.length e0 l = (Ts ++ (kidsRQ (readQ (d + 1)) (l.length - k) e0 lq).1, (kidsRQ (readQ (d + 1)) (l.length - k) e0 lq).2) ∧ lq.length + k ≤ l.length ∧ OutD 27 7 t1 (.slice vA xs.length vc) xs.length (kidV xs) ∧ xs.length ≤ k ∧ KC t2 xs Ts ∧ RdC w0 lq cq ∧ St 30 w0 a W [(8, .slice vA xs.length vc), (7, .int .i64 en), (0, .pointer (some ⟨g, 0, none⟩)), (2, .int .i64 ((d + 1 : Nat) : Int))] ((g, 72, cq) :: (t1 ++ (t2 ++ hh)))) (k0 := 0) (show ∃ (vA : Option Addr) (vc : Nat) (t1 t2 : Hep) (xs : List DH) (Ts : List DT) (lq : List UInt8) (cq : Array Value), kidsRQ (readQ (d + 1)) l.length e0 l = (Ts ++ (kidsRQ (readQ (d + 1)) (l.length - 0) e0 lq).1, (kidsRQ (readQ (d + 1)) (l.length - 0) e0 lq).2) ∧ lq.length + 0 ≤ l.length ∧ OutD 27 7 t1 (.slice vA xs.length vc) xs.length (kidV xs) ∧ xs.length ≤ 0 ∧ KC t2 xs Ts ∧ RdC w0 lq cq ∧ St 30 w0 a W [(8, .slice vA xs.length vc), (7, .int .i64 en), (0, .pointer (some ⟨g, 0, none⟩)), (2, .int .i64 ((d + 1 : Nat) : Int))] ((g, 72, cq) :: (t1 ++ (t2 ++ hh))) from ⟨none, 0, [], [], [], [], l, c, rfl, Nat.le_refl _, OutD.nil _ _, Nat.le_refl _, KC.nil _, hr, H⟩) (by omega) ?_
    try clear H a W
    rintro k a W hk ⟨vA, vc, t1, t2, xs, Ts, lq, cq, hrk, hlq, hod, hxl, hkc, hcq, H⟩
    by_cases hk2 : e0 < lq.length
    · refine wp_seq_k (fun K8 hK8 => ?_)
      refine sqR H gs0 fun Z_ z_ => rS 1 rfl <| rCV rfl rfl ⟨_, Tryd.func40, by kernel_rfl⟩ rfl (fun a W H _ => (left_R hcq (H.blk (k := 0) rfl))) <| rS 1 rfl <| rV rfl (does_binOp rfl rfl rfl (zd_gtrI (k := ((lq.length : Nat) : Int)) (m := en) (decide_eq_true (by omega)) _ _)) <| rN0 z_ ?_
      try clear H a W
      intro a W H
      refine wp_cond_true (H.ev rfl) ?_
      refine wp_skip ?_
      refine hK8 _ _ ?_
      clear hK8
      refine wp_block ?_
      refine rgP H gs0 (rS 3 rfl <| rI0 ?_)
      try clear H a W
      intro a W H
      refine pl_callE rfl ⟨_, Tryd.func15, by kernel_rfl⟩ rfl (fun K_ => ih w0 _ _ _ (t1 ++ (t2 ++ hh)) _ (by omega) hpg hcq K_) rfl rfl rfl rfl H ?_
      try clear H a W
      rintro ⟨x1, r1, c1⟩ a W hk1 H
      replace H : St 30 w0 a W [(26, .agg (x1.cs)), (25, .int .i64 ((d + 1 : Nat) : Int)), (24, .pointer (some ⟨g, 0, none⟩)), (23, .slice vA xs.length vc), (22, .bool true), (21, .int .i64 en), (20, .int .i64 ((lq.length : Nat) : Int)), (19, .pointer (some ⟨g, 0, none⟩)), (8, .slice vA xs.length vc), (7, .int .i64 en), (0, .pointer (some ⟨g, 0, none⟩)), (2, .int .i64 ((d + 1 : Nat) : Int))] ((g, 72, c1) :: (r1 ++ (t1 ++ (t2 ++ hh)))) := H
      obtain ⟨T1, l1, hqq1⟩ : ∃ T_ l_, readQ (d + 1) lq = (T_, l_) := ⟨_, _, rfl⟩
      obtain ⟨hdc1, hc1⟩ := hk1
      have hl1 : l1.length < lq.length := by have h_ := readQ_lt d (l := lq) (by omega); rw [hqq1] at h_; exact h_
      rw [hqq1] at hdc1 hc1
      replace hdc1 : DC (TN r1) T1 x1 := hdc1
      replace hc1 : RdC w0 l1 c1 := hc1
      replace H : St 30 w0 a W [(26, .agg (x1.cs)), (25, .int .i64 ((d + 1 : Nat) : Int)), (24, .pointer (some ⟨g, 0, none⟩)), (23, .slice vA xs.length vc), (22, .bool true), (21, .int .i64 en), (20, .int .i64 ((lq.length : Nat) : Int)), (19, .pointer (some ⟨g, 0, none⟩)), (8, .slice vA xs.length vc), (7, .int .i64 en), (0, .pointer (some ⟨g, 0, none⟩)), (2, .int .i64 ((d + 1 : Nat) : Int))] ((g, 72, c1) :: (t1 ++ ((t2 ++ r1) ++ hh))) := H.perm' (((List.perm_append_comm_assoc r1 t1 (t2 ++ hh)).trans (((List.perm_append_comm_assoc r1 t2 hh).trans (List.Perm.of_eq (List.append_assoc t2 r1 hh).symm)).append_left t1)).append_left ([(g, .ty 72, c1)] : Hep))
      refine rgO H gs0 (rO rfl (fun a W H _ => ob_kid1 (x := x1) H (wanted_none rfl) rfl rfl) fun v27 => rI ?_)
      try clear H a W
      rintro a W H ⟨hv27, -⟩
      refine pl_kid (h := [(g, .ty 72, c1)]) (t := t1) (t2 := ((t2 ++ r1) ++ hh)) (xs := xs) rfl rfl rfl hod hv27 (by omega) rfl rfl rfl rfl H ?_
      try clear H a W
      intro v8 t8 a W hod8 H
      obtain ⟨A8, c8, rfl, hc8_⟩ := hod8.form
      replace H : St 30 w0 a W [(28, .slice A8 (xs ++ [x1]).length c8), (27, v27), (26, .agg (x1.cs)), (25, .int .i64 ((d + 1 : Nat) : Int)), (24, .pointer (some ⟨g, 0, none⟩)), (23, .slice vA xs.length vc), (22, .bool true), (21, .int .i64 en), (20, .int .i64 ((lq.length : Nat) : Int)), (19, .pointer (some ⟨g, 0, none⟩)), (8, .slice vA xs.length vc), (7, .int .i64 en), (0, .pointer (some ⟨g, 0, none⟩)), (2, .int .i64 ((d + 1 : Nat) : Int))] ((g, 72, c1) :: (t8 ++ ((t2 ++ r1) ++ hh))) := H
      refine rgO H gs0 (rK [1, 1, 1, 1, 1, 1, 1, 1, 1, 1, 0] [] [] <| rS 1 rfl <| rZ0 ?_)
      try clear H a W
      intro a W H
      refine blk_normal ?_
      refine ⟨k + 1, by omega, by omega, A8, c8, t8, (t2 ++ r1), xs ++ [x1], Ts ++ [T1], l1, c1, ?_, by omega, hod8, ?_, ?_, hc1, H.pickF (h := [(g, 72, c1)]) (t := (t8 ++ ((t2 ++ r1) ++ hh))) [0, 11, 12, 13] [0] rfl⟩
      · rw [hrk, kidsRQ_more hk2 hqq1 (by omega), show l.length - k - 1 = l.length - (k + 1) by omega, List.append_assoc]
        rfl
      · rw [List.length_append, List.length_singleton]
        omega
      · exact (hkc.more fun p hp => List.mem_append.2 (.inl hp)).snoc (hdc1.mono fun _ _ _ h_ => h_.more fun p hp => List.mem_append.2 (.inr hp))
    · have hrk2 : kidsRQ (readQ (d + 1)) l.length e0 l = (Ts, lq) := by
        rw [hrk, kidsRQ_stop _ _ hk2, List.append_nil]
      refine wp_seq_k (fun K10 hK10 => ?_)
      refine sqR H gs0 fun Z_ z_ => rS 1 rfl <| rCV rfl rfl ⟨_, Tryd.func40, by kernel_rfl⟩ rfl (fun a W H _ => (left_R hcq (H.blk (k := 0) rfl))) <| rS 1 rfl <| rV rfl (does_binOp rfl rfl rfl (zd_gtrI (k := ((lq.length : Nat) : Int)) (m := en) (decide_eq_false (by omega)) _ _)) <| rK [1, 0, 0, 0, 1, 0] [] [] <| rN0 z_ ?_
      try clear H a W
      intro a W H
      refine wp_cond_false (H.ev rfl) ?_
      refine wp_exit ?_
      repeat (first | (with_reducible refine then_exit ?_) | (with_reducible refine blk_pass (by decide) ?_))
      refine blk_exit ?_
      refine hK7 _ _ ?_
      clear hK7
      refine sqR H gs0 fun Z_ z_ => rS 2 rfl <| rK [1, 0, 0, 0, 0, 0] [] [] <| rN0 z_ ?_
      try clear H a W
      intro a W H
      refine wp_ret ?_
      repeat (first | (with_reducible refine then_ret ?_) | (with_reducible refine blk_ret ?_))
      refine end_tmp (p := 6) rfl rfl H (fun hb => ?_)
      refine ⟨(vA, vc, xs, t1, t2, cq), rfl, ⟨hod, ?_, by show xs.length ≤ _; omega, ?_⟩, ?_⟩
      · rw [show decide (d + 1 = 0) = false from rfl, kidsOfQ_yes (e := e0) (by rw [hen]; exact he0) hl hn, hrk2]
        exact hkc
      · rw [show decide (d + 1 = 0) = false from rfl, kidsOfQ_yes (e := e0) (by rw [hen]; exact he0) hl hn, hrk2]
        exact hcq
      · show Kn w0 _ ([(g, 72, cq)] ++ ((t1 ++ t2) ++ hh))
        rw [List.append_assoc]
        exact H.kn
set_option maxHeartbeats 4000000 in
theorem read_step13 {g : Nat} {c : Array Value} {hh : Hep} {l : List UInt8} (hl : l.length ≤ 100000) (d : Nat) (hd : d ≤ 100) (hka : KdA d) (w0 w : World) (hpg : PGt w0) (hr : RdC w0 l c) (K : Kn w0 w ([(g, 72, c)] ++ hh)) : Calls Tryd.prog 15 #[.pointer (some ⟨g, 0, none⟩), .int .i64 ((d + 1 : Nat) : Int)] w (fun rr w' => ∃ i : DH × Hep × Array Value, rr = .returned (.agg i.1.cs) ∧ (DC (TN i.2.1) (readQ (d + 1) l).1 i.1 ∧ RdC w0 (readQ (d + 1) l).2 i.2.2) ∧ Kn w0 w' ([(g, 72, i.2.2)] ++ (i.2.1 ++ hh))) := by
  refine calls_kn (vs := [.pointer (some ⟨g, 0, none⟩), .int .i64 ((d + 1 : Nat) : Int)]) 31 Tryd.func15 rfl Tryd.ntmps15 rfl K (fun a W H => ?_)
  replace H : St 31 w0 a W [(0, .pointer (some ⟨g, 0, none⟩)), (1, .int .i64 ((d + 1 : Nat) : Int))] ((g, 72, c) :: hh) := H
  refine sqR H gs0 fun Z_ z_ => rA rfl rfl al_der fun g1 => rN0 z_ ?_
  try clear H a W
  intro a W H
  refine wp_seq_k (fun K2 hK2 => ?_)
  refine rgP H gs0 (rS 1 rfl <| rI0 ?_)
  try clear H a W
  intro a W H
  replace H : St 31 w0 a W [(7, .pointer (some ⟨g, 0, none⟩)), (4, .pointer (some ⟨g1, 0, none⟩)), (0, .pointer (some ⟨g, 0, none⟩)), (1, .int .i64 ((d + 1 : Nat) : Int))] ((g, 72, c) :: (g1, 27, DH.no.cs) :: hh) := H.perm' (@List.perm_middle (Nat × Tid × Array Value) (g, .ty 72, c) [(g1, .ty 27, DH.no.cs)] hh)
  refine pl_callE rfl ⟨_, Tryd.func28, by kernel_rfl⟩ rfl (fun K_ => num_R (hh := ([(g1, .ty 27, DH.no.cs)] ++ hh)) 1 (by omega) w0 _ hr K_) rfl rfl rfl rfl H ?_
  try clear H a W
  rintro c1 a W hc1 H
  replace H : St 31 w0 a W [(8, .int .u64 (((numQ l 1).1 : Nat) : Int)), (7, .pointer (some ⟨g, 0, none⟩)), (4, .pointer (some ⟨g1, 0, none⟩)), (0, .pointer (some ⟨g, 0, none⟩)), (1, .int .i64 ((d + 1 : Nat) : Int))] ((g, 72, c1) :: (g1, 27, DH.no.cs) :: hh) := H
  obtain ⟨n1, l1, hqq1⟩ : ∃ n_ l_, numQ l 1 = (n_, l_) := ⟨_, _, rfl⟩
  have hl1 : l1.length ≤ 100000 := by have h_ := numQ_le l 1; rw [hqq1] at h_; exact Nat.le_trans h_ (by omega)
  have hn1 : n1 < 18446744073709551616 := by have h_ := numQ_big l 1; rw [hqq1] at h_; exact h_
  have hm1 : n1 < 256 := by have h_ := numQ1_lt l; rw [hqq1] at h_; exact h_
  rw [hqq1] at H hc1
  replace hc1 : RdC w0 l1 c1 := hc1
  replace H : St 31 w0 a W [(8, .int .u64 ((n1 : Nat) : Int)), (7, .pointer (some ⟨g, 0, none⟩)), (4, .pointer (some ⟨g1, 0, none⟩)), (0, .pointer (some ⟨g, 0, none⟩)), (1, .int .i64 ((d + 1 : Nat) : Int))] ((g, 72, c1) :: (g1, 27, DH.no.cs) :: hh) := H
  obtain ⟨K, hK⟩ : ∃ K, kindQ n1 = K := ⟨_, rfl⟩
  obtain ⟨N, hN⟩ : ∃ N, tnQ n1 = N := ⟨_, rfl⟩
  have hKr := kindQ_in n1
  rw [hK] at hKr
  have hNr := tnQ_in n1
  rw [hN] at hNr
  refine rgO H gs0 (rV rfl (does_convert rfl rfl (cv_n8 (by omega))) <| rV rfl (does_call rfl ⟨_, Tryd.func27, by kernel_rfl⟩ rfl (fun W hb => by have h_ := tagged_any n1 W (by omega) (hpg.ext hb); rw [hK, hN] at h_; exact h_)) <| rA rfl rfl al_der fun g2 => rW [1] ⟨rfl, rfl⟩ rfl rfl rfl (info_der (DH.mk K false N SL.no [] SL.no SL.no)) (size_der DH.no (DH.mk K false N SL.no [] SL.no SL.no)) (DH.mk K false N SL.no [] SL.no SL.no).one <| rK [1, 0, 0, 0, 0] [] [] <| rZ0 ?_)
  try clear H a W
  intro a W H
  refine hK2 _ _ ?_
  clear hK2
  refine wp_seq_k (fun K3 hK3 => ?_)
  refine rgP H gs0 (rS 1 rfl <| rI0 ?_)
  try clear H a W
  intro a W H
  replace H : St 31 w0 a W [(11, .pointer (some ⟨g, 0, none⟩)), (5, .pointer (some ⟨g2, 0, none⟩)), (4, .pointer (some ⟨g1, 0, none⟩)), (0, .pointer (some ⟨g, 0, none⟩)), (1, .int .i64 ((d + 1 : Nat) : Int))] ((g, 72, c1) :: (g2, 27, (DH.mk K false N SL.no [] SL.no SL.no).cs) :: (g1, 27, DH.no.cs) :: hh) := H.perm' (@List.perm_middle (Nat × Tid × Array Value) (g, .ty 72, c1) [(g2, .ty 27, (DH.mk K false N SL.no [] SL.no SL.no).cs)] (([(g1, .ty 27, DH.no.cs)] : Hep) ++ hh))
  refine pl_callE rfl ⟨_, Tryd.func29, by kernel_rfl⟩ rfl (fun K_ => len_R (hh := ([(g2, .ty 27, (DH.mk K false N SL.no [] SL.no SL.no).cs), (g1, .ty 27, DH.no.cs)] ++ hh)) (by omega) w0 _ hc1 K_) rfl rfl rfl rfl H ?_
  try clear H a W
  rintro c2 a W hc2 H
  replace H : St 31 w0 a W [(12, .int .i64 ((lenQ l1).1)), (11, .pointer (some ⟨g, 0, none⟩)), (5, .pointer (some ⟨g2, 0, none⟩)), (4, .pointer (some ⟨g1, 0, none⟩)), (0, .pointer (some ⟨g, 0, none⟩)), (1, .int .i64 ((d + 1 : Nat) : Int))] ((g, 72, c2) :: (g2, 27, (DH.mk K false N SL.no [] SL.no SL.no).cs) :: (g1, 27, DH.no.cs) :: hh) := H
  obtain ⟨z2, l2, hqq2⟩ : ∃ z_ l_, lenQ l1 = (z_, l_) := ⟨_, _, rfl⟩
  have hl2 : l2.length ≤ 100000 := by have h_ := lenQ_le l1; rw [hqq2] at h_; exact Nat.le_trans h_ (by omega)
  have hz2 : -9223372036854775808 ≤ z2 ∧ z2 < 9223372036854775808 := by have h_ := lenQ_in l1; rw [hqq2] at h_; exact h_
  rw [hqq2] at H hc2
  replace hc2 : RdC w0 l2 c2 := hc2
  replace H : St 31 w0 a W [(12, .int .i64 z2), (11, .pointer (some ⟨g, 0, none⟩)), (5, .pointer (some ⟨g2, 0, none⟩)), (4, .pointer (some ⟨g1, 0, none⟩)), (0, .pointer (some ⟨g, 0, none⟩)), (1, .int .i64 ((d + 1 : Nat) : Int))] ((g, 72, c2) :: (g2, 27, (DH.mk K false N SL.no [] SL.no SL.no).cs) :: (g1, 27, DH.no.cs) :: hh) := H
  refine rgO H gs0 (rS 1 rfl <| rK [1, 0, 0] [] [] <| rZ0 ?_)
  try clear H a W
  intro a W H
  refine hK3 _ _ ?_
  clear hK3
  refine wp_seq_k (fun K4 hK4 => ?_)
  refine sqR H gs0 fun Z_ z_ => rV rfl (does_fieldAddr rfl rfl fa_der0) <| rV rfl (does_loadAt (v := .int .i64 K) rfl rfl (k := 1) rfl ld_derK) <| rK [1, 0] [] [] <| rN0 z_ ?_
  try clear H a W
  intro a W H
  refine wp_block ?_
  refine wp_seq_k (fun K6 hK6 => ?_)
  refine sqR H gs0 fun Z_ z_ => rV rfl (does_binOp rfl rfl rfl (zd_eql_derkind (k := K) (m := 7) rfl _ _)) <| rS 1 rfl <| rK [1, 0] [] [] <| rN0 z_ ?_
  try clear H a W
  intro a W H
  cases hq1 : decide (K = 7) with
  | true =>
    rw [hq1] at H
    have hq1p := of_decide_eq_true hq1
    refine wp_cond_true (H.ev rfl) ?_
    refine wp_skip ?_
    refine hK6 _ _ ?_
    clear hK6
    refine wp_cond_true (H.ev rfl) ?_
    refine wp_seq_k (fun K8 hK8 => ?_)
    refine rgP H gs0 (rS 3 rfl <| rV rfl (does_binOp rfl rfl rfl (zd_sub_int (k := ((d + 1 : Nat) : Int)) (m := 1) (c := ((d : Nat) : Int)) (by omega) (by omega) _ _)) <| rI0 ?_)
    try clear H a W
    intro a W H
    refine pl_callE rfl ⟨_, Tryd.func30, by kernel_rfl⟩ rfl (fun K_ => hka w0 _ _ _ ([(g2, .ty 27, (DH.mk K false N SL.no [] SL.no SL.no).cs), (g1, .ty 27, DH.no.cs)] ++ hh) _ z2 (by omega) (by omega) hpg hc2 K_) rfl rfl rfl rfl H ?_
    try clear H a W
    rintro ⟨A3, cc3, xs3, t3, u3, c3⟩ a W hk3 H
    replace H := H.perm' ((List.perm_append_comm_assoc (t3 ++ u3) [(g2, .ty 27, (DH.mk K false N SL.no [] SL.no SL.no).cs), (g1, .ty 27, DH.no.cs)] hh).append_left ([(g, .ty 72, c3)] : Hep))
    replace H : St 31 w0 a W [(23, .slice A3 xs3.length cc3), (22, .int .i64 ((d : Nat) : Int)), (21, .int .i64 ((d + 1 : Nat) : Int)), (20, .int .i64 z2), (19, .pointer (some ⟨g, 0, none⟩)), (15, .bool true), (14, .int .i64 K), (6, .int .i64 z2), (5, .pointer (some ⟨g2, 0, none⟩)), (4, .pointer (some ⟨g1, 0, none⟩)), (0, .pointer (some ⟨g, 0, none⟩)), (1, .int .i64 ((d + 1 : Nat) : Int))] ((g, 72, c3) :: (g2, 27, (DH.mk K false N SL.no [] SL.no SL.no).cs) :: (g1, 27, DH.no.cs) :: ((t3 ++ u3) ++ hh)) := H
    obtain ⟨Ts3, l3, hqq3⟩ : ∃ T_ l_, kidsOfQ (readQ d) l2 z2 (decide (d = 0)) = (T_, l_) := ⟨_, _, rfl⟩
    obtain ⟨hod3, hkc3, hxl3, hc3⟩ := hk3
    rw [hqq3] at hkc3 hc3
    replace hxl3 : xs3.length ≤ 100000 := hxl3
    replace hkc3 : KC u3 xs3 Ts3 := hkc3
    replace hc3 : RdC w0 l3 c3 := hc3
    refine rgO H gs0 (rV rfl (does_fieldAddr rfl rfl fa_der6) <| rX [0, 1] (c := (DH.mk K false N SL.no [] SL.no (SL.mk A3 xs3.length cc3)).cs) ⟨rfl, rfl⟩ rfl rfl rfl (st_derS (u := (SL.mk A3 xs3.length cc3))) sv_derS <| rK [0, 0, 0, 0, 0, 0, 0, 0, 1, 1, 1, 1, 0] [] [] <| rZ0 ?_)
    try clear H a W
    intro a W H
    refine hK8 _ _ ?_
    clear hK8
    refine sqR H gs0 fun Z_ z_ => rV rfl (does_load rfl rfl (k := 1) rfl Tryd.underlying27 rfl (info_der (DH.mk K false N SL.no [] SL.no (SL.mk A3 xs3.length cc3)))) <| rW [0, 0, 1] ⟨rfl, rfl⟩ rfl rfl rfl (info_der (DH.mk K false N SL.no [] SL.no (SL.mk A3 xs3.length cc3))) (size_der DH.no (DH.mk K false N SL.no [] SL.no (SL.mk A3 xs3.length cc3))) (DH.mk K false N SL.no [] SL.no (SL.mk A3 xs3.length cc3)).one <| rK [0] [] [] <| rN0 z_ ?_
    try clear H a W
    intro a W H
    refine wp_ret ?_
    repeat (first | (with_reducible refine then_ret ?_) | (with_reducible refine blk_ret ?_))
    refine end_cell (p := 4) rfl rfl (k := 2) rfl Tryd.underlying27 rfl (info_der _) H (fun hb => ?_)
    refine ⟨((DH.mk K false N SL.no [] SL.no (SL.mk A3 xs3.length cc3)), (t3 ++ u3), c3), rfl, ⟨?_, ?_⟩, H.kn.sub (List.Sublist.cons_cons _ (List.Sublist.cons _ (List.Sublist.cons _ (List.Sublist.refl _))))⟩
    · rw [readQ_kids hqq1 hqq2 (by rw [hK]; unfold isKids; omega), hqq3, hK, hN]
      exact dc_K (by omega) (by omega) (by omega) hkc3.len hod3 hkc3.at_
    · rw [readQ_kids hqq1 hqq2 (by rw [hK]; unfold isKids; omega), hqq3]
      exact hc3
  | false =>
    rw [hq1] at H
    have hq1p := of_decide_eq_false hq1
    refine wp_cond_false (H.ev rfl) ?_
    refine sqR H gs0 fun Z_ z_ => rV rfl (does_binOp rfl rfl rfl (zd_eql_derkind (k := K) (m := 8) rfl _ _)) <| rK [1, 0] [] [] <| rS 1 rfl <| rK [1, 0] [] [] <| rN0 z_ ?_
    try clear H a W
    intro a W H
    cases hq2 : decide (K = 8) with
    | true =>
      rw [hq2] at H
      have hq2p := of_decide_eq_true hq2
      refine wp_cond_true (H.ev rfl) ?_
      refine wp_skip ?_
      refine hK6 _ _ ?_
      clear hK6
      refine wp_cond_true (H.ev rfl) ?_
      refine wp_seq_k (fun K11 hK11 => ?_)
      refine rgP H gs0 (rS 3 rfl <| rV rfl (does_binOp rfl rfl rfl (zd_sub_int (k := ((d + 1 : Nat) : Int)) (m := 1) (c := ((d : Nat) : Int)) (by omega) (by omega) _ _)) <| rI0 ?_)
      try clear H a W
      intro a W H
      refine pl_callE rfl ⟨_, Tryd.func30, by kernel_rfl⟩ rfl (fun K_ => hka w0 _ _ _ ([(g2, .ty 27, (DH.mk K false N SL.no [] SL.no SL.no).cs), (g1, .ty 27, DH.no.cs)] ++ hh) _ z2 (by omega) (by omega) hpg hc2 K_) rfl rfl rfl rfl H ?_
      try clear H a W
      rintro ⟨A4, cc4, xs4, t4, u4, c4⟩ a W hk4 H
      replace H := H.perm' ((List.perm_append_comm_assoc (t4 ++ u4) [(g2, .ty 27, (DH.mk K false N SL.no [] SL.no SL.no).cs), (g1, .ty 27, DH.no.cs)] hh).append_left ([(g, .ty 72, c4)] : Hep))
      replace H : St 31 w0 a W [(23, .slice A4 xs4.length cc4), (22, .int .i64 ((d : Nat) : Int)), (21, .int .i64 ((d + 1 : Nat) : Int)), (20, .int .i64 z2), (19, .pointer (some ⟨g, 0, none⟩)), (15, .bool true), (14, .int .i64 K), (6, .int .i64 z2), (5, .pointer (some ⟨g2, 0, none⟩)), (4, .pointer (some ⟨g1, 0, none⟩)), (0, .pointer (some ⟨g, 0, none⟩)), (1, .int .i64 ((d + 1 : Nat) : Int))] ((g, 72, c4) :: (g2, 27, (DH.mk K false N SL.no [] SL.no SL.no).cs) :: (g1, 27, DH.no.cs) :: ((t4 ++ u4) ++ hh)) := H
      obtain ⟨Ts4, l4, hqq4⟩ : ∃ T_ l_, kidsOfQ (readQ d) l2 z2 (decide (d = 0)) = (T_, l_) := ⟨_, _, rfl⟩
      obtain ⟨hod4, hkc4, hxl4, hc4⟩ := hk4
      rw [hqq4] at hkc4 hc4
      replace hxl4 : xs4.length ≤ 100000 := hxl4
      replace hkc4 : KC u4 xs4 Ts4 := hkc4
      replace hc4 : RdC w0 l4 c4 := hc4
      refine rgO H gs0 (rV rfl (does_fieldAddr rfl rfl fa_der6) <| rX [0, 1] (c := (DH.mk K false N SL.no [] SL.no (SL.mk A4 xs4.length cc4)).cs) ⟨rfl, rfl⟩ rfl rfl rfl (st_derS (u := (SL.mk A4 xs4.length cc4))) sv_derS <| rK [0, 0, 0, 0, 0, 0, 0, 0, 1, 1, 1, 1, 0] [] [] <| rZ0 ?_)
      try clear H a W
      intro a W H
      refine hK11 _ _ ?_
      clear hK11
      refine sqR H gs0 fun Z_ z_ => rV rfl (does_load rfl rfl (k := 1) rfl Tryd.underlying27 rfl (info_der (DH.mk K false N SL.no [] SL.no (SL.mk A4 xs4.length cc4)))) <| rW [0, 0, 1] ⟨rfl, rfl⟩ rfl rfl rfl (info_der (DH.mk K false N SL.no [] SL.no (SL.mk A4 xs4.length cc4))) (size_der DH.no (DH.mk K false N SL.no [] SL.no (SL.mk A4 xs4.length cc4))) (DH.mk K false N SL.no [] SL.no (SL.mk A4 xs4.length cc4)).one <| rK [0] [] [] <| rN0 z_ ?_
      try clear H a W
      intro a W H
      refine wp_ret ?_
      repeat (first | (with_reducible refine then_ret ?_) | (with_reducible refine blk_ret ?_))
      refine end_cell (p := 4) rfl rfl (k := 2) rfl Tryd.underlying27 rfl (info_der _) H (fun hb => ?_)
      refine ⟨((DH.mk K false N SL.no [] SL.no (SL.mk A4 xs4.length cc4)), (t4 ++ u4), c4), rfl, ⟨?_, ?_⟩, H.kn.sub (List.Sublist.cons_cons _ (List.Sublist.cons _ (List.Sublist.cons _ (List.Sublist.refl _))))⟩
      · rw [readQ_kids hqq1 hqq2 (by rw [hK]; unfold isKids; omega), hqq4, hK, hN]
        exact dc_K (by omega) (by omega) (by omega) hkc4.len hod4 hkc4.at_
      · rw [readQ_kids hqq1 hqq2 (by rw [hK]; unfold isKids; omega), hqq4]
        exact hc4
    | false =>
      rw [hq2] at H
      have hq2p := of_decide_eq_false hq2
      refine wp_cond_false (H.ev rfl) ?_
      refine rgP H gs0 (rV rfl (does_binOp rfl rfl rfl (zd_eql_derkind (k := K) (m := 9) rfl _ _)) <| rK [1, 0] [] [] <| rS 1 rfl <| rK [1, 0, 0] [] [] <| rZ0 ?_)
      try clear H a W
      intro a W H
      refine hK6 _ _ ?_
      clear hK6
      cases hq3 : decide (K = 9) with
      | true =>
        rw [hq3] at H
        have hq3p := of_decide_eq_true hq3
        refine wp_cond_true (H.ev rfl) ?_
        refine wp_seq_k (fun K13 hK13 => ?_)
        refine rgP H gs0 (rS 3 rfl <| rV rfl (does_binOp rfl rfl rfl (zd_sub_int (k := ((d + 1 : Nat) : Int)) (m := 1) (c := ((d : Nat) : Int)) (by omega) (by omega) _ _)) <| rI0 ?_)
        try clear H a W
        intro a W H
        refine pl_callE rfl ⟨_, Tryd.func30, by kernel_rfl⟩ rfl (fun K_ => hka w0 _ _ _ ([(g2, .ty 27, (DH.mk K false N SL.no [] SL.no SL.no).cs), (g1, .ty 27, DH.no.cs)] ++ hh) _ z2 (by omega) (by omega) hpg hc2 K_) rfl rfl rfl rfl H ?_
        try clear H a W
        rintro ⟨A5, cc5, xs5, t5, u5, c5⟩ a W hk5 H
        replace H := H.perm' ((List.perm_append_comm_assoc (t5 ++ u5) [(g2, .ty 27, (DH.mk K false N SL.no [] SL.no SL.no).cs), (g1, .ty 27, DH.no.cs)] hh).append_left ([(g, .ty 72, c5)] : Hep))
        replace H : St 31 w0 a W [(23, .slice A5 xs5.length cc5), (22, .int .i64 ((d : Nat) : Int)), (21, .int .i64 ((d + 1 : Nat) : Int)), (20, .int .i64 z2), (19, .pointer (some ⟨g, 0, none⟩)), (15, .bool true), (6, .int .i64 z2), (5, .pointer (some ⟨g2, 0, none⟩)), (4, .pointer (some ⟨g1, 0, none⟩)), (0, .pointer (some ⟨g, 0, none⟩)), (1, .int .i64 ((d + 1 : Nat) : Int))] ((g, 72, c5) :: (g2, 27, (DH.mk K false N SL.no [] SL.no SL.no).cs) :: (g1, 27, DH.no.cs) :: ((t5 ++ u5) ++ hh)) := H
        obtain ⟨Ts5, l5, hqq5⟩ : ∃ T_ l_, kidsOfQ (readQ d) l2 z2 (decide (d = 0)) = (T_, l_) := ⟨_, _, rfl⟩
        obtain ⟨hod5, hkc5, hxl5, hc5⟩ := hk5
        rw [hqq5] at hkc5 hc5
        replace hxl5 : xs5.length ≤ 100000 := hxl5
        replace hkc5 : KC u5 xs5 Ts5 := hkc5
        replace hc5 : RdC w0 l5 c5 := hc5
        refine rgO H gs0 (rV rfl (does_fieldAddr rfl rfl fa_der6) <| rX [0, 1] (c := (DH.mk K false N SL.no [] SL.no (SL.mk A5 xs5.length cc5)).cs) ⟨rfl, rfl⟩ rfl rfl rfl (st_derS (u := (SL.mk A5 xs5.length cc5))) sv_derS <| rK [0, 0, 0, 0, 0, 0, 0, 1, 1, 1, 1, 0] [] [] <| rZ0 ?_)
        try clear H a W
        intro a W H
        refine hK13 _ _ ?_
        clear hK13
        refine sqR H gs0 fun Z_ z_ => rV rfl (does_load rfl rfl (k := 1) rfl Tryd.underlying27 rfl (info_der (DH.mk K false N SL.no [] SL.no (SL.mk A5 xs5.length cc5)))) <| rW [0, 0, 1] ⟨rfl, rfl⟩ rfl rfl rfl (info_der (DH.mk K false N SL.no [] SL.no (SL.mk A5 xs5.length cc5))) (size_der DH.no (DH.mk K false N SL.no [] SL.no (SL.mk A5 xs5.length cc5))) (DH.mk K false N SL.no [] SL.no (SL.mk A5 xs5.length cc5)).one <| rK [0] [] [] <| rN0 z_ ?_
        try clear H a W
        intro a W H
        refine wp_ret ?_
        repeat (first | (with_reducible refine then_ret ?_) | (with_reducible refine blk_ret ?_))
        refine end_cell (p := 4) rfl rfl (k := 2) rfl Tryd.underlying27 rfl (info_der _) H (fun hb => ?_)
        refine ⟨((DH.mk K false N SL.no [] SL.no (SL.mk A5 xs5.length cc5)), (t5 ++ u5), c5), rfl, ⟨?_, ?_⟩, H.kn.sub (List.Sublist.cons_cons _ (List.Sublist.cons _ (List.Sublist.cons _ (List.Sublist.refl _))))⟩
        · rw [readQ_kids hqq1 hqq2 (by rw [hK]; unfold isKids; omega), hqq5, hK, hN]
          exact dc_K (by omega) (by omega) (by omega) hkc5.len hod5 hkc5.at_
        · rw [readQ_kids hqq1 hqq2 (by rw [hK]; unfold isKids; omega), hqq5]
          exact hc5
      | false =>
        rw [hq3] at H
        have hq3p := of_decide_eq_false hq3
        refine wp_cond_false (H.ev rfl) ?_
        refine wp_skip ?_
        refine blk_normal ?_
        refine hK4 _ _ ?_
        clear hK4
        refine wp_seq_k (fun K15 hK15 => ?_)
        refine d2L [.v 26 _ [], .v 27 _ [], .v 28 _ []] 0 (by kernel_rfl) (by kernel_rfl) H gs0 ⟨oV rfl (does_load rfl rfl (k := 1) rfl Tryd.underlying27 rfl (info_der (DH.mk K false N SL.no [] SL.no SL.no))), oS rfl rfl, oS rfl rfl, trivial⟩ (rI0 ?_) (rI0 ?_)
        · try clear H a W
          intro a W H
          replace H : St 31 w0 a W [(28, .int .i64 z2), (27, .pointer (some ⟨g, 0, none⟩)), (26, .agg ((DH.mk K false N SL.no [] SL.no SL.no).cs)), (15, .bool false), (6, .int .i64 z2), (5, .pointer (some ⟨g2, 0, none⟩)), (4, .pointer (some ⟨g1, 0, none⟩)), (0, .pointer (some ⟨g, 0, none⟩)), (1, .int .i64 ((d + 1 : Nat) : Int))] ((g, 72, c2) :: (g2, 27, (DH.mk K false N SL.no [] SL.no SL.no).cs) :: (g1, 27, DH.no.cs) :: hh) := H
          refine pl_callE rfl ⟨_, Tryd.func32, by kernel_rfl⟩ rfl (fun K_ => bytes_R (hh := ([(g2, .ty 27, (DH.mk K false N SL.no [] SL.no SL.no).cs), (g1, .ty 27, DH.no.cs)] ++ hh)) z2 w0 _ hc2 K_) rfl rfl rfl rfl H ?_
          try clear H a W
          rintro ⟨v6, c6⟩ a W ⟨hv6, hc6⟩ H
          replace H : St 31 w0 a W [(29, v6), (28, .int .i64 z2), (27, .pointer (some ⟨g, 0, none⟩)), (26, .agg ((DH.mk K false N SL.no [] SL.no SL.no).cs)), (15, .bool false), (6, .int .i64 z2), (5, .pointer (some ⟨g2, 0, none⟩)), (4, .pointer (some ⟨g1, 0, none⟩)), (0, .pointer (some ⟨g, 0, none⟩)), (1, .int .i64 ((d + 1 : Nat) : Int))] ((g, 72, c6) :: (g2, 27, (DH.mk K false N SL.no [] SL.no SL.no).cs) :: (g1, 27, DH.no.cs) :: hh) := H
          obtain ⟨b6, l6, hqq6⟩ : ∃ b_ l_, takeQ l2 z2 = (b_, l_) := ⟨_, _, rfl⟩
          have hbl6 : b6.length ≤ 100000 := by have h_ := (takeQ_le l2 z2).2; rw [hqq6] at h_; exact Nat.le_trans (Nat.le_trans (Nat.le_add_right _ _) h_) (by omega)
          rw [hqq6] at hv6 hc6
          replace hv6 : BF b6 v6 w0 := hv6
          replace hc6 : RdC w0 l6 c6 := hc6
          refine pl_callE rfl ⟨_, Tryd.func31, by kernel_rfl⟩ rfl (fun K_ => filled_K K N (by omega) (by omega) hv6 (by omega) K_) rfl rfl rfl rfl H ?_
          try clear H a W
          rintro ⟨x7, t7⟩ a W hdc7 H
          replace H := H.perm' (List.perm_append_comm_assoc t7 [(g, .ty 72, c6), (g2, .ty 27, (DH.mk K false N SL.no [] SL.no SL.no).cs), (g1, .ty 27, DH.no.cs)] hh)
          replace H : St 31 w0 a W [(30, .agg (x7.cs)), (29, v6), (28, .int .i64 z2), (27, .pointer (some ⟨g, 0, none⟩)), (26, .agg ((DH.mk K false N SL.no [] SL.no SL.no).cs)), (15, .bool false), (6, .int .i64 z2), (5, .pointer (some ⟨g2, 0, none⟩)), (4, .pointer (some ⟨g1, 0, none⟩)), (0, .pointer (some ⟨g, 0, none⟩)), (1, .int .i64 ((d + 1 : Nat) : Int))] ((g, 72, c6) :: (g2, 27, (DH.mk K false N SL.no [] SL.no SL.no).cs) :: (g1, 27, DH.no.cs) :: (t7 ++ hh)) := H
          refine rgO H gs0 (rW [0, 0, 1] ⟨rfl, rfl⟩ rfl rfl rfl (info_der x7) (size_der DH.no x7) x7.one <| rK [0, 0, 0, 0, 0, 0, 0, 0, 1, 0, 0] [] [] <| rZ0 ?_)
          try clear H a W
          intro a W H
          refine hK15 _ _ ?_
          clear hK15
          refine wp_ret ?_
          repeat (first | (with_reducible refine then_ret ?_) | (with_reducible refine blk_ret ?_))
          refine end_cell (p := 4) rfl rfl (k := 2) rfl Tryd.underlying27 rfl (info_der _) H (fun hb => ?_)
          refine ⟨(x7, t7, c6), rfl, ⟨?_, ?_⟩, H.kn.sub (List.Sublist.cons_cons _ (List.Sublist.cons _ (List.Sublist.cons _ (List.Sublist.refl _))))⟩
          · rw [readQ_fill hqq1 hqq2 (by rw [hK]; unfold isKids; omega), hqq6, hK, hN]
            exact hdc7
          · rw [readQ_fill hqq1 hqq2 (by rw [hK]; unfold isKids; omega), hqq6]
            exact hc6
        · try clear H a W
          intro a W H
          replace H : St 31 w0 a W [(28, .int .i64 z2), (27, .pointer (some ⟨g, 0, none⟩)), (15, .bool false), (6, .int .i64 z2), (5, .pointer (some ⟨g2, 0, none⟩)), (4, .pointer (some ⟨g1, 0, none⟩)), (0, .pointer (some ⟨g, 0, none⟩)), (1, .int .i64 ((d + 1 : Nat) : Int))] ((g, 72, c2) :: (g2, 27, (DH.mk K false N SL.no [] SL.no SL.no).cs) :: (g1, 27, DH.no.cs) :: hh) := H
          refine pl_callE rfl ⟨_, Tryd.func32, by kernel_rfl⟩ rfl (fun K_ => bytes_R (hh := ([(g2, .ty 27, (DH.mk K false N SL.no [] SL.no SL.no).cs), (g1, .ty 27, DH.no.cs)] ++ hh)) z2 w0 _ hc2 K_) rfl rfl rfl rfl H ?_
          try clear H a W
          rintro ⟨v8, c8⟩ a W ⟨hv8, hc8⟩ H
          replace H : St 31 w0 a W [(29, v8), (28, .int .i64 z2), (27, .pointer (some ⟨g, 0, none⟩)), (15, .bool false), (6, .int .i64 z2), (5, .pointer (some ⟨g2, 0, none⟩)), (4, .pointer (some ⟨g1, 0, none⟩)), (0, .pointer (some ⟨g, 0, none⟩)), (1, .int .i64 ((d + 1 : Nat) : Int))] ((g, 72, c8) :: (g2, 27, (DH.mk K false N SL.no [] SL.no SL.no).cs) :: (g1, 27, DH.no.cs) :: hh) := H
          obtain ⟨b8, l8, hqq8⟩ : ∃ b_ l_, takeQ l2 z2 = (b_, l_) := ⟨_, _, rfl⟩
          have hbl8 : b8.length ≤ 100000 := by have h_ := (takeQ_le l2 z2).2; rw [hqq8] at h_; exact Nat.le_trans (Nat.le_trans (Nat.le_add_right _ _) h_) (by omega)
          rw [hqq8] at hv8 hc8
          replace hv8 : BF b8 v8 w0 := hv8
          replace hc8 : RdC w0 l8 c8 := hc8
          refine rgO H gs0 (rV rfl (does_load rfl rfl (k := 1) rfl Tryd.underlying27 rfl (info_der (DH.mk K false N SL.no [] SL.no SL.no))) <| rI0 ?_)
          try clear H a W
          intro a W H
          refine pl_callE rfl ⟨_, Tryd.func31, by kernel_rfl⟩ rfl (fun K_ => filled_K K N (by omega) (by omega) hv8 (by omega) K_) rfl rfl rfl rfl H ?_
          try clear H a W
          rintro ⟨x9, t9⟩ a W hdc9 H
          replace H := H.perm' (List.perm_append_comm_assoc t9 [(g, .ty 72, c8), (g2, .ty 27, (DH.mk K false N SL.no [] SL.no SL.no).cs), (g1, .ty 27, DH.no.cs)] hh)
          replace H : St 31 w0 a W [(30, .agg (x9.cs)), (26, .agg ((DH.mk K false N SL.no [] SL.no SL.no).cs)), (29, v8), (28, .int .i64 z2), (27, .pointer (some ⟨g, 0, none⟩)), (15, .bool false), (6, .int .i64 z2), (5, .pointer (some ⟨g2, 0, none⟩)), (4, .pointer (some ⟨g1, 0, none⟩)), (0, .pointer (some ⟨g, 0, none⟩)), (1, .int .i64 ((d + 1 : Nat) : Int))] ((g, 72, c8) :: (g2, 27, (DH.mk K false N SL.no [] SL.no SL.no).cs) :: (g1, 27, DH.no.cs) :: (t9 ++ hh)) := H
          refine rgO H gs0 (rW [0, 0, 1] ⟨rfl, rfl⟩ rfl rfl rfl (info_der x9) (size_der DH.no x9) x9.one <| rK [0, 0, 0, 0, 0, 0, 0, 0, 1, 0, 0] [] [] <| rZ0 ?_)
          try clear H a W
          intro a W H
          refine hK15 _ _ ?_
          clear hK15
          refine wp_ret ?_
          repeat (first | (with_reducible refine then_ret ?_) | (with_reducible refine blk_ret ?_))
          refine end_cell (p := 4) rfl rfl (k := 2) rfl Tryd.underlying27 rfl (info_der _) H (fun hb => ?_)
          refine ⟨(x9, t9, c8), rfl, ⟨?_, ?_⟩, H.kn.sub (List.Sublist.cons_cons _ (List.Sublist.cons _ (List.Sublist.cons _ (List.Sublist.refl _))))⟩
          · rw [readQ_fill hqq1 hqq2 (by rw [hK]; unfold isKids; omega), hqq8, hK, hN]
            exact hdc9
          · rw [readQ_fill hqq1 hqq2 (by rw [hK]; unfold isKids; omega), hqq8]
            exact hc8
theorem kdA_rdA : ∀ d, d ≤ 100 → KdA d ∧ RdA d
  | 0, _ => by
    have hk : KdA 0 := fun w0 w g c hh l n hl hn hpg hr K => kids_zero n hl hn w0 w hpg hr K
    exact ⟨hk, fun w0 w g c hh l hl hpg hr K => read_step13 hl 0 (by omega) hk w0 w hpg hr K⟩
  | d + 1, hd => by
    have hk : KdA (d + 1) := fun w0 w g c hh l n hl hn hpg hr K => kids_step n hl hn d (by omega) (kdA_rdA d (by omega)).2 w0 w hpg hr K
    exact ⟨hk, fun w0 w g c hh l hl hpg hr K => read_step13 hl (d + 1) hd hk w0 w hpg hr K⟩
end Go.Proofs.YtonhkclkddobhaaDoor
namespace Go.Proofs.YtonhkclkddobhaaDoor
set_option linter.unusedVariables false
set_option linter.unusedSimpArgs false
set_option maxRecDepth 100000
open Go Go.RowKit
/-- Nothing but its kind is there. -/
def sameZ (f : Bool) (n : Int) (t lb : List UInt8) (na nk : Nat) : Bool := !f && decide (n = 0) && decide (t = []) && decide (lb = []) && decide (na = 0) && decide (nk = 0)
def plainE (k : Int) (f : Bool) (n : Int) (t lb : List UInt8) (na nk : Nat) : Bool := decide (1 ≤ k ∧ k ≤ 10) && (decide (k = 1) || !f) && (decide (k = 2 ∨ k = 8) || decide (n = 0)) && (decide (k = 6 ∨ k = 10) || decide (t = [])) && (decide (k = 3 ∨ k = 4) || decide (lb = [])) && (decide (k = 5) || decide (na = 0)) && (decide (k = 7 ∨ k = 8 ∨ k = 9) || decide (nk = 0))
theorem own_plain (u8 : List UInt8 → Bool) {k n : Int} {f : Bool} {lb t : List UInt8} {la : List Nat} {ks : List DT} (hn : -9223372036854775808 ≤ n ∧ n < 9223372036854775808) : ownD u8 (.mk k f n lb t la ks) = (plainE k f n t lb la.length ks.length && (if k = 5 then arcsOk la else if k = 6 then u8 t else if k = 10 then timeOk t else if k = 8 then decide (0 ≤ n ∧ n ≤ 30) && decide (ks.length = 1) else if k = 9 then decide (ks.length = 1) else true)) := by
  have e0 : ∀ {α : Type} (l : List α), l.isEmpty = decide (l.length = 0) := fun l => by cases l <;> simp
  have e1 : ∀ l : List UInt8, l.isEmpty = decide (l = []) := fun l => by cases l <;> simp
  have e8 : (decide (n = 0) || (decide (0 ≤ n) && decide (n ≤ 30))) = decide (0 ≤ n ∧ n ≤ 30) := by
    rw [Bool.eq_iff_iff]
    simp only [Bool.or_eq_true, Bool.and_eq_true, decide_eq_true_eq]
    omega
  unfold ownD plainE
  dsimp only
  rw [decide_eq_true hn.1, decide_eq_true hn.2, e0 la, e1 t, e1 lb, e0 ks]
  rw [← e8]
  have hc : k = 1 ∨ k = 2 ∨ k = 3 ∨ k = 4 ∨ k = 5 ∨ k = 6 ∨ k = 7 ∨ k = 8 ∨ k = 9 ∨ k = 10 ∨ ¬ (1 ≤ k ∧ k ≤ 10) := by omega
  generalize decide (n = 0) = b1, decide (t = []) = b2, decide (lb = []) = b3, decide (la.length = 0) = b4, decide (ks.length = 0) = b5, arcsOk la = b6, u8 t = b7, timeOk t = b8, decide (ks.length = 1) = b9, decide (0 ≤ n) = b10, decide (n ≤ 30) = b11
  rcases hc with rfl | rfl | rfl | rfl | rfl | rfl | rfl | rfl | rfl | rfl | h
  · first | (simp; done) | (simp; cases f <;> cases b1 <;> cases b2 <;> cases b3 <;> cases b4 <;> cases b5 <;> rfl)
  · first | (simp; done) | (simp; cases f <;> cases b1 <;> cases b2 <;> cases b3 <;> cases b4 <;> cases b5 <;> rfl)
  · first | (simp; done) | (simp; cases f <;> cases b1 <;> cases b2 <;> cases b3 <;> cases b4 <;> cases b5 <;> rfl)
  · first | (simp; done) | (simp; cases f <;> cases b1 <;> cases b2 <;> cases b3 <;> cases b4 <;> cases b5 <;> rfl)
  · first | (simp; done) | (simp; cases f <;> cases b1 <;> cases b2 <;> cases b3 <;> cases b4 <;> cases b5 <;> cases b6 <;> rfl)
  · first | (simp; done) | (simp; cases f <;> cases b1 <;> cases b2 <;> cases b3 <;> cases b4 <;> cases b5 <;> cases b7 <;> rfl)
  · first | (simp; done) | (simp; cases f <;> cases b1 <;> cases b2 <;> cases b3 <;> cases b4 <;> cases b5 <;> rfl)
  · first | (simp; done) | (simp; cases f <;> cases b1 <;> cases b2 <;> cases b3 <;> cases b4 <;> cases b9 <;> cases b10 <;> cases b11 <;> rfl)
  · first | (simp; done) | (simp; cases f <;> cases b1 <;> cases b2 <;> cases b3 <;> cases b4 <;> cases b9 <;> rfl)
  · first | (simp; done) | (simp; cases f <;> cases b1 <;> cases b2 <;> cases b3 <;> cases b4 <;> cases b5 <;> cases b8 <;> rfl)
  · have h1 : (decide (1 ≤ k) && decide (k ≤ 10)) = false := by
      rw [← Bool.decide_and]
      exact decide_eq_false h
    rw [h1, decide_eq_false h]
    rfl
theorem plain_is {k n : Int} {f : Bool} {t lb : List UInt8} {na nk : Nat} :
    (k = 1 → sameZ false n t lb na nk = plainE k f n t lb na nk) ∧ (k = 2 → sameZ f 0 t lb na nk = plainE k f n t lb na nk) ∧ (k = 3 ∨ k = 4 → sameZ f n t [] na nk = plainE k f n t lb na nk) ∧ (k = 5 → sameZ f n t lb 0 nk = plainE k f n t lb na nk) ∧ (k = 6 ∨ k = 10 → sameZ f n [] lb na nk = plainE k f n t lb na nk) ∧ (k = 8 → sameZ f 0 t lb na 0 = plainE k f n t lb na nk) ∧ (k = 7 ∨ k = 9 → sameZ f n t lb na 0 = plainE k f n t lb na nk) := by
  unfold sameZ plainE
  generalize decide (n = 0) = b1, decide (t = []) = b2, decide (lb = []) = b3, decide (na = 0) = b4, decide (nk = 0) = b5
  refine ⟨?_, ?_, ?_, ?_, ?_, ?_, ?_⟩
  · rintro rfl
    first | (simp; done) | (simp; cases f <;> cases b1 <;> cases b2 <;> cases b3 <;> cases b4 <;> cases b5 <;> rfl)
  · rintro rfl
    first | (simp; done) | (simp; cases f <;> cases b1 <;> cases b2 <;> cases b3 <;> cases b4 <;> cases b5 <;> rfl)
  · rintro (rfl | rfl)
    all_goals first | (simp; done) | (simp; cases f <;> cases b1 <;> cases b2 <;> cases b3 <;> cases b4 <;> cases b5 <;> rfl)
  · rintro rfl
    first | (simp; done) | (simp; cases f <;> cases b1 <;> cases b2 <;> cases b3 <;> cases b4 <;> cases b5 <;> rfl)
  · rintro (rfl | rfl)
    all_goals first | (simp; done) | (simp; cases f <;> cases b1 <;> cases b2 <;> cases b3 <;> cases b4 <;> cases b5 <;> rfl)
  · rintro rfl
    first | (simp; done) | (simp; cases f <;> cases b1 <;> cases b2 <;> cases b3 <;> cases b4 <;> cases b5 <;> rfl)
  · rintro (rfl | rfl)
    all_goals first | (simp; done) | (simp; cases f <;> cases b1 <;> cases b2 <;> cases b3 <;> cases b4 <;> cases b5 <;> rfl)
def maxN : List Nat → Nat
  | [] => 0
  | x :: r => max x (maxN r)
theorem maxN_0 (x : Nat) : max (maxN []) x = x := Nat.zero_max x
theorem maxN_app (l : List Nat) (x : Nat) : maxN (l ++ [x]) = max (maxN l) x := by
  induction l with
  | nil => show max x 0 = max 0 x; omega
  | cons y r ih => show max y (maxN (r ++ [x])) = max (max y (maxN r)) x; rw [ih]; omega
theorem maxN_le (l : List Nat) (m : Nat) : maxN l ≤ m ↔ ∀ x ∈ l, x ≤ m := by
  induction l with
  | nil => simp [maxN]
  | cons y r ih =>
    have e : maxN (y :: r) = max y (maxN r) := rfl
    rw [e, List.forall_mem_cons, ← ih]
    omega
theorem max_take {l : List Nat} {k : Nat} (h : k < l.length) : maxN (l.take (k + 1)) = max (maxN (l.take k)) (l.getD k 0) := by
  rw [List.take_add_one, List.getElem?_eq_getElem h, Option.toList_some, maxN_app, List.getD_eq_getElem?_getD, List.getElem?_eq_getElem h]
  rfl
theorem arcs_max {l : List Nat} : arcsOk l = (decide (2 ≤ l.length) && decide (l.length ≤ 16) && decide (maxN l ≤ 2147483647) && (decide (l.getD 0 0 ≤ 2) && (decide (l.getD 0 0 = 2) || decide (l.getD 1 0 < 40)))) := by
  have e : l.all (fun x => decide (x < 2147483648)) = decide (maxN l ≤ 2147483647) := by
    rw [Bool.eq_iff_iff]
    simp only [List.all_eq_true, decide_eq_true_eq, maxN_le]
    exact ⟨fun h x hx => by have := h x hx; omega, fun h x hx => by have := h x hx; omega⟩
  unfold arcsOk
  rw [e]
  cases decide (2 ≤ l.length) <;> cases decide (l.length ≤ 16) <;> cases decide (maxN l ≤ 2147483647) <;> cases decide (l.getD 0 0 ≤ 2) <;> cases (decide (l.getD 0 0 = 2) || decide (l.getD 1 0 < 40)) <;> rfl
theorem does_maxU {P : Program} {n : Nat} {w0 : World} {e : Env} {h : Hep} {Q : Exit → Act → World → Prop} {o : Oper} {x y : Operand} {k m : Nat} {tys : Array TypeId} (ho : o.op = .call { callee := .builtin .max, args := #[x, y], argTypes := tys }) (hx : sev e x = some (.int .u64 (k : Int))) (hy : sev e y = some (.int .u64 (m : Int))) : Does P Q n w0 e h o (.int .u64 ((max k m : Nat) : Int)) := does_run fun a w H => by
  have e2 : (if k < m then (m : Int) else (k : Int)) = ((max k m : Nat) : Int) := by split <;> omega
  simp [execOp, ho, resolve, invoke, builtin, H.ev hx, H.ev hy, Builtin.max_, Builtin.max2, Result.andThen, e2]
theorem bd_eqlF {f b : Bool} (h : (!f) = b) (p q : Operand) (W : World) : (do eqGuard .eql 4 p q (.bool f) (.bool false); binOp .eql 4 (.bool f) (.bool false) : Sem Value).run Tryd.prog W = .ok (.bool b) W := by
  subst h
  cases f <;> kernel_rfl
theorem bd_neq8 {x y : Nat} {b : Bool} (h : decide (x ≠ y) = b) (p q : Operand) (W : World) : (do eqGuard .neq 5 p q (.int .u8 (x : Int)) (.int .u8 (y : Int)); binOp .neq 5 (.int .u8 (x : Int)) (.int .u8 (y : Int)) : Sem Value).run Tryd.prog W = .ok (.bool b) W := by
  have e : (!decide ((x : Int) = (y : Int))) = b := by
    rw [← h, ← decide_not]
    exact decide_eq_decide.2 (by omega)
  go_simp
  exact e
theorem ud_gtrU {x y : Nat} {b : Bool} (h : decide (y < x) = b) (p q : Operand) (W : World) : (do eqGuard .gtr 36 p q (.int .u64 (x : Int)) (.int .u64 (y : Int)); binOp .gtr 36 (.int .u64 (x : Int)) (.int .u64 (y : Int)) : Sem Value).run Tryd.prog W = .ok (.bool b) W := by
  have e : decide ((y : Int) < (x : Int)) = b := by
    rw [← h]
    exact decide_eq_decide.2 (by omega)
  go_simp
  try exact e
theorem ud_leqU {x y : Nat} {b : Bool} (h : decide (x ≤ y) = b) (p q : Operand) (W : World) : (do eqGuard .leq 36 p q (.int .u64 (x : Int)) (.int .u64 (y : Int)); binOp .leq 36 (.int .u64 (x : Int)) (.int .u64 (y : Int)) : Sem Value).run Tryd.prog W = .ok (.bool b) W := by
  have e : decide ((x : Int) ≤ (y : Int)) = b := by
    rw [← h]
    exact decide_eq_decide.2 (by omega)
  go_simp
  try exact e
theorem ud_lssU {x y : Nat} {b : Bool} (h : decide (x < y) = b) (p q : Operand) (W : World) : (do eqGuard .lss 36 p q (.int .u64 (x : Int)) (.int .u64 (y : Int)); binOp .lss 36 (.int .u64 (x : Int)) (.int .u64 (y : Int)) : Sem Value).run Tryd.prog W = .ok (.bool b) W := by
  have e : decide ((x : Int) < (y : Int)) = b := by
    rw [← h]
    exact decide_eq_decide.2 (by omega)
  go_simp
  try exact e
theorem ud_eqlU {x y : Nat} {b : Bool} (h : decide (x = y) = b) (p q : Operand) (W : World) : (do eqGuard .eql 36 p q (.int .u64 (x : Int)) (.int .u64 (y : Int)); binOp .eql 36 (.int .u64 (x : Int)) (.int .u64 (y : Int)) : Sem Value).run Tryd.prog W = .ok (.bool b) W := by
  have e : decide ((x : Int) = (y : Int)) = b := by
    rw [← h]
    exact decide_eq_decide.2 (by omega)
  go_simp
  try exact e
theorem i_cmp {x y : Int} {b : Bool} :
    (decide (x < y) = b → ∀ (p q : Operand) (W : World), (do eqGuard .lss 2 p q (.int .i64 x) (.int .i64 y); binOp .lss 2 (.int .i64 x) (.int .i64 y) : Sem Value).run Tryd.prog W = .ok (.bool b) W)
    ∧ (decide (y < x) = b → ∀ (p q : Operand) (W : World), (do eqGuard .gtr 2 p q (.int .i64 x) (.int .i64 y); binOp .gtr 2 (.int .i64 x) (.int .i64 y) : Sem Value).run Tryd.prog W = .ok (.bool b) W)
    ∧ (decide (x = y) = b → ∀ (p q : Operand) (W : World), (do eqGuard .eql 2 p q (.int .i64 x) (.int .i64 y); binOp .eql 2 (.int .i64 x) (.int .i64 y) : Sem Value).run Tryd.prog W = .ok (.bool b) W) := by
  refine ⟨fun h p q W => ?_, fun h p q W => ?_, fun h p q W => ?_⟩
  · go_simp
    try exact h
  · go_simp
    try exact h
  · go_simp
    try exact h
theorem z_cmp {x y : Int} {b : Bool} :
    (decide (x < y) = b → ∀ (p q : Operand) (W : World), (do eqGuard .lss 3 p q (.int .i64 x) (.int .i64 y); binOp .lss 3 (.int .i64 x) (.int .i64 y) : Sem Value).run Tryd.prog W = .ok (.bool b) W)
    ∧ (decide (y < x) = b → ∀ (p q : Operand) (W : World), (do eqGuard .gtr 3 p q (.int .i64 x) (.int .i64 y); binOp .gtr 3 (.int .i64 x) (.int .i64 y) : Sem Value).run Tryd.prog W = .ok (.bool b) W)
    ∧ (decide (x = y) = b → ∀ (p q : Operand) (W : World), (do eqGuard .eql 3 p q (.int .i64 x) (.int .i64 y); binOp .eql 3 (.int .i64 x) (.int .i64 y) : Sem Value).run Tryd.prog W = .ok (.bool b) W)
    ∧ (decide (x ≠ y) = b → ∀ (p q : Operand) (W : World), (do eqGuard .neq 3 p q (.int .i64 x) (.int .i64 y); binOp .neq 3 (.int .i64 x) (.int .i64 y) : Sem Value).run Tryd.prog W = .ok (.bool b) W) := by
  refine ⟨fun h p q W => ?_, fun h p q W => ?_, fun h p q W => ?_, fun h p q W => ?_⟩
  · go_simp
    try exact h
  · go_simp
    try exact h
  · go_simp
    try exact h
  · have h2 : (!decide (x = y)) = b := by rw [← h, decide_not]
    go_simp
    try exact h2
theorem r_cmp {x y : Int} {b : Bool} :
    (decide (x < y) = b → ∀ (p q : Operand) (W : World), (do eqGuard .lss 21 p q (.int .i32 x) (.int .i32 y); binOp .lss 21 (.int .i32 x) (.int .i32 y) : Sem Value).run Tryd.prog W = .ok (.bool b) W)
    ∧ (decide (y < x) = b → ∀ (p q : Operand) (W : World), (do eqGuard .gtr 21 p q (.int .i32 x) (.int .i32 y); binOp .gtr 21 (.int .i32 x) (.int .i32 y) : Sem Value).run Tryd.prog W = .ok (.bool b) W) := by
  refine ⟨fun h p q W => ?_, fun h p q W => ?_⟩
  · go_simp
    try exact h
  · go_simp
    try exact h
theorem kd_eql {x y : Int} {b : Bool} (h : decide (x = y) = b) (p q : Operand) (W : World) : (do eqGuard .eql 22 p q (.int .i64 x) (.int .i64 y); binOp .eql 22 (.int .i64 x) (.int .i64 y) : Sem Value).run Tryd.prog W = .ok (.bool b) W := by
  go_simp
  try exact h
attribute [local irreducible] bvs byteD rb sameZ plainE maxN arcsOk timeOk
set_option maxHeartbeats 4000000 in
theorem equalU_nil {Aa : Option Addr} {na ca : Nat} (w : World) : Calls Tryd.prog 53 #[.slice Aa na ca, .slice none 0 0] w (fun rr w' => rr = .returned (.bool (decide (na = 0))) ∧ Below w.heap.size w w') := by
  refine calls_st (vs := [.slice Aa na ca, .slice none 0 0]) 26 Tryd.func53 rfl Tryd.ntmps53 rfl (fun a W H => ?_)
  replace H : St 26 w a W [(0, .slice Aa na ca), (1, .slice none 0 0)] [] := H
  refine sqR H gs0 fun Z_ z_ => rS 1 rfl <| rN0 z_ ?_
  try clear H a W
  intro a W H
  refine wp_seq_k (fun K2 hK2 => ?_)
  refine sqR H gs0 fun Z_ z_ => rS 1 rfl <| rV rfl (does_len Tryd.underlying24 rfl rfl) <| rS 1 rfl <| rV rfl (does_len Tryd.underlying24 rfl rfl) <| rV rfl (does_binOp rfl rfl rfl (z_cmp.2.2.2 rfl _ _)) <| rK [1, 0, 0, 0, 0] [] [] <| rN0 z_ ?_
  try clear H a W
  intro a W H
  cases hq1 : decide (((na : Nat) : Int) ≠ ((0 : Nat) : Int)) with
  | true =>
    rw [hq1] at H
    have hq1p := of_decide_eq_true hq1
    refine wp_cond_true (H.ev rfl) ?_
    refine sqR H gs0 fun Z_ z_ => rK [1, 0] [] [] <| rS 1 rfl <| rK [1, 0] [] [] <| rN0 z_ ?_
    try clear H a W
    intro a W H
    refine wp_ret ?_
    repeat (first | (with_reducible refine then_ret ?_) | (with_reducible refine blk_ret ?_))
    refine end_tmp (p := 4) rfl rfl H (fun hb => ?_)
    exact ⟨by first | rw [decide_eq_true (p := na = 0) (by omega)] | rw [decide_eq_false (p := na = 0) (by omega)], hb⟩
  | false =>
    rw [hq1] at H
    have hq1p := of_decide_eq_false hq1
    refine wp_cond_false (H.ev rfl) ?_
    refine wp_skip ?_
    refine hK2 _ _ ?_
    clear hK2
    refine wp_seq_k (fun K5 hK5 => ?_)
    refine sqR H gs0 fun Z_ z_ => rS 1 rfl <| rV rfl (does_len Tryd.underlying24 rfl rfl) <| rS 1 rfl <| rK [1, 1, 0, 0] [] [] <| rN0 z_ ?_
    try clear H a W
    intro a W H
    refine wp_block ?_
    refine wp_rounds 0 (fun k a W => St 26 w a W [(13, .int .i64 0), (12, .int .i64 ((na : Nat) : Int)), (4, .bool false), (0, .slice Aa na ca), (1, .slice none 0 0)] []) (k0 := 0) H (by omega) ?_
    try clear H a W
    intro k a W hk H
    refine sqR H gs0 fun Z_ z_ => rV rfl (does_binOp rfl rfl rfl (z_cmp.1 (decide_eq_false (by omega)) _ _)) <| rK [1, 1, 0] [] [] <| rN0 z_ ?_
    try clear H a W
    intro a W H
    refine wp_seq_k (fun K8 hK8 => ?_)
    refine wp_cond_false (H.ev rfl) ?_
    refine wp_exit ?_
    repeat (first | (with_reducible refine then_exit ?_) | (with_reducible refine blk_pass (by decide) ?_))
    refine blk_exit ?_
    refine hK5 _ _ ?_
    clear hK5
    refine sqR H gs0 fun Z_ z_ => rK [1, 1, 0] [] [] <| rS 1 rfl <| rK [1, 0, 0, 0, 0] [] [] <| rN0 z_ ?_
    try clear H a W
    intro a W H
    refine wp_ret ?_
    repeat (first | (with_reducible refine then_ret ?_) | (with_reducible refine blk_ret ?_))
    refine end_tmp (p := 4) rfl rfl H (fun hb => ?_)
    exact ⟨by first | rw [decide_eq_true (p := na = 0) (by omega)] | rw [decide_eq_false (p := na = 0) (by omega)], hb⟩
set_option maxHeartbeats 4000000 in
theorem same_zero {k n : Int} {f : Bool} {t lb : List UInt8} {Ab Aa Ak : Option Addr} {nb cb na ca nk ck : Nat} (w : World) (hFb : BF lb (.slice Ab nb cb) w) : Calls Tryd.prog 50 #[.agg ((DH.mk k f n (SL.mk Ab nb cb) t (SL.mk Aa na ca) (SL.mk Ak nk ck)).cs), .agg ((DH.mk k false 0 SL.no [] SL.no SL.no).cs)] w (fun rr w' => rr = .returned (.bool (sameZ f n t lb na nk)) ∧ Below w.heap.size w w') := by
  refine calls_st (vs := [.agg ((DH.mk k f n (SL.mk Ab nb cb) t (SL.mk Aa na ca) (SL.mk Ak nk ck)).cs), .agg ((DH.mk k false 0 SL.no [] SL.no SL.no).cs)]) 54 Tryd.func50 rfl Tryd.ntmps50 rfl (fun a W H => ?_)
  replace H : St 54 w a W [(0, .agg ((DH.mk k f n (SL.mk Ab nb cb) t (SL.mk Aa na ca) (SL.mk Ak nk ck)).cs)), (1, .agg ((DH.mk k false 0 SL.no [] SL.no SL.no).cs))] [] := H
  refine sqR H gs0 fun Z_ z_ => rB rfl rfl rfl (bx_der (DH.mk k f n (SL.mk Ab nb cb) t (SL.mk Aa na ca) (SL.mk Ak nk ck))) fun g1 => rB rfl rfl rfl (bx_der (DH.mk k false 0 SL.no [] SL.no SL.no)) fun g2 => rS 1 rfl <| rK [1, 1, 1, 0, 0] [] [] <| rN0 z_ ?_
  try clear H a W
  intro a W H
  refine wp_seq_k (fun K2 hK2 => ?_)
  cases hq1 : !f with
  | true =>
    cases hq2 : decide (n = 0) with
    | true =>
      have hq2p := of_decide_eq_true hq2
      cases hq3 : decide (t = []) with
      | true =>
        have hq3p := of_decide_eq_true hq3
        cases hq4 : decide (lb = []) with
        | true =>
          have hq4p := of_decide_eq_true hq4
          cases hq5 : decide (na = 0) with
          | true =>
            have hq5p := of_decide_eq_true hq5
            refine rgP H gs0 (rV rfl (does_fieldAddr rfl rfl fa_der0) <| rV rfl (does_loadAt (v := .int .i64 k) rfl rfl (k := 1) rfl ld_derK) <| rV rfl (does_fieldAddr rfl rfl fa_der0) <| rV rfl (does_loadAt (v := .int .i64 k) rfl rfl (k := 0) rfl ld_derK) <| rV rfl (does_binOp rfl rfl rfl (kd_eql (decide_eq_true rfl) _ _)) <| rS 1 rfl <| rV rfl (does_fieldAddr rfl rfl fa_der1) <| rV rfl (does_loadAt (v := .bool f) rfl rfl (k := 1) rfl (ld_derFb rfl)) <| rV rfl (does_fieldAddr rfl rfl fa_der1) <| rV rfl (does_loadAt (v := .bool false) rfl rfl (k := 0) rfl (ld_derFb rfl)) <| rV rfl (does_binOp rfl rfl rfl (bd_eqlF hq1 _ _)) <| rS 2 rfl <| rV rfl (does_fieldAddr rfl rfl fa_der2) <| rV rfl (does_loadAt (v := .int .i64 n) rfl rfl (k := 1) rfl ld_derN) <| rV rfl (does_fieldAddr rfl rfl fa_der2) <| rV rfl (does_loadAt (v := .int .i64 0) rfl rfl (k := 0) rfl ld_derN) <| rV rfl (does_binOp rfl rfl rfl (i_cmp.2.2 hq2 _ _)) <| rS 2 rfl <| rV rfl (does_fieldAddr rfl rfl fa_der4) <| rV rfl (does_loadAt (v := .string (strB t)) rfl rfl (k := 1) rfl ld_derT) <| rV rfl (does_fieldAddr rfl rfl fa_der4) <| rV rfl (does_loadAt (v := .string (strB [])) rfl rfl (k := 0) rfl ld_derT) <| rV rfl (does_binOp rfl rfl rfl (sd_eql (l := t) (m := []) hq3 _ _)) <| rS 2 rfl <| rV rfl (does_fieldAddr rfl rfl fa_der3) <| rV rfl (does_loadAt (v := .slice Ab nb cb) rfl rfl (k := 1) rfl ld_derB) <| rV rfl (does_fieldAddr rfl rfl fa_der3) <| rV rfl (does_loadAt (v := .slice none 0 0) rfl rfl (k := 0) rfl ld_derB) <| rCV rfl rfl ⟨_, Tryd.func17, by kernel_rfl⟩ rfl (fun a W H _ => (by have h_ := equalB_any (bf_old hFb H) (BF.nil _); rw [hq4] at h_; exact h_)) <| rS 2 rfl <| rV rfl (does_fieldAddr rfl rfl fa_der5) <| rV rfl (does_loadAt (v := .slice Aa na ca) rfl rfl (k := 1) rfl ld_derA) <| rV rfl (does_fieldAddr rfl rfl fa_der5) <| rV rfl (does_loadAt (v := .slice none 0 0) rfl rfl (k := 0) rfl ld_derA) <| rCV rfl rfl ⟨_, Tryd.func53, by kernel_rfl⟩ rfl (fun a W H _ => (by have h_ := equalU_nil (Aa := Aa) (na := na) (ca := ca) W; rw [hq5] at h_; exact h_)) <| rS 2 rfl <| rV rfl (does_fieldAddr rfl rfl fa_der6) <| rV rfl (does_loadAt (v := .slice Ak nk ck) rfl rfl (k := 1) rfl ld_derS) <| rV rfl (does_len Tryd.underlying25 rfl rfl) <| rV rfl (does_fieldAddr rfl rfl fa_der6) <| rV rfl (does_loadAt (v := .slice none 0 0) rfl rfl (k := 0) rfl ld_derS) <| rV rfl (does_len Tryd.underlying25 rfl rfl) <| rV rfl (does_binOp rfl rfl rfl (z_cmp.2.2.1 rfl _ _)) <| rS 1 rfl <| rK [1, 1, 1, 1, 1, 1, 1, 1, 1, 1, 1, 1, 1, 1, 1, 1, 1, 1, 1, 1, 1, 1, 1, 1, 1, 1, 1, 1, 1, 1, 1, 1, 1, 1, 1, 1, 1, 1, 1, 1, 1, 1, 1, 1, 1, 1, 1, 1, 1, 0] [] [] <| rS 1 rfl <| rK [1, 0, 0, 0, 0, 0, 0, 0, 0, 0, 0, 0, 0, 0, 0, 0, 0, 0, 0, 0, 0, 0, 0, 0, 0, 0, 0, 0, 0, 0, 0, 0, 0, 0, 0, 0, 0, 0, 0, 0, 0, 0, 0, 0, 0, 0, 0, 0, 0, 0, 0, 0] [] [] <| rZ0 ?_)
            try clear H a W
            intro a W H
            refine hK2 _ _ ?_
            clear hK2
            refine wp_ret ?_
            repeat (first | (with_reducible refine then_ret ?_) | (with_reducible refine blk_ret ?_))
            refine end_tmp (p := 4) rfl rfl H (fun hb => ?_)
            refine ⟨?_, hb⟩
            unfold sameZ
            simp only [hq1, hq2, hq3, hq4, hq5, Bool.true_and, Bool.and_true, Bool.false_and, Bool.and_false]
            exact congrArg (fun b_ => Ending.returned (.bool b_)) (decide_eq_decide.2 (by omega))
          | false =>
            have hq5p := of_decide_eq_false hq5
            refine rgP H gs0 (rV rfl (does_fieldAddr rfl rfl fa_der0) <| rV rfl (does_loadAt (v := .int .i64 k) rfl rfl (k := 1) rfl ld_derK) <| rV rfl (does_fieldAddr rfl rfl fa_der0) <| rV rfl (does_loadAt (v := .int .i64 k) rfl rfl (k := 0) rfl ld_derK) <| rV rfl (does_binOp rfl rfl rfl (kd_eql (decide_eq_true rfl) _ _)) <| rS 1 rfl <| rV rfl (does_fieldAddr rfl rfl fa_der1) <| rV rfl (does_loadAt (v := .bool f) rfl rfl (k := 1) rfl (ld_derFb rfl)) <| rV rfl (does_fieldAddr rfl rfl fa_der1) <| rV rfl (does_loadAt (v := .bool false) rfl rfl (k := 0) rfl (ld_derFb rfl)) <| rV rfl (does_binOp rfl rfl rfl (bd_eqlF hq1 _ _)) <| rS 2 rfl <| rV rfl (does_fieldAddr rfl rfl fa_der2) <| rV rfl (does_loadAt (v := .int .i64 n) rfl rfl (k := 1) rfl ld_derN) <| rV rfl (does_fieldAddr rfl rfl fa_der2) <| rV rfl (does_loadAt (v := .int .i64 0) rfl rfl (k := 0) rfl ld_derN) <| rV rfl (does_binOp rfl rfl rfl (i_cmp.2.2 hq2 _ _)) <| rS 2 rfl <| rV rfl (does_fieldAddr rfl rfl fa_der4) <| rV rfl (does_loadAt (v := .string (strB t)) rfl rfl (k := 1) rfl ld_derT) <| rV rfl (does_fieldAddr rfl rfl fa_der4) <| rV rfl (does_loadAt (v := .string (strB [])) rfl rfl (k := 0) rfl ld_derT) <| rV rfl (does_binOp rfl rfl rfl (sd_eql (l := t) (m := []) hq3 _ _)) <| rS 2 rfl <| rV rfl (does_fieldAddr rfl rfl fa_der3) <| rV rfl (does_loadAt (v := .slice Ab nb cb) rfl rfl (k := 1) rfl ld_derB) <| rV rfl (does_fieldAddr rfl rfl fa_der3) <| rV rfl (does_loadAt (v := .slice none 0 0) rfl rfl (k := 0) rfl ld_derB) <| rCV rfl rfl ⟨_, Tryd.func17, by kernel_rfl⟩ rfl (fun a W H _ => (by have h_ := equalB_any (bf_old hFb H) (BF.nil _); rw [hq4] at h_; exact h_)) <| rS 2 rfl <| rV rfl (does_fieldAddr rfl rfl fa_der5) <| rV rfl (does_loadAt (v := .slice Aa na ca) rfl rfl (k := 1) rfl ld_derA) <| rV rfl (does_fieldAddr rfl rfl fa_der5) <| rV rfl (does_loadAt (v := .slice none 0 0) rfl rfl (k := 0) rfl ld_derA) <| rCV rfl rfl ⟨_, Tryd.func53, by kernel_rfl⟩ rfl (fun a W H _ => (by have h_ := equalU_nil (Aa := Aa) (na := na) (ca := ca) W; rw [hq5] at h_; exact h_)) <| rS 10 rfl <| rK [1, 1, 1, 1, 1, 1, 1, 1, 1, 1, 1, 1, 1, 1, 1, 1, 1, 1, 1, 1, 1, 1, 1, 1, 1, 1, 1, 1, 1, 1, 1, 1, 1, 1, 1, 1, 1, 1, 1, 1, 1, 1, 1, 1, 1, 1, 1, 1, 1, 0] [] [] <| rS 1 rfl <| rK [1, 0, 0, 0, 0, 0, 0, 0, 0, 0, 0, 0, 0, 0, 0, 0, 0, 0, 0, 0, 0, 0, 0, 0, 0, 0, 0, 0, 0, 0, 0, 0, 0, 0, 0, 0, 0, 0, 0, 0, 0, 0, 0, 0, 0, 0, 0, 0, 0, 0, 0, 0] [] [] <| rZ0 ?_)
            try clear H a W
            intro a W H
            refine hK2 _ _ ?_
            clear hK2
            refine wp_ret ?_
            repeat (first | (with_reducible refine then_ret ?_) | (with_reducible refine blk_ret ?_))
            refine end_tmp (p := 4) rfl rfl H (fun hb => ?_)
            refine ⟨?_, hb⟩
            unfold sameZ
            simp only [hq1, hq2, hq3, hq4, hq5, Bool.true_and, Bool.and_true, Bool.false_and, Bool.and_false]
        | false =>
          have hq4p := of_decide_eq_false hq4
          refine rgP H gs0 (rV rfl (does_fieldAddr rfl rfl fa_der0) <| rV rfl (does_loadAt (v := .int .i64 k) rfl rfl (k := 1) rfl ld_derK) <| rV rfl (does_fieldAddr rfl rfl fa_der0) <| rV rfl (does_loadAt (v := .int .i64 k) rfl rfl (k := 0) rfl ld_derK) <| rV rfl (does_binOp rfl rfl rfl (kd_eql (decide_eq_true rfl) _ _)) <| rS 1 rfl <| rV rfl (does_fieldAddr rfl rfl fa_der1) <| rV rfl (does_loadAt (v := .bool f) rfl rfl (k := 1) rfl (ld_derFb rfl)) <| rV rfl (does_fieldAddr rfl rfl fa_der1) <| rV rfl (does_loadAt (v := .bool false) rfl rfl (k := 0) rfl (ld_derFb rfl)) <| rV rfl (does_binOp rfl rfl rfl (bd_eqlF hq1 _ _)) <| rS 2 rfl <| rV rfl (does_fieldAddr rfl rfl fa_der2) <| rV rfl (does_loadAt (v := .int .i64 n) rfl rfl (k := 1) rfl ld_derN) <| rV rfl (does_fieldAddr rfl rfl fa_der2) <| rV rfl (does_loadAt (v := .int .i64 0) rfl rfl (k := 0) rfl ld_derN) <| rV rfl (does_binOp rfl rfl rfl (i_cmp.2.2 hq2 _ _)) <| rS 2 rfl <| rV rfl (does_fieldAddr rfl rfl fa_der4) <| rV rfl (does_loadAt (v := .string (strB t)) rfl rfl (k := 1) rfl ld_derT) <| rV rfl (does_fieldAddr rfl rfl fa_der4) <| rV rfl (does_loadAt (v := .string (strB [])) rfl rfl (k := 0) rfl ld_derT) <| rV rfl (does_binOp rfl rfl rfl (sd_eql (l := t) (m := []) hq3 _ _)) <| rS 2 rfl <| rV rfl (does_fieldAddr rfl rfl fa_der3) <| rV rfl (does_loadAt (v := .slice Ab nb cb) rfl rfl (k := 1) rfl ld_derB) <| rV rfl (does_fieldAddr rfl rfl fa_der3) <| rV rfl (does_loadAt (v := .slice none 0 0) rfl rfl (k := 0) rfl ld_derB) <| rCV rfl rfl ⟨_, Tryd.func17, by kernel_rfl⟩ rfl (fun a W H _ => (by have h_ := equalB_any (bf_old hFb H) (BF.nil _); rw [hq4] at h_; exact h_)) <| rS 17 rfl <| rK [1, 1, 1, 1, 1, 1, 1, 1, 1, 1, 1, 1, 1, 1, 1, 1, 1, 1, 1, 1, 1, 1, 1, 1, 1, 1, 1, 1, 1, 1, 1, 1, 1, 1, 1, 1, 1, 1, 1, 1, 1, 1, 1, 1, 1, 1, 1, 1, 1, 0] [] [] <| rS 1 rfl <| rK [1, 0, 0, 0, 0, 0, 0, 0, 0, 0, 0, 0, 0, 0, 0, 0, 0, 0, 0, 0, 0, 0, 0, 0, 0, 0, 0, 0, 0, 0, 0, 0, 0, 0, 0, 0, 0, 0, 0, 0, 0, 0, 0, 0, 0, 0, 0, 0, 0, 0, 0, 0] [] [] <| rZ0 ?_)
          try clear H a W
          intro a W H
          refine hK2 _ _ ?_
          clear hK2
          refine wp_ret ?_
          repeat (first | (with_reducible refine then_ret ?_) | (with_reducible refine blk_ret ?_))
          refine end_tmp (p := 4) rfl rfl H (fun hb => ?_)
          refine ⟨?_, hb⟩
          unfold sameZ
          simp only [hq1, hq2, hq3, hq4, Bool.true_and, Bool.and_true, Bool.false_and, Bool.and_false]
      | false =>
        have hq3p := of_decide_eq_false hq3
        refine rgP H gs0 (rV rfl (does_fieldAddr rfl rfl fa_der0) <| rV rfl (does_loadAt (v := .int .i64 k) rfl rfl (k := 1) rfl ld_derK) <| rV rfl (does_fieldAddr rfl rfl fa_der0) <| rV rfl (does_loadAt (v := .int .i64 k) rfl rfl (k := 0) rfl ld_derK) <| rV rfl (does_binOp rfl rfl rfl (kd_eql (decide_eq_true rfl) _ _)) <| rS 1 rfl <| rV rfl (does_fieldAddr rfl rfl fa_der1) <| rV rfl (does_loadAt (v := .bool f) rfl rfl (k := 1) rfl (ld_derFb rfl)) <| rV rfl (does_fieldAddr rfl rfl fa_der1) <| rV rfl (does_loadAt (v := .bool false) rfl rfl (k := 0) rfl (ld_derFb rfl)) <| rV rfl (does_binOp rfl rfl rfl (bd_eqlF hq1 _ _)) <| rS 2 rfl <| rV rfl (does_fieldAddr rfl rfl fa_der2) <| rV rfl (does_loadAt (v := .int .i64 n) rfl rfl (k := 1) rfl ld_derN) <| rV rfl (does_fieldAddr rfl rfl fa_der2) <| rV rfl (does_loadAt (v := .int .i64 0) rfl rfl (k := 0) rfl ld_derN) <| rV rfl (does_binOp rfl rfl rfl (i_cmp.2.2 hq2 _ _)) <| rS 2 rfl <| rV rfl (does_fieldAddr rfl rfl fa_der4) <| rV rfl (does_loadAt (v := .string (strB t)) rfl rfl (k := 1) rfl ld_derT) <| rV rfl (does_fieldAddr rfl rfl fa_der4) <| rV rfl (does_loadAt (v := .string (strB [])) rfl rfl (k := 0) rfl ld_derT) <| rV rfl (does_binOp rfl rfl rfl (sd_eql (l := t) (m := []) hq3 _ _)) <| rS 24 rfl <| rK [1, 1, 1, 1, 1, 1, 1, 1, 1, 1, 1, 1, 1, 1, 1, 1, 1, 1, 1, 1, 1, 1, 1, 1, 1, 1, 1, 1, 1, 1, 1, 1, 1, 1, 1, 1, 1, 1, 1, 1, 1, 1, 1, 1, 1, 1, 1, 1, 1, 0] [] [] <| rS 1 rfl <| rK [1, 0, 0, 0, 0, 0, 0, 0, 0, 0, 0, 0, 0, 0, 0, 0, 0, 0, 0, 0, 0, 0, 0, 0, 0, 0, 0, 0, 0, 0, 0, 0, 0, 0, 0, 0, 0, 0, 0, 0, 0, 0, 0, 0, 0, 0, 0, 0, 0, 0, 0, 0] [] [] <| rZ0 ?_)
        try clear H a W
        intro a W H
        refine hK2 _ _ ?_
        clear hK2
        refine wp_ret ?_
        repeat (first | (with_reducible refine then_ret ?_) | (with_reducible refine blk_ret ?_))
        refine end_tmp (p := 4) rfl rfl H (fun hb => ?_)
        refine ⟨?_, hb⟩
        unfold sameZ
        simp only [hq1, hq2, hq3, Bool.true_and, Bool.and_true, Bool.false_and, Bool.and_false]
    | false =>
      have hq2p := of_decide_eq_false hq2
      refine rgP H gs0 (rV rfl (does_fieldAddr rfl rfl fa_der0) <| rV rfl (does_loadAt (v := .int .i64 k) rfl rfl (k := 1) rfl ld_derK) <| rV rfl (does_fieldAddr rfl rfl fa_der0) <| rV rfl (does_loadAt (v := .int .i64 k) rfl rfl (k := 0) rfl ld_derK) <| rV rfl (does_binOp rfl rfl rfl (kd_eql (decide_eq_true rfl) _ _)) <| rS 1 rfl <| rV rfl (does_fieldAddr rfl rfl fa_der1) <| rV rfl (does_loadAt (v := .bool f) rfl rfl (k := 1) rfl (ld_derFb rfl)) <| rV rfl (does_fieldAddr rfl rfl fa_der1) <| rV rfl (does_loadAt (v := .bool false) rfl rfl (k := 0) rfl (ld_derFb rfl)) <| rV rfl (does_binOp rfl rfl rfl (bd_eqlF hq1 _ _)) <| rS 2 rfl <| rV rfl (does_fieldAddr rfl rfl fa_der2) <| rV rfl (does_loadAt (v := .int .i64 n) rfl rfl (k := 1) rfl ld_derN) <| rV rfl (does_fieldAddr rfl rfl fa_der2) <| rV rfl (does_loadAt (v := .int .i64 0) rfl rfl (k := 0) rfl ld_derN) <| rV rfl (does_binOp rfl rfl rfl (i_cmp.2.2 hq2 _ _)) <| rS 31 rfl <| rK [1, 1, 1, 1, 1, 1, 1, 1, 1, 1, 1, 1, 1, 1, 1, 1, 1, 1, 1, 1, 1, 1, 1, 1, 1, 1, 1, 1, 1, 1, 1, 1, 1, 1, 1, 1, 1, 1, 1, 1, 1, 1, 1, 1, 1, 1, 1, 1, 1, 0] [] [] <| rS 1 rfl <| rK [1, 0, 0, 0, 0, 0, 0, 0, 0, 0, 0, 0, 0, 0, 0, 0, 0, 0, 0, 0, 0, 0, 0, 0, 0, 0, 0, 0, 0, 0, 0, 0, 0, 0, 0, 0, 0, 0, 0, 0, 0, 0, 0, 0, 0, 0, 0, 0, 0, 0, 0, 0] [] [] <| rZ0 ?_)
      try clear H a W
      intro a W H
      refine hK2 _ _ ?_
      clear hK2
      refine wp_ret ?_
      repeat (first | (with_reducible refine then_ret ?_) | (with_reducible refine blk_ret ?_))
      refine end_tmp (p := 4) rfl rfl H (fun hb => ?_)
      refine ⟨?_, hb⟩
      unfold sameZ
      simp only [hq1, hq2, Bool.true_and, Bool.and_true, Bool.false_and, Bool.and_false]
  | false =>
    refine rgP H gs0 (rV rfl (does_fieldAddr rfl rfl fa_der0) <| rV rfl (does_loadAt (v := .int .i64 k) rfl rfl (k := 1) rfl ld_derK) <| rV rfl (does_fieldAddr rfl rfl fa_der0) <| rV rfl (does_loadAt (v := .int .i64 k) rfl rfl (k := 0) rfl ld_derK) <| rV rfl (does_binOp rfl rfl rfl (kd_eql (decide_eq_true rfl) _ _)) <| rS 1 rfl <| rV rfl (does_fieldAddr rfl rfl fa_der1) <| rV rfl (does_loadAt (v := .bool f) rfl rfl (k := 1) rfl (ld_derFb rfl)) <| rV rfl (does_fieldAddr rfl rfl fa_der1) <| rV rfl (does_loadAt (v := .bool false) rfl rfl (k := 0) rfl (ld_derFb rfl)) <| rV rfl (does_binOp rfl rfl rfl (bd_eqlF hq1 _ _)) <| rS 38 rfl <| rK [1, 1, 1, 1, 1, 1, 1, 1, 1, 1, 1, 1, 1, 1, 1, 1, 1, 1, 1, 1, 1, 1, 1, 1, 1, 1, 1, 1, 1, 1, 1, 1, 1, 1, 1, 1, 1, 1, 1, 1, 1, 1, 1, 1, 1, 1, 1, 1, 1, 0] [] [] <| rS 1 rfl <| rK [1, 0, 0, 0, 0, 0, 0, 0, 0, 0, 0, 0, 0, 0, 0, 0, 0, 0, 0, 0, 0, 0, 0, 0, 0, 0, 0, 0, 0, 0, 0, 0, 0, 0, 0, 0, 0, 0, 0, 0, 0, 0, 0, 0, 0, 0, 0, 0, 0, 0, 0, 0] [] [] <| rZ0 ?_)
    try clear H a W
    intro a W H
    refine hK2 _ _ ?_
    clear hK2
    refine wp_ret ?_
    repeat (first | (with_reducible refine then_ret ?_) | (with_reducible refine blk_ret ?_))
    refine end_tmp (p := 4) rfl rfl H (fun hb => ?_)
    refine ⟨?_, hb⟩
    unfold sameZ
    simp only [hq1, Bool.true_and, Bool.and_true, Bool.false_and, Bool.and_false]
set_option maxHeartbeats 4000000 in
theorem is_plain {k n : Int} {f : Bool} {t lb : List UInt8} {Ab Aa Ak : Option Addr} {nb cb na ca nk ck : Nat} (w : World) (hFb : BF lb (.slice Ab nb cb) w) : Calls Tryd.prog 44 #[.agg ((DH.mk k f n (SL.mk Ab nb cb) t (SL.mk Aa na ca) (SL.mk Ak nk ck)).cs)] w (fun rr w' => rr = .returned (.bool (plainE k f n t lb na nk)) ∧ Below w.heap.size w w') := by
  refine calls_st (vs := [.agg ((DH.mk k f n (SL.mk Ab nb cb) t (SL.mk Aa na ca) (SL.mk Ak nk ck)).cs)]) 34 Tryd.func44 rfl Tryd.ntmps44 rfl (fun a W H => ?_)
  replace H : St 34 w a W [(0, .agg ((DH.mk k f n (SL.mk Ab nb cb) t (SL.mk Aa na ca) (SL.mk Ak nk ck)).cs))] [] := H
  refine sqR H gs0 fun Z_ z_ => rB rfl rfl rfl (bx_der (DH.mk k f n (SL.mk Ab nb cb) t (SL.mk Aa na ca) (SL.mk Ak nk ck))) fun g1 => rS 1 rfl <| rK [1, 1, 0] [] [] <| rN0 z_ ?_
  try clear H a W
  intro a W H
  refine wp_seq_k (fun K2 hK2 => ?_)
  refine sqR H gs0 fun Z_ z_ => rV rfl (does_fieldAddr rfl rfl fa_der0) <| rV rfl (does_loadAt (v := .int .i64 k) rfl rfl (k := 0) rfl ld_derK) <| rK [1, 0] [] [] <| rN0 z_ ?_
  try clear H a W
  intro a W H
  refine wp_block ?_
  refine wp_seq_k (fun K4 hK4 => ?_)
  refine wp_block ?_
  refine wp_seq_k (fun K5 hK5 => ?_)
  refine wp_block ?_
  refine wp_seq_k (fun K6 hK6 => ?_)
  refine wp_block ?_
  refine wp_seq_k (fun K7 hK7 => ?_)
  refine wp_block ?_
  refine wp_seq_k (fun K8 hK8 => ?_)
  refine wp_block ?_
  refine wp_seq_k (fun K9 hK9 => ?_)
  refine wp_block ?_
  refine wp_seq_k (fun K10 hK10 => ?_)
  refine wp_block ?_
  refine wp_seq_k (fun K11 hK11 => ?_)
  refine wp_block ?_
  refine wp_seq_k (fun K12 hK12 => ?_)
  refine wp_seq_k (fun K13 hK13 => ?_)
  refine sqR H gs0 fun Z_ z_ => rV rfl (does_binOp rfl rfl rfl (kd_eql rfl _ _)) <| rS 1 rfl <| rK [1, 0] [] [] <| rN0 z_ ?_
  try clear H a W
  intro a W H
  cases hq1 : decide (k = 1) with
  | true =>
    rw [hq1] at H
    have hq1p := of_decide_eq_true hq1
    refine wp_cond_true (H.ev rfl) ?_
    refine wp_exit ?_
    repeat (first | (with_reducible refine then_exit ?_) | (with_reducible refine blk_pass (by decide) ?_))
    refine blk_exit ?_
    refine hK11 _ _ ?_
    clear hK11
    refine sqR H gs0 fun Z_ z_ => rV rfl (does_fieldAddr rfl rfl fa_der1) <| rX [1] (c := (DH.mk k false n (SL.mk Ab nb cb) t (SL.mk Aa na ca) (SL.mk Ak nk ck)).cs) ⟨rfl, rfl⟩ rfl rfl rfl (st_derF (u := false)) sv_derF <| rK [0, 0, 0] [] [] <| rN0 z_ ?_
    try clear H a W
    intro a W H
    refine wp_exit ?_
    repeat (first | (with_reducible refine then_exit ?_) | (with_reducible refine blk_pass (by decide) ?_))
    refine blk_exit ?_
    refine hK2 _ _ ?_
    clear hK2
    refine sqR H gs0 fun Z_ z_ => rV rfl (does_load rfl rfl (k := 0) rfl Tryd.underlying27 rfl (info_der (DH.mk k false n (SL.mk Ab nb cb) t (SL.mk Aa na ca) (SL.mk Ak nk ck)))) <| rV rfl (does_fieldAddr rfl rfl fa_der0) <| rV rfl (does_loadAt (v := .int .i64 k) rfl rfl (k := 0) rfl ld_derK) <| rV rfl (does_build rfl rfl (bd_derK k)) <| rCV rfl rfl ⟨_, Tryd.func50, by kernel_rfl⟩ rfl (fun a W H _ => (same_zero (nb := nb) _ ((bf_old hFb H)))) <| rK [1, 1, 1, 1, 1, 0] [] [] <| rS 1 rfl <| rK [1, 0, 0, 0, 0, 0, 0] [] [] <| rN0 z_ ?_
    try clear H a W
    intro a W H
    refine wp_ret ?_
    repeat (first | (with_reducible refine then_ret ?_) | (with_reducible refine blk_ret ?_))
    refine end_tmp (p := 2) rfl rfl H (fun hb => ?_)
    exact ⟨congrArg (fun b_ => Ending.returned (.bool b_)) ((plain_is (k := k) (f := f) (n := n) (t := t) (lb := lb) (na := na) (nk := nk)).1 (by omega)), hb⟩
  | false =>
    rw [hq1] at H
    have hq1p := of_decide_eq_false hq1
    refine wp_cond_false (H.ev rfl) ?_
    refine wp_skip ?_
    refine hK13 _ _ ?_
    clear hK13
    refine wp_seq_k (fun K17 hK17 => ?_)
    refine sqR H gs0 fun Z_ z_ => rV rfl (does_binOp rfl rfl rfl (kd_eql rfl _ _)) <| rS 1 rfl <| rK [1, 0, 0] [] [] <| rN0 z_ ?_
    try clear H a W
    intro a W H
    cases hq2 : decide (k = 2) with
    | true =>
      rw [hq2] at H
      have hq2p := of_decide_eq_true hq2
      refine wp_cond_true (H.ev rfl) ?_
      refine wp_exit ?_
      repeat (first | (with_reducible refine then_exit ?_) | (with_reducible refine blk_pass (by decide) ?_))
      refine blk_exit ?_
      refine hK10 _ _ ?_
      clear hK10
      refine sqR H gs0 fun Z_ z_ => rV rfl (does_fieldAddr rfl rfl fa_der2) <| rX [1] (c := (DH.mk k f 0 (SL.mk Ab nb cb) t (SL.mk Aa na ca) (SL.mk Ak nk ck)).cs) ⟨rfl, rfl⟩ rfl rfl rfl (st_derN (u := 0)) sv_derN <| rK [0, 0, 0] [] [] <| rN0 z_ ?_
      try clear H a W
      intro a W H
      refine wp_exit ?_
      repeat (first | (with_reducible refine then_exit ?_) | (with_reducible refine blk_pass (by decide) ?_))
      refine blk_exit ?_
      refine hK2 _ _ ?_
      clear hK2
      refine sqR H gs0 fun Z_ z_ => rV rfl (does_load rfl rfl (k := 0) rfl Tryd.underlying27 rfl (info_der (DH.mk k f 0 (SL.mk Ab nb cb) t (SL.mk Aa na ca) (SL.mk Ak nk ck)))) <| rV rfl (does_fieldAddr rfl rfl fa_der0) <| rV rfl (does_loadAt (v := .int .i64 k) rfl rfl (k := 0) rfl ld_derK) <| rV rfl (does_build rfl rfl (bd_derK k)) <| rCV rfl rfl ⟨_, Tryd.func50, by kernel_rfl⟩ rfl (fun a W H _ => (same_zero (nb := nb) _ ((bf_old hFb H)))) <| rK [1, 1, 1, 1, 1, 0] [] [] <| rS 1 rfl <| rK [1, 0, 0, 0, 0, 0, 0] [] [] <| rN0 z_ ?_
      try clear H a W
      intro a W H
      refine wp_ret ?_
      repeat (first | (with_reducible refine then_ret ?_) | (with_reducible refine blk_ret ?_))
      refine end_tmp (p := 2) rfl rfl H (fun hb => ?_)
      exact ⟨congrArg (fun b_ => Ending.returned (.bool b_)) ((plain_is (k := k) (f := f) (n := n) (t := t) (lb := lb) (na := na) (nk := nk)).2.1 (by omega)), hb⟩
    | false =>
      rw [hq2] at H
      have hq2p := of_decide_eq_false hq2
      refine wp_cond_false (H.ev rfl) ?_
      refine wp_skip ?_
      refine hK17 _ _ ?_
      clear hK17
      refine wp_seq_k (fun K21 hK21 => ?_)
      refine wp_seq_k (fun K22 hK22 => ?_)
      refine sqR H gs0 fun Z_ z_ => rV rfl (does_binOp rfl rfl rfl (kd_eql rfl _ _)) <| rS 1 rfl <| rK [1, 0, 0] [] [] <| rN0 z_ ?_
      try clear H a W
      intro a W H
      cases hq3 : decide (k = 3) with
      | true =>
        rw [hq3] at H
        have hq3p := of_decide_eq_true hq3
        refine wp_cond_true (H.ev rfl) ?_
        refine wp_skip ?_
        refine hK22 _ _ ?_
        clear hK22
        refine wp_cond_true (H.ev rfl) ?_
        refine wp_exit ?_
        repeat (first | (with_reducible refine then_exit ?_) | (with_reducible refine blk_pass (by decide) ?_))
        refine blk_exit ?_
        refine hK9 _ _ ?_
        clear hK9
        refine sqR H gs0 fun Z_ z_ => rV rfl (does_fieldAddr rfl rfl fa_der3) <| rX [1] (c := (DH.mk k f n (SL.mk none 0 0) t (SL.mk Aa na ca) (SL.mk Ak nk ck)).cs) ⟨rfl, rfl⟩ rfl rfl rfl (st_derB (u := (SL.mk none 0 0))) sv_derB <| rK [0, 0, 0] [] [] <| rN0 z_ ?_
        try clear H a W
        intro a W H
        refine wp_exit ?_
        repeat (first | (with_reducible refine then_exit ?_) | (with_reducible refine blk_pass (by decide) ?_))
        refine blk_exit ?_
        refine hK2 _ _ ?_
        clear hK2
        refine sqR H gs0 fun Z_ z_ => rV rfl (does_load rfl rfl (k := 0) rfl Tryd.underlying27 rfl (info_der (DH.mk k f n (SL.mk none 0 0) t (SL.mk Aa na ca) (SL.mk Ak nk ck)))) <| rV rfl (does_fieldAddr rfl rfl fa_der0) <| rV rfl (does_loadAt (v := .int .i64 k) rfl rfl (k := 0) rfl ld_derK) <| rV rfl (does_build rfl rfl (bd_derK k)) <| rCV rfl rfl ⟨_, Tryd.func50, by kernel_rfl⟩ rfl (fun a W H _ => (same_zero (nb := 0) _ (BF.nil _))) <| rK [1, 1, 1, 1, 1, 0] [] [] <| rS 1 rfl <| rK [1, 0, 0, 0, 0, 0, 0] [] [] <| rN0 z_ ?_
        try clear H a W
        intro a W H
        refine wp_ret ?_
        repeat (first | (with_reducible refine then_ret ?_) | (with_reducible refine blk_ret ?_))
        refine end_tmp (p := 2) rfl rfl H (fun hb => ?_)
        exact ⟨congrArg (fun b_ => Ending.returned (.bool b_)) ((plain_is (k := k) (f := f) (n := n) (t := t) (lb := lb) (na := na) (nk := nk)).2.2.1 (by omega)), hb⟩
      | false =>
        rw [hq3] at H
        have hq3p := of_decide_eq_false hq3
        refine wp_cond_false (H.ev rfl) ?_
        refine rgP H gs0 (rV rfl (does_binOp rfl rfl rfl (kd_eql rfl _ _)) <| rK [1, 0] [] [] <| rS 1 rfl <| rK [1, 0] [] [] <| rZ0 ?_)
        try clear H a W
        intro a W H
        refine hK22 _ _ ?_
        clear hK22
        cases hq4 : decide (k = 4) with
        | true =>
          rw [hq4] at H
          have hq4p := of_decide_eq_true hq4
          refine wp_cond_true (H.ev rfl) ?_
          refine wp_exit ?_
          repeat (first | (with_reducible refine then_exit ?_) | (with_reducible refine blk_pass (by decide) ?_))
          refine blk_exit ?_
          refine hK9 _ _ ?_
          clear hK9
          refine sqR H gs0 fun Z_ z_ => rV rfl (does_fieldAddr rfl rfl fa_der3) <| rX [1] (c := (DH.mk k f n (SL.mk none 0 0) t (SL.mk Aa na ca) (SL.mk Ak nk ck)).cs) ⟨rfl, rfl⟩ rfl rfl rfl (st_derB (u := (SL.mk none 0 0))) sv_derB <| rK [0, 0, 0] [] [] <| rN0 z_ ?_
          try clear H a W
          intro a W H
          refine wp_exit ?_
          repeat (first | (with_reducible refine then_exit ?_) | (with_reducible refine blk_pass (by decide) ?_))
          refine blk_exit ?_
          refine hK2 _ _ ?_
          clear hK2
          refine sqR H gs0 fun Z_ z_ => rV rfl (does_load rfl rfl (k := 0) rfl Tryd.underlying27 rfl (info_der (DH.mk k f n (SL.mk none 0 0) t (SL.mk Aa na ca) (SL.mk Ak nk ck)))) <| rV rfl (does_fieldAddr rfl rfl fa_der0) <| rV rfl (does_loadAt (v := .int .i64 k) rfl rfl (k := 0) rfl ld_derK) <| rV rfl (does_build rfl rfl (bd_derK k)) <| rCV rfl rfl ⟨_, Tryd.func50, by kernel_rfl⟩ rfl (fun a W H _ => (same_zero (nb := 0) _ (BF.nil _))) <| rK [1, 1, 1, 1, 1, 0] [] [] <| rS 1 rfl <| rK [1, 0, 0, 0, 0, 0, 0] [] [] <| rN0 z_ ?_
          try clear H a W
          intro a W H
          refine wp_ret ?_
          repeat (first | (with_reducible refine then_ret ?_) | (with_reducible refine blk_ret ?_))
          refine end_tmp (p := 2) rfl rfl H (fun hb => ?_)
          exact ⟨congrArg (fun b_ => Ending.returned (.bool b_)) ((plain_is (k := k) (f := f) (n := n) (t := t) (lb := lb) (na := na) (nk := nk)).2.2.1 (by omega)), hb⟩
        | false =>
          rw [hq4] at H
          have hq4p := of_decide_eq_false hq4
          refine wp_cond_false (H.ev rfl) ?_
          refine wp_skip ?_
          refine hK21 _ _ ?_
          clear hK21
          refine wp_seq_k (fun K28 hK28 => ?_)
          refine sqR H gs0 fun Z_ z_ => rV rfl (does_binOp rfl rfl rfl (kd_eql rfl _ _)) <| rS 1 rfl <| rK [1, 0, 0] [] [] <| rN0 z_ ?_
          try clear H a W
          intro a W H
          cases hq5 : decide (k = 5) with
          | true =>
            rw [hq5] at H
            have hq5p := of_decide_eq_true hq5
            refine wp_cond_true (H.ev rfl) ?_
            refine wp_exit ?_
            repeat (first | (with_reducible refine then_exit ?_) | (with_reducible refine blk_pass (by decide) ?_))
            refine blk_exit ?_
            refine hK8 _ _ ?_
            clear hK8
            refine sqR H gs0 fun Z_ z_ => rV rfl (does_fieldAddr rfl rfl fa_der5) <| rX [1] (c := (DH.mk k f n (SL.mk Ab nb cb) t (SL.mk none 0 0) (SL.mk Ak nk ck)).cs) ⟨rfl, rfl⟩ rfl rfl rfl (st_derA (u := (SL.mk none 0 0))) sv_derA <| rK [0, 0, 0] [] [] <| rN0 z_ ?_
            try clear H a W
            intro a W H
            refine wp_exit ?_
            repeat (first | (with_reducible refine then_exit ?_) | (with_reducible refine blk_pass (by decide) ?_))
            refine blk_exit ?_
            refine hK2 _ _ ?_
            clear hK2
            refine sqR H gs0 fun Z_ z_ => rV rfl (does_load rfl rfl (k := 0) rfl Tryd.underlying27 rfl (info_der (DH.mk k f n (SL.mk Ab nb cb) t (SL.mk none 0 0) (SL.mk Ak nk ck)))) <| rV rfl (does_fieldAddr rfl rfl fa_der0) <| rV rfl (does_loadAt (v := .int .i64 k) rfl rfl (k := 0) rfl ld_derK) <| rV rfl (does_build rfl rfl (bd_derK k)) <| rCV rfl rfl ⟨_, Tryd.func50, by kernel_rfl⟩ rfl (fun a W H _ => (same_zero (nb := nb) _ ((bf_old hFb H)))) <| rK [1, 1, 1, 1, 1, 0] [] [] <| rS 1 rfl <| rK [1, 0, 0, 0, 0, 0, 0] [] [] <| rN0 z_ ?_
            try clear H a W
            intro a W H
            refine wp_ret ?_
            repeat (first | (with_reducible refine then_ret ?_) | (with_reducible refine blk_ret ?_))
            refine end_tmp (p := 2) rfl rfl H (fun hb => ?_)
            exact ⟨congrArg (fun b_ => Ending.returned (.bool b_)) ((plain_is (k := k) (f := f) (n := n) (t := t) (lb := lb) (na := na) (nk := nk)).2.2.2.1 (by omega)), hb⟩
          | false =>
            rw [hq5] at H
            have hq5p := of_decide_eq_false hq5
            refine wp_cond_false (H.ev rfl) ?_
            refine wp_skip ?_
            refine hK28 _ _ ?_
            clear hK28
            refine wp_seq_k (fun K32 hK32 => ?_)
            refine wp_seq_k (fun K33 hK33 => ?_)
            refine sqR H gs0 fun Z_ z_ => rV rfl (does_binOp rfl rfl rfl (kd_eql rfl _ _)) <| rS 1 rfl <| rK [1, 0, 0] [] [] <| rN0 z_ ?_
            try clear H a W
            intro a W H
            cases hq6 : decide (k = 6) with
            | true =>
              rw [hq6] at H
              have hq6p := of_decide_eq_true hq6
              refine wp_cond_true (H.ev rfl) ?_
              refine wp_skip ?_
              refine hK33 _ _ ?_
              clear hK33
              refine wp_cond_true (H.ev rfl) ?_
              refine wp_exit ?_
              repeat (first | (with_reducible refine then_exit ?_) | (with_reducible refine blk_pass (by decide) ?_))
              refine blk_exit ?_
              refine hK7 _ _ ?_
              clear hK7
              refine sqR H gs0 fun Z_ z_ => rV rfl (does_fieldAddr rfl rfl fa_der4) <| rX [1] (c := (DH.mk k f n (SL.mk Ab nb cb) [] (SL.mk Aa na ca) (SL.mk Ak nk ck)).cs) ⟨rfl, rfl⟩ rfl rfl rfl (st_derT (u := [])) sv_derT <| rK [0, 0, 0] [] [] <| rN0 z_ ?_
              try clear H a W
              intro a W H
              refine wp_exit ?_
              repeat (first | (with_reducible refine then_exit ?_) | (with_reducible refine blk_pass (by decide) ?_))
              refine blk_exit ?_
              refine hK2 _ _ ?_
              clear hK2
              refine sqR H gs0 fun Z_ z_ => rV rfl (does_load rfl rfl (k := 0) rfl Tryd.underlying27 rfl (info_der (DH.mk k f n (SL.mk Ab nb cb) [] (SL.mk Aa na ca) (SL.mk Ak nk ck)))) <| rV rfl (does_fieldAddr rfl rfl fa_der0) <| rV rfl (does_loadAt (v := .int .i64 k) rfl rfl (k := 0) rfl ld_derK) <| rV rfl (does_build rfl rfl (bd_derK k)) <| rCV rfl rfl ⟨_, Tryd.func50, by kernel_rfl⟩ rfl (fun a W H _ => (same_zero (nb := nb) _ ((bf_old hFb H)))) <| rK [1, 1, 1, 1, 1, 0] [] [] <| rS 1 rfl <| rK [1, 0, 0, 0, 0, 0, 0] [] [] <| rN0 z_ ?_
              try clear H a W
              intro a W H
              refine wp_ret ?_
              repeat (first | (with_reducible refine then_ret ?_) | (with_reducible refine blk_ret ?_))
              refine end_tmp (p := 2) rfl rfl H (fun hb => ?_)
              exact ⟨congrArg (fun b_ => Ending.returned (.bool b_)) ((plain_is (k := k) (f := f) (n := n) (t := t) (lb := lb) (na := na) (nk := nk)).2.2.2.2.1 (by omega)), hb⟩
            | false =>
              rw [hq6] at H
              have hq6p := of_decide_eq_false hq6
              refine wp_cond_false (H.ev rfl) ?_
              refine rgP H gs0 (rV rfl (does_binOp rfl rfl rfl (kd_eql rfl _ _)) <| rK [1, 0] [] [] <| rS 1 rfl <| rK [1, 0] [] [] <| rZ0 ?_)
              try clear H a W
              intro a W H
              refine hK33 _ _ ?_
              clear hK33
              cases hq7 : decide (k = 10) with
              | true =>
                rw [hq7] at H
                have hq7p := of_decide_eq_true hq7
                refine wp_cond_true (H.ev rfl) ?_
                refine wp_exit ?_
                repeat (first | (with_reducible refine then_exit ?_) | (with_reducible refine blk_pass (by decide) ?_))
                refine blk_exit ?_
                refine hK7 _ _ ?_
                clear hK7
                refine sqR H gs0 fun Z_ z_ => rV rfl (does_fieldAddr rfl rfl fa_der4) <| rX [1] (c := (DH.mk k f n (SL.mk Ab nb cb) [] (SL.mk Aa na ca) (SL.mk Ak nk ck)).cs) ⟨rfl, rfl⟩ rfl rfl rfl (st_derT (u := [])) sv_derT <| rK [0, 0, 0] [] [] <| rN0 z_ ?_
                try clear H a W
                intro a W H
                refine wp_exit ?_
                repeat (first | (with_reducible refine then_exit ?_) | (with_reducible refine blk_pass (by decide) ?_))
                refine blk_exit ?_
                refine hK2 _ _ ?_
                clear hK2
                refine sqR H gs0 fun Z_ z_ => rV rfl (does_load rfl rfl (k := 0) rfl Tryd.underlying27 rfl (info_der (DH.mk k f n (SL.mk Ab nb cb) [] (SL.mk Aa na ca) (SL.mk Ak nk ck)))) <| rV rfl (does_fieldAddr rfl rfl fa_der0) <| rV rfl (does_loadAt (v := .int .i64 k) rfl rfl (k := 0) rfl ld_derK) <| rV rfl (does_build rfl rfl (bd_derK k)) <| rCV rfl rfl ⟨_, Tryd.func50, by kernel_rfl⟩ rfl (fun a W H _ => (same_zero (nb := nb) _ ((bf_old hFb H)))) <| rK [1, 1, 1, 1, 1, 0] [] [] <| rS 1 rfl <| rK [1, 0, 0, 0, 0, 0, 0] [] [] <| rN0 z_ ?_
                try clear H a W
                intro a W H
                refine wp_ret ?_
                repeat (first | (with_reducible refine then_ret ?_) | (with_reducible refine blk_ret ?_))
                refine end_tmp (p := 2) rfl rfl H (fun hb => ?_)
                exact ⟨congrArg (fun b_ => Ending.returned (.bool b_)) ((plain_is (k := k) (f := f) (n := n) (t := t) (lb := lb) (na := na) (nk := nk)).2.2.2.2.1 (by omega)), hb⟩
              | false =>
                rw [hq7] at H
                have hq7p := of_decide_eq_false hq7
                refine wp_cond_false (H.ev rfl) ?_
                refine wp_skip ?_
                refine hK32 _ _ ?_
                clear hK32
                refine wp_seq_k (fun K39 hK39 => ?_)
                refine sqR H gs0 fun Z_ z_ => rV rfl (does_binOp rfl rfl rfl (kd_eql rfl _ _)) <| rS 1 rfl <| rK [1, 0, 0] [] [] <| rN0 z_ ?_
                try clear H a W
                intro a W H
                cases hq8 : decide (k = 8) with
                | true =>
                  rw [hq8] at H
                  have hq8p := of_decide_eq_true hq8
                  refine wp_cond_true (H.ev rfl) ?_
                  refine wp_exit ?_
                  repeat (first | (with_reducible refine then_exit ?_) | (with_reducible refine blk_pass (by decide) ?_))
                  refine blk_exit ?_
                  refine hK6 _ _ ?_
                  clear hK6
                  refine rgP H gs0 (rV rfl (does_fieldAddr rfl rfl fa_der2) <| rX [1] (c := (DH.mk k f 0 (SL.mk Ab nb cb) t (SL.mk Aa na ca) (SL.mk Ak nk ck)).cs) ⟨rfl, rfl⟩ rfl rfl rfl (st_derN (u := 0)) sv_derN <| rK [0, 0, 0] [] [] <| rZ0 ?_)
                  try clear H a W
                  intro a W H
                  refine blk_normal ?_
                  refine hK5 _ _ ?_
                  clear hK5
                  refine sqR H gs0 fun Z_ z_ => rV rfl (does_fieldAddr rfl rfl fa_der6) <| rX [1] (c := (DH.mk k f 0 (SL.mk Ab nb cb) t (SL.mk Aa na ca) (SL.mk none 0 0)).cs) ⟨rfl, rfl⟩ rfl rfl rfl (st_derS (u := (SL.mk none 0 0))) sv_derS <| rK [0] [] [] <| rN0 z_ ?_
                  try clear H a W
                  intro a W H
                  refine wp_exit ?_
                  repeat (first | (with_reducible refine then_exit ?_) | (with_reducible refine blk_pass (by decide) ?_))
                  refine blk_exit ?_
                  refine hK2 _ _ ?_
                  clear hK2
                  refine sqR H gs0 fun Z_ z_ => rV rfl (does_load rfl rfl (k := 0) rfl Tryd.underlying27 rfl (info_der (DH.mk k f 0 (SL.mk Ab nb cb) t (SL.mk Aa na ca) (SL.mk none 0 0)))) <| rV rfl (does_fieldAddr rfl rfl fa_der0) <| rV rfl (does_loadAt (v := .int .i64 k) rfl rfl (k := 0) rfl ld_derK) <| rV rfl (does_build rfl rfl (bd_derK k)) <| rCV rfl rfl ⟨_, Tryd.func50, by kernel_rfl⟩ rfl (fun a W H _ => (same_zero (nb := nb) _ ((bf_old hFb H)))) <| rK [1, 1, 1, 1, 1, 0] [] [] <| rS 1 rfl <| rK [1, 0, 0, 0, 0, 0, 0] [] [] <| rN0 z_ ?_
                  try clear H a W
                  intro a W H
                  refine wp_ret ?_
                  repeat (first | (with_reducible refine then_ret ?_) | (with_reducible refine blk_ret ?_))
                  refine end_tmp (p := 2) rfl rfl H (fun hb => ?_)
                  exact ⟨congrArg (fun b_ => Ending.returned (.bool b_)) ((plain_is (k := k) (f := f) (n := n) (t := t) (lb := lb) (na := na) (nk := nk)).2.2.2.2.2.1 (by omega)), hb⟩
                | false =>
                  rw [hq8] at H
                  have hq8p := of_decide_eq_false hq8
                  refine wp_cond_false (H.ev rfl) ?_
                  refine wp_skip ?_
                  refine hK39 _ _ ?_
                  clear hK39
                  refine wp_seq_k (fun K43 hK43 => ?_)
                  refine sqR H gs0 fun Z_ z_ => rV rfl (does_binOp rfl rfl rfl (kd_eql rfl _ _)) <| rS 1 rfl <| rK [1, 0, 0] [] [] <| rN0 z_ ?_
                  try clear H a W
                  intro a W H
                  cases hq9 : decide (k = 7) with
                  | true =>
                    rw [hq9] at H
                    have hq9p := of_decide_eq_true hq9
                    refine wp_cond_true (H.ev rfl) ?_
                    refine wp_skip ?_
                    refine hK43 _ _ ?_
                    clear hK43
                    refine wp_cond_true (H.ev rfl) ?_
                    refine wp_exit ?_
                    repeat (first | (with_reducible refine then_exit ?_) | (with_reducible refine blk_pass (by decide) ?_))
                    refine blk_exit ?_
                    refine hK5 _ _ ?_
                    clear hK5
                    refine sqR H gs0 fun Z_ z_ => rV rfl (does_fieldAddr rfl rfl fa_der6) <| rX [1] (c := (DH.mk k f n (SL.mk Ab nb cb) t (SL.mk Aa na ca) (SL.mk none 0 0)).cs) ⟨rfl, rfl⟩ rfl rfl rfl (st_derS (u := (SL.mk none 0 0))) sv_derS <| rK [0, 0, 0] [] [] <| rN0 z_ ?_
                    try clear H a W
                    intro a W H
                    refine wp_exit ?_
                    repeat (first | (with_reducible refine then_exit ?_) | (with_reducible refine blk_pass (by decide) ?_))
                    refine blk_exit ?_
                    refine hK2 _ _ ?_
                    clear hK2
                    refine sqR H gs0 fun Z_ z_ => rV rfl (does_load rfl rfl (k := 0) rfl Tryd.underlying27 rfl (info_der (DH.mk k f n (SL.mk Ab nb cb) t (SL.mk Aa na ca) (SL.mk none 0 0)))) <| rV rfl (does_fieldAddr rfl rfl fa_der0) <| rV rfl (does_loadAt (v := .int .i64 k) rfl rfl (k := 0) rfl ld_derK) <| rV rfl (does_build rfl rfl (bd_derK k)) <| rCV rfl rfl ⟨_, Tryd.func50, by kernel_rfl⟩ rfl (fun a W H _ => (same_zero (nb := nb) _ ((bf_old hFb H)))) <| rK [1, 1, 1, 1, 1, 0] [] [] <| rS 1 rfl <| rK [1, 0, 0, 0, 0, 0, 0] [] [] <| rN0 z_ ?_
                    try clear H a W
                    intro a W H
                    refine wp_ret ?_
                    repeat (first | (with_reducible refine then_ret ?_) | (with_reducible refine blk_ret ?_))
                    refine end_tmp (p := 2) rfl rfl H (fun hb => ?_)
                    exact ⟨congrArg (fun b_ => Ending.returned (.bool b_)) ((plain_is (k := k) (f := f) (n := n) (t := t) (lb := lb) (na := na) (nk := nk)).2.2.2.2.2.2 (by omega)), hb⟩
                  | false =>
                    rw [hq9] at H
                    have hq9p := of_decide_eq_false hq9
                    refine wp_cond_false (H.ev rfl) ?_
                    refine rgP H gs0 (rV rfl (does_binOp rfl rfl rfl (kd_eql rfl _ _)) <| rK [1, 0] [] [] <| rS 1 rfl <| rK [1, 0, 0] [] [] <| rZ0 ?_)
                    try clear H a W
                    intro a W H
                    refine hK43 _ _ ?_
                    clear hK43
                    cases hq10 : decide (k = 9) with
                    | true =>
                      rw [hq10] at H
                      have hq10p := of_decide_eq_true hq10
                      refine wp_cond_true (H.ev rfl) ?_
                      refine wp_exit ?_
                      repeat (first | (with_reducible refine then_exit ?_) | (with_reducible refine blk_pass (by decide) ?_))
                      refine blk_exit ?_
                      refine hK5 _ _ ?_
                      clear hK5
                      refine sqR H gs0 fun Z_ z_ => rV rfl (does_fieldAddr rfl rfl fa_der6) <| rX [1] (c := (DH.mk k f n (SL.mk Ab nb cb) t (SL.mk Aa na ca) (SL.mk none 0 0)).cs) ⟨rfl, rfl⟩ rfl rfl rfl (st_derS (u := (SL.mk none 0 0))) sv_derS <| rK [0, 0] [] [] <| rN0 z_ ?_
                      try clear H a W
                      intro a W H
                      refine wp_exit ?_
                      repeat (first | (with_reducible refine then_exit ?_) | (with_reducible refine blk_pass (by decide) ?_))
                      refine blk_exit ?_
                      refine hK2 _ _ ?_
                      clear hK2
                      refine sqR H gs0 fun Z_ z_ => rV rfl (does_load rfl rfl (k := 0) rfl Tryd.underlying27 rfl (info_der (DH.mk k f n (SL.mk Ab nb cb) t (SL.mk Aa na ca) (SL.mk none 0 0)))) <| rV rfl (does_fieldAddr rfl rfl fa_der0) <| rV rfl (does_loadAt (v := .int .i64 k) rfl rfl (k := 0) rfl ld_derK) <| rV rfl (does_build rfl rfl (bd_derK k)) <| rCV rfl rfl ⟨_, Tryd.func50, by kernel_rfl⟩ rfl (fun a W H _ => (same_zero (nb := nb) _ ((bf_old hFb H)))) <| rK [1, 1, 1, 1, 1, 0] [] [] <| rS 1 rfl <| rK [1, 0, 0, 0, 0, 0, 0] [] [] <| rN0 z_ ?_
                      try clear H a W
                      intro a W H
                      refine wp_ret ?_
                      repeat (first | (with_reducible refine then_ret ?_) | (with_reducible refine blk_ret ?_))
                      refine end_tmp (p := 2) rfl rfl H (fun hb => ?_)
                      exact ⟨congrArg (fun b_ => Ending.returned (.bool b_)) ((plain_is (k := k) (f := f) (n := n) (t := t) (lb := lb) (na := na) (nk := nk)).2.2.2.2.2.2 (by omega)), hb⟩
                    | false =>
                      rw [hq10] at H
                      have hq10p := of_decide_eq_false hq10
                      refine wp_cond_false (H.ev rfl) ?_
                      refine wp_skip ?_
                      refine hK12 _ _ ?_
                      clear hK12
                      refine wp_exit ?_
                      repeat (first | (with_reducible refine then_exit ?_) | (with_reducible refine blk_pass (by decide) ?_))
                      refine blk_exit ?_
                      refine hK4 _ _ ?_
                      clear hK4
                      refine wp_seq_k (fun K49 hK49 => ?_)
                      refine sqR H gs0 fun Z_ z_ => rK [1, 0] [] [] <| rS 1 rfl <| rK [1, 0] [] [] <| rN0 z_ ?_
                      try clear H a W
                      intro a W H
                      refine wp_ret ?_
                      repeat (first | (with_reducible refine then_ret ?_) | (with_reducible refine blk_ret ?_))
                      refine end_tmp (p := 2) rfl rfl H (fun hb => ?_)
                      exact ⟨by unfold plainE; rw [decide_eq_false (p := 1 ≤ k ∧ k ≤ 10) (by omega)]; rfl, hb⟩
end Go.Proofs.YtonhkclkddobhaaDoor
namespace Go.Proofs.YtonhkclkddobhaaDoor
set_option linter.unusedVariables false
set_option linter.unusedSimpArgs false
set_option maxRecDepth 100000
open Go Go.RowKit
def ItF (B : Nat) (s : ByteArray) (pos : Nat) (v : Value) (w : World) : Prop := ∃ g, v = .pointer (some ⟨g, 0, none⟩) ∧ B ≤ g ∧ g < w.heap.size ∧ w.heap[g]? = some (.stringIter s pos)
instance {B : Nat} {s : ByteArray} {pos : Nat} {v : Value} : Lasts (ItF B s pos v) := ⟨fun w w' ⟨g, e, h1, h2, h3⟩ hb => ⟨g, e, h1, Nat.lt_of_lt_of_le h2 hb.size, (hb.block g h2).trans h3⟩⟩
theorem ite_128 {c : Prop} [Decidable c] {x y : Nat × Nat} (h1 : c → 128 ≤ x.1) (h2 : 128 ≤ y.1) : 128 ≤ (if c then x else y).1 := by
  by_cases h : c
  · rw [if_pos h]
    exact h1 h
  · rw [if_neg h]
    exact h2
theorem err_128 : 128 ≤ (Utf8.runeError, 1).1 := by show 128 ≤ 65533; decide
theorem dec_low {s : ByteArray} {i : Nat} : (Utf8.decode s i).1 < 128 ∧ (s.get! i).toNat = (Utf8.decode s i).1 ∧ (Utf8.decode s i).2 = 1 ∨ 128 ≤ (Utf8.decode s i).1 ∧ 128 ≤ (s.get! i).toNat := by
  by_cases h : (s.get! i).toNat < 128
  · have e : Utf8.decode s i = ((s.get! i).toNat, 1) := if_pos h
    rw [e]
    exact .inl ⟨h, rfl, rfl⟩
  · refine .inr ⟨?_, by omega⟩
    unfold Utf8.decode
    dsimp only
    refine ite_128 (fun h2 => absurd h2 h) (ite_128 (fun _ => ite_128 id err_128) (ite_128 (fun _ => ite_128 (fun h2 => ?_) err_128) (ite_128 (fun _ => ite_128 (fun h2 => ?_) err_128) err_128)))
    · rw [Bool.and_eq_true, decide_eq_true_eq] at h2
      exact Nat.le_trans (by decide) h2.1
    · rw [Bool.and_eq_true, decide_eq_true_eq] at h2
      exact Nat.le_trans (by decide) h2.1
theorem next_Y {P : Program} {a : Act} {x : Operand} {s : ByteArray} {pos g : Nat} {w : World} {o : Oper} (ho : o.op = .next x true) (hx : a.eval x = .pointer (some ⟨g, 0, none⟩)) (hi : w.heap[g]? = some (.stringIter s pos)) (hp : pos < s.size) : (execOp a.eval o).run P w = .ok (.value (.tuple #[.bool true, .int .i64 (pos : Int), .int .i32 (((Utf8.decode s pos).1 : Nat) : Int)])) { w with heap := w.heap.setIfInBounds g (.stringIter s (pos + (Utf8.decode s pos).2)) } := by
  unfold execOp
  simp only [ho, hx, Instr.next, getObj, setObj, Sem.run_bind, Sem.run, hi, Result.andThen, hp, if_true, goInt]
  try rfl
theorem next_N {P : Program} {a : Act} {x : Operand} {s : ByteArray} {pos g : Nat} {w : World} {o : Oper} (ho : o.op = .next x true) (hx : a.eval x = .pointer (some ⟨g, 0, none⟩)) (hi : w.heap[g]? = some (.stringIter s pos)) (hp : ¬ pos < s.size) : (execOp a.eval o).run P w = .ok (.value (.tuple #[.bool false])) w := by
  unfold execOp
  simp only [ho, hx, Instr.next, getObj, setObj, Sem.run_bind, Sem.run, hi, Result.andThen, hp, if_false, goInt]
  try rfl
theorem sl_str14 {t : List UInt8} (h : t.length = 15) (W : World) : (Instr.sliceAt 9 (.string (strB t)) none (some (.int .i64 14)) none).run Tryd.prog W = .ok (.string (strB (t.take 14))) W := by
  have hu : Tryd.prog.underlying 9 = some .string := by kernel_rfl
  have hs : (strB t).size = 15 := by rw [strB_size]; exact h
  have he : (strB t).extract 0 14 = strB (t.take 14) := by
    apply ByteArray.ext
    apply Array.ext'
    simp [strB, ByteArray.extract, ByteArray.copySlice]
    try rfl
  go_simp
  all_goals first | exact he | (simp [hs, he]) | skip
theorem str_at {t : List UInt8} {k : Nat} (h : k < t.length) : ((strB t).get! k) = t.getD k 0 := by
  show (t.toArray)[k]! = _
  rw [List.getElem!_toArray, List.getElem!_eq_getElem?_getD, List.getD_eq_getElem?_getD]
  rw [List.getElem?_eq_getElem h]
  rfl
theorem take_getD {t : List UInt8} {k : Nat} (h : k < 14) : (t.take 14).getD k 0 = t.getD k 0 := by
  rw [List.getD_eq_getElem?_getD, List.getElem?_take_of_lt h, ← List.getD_eq_getElem?_getD]
theorem time_of {t : List UInt8} {N : Nat} (h15 : t.length = 15) (h90 : (t.getD 14 0).toNat = 90) (hpos : ∀ i, i < N → 48 ≤ (t.getD i 0).toNat ∧ (t.getD i 0).toNat ≤ 57) (hend : N = 14 ∨ N < 14 ∧ ¬ (48 ≤ (t.getD N 0).toNat ∧ (t.getD N 0).toNat ≤ 57)) : timeOk t = decide (N = 14) := by
  have h90' : t.getD 14 0 = 90 := UInt8.toNat_inj.1 h90
  unfold timeOk
  rw [decide_eq_true h15, decide_eq_true h90', Bool.true_and, Bool.true_and]
  rcases hend with rfl | ⟨h1, h2⟩
  · rw [decide_eq_true rfl]
    refine List.all_eq_true.2 fun x hx => ?_
    obtain ⟨i, hi, rfl⟩ := List.getElem_of_mem hx
    rw [List.length_take] at hi
    have := hpos i (by omega)
    rw [List.getElem_take]
    rw [List.getD_eq_getElem?_getD, List.getElem?_eq_getElem (by omega), Option.getD_some] at this
    simp [this.1, this.2]
  · rw [decide_eq_false (by omega)]
    cases hall : (t.take 14).all (fun x => decide (48 ≤ x.toNat) && decide (x.toNat ≤ 57)) with
    | false => rfl
    | true =>
      refine absurd ?_ h2
      have hm : t.getD N 0 ∈ t.take 14 := by
        rw [← take_getD h1, List.getD_eq_getElem?_getD, List.getElem?_eq_getElem (by rw [List.length_take]; omega)]
        exact List.getElem_mem _
      have := List.all_eq_true.1 hall _ hm
      rw [Bool.and_eq_true, decide_eq_true_eq, decide_eq_true_eq] at this
      exact this
theorem time_no {t : List UInt8} (h : ¬ (t.length = 15 ∧ (t.getD 14 0).toNat = 90)) : timeOk t = false := by
  unfold timeOk
  by_cases h1 : t.length = 15
  · rw [decide_eq_false (p := t.getD 14 0 = 90) (fun e => h ⟨h1, by rw [e]; rfl⟩), Bool.and_false, Bool.false_and]
  · rw [decide_eq_false h1, Bool.false_and, Bool.false_and]
section
variable {P : Program} {n : Nat} {w0 w : World} {a : Act} {e : Env} {Q : Exit → Act → World → Prop} {ops : Array Oper} {rest : List Oper} {o : Oper}
theorem pl_rangeS {d : Nat} {T : TypeId} {x : Operand} {s : ByteArray} (ho : o.op = .range T x) (hx : sev e x = some (.string s)) (hT : P.underlying T = some .string) (hg : o.guard = none) (hdst : o.dst = some d) (hl : Nat.blt d n = true) (hf : e.all (fun p => !Nat.beq p.1 d) = true) (H : St n w0 a w e [])
    (next : ∀ v a w, ItF w0.heap.size s 0 v w → St n w0 a w ((d, v) :: e) [] → wpList P ops Q rest a w) : wpList P ops Q (o :: rest) a w :=
  wpList_plain hg fun K hK => by
    have e1 : (execOp a.eval o).run P w = .ok (.value (.pointer (some ⟨w.heap.size, 0, none⟩))) (w.alloc (.stringIter s 0)) := by
      simp [execOp, ho, H.ev hx, Instr.range, run_underlying hT, Result.andThen]
      try rfl
    unfold Oper.wp
    rw [e1]
    have hA := MapKept.heap_alloc w (.stringIter s 0)
    have hbel : Below w.heap.size w (w.alloc (.stringIter s 0)) := (Below.refl _ _).alloc (Nat.le_refl _) _
    refine hK _ _ (next _ _ _ ⟨w.heap.size, rfl, H.below.size, by show _ < (w.heap.push _).size; simp, hA.1⟩ ?_)
    rw [hdst]
    exact (H.call hbel).put _ hl hf
theorem St.iter {s : ByteArray} {pos pos' g : Nat} (H : St n w0 a w e []) (hg : w0.heap.size ≤ g) (hi : w.heap[g]? = some (.stringIter s pos)) : St n w0 a { w with heap := w.heap.setIfInBounds g (.stringIter s pos') } e [] ∧ ({ w with heap := w.heap.setIfInBounds g (.stringIter s pos') } : World).heap[g]? = some (.stringIter s pos') := by
  have hlt : g < w.heap.size := (Array.getElem?_eq_some_iff.1 hi).1
  have hgrow : w.grownBy { w with heap := w.heap.setIfInBounds g (.stringIter s pos') } (some g) := ⟨rfl, rfl, rfl, by simp, fun j _ hj => by
    have hne : g ≠ j := fun e => hj (by rw [e])
    show (w.heap.setIfInBounds g _)[j]? = _
    rw [Array.getElem?_setIfInBounds_ne hne]⟩
  refine ⟨⟨H.size, H.defers, H.env, H.below.grown hgrow H.below.size (fun j hj => by injection hj with hj; rw [← hj]; exact hg), (fun p hp => by cases hp), (fun p hp => by cases hp), List.Pairwise.nil⟩, ?_⟩
  show (w.heap.setIfInBounds g _)[g]? = _
  rw [Array.getElem?_setIfInBounds_self_of_lt hlt]
theorem pl_nextY {d : Nat} {x : Operand} {s : ByteArray} {pos : Nat} {v : Value} (ho : o.op = .next x true) (hx : sev e x = some v) (hv : ItF w0.heap.size s pos v w) (hp : pos < s.size) (hg : o.guard = none) (hdst : o.dst = some d) (hl : Nat.blt d n = true) (hf : e.all (fun p => !Nat.beq p.1 d) = true) (H : St n w0 a w e [])
    (next : ∀ a w, ItF w0.heap.size s (pos + (Utf8.decode s pos).2) v w → St n w0 a w ((d, .tuple #[.bool true, .int .i64 (pos : Int), .int .i32 (((Utf8.decode s pos).1 : Nat) : Int)]) :: e) [] → wpList P ops Q rest a w) : wpList P ops Q (o :: rest) a w :=
  wpList_plain hg fun K hK => by
    obtain ⟨g, rfl, hB, hlt, hi⟩ := hv
    obtain ⟨H2, h2⟩ := H.iter (pos' := pos + (Utf8.decode s pos).2) hB hi
    have e1 := next_Y (P := P) ho (H.ev hx) hi hp
    unfold Oper.wp
    rw [e1]
    refine hK _ _ (next _ _ ⟨g, rfl, hB, by simpa using hlt, h2⟩ ?_)
    rw [hdst]
    exact H2.put _ hl hf
theorem pl_nextN {d : Nat} {x : Operand} {s : ByteArray} {pos : Nat} {v : Value} (ho : o.op = .next x true) (hx : sev e x = some v) (hv : ItF w0.heap.size s pos v w) (hp : ¬ pos < s.size) (hg : o.guard = none) (hdst : o.dst = some d) (hl : Nat.blt d n = true) (hf : e.all (fun p => !Nat.beq p.1 d) = true) (H : St n w0 a w e [])
    (next : ∀ a w, St n w0 a w ((d, .tuple #[.bool false]) :: e) [] → wpList P ops Q rest a w) : wpList P ops Q (o :: rest) a w :=
  wpList_plain hg fun K hK => by
    obtain ⟨g, rfl, hB, hlt, hi⟩ := hv
    have e1 := next_N (P := P) ho (H.ev hx) hi hp
    unfold Oper.wp
    rw [e1]
    refine hK _ _ (next _ _ ?_)
    rw [hdst]
    exact H.put _ hl hf
end
attribute [local irreducible] bvs byteD rb sameZ plainE maxN arcsOk timeOk
set_option maxHeartbeats 4000000 in
theorem maxU_any {Aa : Option Addr} {na ca gx ox : Nat} {la : List Nat} (w : World) (h1 : 1 ≤ na) (hna : na < 9223372036854775808) (hla : la.length = na) (hax : 0 < na → Aa = some ⟨gx, ox, none⟩ ∧ gx < w.heap.size ∧ ∀ i, i < na → w.cell? ⟨gx, ox + i, none⟩ = some (.int .u64 ((la.getD i 0 : Nat) : Int))) : Calls Tryd.prog 51 #[.slice Aa na ca] w (fun rr w' => rr = .returned (.int .u64 ((maxN la : Nat) : Int)) ∧ Below w.heap.size w w') := by
  refine calls_st (vs := [.slice Aa na ca]) 25 Tryd.func51 rfl Tryd.ntmps51 rfl (fun a W H => ?_)
  replace H : St 25 w a W [(0, .slice Aa na ca)] [] := H
  refine sqR H gs0 fun Z_ z_ => rS 1 rfl <| rN0 z_ ?_
  try clear H a W
  intro a W H
  refine wp_seq_k (fun K2 hK2 => ?_)
  refine sqR H gs0 fun Z_ z_ => rS 1 rfl <| rV rfl (does_len Tryd.underlying24 rfl rfl) <| rV rfl (does_binOp rfl rfl rfl (z_cmp.1 (decide_eq_false (by omega)) _ _)) <| rK [1, 0, 0] [] [] <| rN0 z_ ?_
  try clear H a W
  intro a W H
  refine wp_cond_false (H.ev rfl) ?_
  refine wp_skip ?_
  refine hK2 _ _ ?_
  clear hK2
  refine sqR H gs0 fun Z_ z_ => rS 1 rfl <| rV rfl (does_indexAddr rfl rfl rfl (ia_u64D (j := 0) (hax (by omega)).1 (by omega))) <| rV rfl (does_loadCell (v := .int .u64 ((la.getD 0 0 : Nat) : Int)) rfl rfl ((hax (by omega)).2.2 0 (by omega)) (hax (by omega)).2.1 ld_cellD) <| rS 1 rfl <| rK [1, 0, 0, 0, 0] [] [] <| rN0 z_ ?_
  try clear H a W
  intro a W H
  refine wp_seq_k (fun K5 hK5 => ?_)
  refine sqR H gs0 fun Z_ z_ => rS 1 rfl <| rN0 z_ ?_
  try clear H a W
  intro a W H
  refine wp_block ?_
  rw [show (Value.int .u64 ((la.getD 0 0 : Nat) : Int)) = .int .u64 ((maxN (la.take (0 + 1)) : Nat) : Int) by rw [max_take (by omega), List.take_zero, maxN_0]] at H
  replace H : St 25 w a W [(4, .int .i64 ((0 + 1 : Nat) : Int)), (3, .int .u64 ((maxN (la.take (0 + 1)) : Nat) : Int)), (2, .int .u64 0), (0, .slice Aa na ca)] [] := H.pick [0, 1, 2, 3] [] rfl
  refine wp_rounds (na - 1) (fun k a W => St 25 w a W [(4, .int .i64 ((k + 1 : Nat) : Int)), (3, .int .u64 ((maxN (la.take (k + 1)) : Nat) : Int)), (2, .int .u64 0), (0, .slice Aa na ca)] []) (k0 := 0) H (by omega) ?_
  try clear H a W
  intro k a W hk H
  by_cases hk2 : k < (na - 1)
  · refine wp_seq_k (fun K7 hK7 => ?_)
    refine sqR H gs0 fun Z_ z_ => rS 2 rfl <| rV rfl (does_len Tryd.underlying24 rfl rfl) <| rV rfl (does_binOp rfl rfl rfl (z_cmp.1 (decide_eq_true (by omega)) _ _)) <| rN0 z_ ?_
    try clear H a W
    intro a W H
    refine wp_cond_true (H.ev rfl) ?_
    refine wp_skip ?_
    refine hK7 _ _ ?_
    clear hK7
    refine wp_seq_k (fun K9 hK9 => ?_)
    refine wp_block ?_
    refine rgP H gs0 (rS 3 rfl <| rV rfl (does_indexAddr rfl rfl rfl (ia_u64D (j := k + 1) (hax (by omega)).1 (by omega))) <| rV rfl (does_loadCell (v := .int .u64 ((la.getD (k + 1) 0 : Nat) : Int)) rfl rfl ((hax (by omega)).2.2 (k + 1) (by omega)) (hax (by omega)).2.1 ld_cellD) <| rV rfl (does_maxU (k := maxN (la.take (k + 1))) (m := la.getD (k + 1) 0) rfl rfl rfl) <| rK [1, 1, 1, 1, 1, 1, 1, 1, 1, 1, 1, 0] [] [] <| rS 1 rfl <| rZ0 ?_)
    try clear H a W
    intro a W H
    refine blk_normal ?_
    refine hK9 _ _ ?_
    clear hK9
    refine rgP H gs0 (rS 1 rfl <| rV rfl (does_binOp rfl rfl rfl (zd_add_int (k := ((k + 1 : Nat) : Int)) (m := 1) (c := ((k + 1 + 1 : Nat) : Int)) (by omega) (by omega) _ _)) <| rK [1, 1, 1, 1, 1, 1, 1, 1, 1, 1, 1, 1, 1, 0] [] [] <| rS 1 rfl <| rZ0 ?_)
    try clear H a W
    intro a W H
    refine ⟨k + 1, by omega, by omega, ?_⟩
    show St 25 w a W [(4, .int .i64 ((k + 1 + 1 : Nat) : Int)), (3, .int .u64 ((maxN (la.take (k + 1 + 1)) : Nat) : Int)), (2, .int .u64 0), (0, .slice Aa na ca)] []
    rw [max_take (by omega)]
    exact H.pick [0, 3, 14, 15] [] rfl
  · obtain rfl : (na - 1) = k := by omega
    refine wp_seq_k (fun K10 hK10 => ?_)
    refine sqR H gs0 fun Z_ z_ => rS 2 rfl <| rV rfl (does_len Tryd.underlying24 rfl rfl) <| rV rfl (does_binOp rfl rfl rfl (z_cmp.1 (decide_eq_false (by omega)) _ _)) <| rK [1, 0, 0, 0] [] [] <| rN0 z_ ?_
    try clear H a W
    intro a W H
    refine wp_cond_false (H.ev rfl) ?_
    refine wp_exit ?_
    repeat (first | (with_reducible refine then_exit ?_) | (with_reducible refine blk_pass (by decide) ?_))
    refine blk_exit ?_
    refine hK5 _ _ ?_
    clear hK5
    refine sqR H gs0 fun Z_ z_ => rS 1 rfl <| rK [1, 1, 1, 1, 0] [] [] <| rS 1 rfl <| rK [1, 0, 0, 0, 0, 0] [] [] <| rN0 z_ ?_
    try clear H a W
    intro a W H
    refine wp_ret ?_
    repeat (first | (with_reducible refine then_ret ?_) | (with_reducible refine blk_ret ?_))
    refine end_tmp (p := 2) rfl rfl H (fun hb => ?_)
    refine ⟨?_, hb⟩
    rw [show na - 1 + 1 = la.length by omega, List.take_length]
set_option maxHeartbeats 4000000 in
theorem may_oid {Aa : Option Addr} {na ca gx ox : Nat} {la : List Nat} (w : World) (hna : na < 9223372036854775808) (hla : la.length = na) (hax : 0 < na → Aa = some ⟨gx, ox, none⟩ ∧ gx < w.heap.size ∧ ∀ i, i < na → w.cell? ⟨gx, ox + i, none⟩ = some (.int .u64 ((la.getD i 0 : Nat) : Int))) : Calls Tryd.prog 45 #[.slice Aa na ca] w (fun rr w' => rr = .returned (.bool (arcsOk la)) ∧ Below w.heap.size w w') := by
  refine calls_st (vs := [.slice Aa na ca]) 32 Tryd.func45 rfl Tryd.ntmps45 rfl (fun a W H => ?_)
  replace H : St 32 w a W [(0, .slice Aa na ca)] [] := H
  refine sqR H gs0 fun Z_ z_ => rS 1 rfl <| rN0 z_ ?_
  try clear H a W
  intro a W H
  refine wp_seq_k (fun K2 hK2 => ?_)
  refine wp_seq_k (fun K3 hK3 => ?_)
  cases hq1 : decide (((na : Nat) : Int) < 2) with
  | true =>
    have hq1p := of_decide_eq_true hq1
    refine rgP H gs0 (rS 1 rfl <| rV rfl (does_len Tryd.underlying24 rfl rfl) <| rV rfl (does_binOp rfl rfl rfl (z_cmp.1 hq1 _ _)) <| rS 10 rfl <| rK [1, 0, 0, 0, 0, 0, 0, 0, 0, 0, 0, 0, 0] [] [] <| rZ0 ?_)
    try clear H a W
    intro a W H
    refine hK3 _ _ ?_
    clear hK3
    refine wp_cond_true (H.ev rfl) ?_
    refine sqR H gs0 fun Z_ z_ => rK [1, 0] [] [] <| rS 1 rfl <| rK [1, 0] [] [] <| rN0 z_ ?_
    try clear H a W
    intro a W H
    refine wp_ret ?_
    repeat (first | (with_reducible refine then_ret ?_) | (with_reducible refine blk_ret ?_))
    refine end_tmp (p := 2) rfl rfl H (fun hb => ?_)
    refine ⟨?_, hb⟩
    rw [arcs_max, hla]
    rw [decide_eq_false (p := 2 ≤ na) (by omega)]
    try simp only [Bool.true_and, Bool.and_true, Bool.false_and, Bool.and_false, Bool.true_or, Bool.false_or]
  | false =>
    have hq1p := of_decide_eq_false hq1
    cases hq2 : decide (16 < ((na : Nat) : Int)) with
    | true =>
      have hq2p := of_decide_eq_true hq2
      refine rgP H gs0 (rS 1 rfl <| rV rfl (does_len Tryd.underlying24 rfl rfl) <| rV rfl (does_binOp rfl rfl rfl (z_cmp.1 hq1 _ _)) <| rS 2 rfl <| rV rfl (does_len Tryd.underlying24 rfl rfl) <| rV rfl (does_binOp rfl rfl rfl (z_cmp.2.1 hq2 _ _)) <| rS 6 rfl <| rK [1, 0, 0, 0, 0, 0, 0, 0, 0, 0, 0, 0, 0] [] [] <| rZ0 ?_)
      try clear H a W
      intro a W H
      refine hK3 _ _ ?_
      clear hK3
      refine wp_cond_true (H.ev rfl) ?_
      refine sqR H gs0 fun Z_ z_ => rK [1, 0] [] [] <| rS 1 rfl <| rK [1, 0] [] [] <| rN0 z_ ?_
      try clear H a W
      intro a W H
      refine wp_ret ?_
      repeat (first | (with_reducible refine then_ret ?_) | (with_reducible refine blk_ret ?_))
      refine end_tmp (p := 2) rfl rfl H (fun hb => ?_)
      refine ⟨?_, hb⟩
      rw [arcs_max, hla]
      rw [decide_eq_true (p := 2 ≤ na) (by omega), decide_eq_false (p := na ≤ 16) (by omega)]
      try simp only [Bool.true_and, Bool.and_true, Bool.false_and, Bool.and_false, Bool.true_or, Bool.false_or]
    | false =>
      have hq2p := of_decide_eq_false hq2
      refine rgP H gs0 (rS 1 rfl <| rV rfl (does_len Tryd.underlying24 rfl rfl) <| rV rfl (does_binOp rfl rfl rfl (z_cmp.1 hq1 _ _)) <| rS 2 rfl <| rV rfl (does_len Tryd.underlying24 rfl rfl) <| rV rfl (does_binOp rfl rfl rfl (z_cmp.2.1 hq2 _ _)) <| rS 3 rfl <| rCV rfl rfl ⟨_, Tryd.func51, by kernel_rfl⟩ rfl (fun a W H _ => (maxU_any _ (by omega) hna hla (fun h0 => ⟨(hax h0).1, Nat.lt_of_lt_of_le (hax h0).2.1 H.below.size, fun i hi => (H.below.cell (p := ⟨gx, ox + i, none⟩) (hax h0).2.1).trans ((hax h0).2.2 i hi)⟩))) <| rV rfl (does_binOp rfl rfl rfl (ud_gtrU rfl _ _)) <| rS 1 rfl <| rK [1, 0, 0, 0, 0, 0, 0, 0, 0, 0, 0, 0, 0] [] [] <| rZ0 ?_)
      try clear H a W
      intro a W H
      refine hK3 _ _ ?_
      clear hK3
      cases hq3 : decide (2147483647 < maxN la) with
      | true =>
        rw [hq3] at H
        have hq3p := of_decide_eq_true hq3
        refine wp_cond_true (H.ev rfl) ?_
        refine sqR H gs0 fun Z_ z_ => rK [1, 0] [] [] <| rS 1 rfl <| rK [1, 0] [] [] <| rN0 z_ ?_
        try clear H a W
        intro a W H
        refine wp_ret ?_
        repeat (first | (with_reducible refine then_ret ?_) | (with_reducible refine blk_ret ?_))
        refine end_tmp (p := 2) rfl rfl H (fun hb => ?_)
        refine ⟨?_, hb⟩
        rw [arcs_max, hla]
        rw [decide_eq_true (p := 2 ≤ na) (by omega), decide_eq_true (p := na ≤ 16) (by omega), decide_eq_false (p := maxN la ≤ 2147483647) (by omega)]
        try simp only [Bool.true_and, Bool.and_true, Bool.false_and, Bool.and_false, Bool.true_or, Bool.false_or]
      | false =>
        rw [hq3] at H
        have hq3p := of_decide_eq_false hq3
        refine wp_cond_false (H.ev rfl) ?_
        refine wp_skip ?_
        refine hK2 _ _ ?_
        clear hK2
        refine wp_seq_k (fun K7 hK7 => ?_)
        cases hq4 : decide (la.getD 0 0 ≤ 2) with
        | true =>
          have hq4p := of_decide_eq_true hq4
          cases hq5 : decide (la.getD 0 0 = 2) with
          | true =>
            have hq5p := of_decide_eq_true hq5
            refine rgP H gs0 (rS 1 rfl <| rV rfl (does_indexAddr rfl rfl rfl (ia_u64D (j := 0) (hax (by omega)).1 (by omega))) <| rV rfl (does_loadCell (v := .int .u64 ((la.getD 0 0 : Nat) : Int)) rfl rfl ((hax (by omega)).2.2 0 (by omega)) (hax (by omega)).2.1 ld_cellD) <| rV rfl (does_binOp rfl rfl rfl (ud_leqU hq4 _ _)) <| rS 2 rfl <| rV rfl (does_indexAddr rfl rfl rfl (ia_u64D (j := 0) (hax (by omega)).1 (by omega))) <| rV rfl (does_loadCell (v := .int .u64 ((la.getD 0 0 : Nat) : Int)) rfl rfl ((hax (by omega)).2.2 0 (by omega)) (hax (by omega)).2.1 ld_cellD) <| rV rfl (does_binOp rfl rfl rfl (ud_eqlU hq5 _ _)) <| rS 7 rfl <| rK [1, 1, 1, 1, 1, 1, 1, 1, 1, 1, 1, 1, 1, 1, 1, 1, 1, 0] [] [] <| rS 1 rfl <| rK [1, 0, 0, 0, 0, 0, 0, 0, 0, 0, 0, 0, 0, 0, 0, 0, 0, 0, 0] [] [] <| rZ0 ?_)
            try clear H a W
            intro a W H
            refine hK7 _ _ ?_
            clear hK7
            refine wp_ret ?_
            repeat (first | (with_reducible refine then_ret ?_) | (with_reducible refine blk_ret ?_))
            refine end_tmp (p := 2) rfl rfl H (fun hb => ?_)
            refine ⟨?_, hb⟩
            rw [arcs_max, hla]
            rw [decide_eq_true (p := 2 ≤ na) (by omega), decide_eq_true (p := na ≤ 16) (by omega), decide_eq_true (p := maxN la ≤ 2147483647) (by omega), decide_eq_true (p := la.getD 0 0 ≤ 2) (by omega), decide_eq_true (p := la.getD 0 0 = 2) (by omega)]
            try simp only [Bool.true_and, Bool.and_true, Bool.false_and, Bool.and_false, Bool.true_or, Bool.false_or]
          | false =>
            have hq5p := of_decide_eq_false hq5
            refine rgP H gs0 (rS 1 rfl <| rV rfl (does_indexAddr rfl rfl rfl (ia_u64D (j := 0) (hax (by omega)).1 (by omega))) <| rV rfl (does_loadCell (v := .int .u64 ((la.getD 0 0 : Nat) : Int)) rfl rfl ((hax (by omega)).2.2 0 (by omega)) (hax (by omega)).2.1 ld_cellD) <| rV rfl (does_binOp rfl rfl rfl (ud_leqU hq4 _ _)) <| rS 2 rfl <| rV rfl (does_indexAddr rfl rfl rfl (ia_u64D (j := 0) (hax (by omega)).1 (by omega))) <| rV rfl (does_loadCell (v := .int .u64 ((la.getD 0 0 : Nat) : Int)) rfl rfl ((hax (by omega)).2.2 0 (by omega)) (hax (by omega)).2.1 ld_cellD) <| rV rfl (does_binOp rfl rfl rfl (ud_eqlU hq5 _ _)) <| rS 2 rfl <| rV rfl (does_indexAddr rfl rfl rfl (ia_u64D (j := 1) (hax (by omega)).1 (by omega))) <| rV rfl (does_loadCell (v := .int .u64 ((la.getD 1 0 : Nat) : Int)) rfl rfl ((hax (by omega)).2.2 1 (by omega)) (hax (by omega)).2.1 ld_cellD) <| rV rfl (does_binOp rfl rfl rfl (ud_lssU rfl _ _)) <| rS 2 rfl <| rK [1, 1, 1, 1, 1, 1, 1, 1, 1, 1, 1, 1, 1, 1, 1, 1, 1, 0] [] [] <| rS 1 rfl <| rK [1, 0, 0, 0, 0, 0, 0, 0, 0, 0, 0, 0, 0, 0, 0, 0, 0, 0, 0] [] [] <| rZ0 ?_)
            try clear H a W
            intro a W H
            refine hK7 _ _ ?_
            clear hK7
            refine wp_ret ?_
            repeat (first | (with_reducible refine then_ret ?_) | (with_reducible refine blk_ret ?_))
            refine end_tmp (p := 2) rfl rfl H (fun hb => ?_)
            refine ⟨?_, hb⟩
            rw [arcs_max, hla]
            rw [decide_eq_true (p := 2 ≤ na) (by omega), decide_eq_true (p := na ≤ 16) (by omega), decide_eq_true (p := maxN la ≤ 2147483647) (by omega), decide_eq_true (p := la.getD 0 0 ≤ 2) (by omega), decide_eq_false (p := la.getD 0 0 = 2) (by omega)]
            try simp only [Bool.true_and, Bool.and_true, Bool.false_and, Bool.and_false, Bool.true_or, Bool.false_or]
        | false =>
          have hq4p := of_decide_eq_false hq4
          refine rgP H gs0 (rS 1 rfl <| rV rfl (does_indexAddr rfl rfl rfl (ia_u64D (j := 0) (hax (by omega)).1 (by omega))) <| rV rfl (does_loadCell (v := .int .u64 ((la.getD 0 0 : Nat) : Int)) rfl rfl ((hax (by omega)).2.2 0 (by omega)) (hax (by omega)).2.1 ld_cellD) <| rV rfl (does_binOp rfl rfl rfl (ud_leqU hq4 _ _)) <| rS 12 rfl <| rK [1, 1, 1, 1, 1, 1, 1, 1, 1, 1, 1, 1, 1, 1, 1, 1, 1, 0] [] [] <| rS 1 rfl <| rK [1, 0, 0, 0, 0, 0, 0, 0, 0, 0, 0, 0, 0, 0, 0, 0, 0, 0, 0] [] [] <| rZ0 ?_)
          try clear H a W
          intro a W H
          refine hK7 _ _ ?_
          clear hK7
          refine wp_ret ?_
          repeat (first | (with_reducible refine then_ret ?_) | (with_reducible refine blk_ret ?_))
          refine end_tmp (p := 2) rfl rfl H (fun hb => ?_)
          refine ⟨?_, hb⟩
          rw [arcs_max, hla]
          rw [decide_eq_true (p := 2 ≤ na) (by omega), decide_eq_true (p := na ≤ 16) (by omega), decide_eq_true (p := maxN la ≤ 2147483647) (by omega), decide_eq_false (p := la.getD 0 0 ≤ 2) (by omega)]
          try simp only [Bool.true_and, Bool.and_true, Bool.false_and, Bool.and_false, Bool.true_or, Bool.false_or]
set_option maxHeartbeats 4000000 in
theorem is_time {t : List UInt8} (w : World) (ht : t.length < 9223372036854775808) : Calls Tryd.prog 47 #[.string (strB t)] w (fun rr w' => rr = .returned (.bool (timeOk t)) ∧ Below w.heap.size w w') := by
  refine calls_st (vs := [.string (strB t)]) 25 Tryd.func47 rfl Tryd.ntmps47 rfl (fun a W H => ?_)
  replace H : St 25 w a W [(0, .string (strB t))] [] := H
  refine sqR H gs0 fun Z_ z_ => rS 1 rfl <| rN0 z_ ?_
  try clear H a W
  intro a W H
  refine wp_seq_k (fun K2 hK2 => ?_)
  refine wp_seq_k (fun K3 hK3 => ?_)
  cases hq1 : decide (((t.length : Nat) : Int) ≠ 15) with
  | true =>
    have hq1p := of_decide_eq_true hq1
    refine rgP H gs0 (rS 1 rfl <| rV rfl (does_lenT Tryd.underlying9 rfl rfl) <| rV rfl (does_binOp rfl rfl rfl (z_cmp.2.2.2 hq1 _ _)) <| rS 5 rfl <| rK [1, 0, 0, 0, 0, 0, 0, 0] [] [] <| rZ0 ?_)
    try clear H a W
    intro a W H
    refine hK3 _ _ ?_
    clear hK3
    refine wp_cond_true (H.ev rfl) ?_
    refine sqR H gs0 fun Z_ z_ => rK [1, 0] [] [] <| rS 1 rfl <| rK [1, 0] [] [] <| rN0 z_ ?_
    try clear H a W
    intro a W H
    refine wp_ret ?_
    repeat (first | (with_reducible refine then_ret ?_) | (with_reducible refine blk_ret ?_))
    refine end_tmp (p := 2) rfl rfl H (fun hb => ?_)
    exact ⟨by rw [time_no (by omega)], hb⟩
  | false =>
    have hq1p := of_decide_eq_false hq1
    refine rgP H gs0 (rS 1 rfl <| rV rfl (does_lenT Tryd.underlying9 rfl rfl) <| rV rfl (does_binOp rfl rfl rfl (z_cmp.2.2.2 hq1 _ _)) <| rS 2 rfl <| rV rfl (does_index rfl rfl rfl (ix_str (l := t) (j := 14) (by omega))) <| rV rfl (does_binOp rfl rfl rfl (bd_neq8 rfl _ _)) <| rS 1 rfl <| rK [1, 0, 0, 0, 0, 0, 0, 0] [] [] <| rZ0 ?_)
    try clear H a W
    intro a W H
    refine hK3 _ _ ?_
    clear hK3
    cases hq2 : decide ((t.getD 14 0).toNat ≠ 90) with
    | true =>
      rw [hq2] at H
      have hq2p := of_decide_eq_true hq2
      refine wp_cond_true (H.ev rfl) ?_
      refine sqR H gs0 fun Z_ z_ => rK [1, 0] [] [] <| rS 1 rfl <| rK [1, 0] [] [] <| rN0 z_ ?_
      try clear H a W
      intro a W H
      refine wp_ret ?_
      repeat (first | (with_reducible refine then_ret ?_) | (with_reducible refine blk_ret ?_))
      refine end_tmp (p := 2) rfl rfl H (fun hb => ?_)
      exact ⟨by rw [time_no (by omega)], hb⟩
    | false =>
      rw [hq2] at H
      have hq2p := of_decide_eq_false hq2
      refine wp_cond_false (H.ev rfl) ?_
      refine wp_skip ?_
      refine hK2 _ _ ?_
      clear hK2
      refine wp_seq_k (fun K6 hK6 => ?_)
      refine wp_seq_k (fun K7 hK7 => ?_)
      refine rgP H gs0 (rS 1 rfl <| rV rfl (does_slice rfl rfl (vl := none) (vh := some (.int .i64 14)) rfl rfl (sl_str14 (by omega))) <| rI0 ?_)
      try clear H a W
      intro a W H
      refine pl_rangeS rfl rfl Tryd.underlying9 rfl rfl rfl rfl H ?_
      try clear H a W
      intro vi a W hit H
      replace H : St 25 w a W [(15, vi), (14, .string (strB (t.take 14))), (13, .string (strB t)), (12, .bool false), (2, .bool false), (0, .string (strB t))] [] := H
      refine rgO H (gsC hit gs0) (rK [1, 0, 0, 0, 1, 0] [] [] <| rZ ?_)
      try clear hit H a W
      rintro a W H ⟨hit, -⟩
      refine hK7 _ _ ?_
      clear hK7
      obtain ⟨N, hN, hpos, hend⟩ := rounds_at (fun i => 48 ≤ (t.getD i 0).toNat ∧ (t.getD i 0).toNat ≤ 57) 14
      refine wp_block ?_
      replace H : St 25 w a W [(15, vi), (2, .bool false)] [] := H.pick [0, 1] [] rfl
      refine wp_rounds N (fun k a W => ∃ vo, ItF w.heap.size (strB (t.take 14)) k vo W ∧ St 25 w a W [(15, vo), (2, .bool false)] []) (k0 := 0) (show ∃ vo, ItF w.heap.size (strB (t.take 14)) 0 vo W ∧ St 25 w a W [(15, vo), (2, .bool false)] [] from ⟨_, hit, H⟩) (by omega) ?_
      try clear H a W
      intro k a W hk H_
      obtain ⟨vo, hout, H⟩ := H_
      by_cases hk2 : k < N
      · have hp_ := hpos k hk2
        refine wp_seq_k (fun K8 hK8 => ?_)
        refine rg_plain ?_
        refine pl_nextY rfl rfl hout (by rw [strB_size, List.length_take]; omega) rfl rfl rfl rfl H ?_
        try clear H a W
        intro a W hit H
        have hd_ := dec_low (s := (strB (t.take 14))) (i := k)
        rw [str_at (by rw [List.length_take]; omega), take_getD (by omega)] at hd_
        obtain ⟨dc, hdc⟩ : ∃ x, (Utf8.decode (strB (t.take 14)) k).1 = x := ⟨_, rfl⟩
        obtain ⟨dw, hdw⟩ : ∃ x, (Utf8.decode (strB (t.take 14)) k).2 = x := ⟨_, rfl⟩
        rw [hdc] at H hd_
        rw [hdw] at hit hd_
        replace H : St 25 w a W [(16, .tuple #[.bool true, .int .i64 ((k : Nat) : Int), .int .i32 ((dc : Nat) : Int)]), (15, vo), (2, .bool false)] [] := H
        refine rgO H (gsC hit gs0) (rS 1 rfl <| rZ ?_)
        try clear hit H a W
        rintro a W H ⟨hit, -⟩
        refine hK8 _ _ ?_
        clear hK8
        refine cdT H rfl ?_
        refine wp_block ?_
        refine sqR H (gsC hit gs0) fun Z_ z_ => rS 2 rfl <| rN z_ ?_
        try clear hit H a W
        rintro a W H ⟨hit, -⟩
        refine sqR H (gsC hit gs0) fun Z_ z_ => rS 1 rfl <| rV rfl (does_binOp rfl rfl rfl (r_cmp.1 (decide_eq_false (by omega)) _ _)) <| rS 2 rfl <| rV rfl (does_binOp rfl rfl rfl (r_cmp.2 (decide_eq_false (by omega)) _ _)) <| rS 1 rfl <| rN z_ ?_
        try clear hit H a W
        rintro a W H ⟨hit, -⟩
        refine wp_cond_false (H.ev rfl) ?_
        refine wp_skip ?_
        refine blk_normal ?_
        obtain rfl : dw = 1 := by omega
        refine ⟨k + 1, by omega, by omega, ?_⟩
        show ∃ vo, ItF w.heap.size (strB (t.take 14)) (k + 1) vo W ∧ St 25 w a W [(15, vo), (2, .bool false)] []
        refine ⟨_, hit, ?_⟩
        exact H.pick [10, 11] [] rfl
      · obtain rfl : N = k := by omega
        rcases hend with hend | hend
        · refine wp_seq_k (fun K11 hK11 => ?_)
          refine rg_plain ?_
          refine pl_nextN rfl rfl hout (by rw [strB_size, List.length_take]; omega) rfl rfl rfl rfl H ?_
          try clear H a W
          intro a W H
          replace H : St 25 w a W [(16, .tuple #[.bool false]), (15, vo), (2, .bool false)] [] := H
          refine rgO H gs0 (rS 1 rfl <| rK [1, 1, 0] [] [] <| rZ0 ?_)
          try clear H a W
          intro a W H
          refine hK11 _ _ ?_
          clear hK11
          refine wp_seq_k (fun K12 hK12 => ?_)
          refine wp_cond_false (H.ev rfl) ?_
          refine wp_exit ?_
          repeat (first | (with_reducible refine then_exit ?_) | (with_reducible refine blk_pass (by decide) ?_))
          refine blk_exit ?_
          refine hK6 _ _ ?_
          clear hK6
          refine sqR H gs0 fun Z_ z_ => rK [1, 1, 0] [] [] <| rS 1 rfl <| rK [1, 0, 0] [] [] <| rN0 z_ ?_
          try clear H a W
          intro a W H
          refine wp_ret ?_
          repeat (first | (with_reducible refine then_ret ?_) | (with_reducible refine blk_ret ?_))
          refine end_tmp (p := 2) rfl rfl H (fun hb => ?_)
          exact ⟨by rw [time_of (N := N) (by omega) (by omega) hpos (.inl hend), decide_eq_true hend], hb⟩
        · refine wp_seq_k (fun K14 hK14 => ?_)
          refine rg_plain ?_
          refine pl_nextY rfl rfl hout (by rw [strB_size, List.length_take]; omega) rfl rfl rfl rfl H ?_
          try clear H a W
          intro a W hit H
          have hd_ := dec_low (s := (strB (t.take 14))) (i := N)
          rw [str_at (by rw [List.length_take]; omega), take_getD (by omega)] at hd_
          obtain ⟨dc, hdc⟩ : ∃ x, (Utf8.decode (strB (t.take 14)) N).1 = x := ⟨_, rfl⟩
          obtain ⟨dw, hdw⟩ : ∃ x, (Utf8.decode (strB (t.take 14)) N).2 = x := ⟨_, rfl⟩
          rw [hdc] at H hd_
          rw [hdw] at hit hd_
          replace H : St 25 w a W [(16, .tuple #[.bool true, .int .i64 ((N : Nat) : Int), .int .i32 ((dc : Nat) : Int)]), (15, vo), (2, .bool false)] [] := H
          refine rgO H (gsC hit gs0) (rS 1 rfl <| rK [1, 1, 0] [] [0] <| rZ0 ?_)
          try clear hit H a W
          intro a W H
          refine hK14 _ _ ?_
          clear hK14
          refine cdT H rfl ?_
          refine wp_block ?_
          refine sqR H gs0 fun Z_ z_ => rS 2 rfl <| rK [1, 0, 0, 0] [] [] <| rN0 z_ ?_
          try clear H a W
          intro a W H
          refine wp_seq_k (fun K16 hK16 => ?_)
          cases hq3 : decide (((dc : Nat) : Int) < 48) with
          | true =>
            have hq3p := of_decide_eq_true hq3
            refine rgP H gs0 (rS 1 rfl <| rV rfl (does_binOp rfl rfl rfl (r_cmp.1 hq3 _ _)) <| rS 4 rfl <| rK [1, 0, 0, 0, 0, 0, 0] [] [] <| rZ0 ?_)
            try clear H a W
            intro a W H
            refine hK16 _ _ ?_
            clear hK16
            refine wp_cond_true (H.ev rfl) ?_
            refine sqR H gs0 fun Z_ z_ => rK [1, 0] [] [] <| rS 1 rfl <| rK [1, 0] [] [] <| rN0 z_ ?_
            try clear H a W
            intro a W H
            refine wp_ret ?_
            repeat (first | (with_reducible refine then_ret ?_) | (with_reducible refine blk_ret ?_))
            refine end_tmp (p := 2) rfl rfl H (fun hb => ?_)
            exact ⟨by rw [time_of (N := N) (by omega) (by omega) hpos (.inr hend), decide_eq_false (by omega)], hb⟩
          | false =>
            have hq3p := of_decide_eq_false hq3
            refine rgP H gs0 (rS 1 rfl <| rV rfl (does_binOp rfl rfl rfl (r_cmp.1 hq3 _ _)) <| rS 2 rfl <| rV rfl (does_binOp rfl rfl rfl (r_cmp.2 (decide_eq_true (by omega)) _ _)) <| rS 1 rfl <| rK [1, 0, 0, 0, 0, 0, 0] [] [] <| rZ0 ?_)
            try clear H a W
            intro a W H
            refine hK16 _ _ ?_
            clear hK16
            refine wp_cond_true (H.ev rfl) ?_
            refine sqR H gs0 fun Z_ z_ => rK [1, 0] [] [] <| rS 1 rfl <| rK [1, 0] [] [] <| rN0 z_ ?_
            try clear H a W
            intro a W H
            refine wp_ret ?_
            repeat (first | (with_reducible refine then_ret ?_) | (with_reducible refine blk_ret ?_))
            refine end_tmp (p := 2) rfl rfl H (fun hb => ?_)
            exact ⟨by rw [time_of (N := N) (by omega) (by omega) hpos (.inr hend), decide_eq_false (by omega)], hb⟩
set_option maxHeartbeats 4000000 in
theorem may_alone {k n : Int} {f : Bool} {t lb : List UInt8} {la : List Nat} {ks : List DT} {Ab Aa Ak : Option Addr} {nb cb na ca nk ck gx ox : Nat} (u8 : List UInt8 → Bool) (w : World) (hu8 : UV u8 w) (hn : -9223372036854775808 ≤ n ∧ n < 9223372036854775808) (ht : t.length < 9223372036854775808) (hFb : BF lb (.slice Ab nb cb) w) (hna : na < 9223372036854775808) (hlk : ks.length = nk) (hla : la.length = na) (hax : 0 < na → Aa = some ⟨gx, ox, none⟩ ∧ gx < w.heap.size ∧ ∀ i, i < na → w.cell? ⟨gx, ox + i, none⟩ = some (.int .u64 ((la.getD i 0 : Nat) : Int))) : Calls Tryd.prog 33 #[.agg ((DH.mk k f n (SL.mk Ab nb cb) t (SL.mk Aa na ca) (SL.mk Ak nk ck)).cs)] w (fun rr w' => rr = .returned (.bool (ownD u8 (.mk k f n lb t la ks))) ∧ Below w.heap.size w w') := by
  refine calls_st (vs := [.agg ((DH.mk k f n (SL.mk Ab nb cb) t (SL.mk Aa na ca) (SL.mk Ak nk ck)).cs)]) 39 Tryd.func33 rfl Tryd.ntmps33 rfl (fun a W H => ?_)
  replace H : St 39 w a W [(0, .agg ((DH.mk k f n (SL.mk Ab nb cb) t (SL.mk Aa na ca) (SL.mk Ak nk ck)).cs))] [] := H
  refine sqR H gs0 fun Z_ z_ => rB rfl rfl rfl (bx_der (DH.mk k f n (SL.mk Ab nb cb) t (SL.mk Aa na ca) (SL.mk Ak nk ck))) fun g1 => rS 1 rfl <| rK [1, 1, 0] [] [] <| rN0 z_ ?_
  try clear H a W
  intro a W H
  refine wp_seq_k (fun K2 hK2 => ?_)
  refine wp_seq_k (fun K3 hK3 => ?_)
  cases hq1 : plainE k f n t lb na nk with
  | true =>
    refine rgP H gs0 (rV rfl (does_load rfl rfl (k := 0) rfl Tryd.underlying27 rfl (info_der (DH.mk k f n (SL.mk Ab nb cb) t (SL.mk Aa na ca) (SL.mk Ak nk ck)))) <| rCV rfl rfl ⟨_, Tryd.func44, by kernel_rfl⟩ rfl (fun a W H _ => (by have h_ := is_plain (k := k) (n := n) (f := f) (t := t) (lb := lb) (Ab := Ab) (Aa := Aa) (Ak := Ak) (nb := nb) (cb := cb) (na := na) (ca := ca) (nk := nk) (ck := ck) W (bf_old hFb H); rw [hq1] at h_; exact h_)) <| rS 1 rfl <| rK [1, 0, 0] [] [] <| rZ0 ?_)
    try clear H a W
    intro a W H
    refine hK3 _ _ ?_
    clear hK3
    refine wp_cond_false (H.ev rfl) ?_
    refine wp_skip ?_
    refine hK2 _ _ ?_
    clear hK2
    refine wp_seq_k (fun K4 hK4 => ?_)
    refine sqR H gs0 fun Z_ z_ => rV rfl (does_fieldAddr rfl rfl fa_der0) <| rV rfl (does_loadAt (v := .int .i64 k) rfl rfl (k := 0) rfl ld_derK) <| rK [1, 0, 0] [] [] <| rN0 z_ ?_
    try clear H a W
    intro a W H
    refine wp_block ?_
    refine wp_seq_k (fun K6 hK6 => ?_)
    refine wp_block ?_
    refine wp_seq_k (fun K7 hK7 => ?_)
    refine wp_block ?_
    refine wp_seq_k (fun K8 hK8 => ?_)
    refine wp_block ?_
    refine wp_seq_k (fun K9 hK9 => ?_)
    refine wp_block ?_
    refine wp_seq_k (fun K10 hK10 => ?_)
    refine wp_block ?_
    refine wp_seq_k (fun K11 hK11 => ?_)
    refine wp_seq_k (fun K12 hK12 => ?_)
    refine sqR H gs0 fun Z_ z_ => rV rfl (does_binOp rfl rfl rfl (kd_eql rfl _ _)) <| rS 1 rfl <| rK [1, 0] [] [] <| rN0 z_ ?_
    try clear H a W
    intro a W H
    cases hq2 : decide (k = 5) with
    | true =>
      rw [hq2] at H
      have hq2p := of_decide_eq_true hq2
      refine wp_cond_true (H.ev rfl) ?_
      refine wp_exit ?_
      repeat (first | (with_reducible refine then_exit ?_) | (with_reducible refine blk_pass (by decide) ?_))
      refine blk_exit ?_
      refine hK10 _ _ ?_
      clear hK10
      refine wp_seq_k (fun K14 hK14 => ?_)
      refine sqR H gs0 fun Z_ z_ => rV rfl (does_fieldAddr rfl rfl fa_der5) <| rV rfl (does_loadAt (v := .slice Aa na ca) rfl rfl (k := 0) rfl ld_derA) <| rCV rfl rfl ⟨_, Tryd.func45, by kernel_rfl⟩ rfl (fun a W H _ => (may_oid _ hna hla (fun h0 => ⟨(hax h0).1, Nat.lt_of_lt_of_le (hax h0).2.1 H.below.size, fun i hi => (H.below.cell (p := ⟨gx, ox + i, none⟩) (hax h0).2.1).trans ((hax h0).2.2 i hi)⟩))) <| rK [1, 1, 1, 1, 1, 0] [] [] <| rS 1 rfl <| rK [1, 0, 0, 0, 0, 0] [] [] <| rN0 z_ ?_
      try clear H a W
      intro a W H
      refine wp_ret ?_
      repeat (first | (with_reducible refine then_ret ?_) | (with_reducible refine blk_ret ?_))
      refine end_tmp (p := 2) rfl rfl H (fun hb => ?_)
      refine ⟨?_, hb⟩
      rw [own_plain u8 hn, hla, hlk, hq1, Bool.true_and, if_pos (by omega)]
    | false =>
      rw [hq2] at H
      have hq2p := of_decide_eq_false hq2
      refine wp_cond_false (H.ev rfl) ?_
      refine wp_skip ?_
      refine hK12 _ _ ?_
      clear hK12
      refine wp_seq_k (fun K16 hK16 => ?_)
      refine sqR H gs0 fun Z_ z_ => rV rfl (does_binOp rfl rfl rfl (kd_eql rfl _ _)) <| rS 1 rfl <| rK [1, 0, 0] [] [] <| rN0 z_ ?_
      try clear H a W
      intro a W H
      cases hq3 : decide (k = 6) with
      | true =>
        rw [hq3] at H
        have hq3p := of_decide_eq_true hq3
        refine wp_cond_true (H.ev rfl) ?_
        refine wp_exit ?_
        repeat (first | (with_reducible refine then_exit ?_) | (with_reducible refine blk_pass (by decide) ?_))
        refine blk_exit ?_
        refine hK9 _ _ ?_
        clear hK9
        refine wp_seq_k (fun K18 hK18 => ?_)
        refine sqR H gs0 fun Z_ z_ => rV rfl (does_fieldAddr rfl rfl fa_der4) <| rV rfl (does_loadAt (v := .string (strB t)) rfl rfl (k := 0) rfl ld_derT) <| rCV rfl rfl ⟨_, Tryd.func46, by kernel_rfl⟩ rfl (fun a W H _ => (hu8 _ H.below t ht)) <| rK [1, 1, 1, 1, 1, 0] [] [] <| rS 1 rfl <| rK [1, 0, 0, 0, 0, 0] [] [] <| rN0 z_ ?_
        try clear H a W
        intro a W H
        refine wp_ret ?_
        repeat (first | (with_reducible refine then_ret ?_) | (with_reducible refine blk_ret ?_))
        refine end_tmp (p := 2) rfl rfl H (fun hb => ?_)
        refine ⟨?_, hb⟩
        rw [own_plain u8 hn, hla, hlk, hq1, Bool.true_and, if_neg (by omega), if_pos (by omega)]
      | false =>
        rw [hq3] at H
        have hq3p := of_decide_eq_false hq3
        refine wp_cond_false (H.ev rfl) ?_
        refine wp_skip ?_
        refine hK16 _ _ ?_
        clear hK16
        refine wp_seq_k (fun K20 hK20 => ?_)
        refine sqR H gs0 fun Z_ z_ => rV rfl (does_binOp rfl rfl rfl (kd_eql rfl _ _)) <| rS 1 rfl <| rK [1, 0, 0] [] [] <| rN0 z_ ?_
        try clear H a W
        intro a W H
        cases hq4 : decide (k = 10) with
        | true =>
          rw [hq4] at H
          have hq4p := of_decide_eq_true hq4
          refine wp_cond_true (H.ev rfl) ?_
          refine wp_exit ?_
          repeat (first | (with_reducible refine then_exit ?_) | (with_reducible refine blk_pass (by decide) ?_))
          refine blk_exit ?_
          refine hK8 _ _ ?_
          clear hK8
          refine wp_seq_k (fun K22 hK22 => ?_)
          refine sqR H gs0 fun Z_ z_ => rV rfl (does_fieldAddr rfl rfl fa_der4) <| rV rfl (does_loadAt (v := .string (strB t)) rfl rfl (k := 0) rfl ld_derT) <| rCV rfl rfl ⟨_, Tryd.func47, by kernel_rfl⟩ rfl (fun a W H _ => (is_time _ ht)) <| rK [1, 1, 1, 1, 1, 0] [] [] <| rS 1 rfl <| rK [1, 0, 0, 0, 0, 0] [] [] <| rN0 z_ ?_
          try clear H a W
          intro a W H
          refine wp_ret ?_
          repeat (first | (with_reducible refine then_ret ?_) | (with_reducible refine blk_ret ?_))
          refine end_tmp (p := 2) rfl rfl H (fun hb => ?_)
          refine ⟨?_, hb⟩
          rw [own_plain u8 hn, hla, hlk, hq1, Bool.true_and, if_neg (by omega), if_neg (by omega), if_pos (by omega)]
        | false =>
          rw [hq4] at H
          have hq4p := of_decide_eq_false hq4
          refine wp_cond_false (H.ev rfl) ?_
          refine wp_skip ?_
          refine hK20 _ _ ?_
          clear hK20
          refine wp_seq_k (fun K24 hK24 => ?_)
          refine sqR H gs0 fun Z_ z_ => rV rfl (does_binOp rfl rfl rfl (kd_eql rfl _ _)) <| rS 1 rfl <| rK [1, 0, 0] [] [] <| rN0 z_ ?_
          try clear H a W
          intro a W H
          cases hq5 : decide (k = 8) with
          | true =>
            rw [hq5] at H
            have hq5p := of_decide_eq_true hq5
            refine wp_cond_true (H.ev rfl) ?_
            refine wp_exit ?_
            repeat (first | (with_reducible refine then_exit ?_) | (with_reducible refine blk_pass (by decide) ?_))
            refine blk_exit ?_
            refine hK7 _ _ ?_
            clear hK7
            refine wp_seq_k (fun K26 hK26 => ?_)
            cases hq6 : decide (n < 0) with
            | true =>
              have hq6p := of_decide_eq_true hq6
              refine rgP H gs0 (rV rfl (does_fieldAddr rfl rfl fa_der2) <| rV rfl (does_loadAt (v := .int .i64 n) rfl rfl (k := 0) rfl ld_derN) <| rV rfl (does_binOp rfl rfl rfl (i_cmp.1 hq6 _ _)) <| rS 5 rfl <| rK [1, 0, 0, 0, 0, 0, 0, 0, 0, 0] [] [] <| rZ0 ?_)
              try clear H a W
              intro a W H
              refine hK26 _ _ ?_
              clear hK26
              refine wp_cond_true (H.ev rfl) ?_
              refine sqR H gs0 fun Z_ z_ => rK [1, 0] [] [] <| rS 1 rfl <| rK [1, 0] [] [] <| rN0 z_ ?_
              try clear H a W
              intro a W H
              refine wp_ret ?_
              repeat (first | (with_reducible refine then_ret ?_) | (with_reducible refine blk_ret ?_))
              refine end_tmp (p := 2) rfl rfl H (fun hb => ?_)
              refine ⟨?_, hb⟩
              rw [own_plain u8 hn, hla, hlk, hq1, Bool.true_and, if_neg (by omega), if_neg (by omega), if_neg (by omega), if_pos (by omega)]
              rw [decide_eq_false (p := 0 ≤ n ∧ n ≤ 30) (by omega), Bool.false_and]
            | false =>
              have hq6p := of_decide_eq_false hq6
              refine rgP H gs0 (rV rfl (does_fieldAddr rfl rfl fa_der2) <| rV rfl (does_loadAt (v := .int .i64 n) rfl rfl (k := 0) rfl ld_derN) <| rV rfl (does_binOp rfl rfl rfl (i_cmp.1 hq6 _ _)) <| rS 1 rfl <| rV rfl (does_fieldAddr rfl rfl fa_der2) <| rV rfl (does_loadAt (v := .int .i64 n) rfl rfl (k := 0) rfl ld_derN) <| rV rfl (does_binOp rfl rfl rfl (i_cmp.2.1 rfl _ _)) <| rS 1 rfl <| rK [1, 0, 0, 0, 0, 0, 0, 0, 0, 0] [] [] <| rZ0 ?_)
              try clear H a W
              intro a W H
              refine hK26 _ _ ?_
              clear hK26
              cases hq7 : decide (30 < n) with
              | true =>
                rw [hq7] at H
                have hq7p := of_decide_eq_true hq7
                refine wp_cond_true (H.ev rfl) ?_
                refine sqR H gs0 fun Z_ z_ => rK [1, 0] [] [] <| rS 1 rfl <| rK [1, 0] [] [] <| rN0 z_ ?_
                try clear H a W
                intro a W H
                refine wp_ret ?_
                repeat (first | (with_reducible refine then_ret ?_) | (with_reducible refine blk_ret ?_))
                refine end_tmp (p := 2) rfl rfl H (fun hb => ?_)
                refine ⟨?_, hb⟩
                rw [own_plain u8 hn, hla, hlk, hq1, Bool.true_and, if_neg (by omega), if_neg (by omega), if_neg (by omega), if_pos (by omega)]
                rw [decide_eq_false (p := 0 ≤ n ∧ n ≤ 30) (by omega), Bool.false_and]
              | false =>
                rw [hq7] at H
                have hq7p := of_decide_eq_false hq7
                refine wp_cond_false (H.ev rfl) ?_
                refine wp_skip ?_
                refine blk_normal ?_
                refine hK6 _ _ ?_
                clear hK6
                refine wp_seq_k (fun K29 hK29 => ?_)
                refine sqR H gs0 fun Z_ z_ => rV rfl (does_fieldAddr rfl rfl fa_der6) <| rV rfl (does_loadAt (v := .slice Ak nk ck) rfl rfl (k := 0) rfl ld_derS) <| rV rfl (does_len Tryd.underlying25 rfl rfl) <| rV rfl (does_binOp rfl rfl rfl (z_cmp.2.2.1 rfl _ _)) <| rK [1, 1, 1, 1, 1, 0] [] [] <| rS 1 rfl <| rK [1, 0, 0, 0, 0, 0, 0] [] [] <| rN0 z_ ?_
                try clear H a W
                intro a W H
                refine wp_ret ?_
                repeat (first | (with_reducible refine then_ret ?_) | (with_reducible refine blk_ret ?_))
                refine end_tmp (p := 2) rfl rfl H (fun hb => ?_)
                refine ⟨?_, hb⟩
                rw [own_plain u8 hn, hla, hlk, hq1, Bool.true_and, if_neg (by omega), if_neg (by omega), if_neg (by omega), if_pos (by omega)]
                rw [decide_eq_true (p := 0 ≤ n ∧ n ≤ 30) (by omega), Bool.true_and]
                exact congrArg (fun b_ => Ending.returned (.bool b_)) (decide_eq_decide.2 (by omega))
          | false =>
            rw [hq5] at H
            have hq5p := of_decide_eq_false hq5
            refine wp_cond_false (H.ev rfl) ?_
            refine wp_skip ?_
            refine hK24 _ _ ?_
            clear hK24
            refine sqR H gs0 fun Z_ z_ => rV rfl (does_binOp rfl rfl rfl (kd_eql rfl _ _)) <| rS 1 rfl <| rK [1, 0, 0, 0] [] [] <| rN0 z_ ?_
            try clear H a W
            intro a W H
            cases hq8 : decide (k = 9) with
            | true =>
              rw [hq8] at H
              have hq8p := of_decide_eq_true hq8
              refine wp_cond_true (H.ev rfl) ?_
              refine wp_exit ?_
              repeat (first | (with_reducible refine then_exit ?_) | (with_reducible refine blk_pass (by decide) ?_))
              refine blk_exit ?_
              refine hK6 _ _ ?_
              clear hK6
              refine wp_seq_k (fun K32 hK32 => ?_)
              refine sqR H gs0 fun Z_ z_ => rV rfl (does_fieldAddr rfl rfl fa_der6) <| rV rfl (does_loadAt (v := .slice Ak nk ck) rfl rfl (k := 0) rfl ld_derS) <| rV rfl (does_len Tryd.underlying25 rfl rfl) <| rV rfl (does_binOp rfl rfl rfl (z_cmp.2.2.1 rfl _ _)) <| rK [1, 1, 1, 1, 1, 0] [] [] <| rS 1 rfl <| rK [1, 0, 0, 0, 0, 0, 0] [] [] <| rN0 z_ ?_
              try clear H a W
              intro a W H
              refine wp_ret ?_
              repeat (first | (with_reducible refine then_ret ?_) | (with_reducible refine blk_ret ?_))
              refine end_tmp (p := 2) rfl rfl H (fun hb => ?_)
              refine ⟨?_, hb⟩
              rw [own_plain u8 hn, hla, hlk, hq1, Bool.true_and, if_neg (by omega), if_neg (by omega), if_neg (by omega), if_neg (by omega), if_pos (by omega)]
              exact congrArg (fun b_ => Ending.returned (.bool b_)) (decide_eq_decide.2 (by omega))
            | false =>
              rw [hq8] at H
              have hq8p := of_decide_eq_false hq8
              refine wp_cond_false (H.ev rfl) ?_
              refine wp_skip ?_
              refine hK11 _ _ ?_
              clear hK11
              refine wp_exit ?_
              repeat (first | (with_reducible refine then_exit ?_) | (with_reducible refine blk_pass (by decide) ?_))
              refine blk_exit ?_
              refine hK4 _ _ ?_
              clear hK4
              refine sqR H gs0 fun Z_ z_ => rK [1, 0] [] [] <| rS 1 rfl <| rK [1, 0, 0] [] [] <| rN0 z_ ?_
              try clear H a W
              intro a W H
              refine wp_ret ?_
              repeat (first | (with_reducible refine then_ret ?_) | (with_reducible refine blk_ret ?_))
              refine end_tmp (p := 2) rfl rfl H (fun hb => ?_)
              refine ⟨?_, hb⟩
              rw [own_plain u8 hn, hla, hlk, hq1, Bool.true_and, if_neg (by omega), if_neg (by omega), if_neg (by omega), if_neg (by omega), if_neg (by omega)]
  | false =>
    refine rgP H gs0 (rV rfl (does_load rfl rfl (k := 0) rfl Tryd.underlying27 rfl (info_der (DH.mk k f n (SL.mk Ab nb cb) t (SL.mk Aa na ca) (SL.mk Ak nk ck)))) <| rCV rfl rfl ⟨_, Tryd.func44, by kernel_rfl⟩ rfl (fun a W H _ => (by have h_ := is_plain (k := k) (n := n) (f := f) (t := t) (lb := lb) (Ab := Ab) (Aa := Aa) (Ak := Ak) (nb := nb) (cb := cb) (na := na) (ca := ca) (nk := nk) (ck := ck) W (bf_old hFb H); rw [hq1] at h_; exact h_)) <| rS 1 rfl <| rK [1, 0, 0] [] [] <| rZ0 ?_)
    try clear H a W
    intro a W H
    refine hK3 _ _ ?_
    clear hK3
    refine wp_cond_true (H.ev rfl) ?_
    refine sqR H gs0 fun Z_ z_ => rK [1, 0] [] [] <| rS 1 rfl <| rK [1, 0] [] [] <| rN0 z_ ?_
    try clear H a W
    intro a W H
    refine wp_ret ?_
    repeat (first | (with_reducible refine then_ret ?_) | (with_reducible refine blk_ret ?_))
    refine end_tmp (p := 2) rfl rfl H (fun hb => ?_)
    refine ⟨?_, hb⟩
    rw [own_plain u8 hn, hla, hlk, hq1, Bool.false_and]
end Go.Proofs.YtonhkclkddobhaaDoor
namespace Go.Proofs.YtonhkclkddobhaaDoor
set_option linter.unusedVariables false
set_option linter.unusedSimpArgs false
set_option maxRecDepth 100000
open Go Go.RowKit
/-- Entries: the key, the value, when it was born. -/
abbrev EntI := Int × Value × Nat
def entI (x : EntI) : MapEntry := { key := .int .i64 x.1, val := x.2.1, born := x.2.2 }
def entsI (l : List EntI) : Array MapEntry := (l.map entI).toArray
section
variable {P : Program} {w : World} {mt kt et : TypeId} {b c : Nat} {l : List EntI}
end
section
variable {P : Program} {n : Nat} {w0 w w' : World} {a : Act} {e : Env} {h : Hep} {Q : Exit → Act → World → Prop} {ops : Array Oper} {rest : List Oper} {o : Oper}
/-- A block becomes another one. -/
theorem St.writeT (H : St n w0 a w e h) {k g : Nat} {t s : Tid} {cs c : Array Value} (hk : h[k]? = some (g, t, cs)) (hs : Blk w' g s c) (hb : Below w0.heap.size w0 w') (ho : ∀ (b : Nat) (t' : Tid) (d : Array Value), b ≠ g → Blk w b t' d → Blk w' b t' d) :
    St n w0 a w' e (h.set k (g, s, c)) := by
  refine ⟨H.size, H.defers, H.env, hb, fun p hp => ?_, fun p hp => ?_, pw_of fun i j x y hl hx hy => ?_⟩
  · rcases setAt_mem hp with rfl | ⟨j, hj, hp⟩
    · exact hs
    · exact ho _ _ _ (pw_ne H.apart hj hp hk) (H.heap p (List.mem_iff_getElem?.2 ⟨j, hp⟩))
  · rcases setAt_mem hp with rfl | ⟨j, hj, hp⟩
    · exact H.own (g, t, cs) (List.mem_iff_getElem?.2 ⟨k, hk⟩)
    · exact H.own p (List.mem_iff_getElem?.2 ⟨j, hp⟩)
  · have fst : ∀ (m : Nat) (z : Nat × Tid × Array Value), (h.set k (g, s, c))[m]? = some z → ∃ u : Nat × Tid × Array Value, h[m]? = some u ∧ u.1 = z.1 := by
      intro m z hz
      by_cases e1 : m = k
      · subst e1
        have hl : m < h.length := (List.getElem?_eq_some_iff.1 hk).1
        rw [List.getElem?_set_self hl] at hz
        exact ⟨_, hk, by rw [← Option.some.inj hz]⟩
      · rw [List.getElem?_set_ne (Ne.symm e1)] at hz
        exact ⟨_, hz, rfl⟩
    obtain ⟨u, hu, eu⟩ := fst i x hx
    obtain ⟨v, hv, ev⟩ := fst j y hy
    rw [← eu, ← ev]
    exact pw_ne H.apart (by omega) hu hv
/-- A new map. -/
theorem pl_makeMap {d : Nat} {mt : TypeId} (ho : o.op = .makeMap mt none) (hg : o.guard = none) (hdst : o.dst = some d) (hl : Nat.blt d n = true) (hf : e.all (fun p => !Nat.beq p.1 d) = true) (H : St n w0 a w e h)
    (next : ∀ (b : Nat) a w, St n w0 a w ((d, .map (some b)) :: e) ((b, .map (entsI []) 0, #[]) :: h) → wpList P ops Q rest a w) : wpList P ops Q (o :: rest) a w :=
  wpList_plain hg fun K hK => by
    have e1 : (execOp a.eval o).run P w = .ok (.value (.map (some w.heap.size))) (w.alloc (.map #[] 0)) := by
      simp [execOp, ho, Instr.makeMap, Result.andThen]
    unfold Oper.wp
    rw [e1]
    refine hK _ _ (next w.heap.size _ _ ?_)
    rw [hdst]
    have hA := MapKept.heap_alloc w (.map #[] 0)
    have hbel : Below w.heap.size w (w.alloc (.map #[] 0)) := (Below.refl _ _).alloc (Nat.le_refl _) _
    have H' := H.news (t := [(w.heap.size, .map (entsI []) 0, #[])]) hbel ⟨fun p hp => by rw [List.mem_singleton.1 hp]; exact ⟨rfl, hA.1⟩, fun p hp => by rw [List.mem_singleton.1 hp]; exact Nat.le_refl _, List.pairwise_singleton _ _⟩
    exact (H'.perm' List.perm_append_comm).put _ hl hf
end
end Go.Proofs.YtonhkclkddobhaaDoor
