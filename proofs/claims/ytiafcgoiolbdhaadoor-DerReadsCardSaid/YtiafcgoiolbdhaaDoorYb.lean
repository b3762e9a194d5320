/- Words, contracts and walks (Ne, Nf, Ng, Nh, Ni, Nj, Nk, Nb, Nq), laid together. No condition. -/
import Derived.Test.YtiafcgoiolbdhaaDoorYa
import Derived.Laws.IdiomStrings
namespace Go.Proofs.YtiafcgoiolbdhaaDoor
set_option linter.unusedVariables false
set_option linter.unusedSimpArgs false
set_option maxRecDepth 100000
open Go Go.RowKit
theorem zd_lss_u64 {k m : Int} {b : Bool} (h : decide (k < m) = b) (p q : Operand) (W : World) : (do eqGuard .lss 47 p q (.int .u64 k) (.int .u64 m); binOp .lss 47 (.int .u64 k) (.int .u64 m) : Sem Value).run Tryd.prog W = .ok (.bool b) W := by
  go_simp
  all_goals exact h
theorem zd_leq_u64 {k m : Int} {b : Bool} (h : decide (k ≤ m) = b) (p q : Operand) (W : World) : (do eqGuard .leq 47 p q (.int .u64 k) (.int .u64 m); binOp .leq 47 (.int .u64 k) (.int .u64 m) : Sem Value).run Tryd.prog W = .ok (.bool b) W := by
  go_simp
  all_goals exact h
theorem zd_gtr_u64 {k m : Int} {b : Bool} (h : decide (m < k) = b) (p q : Operand) (W : World) : (do eqGuard .gtr 47 p q (.int .u64 k) (.int .u64 m); binOp .gtr 47 (.int .u64 k) (.int .u64 m) : Sem Value).run Tryd.prog W = .ok (.bool b) W := by
  go_simp
  all_goals exact h
theorem zd_eql_u64 {k m : Int} {b : Bool} (h : decide (k = m) = b) (p q : Operand) (W : World) : (do eqGuard .eql 47 p q (.int .u64 k) (.int .u64 m); binOp .eql 47 (.int .u64 k) (.int .u64 m) : Sem Value).run Tryd.prog W = .ok (.bool b) W := by
  go_simp
  all_goals exact h
theorem zd_leq_u8 {k m : Int} {b : Bool} (h : decide (k ≤ m) = b) (p q : Operand) (W : World) : (do eqGuard .leq 5 p q (.int .u8 k) (.int .u8 m); binOp .leq 5 (.int .u8 k) (.int .u8 m) : Sem Value).run Tryd.prog W = .ok (.bool b) W := by
  go_simp
  all_goals exact h
theorem zd_geq_u8 {k m : Int} {b : Bool} (h : decide (m ≤ k) = b) (p q : Operand) (W : World) : (do eqGuard .geq 5 p q (.int .u8 k) (.int .u8 m); binOp .geq 5 (.int .u8 k) (.int .u8 m) : Sem Value).run Tryd.prog W = .ok (.bool b) W := by
  go_simp
  all_goals exact h
theorem zd_eql_u8 {k m : Int} {b : Bool} (h : decide (k = m) = b) (p q : Operand) (W : World) : (do eqGuard .eql 5 p q (.int .u8 k) (.int .u8 m); binOp .eql 5 (.int .u8 k) (.int .u8 m) : Sem Value).run Tryd.prog W = .ok (.bool b) W := by
  go_simp
  all_goals exact h
theorem zd_neq_int {k m : Int} {b : Bool} (h : decide (k ≠ m) = b) (p q : Operand) (W : World) : (do eqGuard .neq 3 p q (.int .i64 k) (.int .i64 m); binOp .neq 3 (.int .i64 k) (.int .i64 m) : Sem Value).run Tryd.prog W = .ok (.bool b) W := by
  have e : (!decide (k = m)) = b := by rw [← h, decide_not]
  go_simp
  exact e
theorem zd_neq_i64 {k m : Int} {b : Bool} (h : decide (k ≠ m) = b) (p q : Operand) (W : World) : (do eqGuard .neq 2 p q (.int .i64 k) (.int .i64 m); binOp .neq 2 (.int .i64 k) (.int .i64 m) : Sem Value).run Tryd.prog W = .ok (.bool b) W := by
  have e : (!decide (k = m)) = b := by rw [← h, decide_not]
  go_simp
  exact e
theorem zd_neq_derkind {k m : Int} {b : Bool} (h : decide (k ≠ m) = b) (p q : Operand) (W : World) : (do eqGuard .neq 22 p q (.int .i64 k) (.int .i64 m); binOp .neq 22 (.int .i64 k) (.int .i64 m) : Sem Value).run Tryd.prog W = .ok (.bool b) W := by
  have e : (!decide (k = m)) = b := by rw [← h, decide_not]
  go_simp
  exact e
theorem zd_neq_u64 {k m : Int} {b : Bool} (h : decide (k ≠ m) = b) (p q : Operand) (W : World) : (do eqGuard .neq 47 p q (.int .u64 k) (.int .u64 m); binOp .neq 47 (.int .u64 k) (.int .u64 m) : Sem Value).run Tryd.prog W = .ok (.bool b) W := by
  have e : (!decide (k = m)) = b := by rw [← h, decide_not]
  go_simp
  exact e
theorem bd_neq {f g b : Bool} (h : decide (f ≠ g) = b) (p q : Operand) (W : World) : (do eqGuard .neq 4 p q (.bool f) (.bool g); binOp .neq 4 (.bool f) (.bool g) : Sem Value).run Tryd.prog W = .ok (.bool b) W := by
  subst h
  cases f <;> cases g <;> kernel_rfl
theorem sd_neq {l m : List UInt8} {b : Bool} (h : decide (l ≠ m) = b) (p q : Operand) (W : World) : (do eqGuard .neq 9 p q (.string (strB l)) (.string (strB m)); binOp .neq 9 (.string (strB l)) (.string (strB m)) : Sem Value).run Tryd.prog W = .ok (.bool b) W := by
  go_simp
  rw [strB_toList, strB_toList, ← h, decide_not]
  congr 1
  rw [Bool.eq_iff_iff]
  simp
theorem sd_eql {l m : List UInt8} {b : Bool} (h : decide (l = m) = b) (p q : Operand) (W : World) : (do eqGuard .eql 9 p q (.string (strB l)) (.string (strB m)); binOp .eql 9 (.string (strB l)) (.string (strB m)) : Sem Value).run Tryd.prog W = .ok (.bool b) W := by
  go_simp
  rw [strB_toList, strB_toList, ← h]
  rw [Bool.eq_iff_iff]
  simp only [beq_iff_eq, decide_eq_true_eq]
theorem tmod31 (n : Int) : -31 < n.tmod 31 ∧ n.tmod 31 < 31 := ⟨Int.lt_tmod_of_pos n (by decide), Int.tmod_lt_of_pos n (by decide)⟩
theorem zd_rem31 {n : Int} (hn : -9223372036854775808 ≤ n ∧ n < 9223372036854775808) (p q : Operand) (W : World) : (do eqGuard .rem 2 p q (.int .i64 n) (.int .i64 31); binOp .rem 2 (.int .i64 n) (.int .i64 31) : Sem Value).run Tryd.prog W = .ok (.int .i64 (n.tmod 31)) W := by
  have h31 := tmod31 n
  have e : IntKind.i64.wrap (n.tmod 31) = n.tmod 31 := IntWalk.i64_in _ (by omega)
  go_simp
section
variable {P : Program} {n : Nat} {w0 w w' : World} {a : Act} {e : Env} {h : Hep} {Q : Exit → Act → World → Prop} {ops : Array Oper} {o : Oper}
theorem ob_strD {x : Operand} {v : Value} {l : List UInt8} (H : St n w0 a w e h) (hw : ∀ a w, St n w0 a w e h → Region.wanted o (yielded ops a.tmps) = true) (ho : o.op = .convert 23 9 x) (hx : sev e x = some v) (hv : BF l v w) :
    ObS Tryd.prog ops Q o a w (fun u _ => u = .string (strB l)) := by
  obtain ⟨A, k, c, rfl, hb⟩ := hv
  have hs := run_str (P := Tryd.prog) hb 23 5 9 Tryd.underlying23 Tryd.underlying5 Tryd.underlying9
  refine ob_runR H hw ⟨_, w, ?_, Below.refl _ _, rfl⟩
  simp [execOp, ho, H.ev hx, hs, Result.andThen]
theorem made_evD {t : TypeId} {k : Nat} {ps : List (Nat × Operand)} {vs : List (Nat × Value)} {F : Nat → Value} {z : Array Value} {t' : TypeId} (ho : o.op = .buildSlice t k ps.toArray) (hx : sevp e ps = some vs)
    (hr : ∀ W, (Instr.buildSlice t k vs.toArray).run P W = .ok (F W.heap.size) (W.alloc (.cells z t'))) : ∀ a w, St n w0 a w e h → (execOp a.eval o).run P w = .ok (.value (F w.heap.size)) (w.alloc (.cells z t')) := fun a w H => by
  unfold execOp
  have e1 : ps.toArray.map (fun (p : Nat × Operand) => (p.1, a.eval p.2)) = vs.toArray := by rw [List.map_toArray, H.evp hx]
  simp only [ho]
  show (do let x ← Instr.buildSlice t k (ps.toArray.map (fun (p : Nat × Operand) => (p.1, a.eval p.2))); pure (Next.value x) : Sem Next).run P w = _
  rw [e1, Sem.run_bind, hr]
  rfl
end
theorem ld_derFb {g : Nat} {ty : TypeId} {x : DH} {b : Bool} (hf : x.f = b) (W : World) (h : Blk W g ty x.cs) : (Instr.loadAt 4 (.pointer (some ⟨g, 1, none⟩))).run Tryd.prog W = .ok (.bool b) W := by
  subst hf
  exact ld_derF W h
def tabD : Array Value := #[.int .i64 0, .int .i64 1, .int .i64 2, .int .i64 3, .int .i64 4, .int .i64 6, .int .i64 12, .int .i64 48, .int .i64 160, .int .i64 49, .int .i64 24]
def tabP : List (Nat × Value) := [(0, .int .i64 0), (1, .int .i64 1), (2, .int .i64 2), (3, .int .i64 3), (4, .int .i64 4), (5, .int .i64 6), (6, .int .i64 12), (7, .int .i64 48), (8, .int .i64 160), (9, .int .i64 49), (10, .int .i64 24)]
theorem run_tabD (W : World) : (Instr.buildSlice 113 11 tabP.toArray).run Tryd.prog W = .ok (.slice (some ⟨W.heap.size, 0, none⟩) 11 11) (W.alloc (.cells tabD 3)) := by kernel_rfl
theorem ia_tabD {k : Int} {g : Nat} (h0 : 0 ≤ k) (h1 : k < 11) (W : World) : (Instr.indexAt 113 (.slice (some ⟨g, 0, none⟩) 11 11) (.int .i64 k)).run Tryd.prog W = .ok (.pointer (some ⟨g, k.toNat, none⟩)) W := by
  obtain ⟨j, rfl⟩ := Int.eq_ofNat_of_zero_le h0
  have h2 : (j : Int) < (11 : Int) := h1
  rw [Int.toNat_natCast]
  go_simp
theorem ld_intD {g f : Nat} {x : Int} (W : World) (hc : W.cell? ⟨g, f, none⟩ = some (.int .i64 x)) : (Instr.loadAt 3 (.pointer (some ⟨g, f, none⟩))).run Tryd.prog W = .ok (.int .i64 x) W := by go_simp
theorem ld_tabD {k n : Int} {g : Nat} {t : TypeId} (h0 : 1 ≤ k) (h1 : k < 11) (h8 : k ≠ 8) (W : World) (h : Blk W g t tabD) : (Instr.loadAt 3 (.pointer (some ⟨g, k.toNat, none⟩))).run Tryd.prog W = .ok (.int .i64 (tagD k n)) W := by
  have hc : tabD[k.toNat]? = some (.int .i64 (tagD k n)) := by
    obtain rfl | rfl | rfl | rfl | rfl | rfl | rfl | rfl | rfl : k = 1 ∨ k = 2 ∨ k = 3 ∨ k = 4 ∨ k = 5 ∨ k = 6 ∨ k = 7 ∨ k = 9 ∨ k = 10 := by omega
    all_goals rfl
  exact ld_intD W ((h.cell k.toNat).trans hc)
theorem tagD_out {k n : Int} (h : k < 1 ∨ 11 ≤ k) : tagD k n = 0 := by
  unfold tagD
  rw [if_neg (by omega), if_neg (by omega)]
theorem tagD_8 (n : Int) : tagD 8 n = 160 + n.tmod 31 := if_pos rfl
theorem rounds_at (p : Nat → Prop) : ∀ n : Nat, ∃ N, N ≤ n ∧ (∀ i, i < N → p i) ∧ (N = n ∨ N < n ∧ ¬ p N)
  | 0 => ⟨0, Nat.le_refl _, fun i h => absurd h (by omega), .inl rfl⟩
  | n + 1 => by
    obtain ⟨N, h1, h2, h3⟩ := rounds_at p n
    rcases h3 with rfl | ⟨h3, h4⟩
    · by_cases h : p N
      · exact ⟨N + 1, Nat.le_refl _, fun i hi => by
          by_cases e : i = N
          · subst e; exact h
          · exact h2 i (by omega), .inl rfl⟩
      · exact ⟨N, by omega, h2, .inr ⟨by omega, h⟩⟩
    · exact ⟨N, by omega, h2, .inr ⟨by omega, h4⟩⟩
theorem ia_u64D {A : Option Addr} {j n c o g : Nat} (hA : A = some ⟨g, o, none⟩) (hj : j < n) (W : World) : (Instr.indexAt 24 (.slice A n c) (.int .i64 (j : Int))).run Tryd.prog W = .ok (.pointer (some ⟨g, o + j, none⟩)) W := by
  subst hA
  have h1 : (0 : Int) ≤ (j : Int) := by omega
  have h2 : (j : Int) < (n : Int) := by omega
  go_simp
theorem ld_cellD {g f x : Nat} (W : World) (hc : W.cell? ⟨g, f, none⟩ = some (.int .u64 (x : Int))) : (Instr.loadAt 47 (.pointer (some ⟨g, f, none⟩))).run Tryd.prog W = .ok (.int .u64 (x : Int)) W := by go_simp
theorem NS.nat {w : World} {B n c : Nat} {A : Option Addr} {l : List Nat} (h : NS w B A n c l) (hB : B ≤ w.heap.size) : ∃ g o, 0 < n → A = some ⟨g, o, none⟩ ∧ g < w.heap.size ∧ ∀ i, i < n → w.cell? ⟨g, o + i, none⟩ = some (.int .u64 ((l.getD i 0 : Nat) : Int)) := by
  by_cases h0 : 0 < n
  · obtain ⟨g, o, e, hg, hc⟩ := h.at_ h0
    exact ⟨g, o, fun _ => ⟨e, by omega, fun i hi => hc i _ (by
      have := h.len
      rw [List.getD_eq_getElem?_getD, List.getElem?_eq_getElem (by omega)]
      rfl)⟩⟩
  · exact ⟨0, 0, fun h => absurd h h0⟩
set_option maxHeartbeats 4000000 in
theorem rtag_any (x : DH) (w : World) (hxn : -9223372036854775808 ≤ x.n ∧ x.n < 9223372036854775808) : Calls Tryd.prog 49 #[.agg (x.cs)] w (fun rr w' => rr = .returned (.int .i64 (tagD x.k x.n)) ∧ Below w.heap.size w w') := by
  have h31 := tmod31 x.n
  refine calls_st (vs := [.agg (x.cs)]) 27 Tryd.func49 rfl Tryd.ntmps49 rfl (fun a W H => ?_)
  replace H : St 27 w a W [(0, .agg (x.cs))] [] := H
  refine sqR H gs0 fun Z_ z_ => rB rfl rfl rfl (bx_der x) fun g1 => rS 1 rfl <| rK [1, 1, 0] [] [] <| rN0 z_ ?_
  try clear H a W
  intro a W H
  refine sqR H gs0 fun Z_ z_ => rM (F := fun g => .slice (some ⟨g, 0, none⟩) 11 11) (t := 3) (z := tabD) rfl (made_evD (F := fun g => .slice (some ⟨g, 0, none⟩) 11 11) (vs := tabP) rfl (by kernel_rfl) run_tabD) fun g2 => rS 1 rfl <| rK [1, 0] [] [] <| rN0 z_ ?_
  try clear H a W
  intro a W H
  refine wp_seq_k (fun K3 hK3 => ?_)
  refine wp_seq_k (fun K4 hK4 => ?_)
  cases hq1 : decide (x.k < 1) with
  | true =>
    have hq1p := of_decide_eq_true hq1
    refine rgP H gs0 (rV rfl (does_fieldAddr rfl rfl fa_der0) <| rV rfl (does_loadAt (v := .int .i64 x.k) rfl rfl (k := 1) rfl ld_derK) <| rV rfl (does_binOp rfl rfl rfl (zd_lss_derkind (k := x.k) (m := 1) hq1 _ _)) <| rS 7 rfl <| rK [1, 0, 0, 0, 0, 0, 0, 0, 0, 0] [] [] <| rZ0 ?_)
    try clear H a W
    intro a W H
    refine hK4 _ _ ?_
    clear hK4
    refine wp_cond_true (H.ev rfl) ?_
    refine sqR H gs0 fun Z_ z_ => rK [1, 1, 0] [] [] <| rS 1 rfl <| rK [1, 0] [] [] <| rN0 z_ ?_
    try clear H a W
    intro a W H
    refine wp_ret ?_
    repeat (first | (with_reducible refine then_ret ?_) | (with_reducible refine blk_ret ?_))
    refine end_tmp (p := 2) rfl rfl H (fun hb => ?_)
    exact ⟨by rw [tagD_out (by omega)], hb⟩
  | false =>
    have hq1p := of_decide_eq_false hq1
    refine rgP H gs0 (rV rfl (does_fieldAddr rfl rfl fa_der0) <| rV rfl (does_loadAt (v := .int .i64 x.k) rfl rfl (k := 1) rfl ld_derK) <| rV rfl (does_binOp rfl rfl rfl (zd_lss_derkind (k := x.k) (m := 1) hq1 _ _)) <| rS 1 rfl <| rV rfl (does_fieldAddr rfl rfl fa_der0) <| rV rfl (does_loadAt (v := .int .i64 x.k) rfl rfl (k := 1) rfl ld_derK) <| rS 1 rfl <| rV rfl (does_len (k := 11) Tryd.underlying113 rfl rfl) <| rV rfl (does_binOp rfl rfl rfl (zd_geq_int (k := x.k) (m := 11) rfl _ _)) <| rS 1 rfl <| rK [1, 0, 0, 0, 0, 0, 0, 0, 0, 0] [] [] <| rZ0 ?_)
    try clear H a W
    intro a W H
    refine hK4 _ _ ?_
    clear hK4
    cases hq2 : decide (11 ≤ x.k) with
    | true =>
      rw [hq2] at H
      have hq2p := of_decide_eq_true hq2
      refine wp_cond_true (H.ev rfl) ?_
      refine sqR H gs0 fun Z_ z_ => rK [1, 1, 0] [] [] <| rS 1 rfl <| rK [1, 0] [] [] <| rN0 z_ ?_
      try clear H a W
      intro a W H
      refine wp_ret ?_
      repeat (first | (with_reducible refine then_ret ?_) | (with_reducible refine blk_ret ?_))
      refine end_tmp (p := 2) rfl rfl H (fun hb => ?_)
      exact ⟨by rw [tagD_out (by omega)], hb⟩
    | false =>
      rw [hq2] at H
      have hq2p := of_decide_eq_false hq2
      refine wp_cond_false (H.ev rfl) ?_
      refine wp_skip ?_
      refine hK3 _ _ ?_
      clear hK3
      refine wp_seq_k (fun K7 hK7 => ?_)
      refine sqR H gs0 fun Z_ z_ => rV rfl (does_fieldAddr rfl rfl fa_der0) <| rV rfl (does_loadAt (v := .int .i64 x.k) rfl rfl (k := 1) rfl ld_derK) <| rV rfl (does_binOp rfl rfl rfl (zd_eql_derkind (k := x.k) (m := 8) rfl _ _)) <| rK [1, 0, 0, 0] [] [] <| rN0 z_ ?_
      try clear H a W
      intro a W H
      cases hq3 : decide (x.k = 8) with
      | true =>
        rw [hq3] at H
        have hq3p := of_decide_eq_true hq3
        refine wp_cond_true (H.ev rfl) ?_
        refine sqR H gs0 fun Z_ z_ => rV rfl (does_fieldAddr rfl rfl fa_der2) <| rV rfl (does_loadAt (v := .int .i64 x.n) rfl rfl (k := 1) rfl ld_derN) <| rV rfl (does_binOp rfl rfl rfl (zd_rem31 hxn _ _)) <| rV rfl (does_binOp rfl rfl rfl (zd_add_int (k := 160) (m := x.n.tmod 31) (c := 160 + x.n.tmod 31) rfl (by omega) _ _)) <| rK [1, 1, 1, 1, 1, 1, 0] [] [] <| rS 1 rfl <| rK [1, 0, 0, 0, 0, 0] [] [] <| rN0 z_ ?_
        try clear H a W
        intro a W H
        refine wp_ret ?_
        repeat (first | (with_reducible refine then_ret ?_) | (with_reducible refine blk_ret ?_))
        refine end_tmp (p := 2) rfl rfl H (fun hb => ?_)
        exact ⟨by rw [show x.k = 8 by omega, tagD_8], hb⟩
      | false =>
        rw [hq3] at H
        have hq3p := of_decide_eq_false hq3
        refine wp_cond_false (H.ev rfl) ?_
        refine wp_skip ?_
        refine hK7 _ _ ?_
        clear hK7
        refine sqR H gs0 fun Z_ z_ => rS 1 rfl <| rV rfl (does_fieldAddr rfl rfl fa_der0) <| rV rfl (does_loadAt (v := .int .i64 x.k) rfl rfl (k := 1) rfl ld_derK) <| rV rfl (does_indexAddr rfl rfl rfl (ia_tabD (k := x.k) (by omega) (by omega))) <| rV rfl (does_loadAt (v := .int .i64 (tagD x.k x.n)) rfl rfl (k := 0) rfl (ld_tabD (by omega) (by omega) (by omega))) <| rK [1, 1, 1, 1, 1, 1, 1, 0] [] [] <| rS 1 rfl <| rK [1, 0, 0, 0, 0, 0, 0, 0, 0] [1, 0] [] <| rN0 z_ ?_
        try clear H a W
        intro a W H
        refine wp_ret ?_
        repeat (first | (with_reducible refine then_ret ?_) | (with_reducible refine blk_ret ?_))
        refine end_tmp (p := 2) rfl rfl H (fun hb => ?_)
        exact ⟨rfl, hb⟩
set_option maxHeartbeats 4000000 in
theorem same_walk {x y : DH} {sx sy : Nat → DH} {gx ox gy oy kx px ky py N M : Nat} {lx ly : List UInt8} {ax ay : List Nat} (r : Bool) (w : World) (hx : x.b.n < 9223372036854775808 ∧ x.t.length < 9223372036854775808 ∧ x.a.n < 9223372036854775808 ∧ x.ks.n < 9223372036854775808) (hy : y.b.n < 9223372036854775808 ∧ y.t.length < 9223372036854775808 ∧ y.a.n < 9223372036854775808 ∧ y.ks.n < 9223372036854775808) (hbx : BF lx (.slice x.b.A x.b.n x.b.c) w) (hby : BF ly (.slice y.b.A y.b.n y.b.c) w) (hax : 0 < x.a.n → x.a.A = some ⟨gx, ox, none⟩ ∧ gx < w.heap.size ∧ ∀ i, i < x.a.n → w.cell? ⟨gx, ox + i, none⟩ = some (.int .u64 ((ax.getD i 0 : Nat) : Int))) (hay : 0 < y.a.n → y.a.A = some ⟨gy, oy, none⟩ ∧ gy < w.heap.size ∧ ∀ i, i < y.a.n → w.cell? ⟨gy, oy + i, none⟩ = some (.int .u64 ((ay.getD i 0 : Nat) : Int))) (hkx : 0 < x.ks.n → x.ks.A = some ⟨kx, px, none⟩ ∧ kx < w.heap.size ∧ ∀ i, i < x.ks.n → ∀ (j : Nat) (v : Value), (sx i).cs[j]? = some v → w.cell? ⟨kx, px + i * 7 + j, none⟩ = some v) (hky : 0 < y.ks.n → y.ks.A = some ⟨ky, py, none⟩ ∧ ky < w.heap.size ∧ ∀ i, i < y.ks.n → ∀ (j : Nat) (v : Value), (sy i).cs[j]? = some v → w.cell? ⟨ky, py + i * 7 + j, none⟩ = some v) (hNN : N ≤ x.a.n) (hposN : ∀ i, i < N → ax.getD i 0 = ay.getD i 0) (hendN : N = x.a.n ∨ N < x.a.n ∧ ¬ ax.getD N 0 = ay.getD N 0) (hNM : M ≤ x.ks.n) (hposM : ∀ i, i < M → True) (hyes : x.ks.n = y.ks.n → ∀ k, k < M → ∀ W, Below w.heap.size w W → Calls Tryd.prog 18 #[.agg (sx k).cs, .agg (sy k).cs] W (fun r W' => r = .returned (.bool true) ∧ Below W.heap.size W W')) {bad : Prop} (hendM : M = x.ks.n ∨ M < x.ks.n ∧ bad) (hno : x.ks.n = y.ks.n → M < x.ks.n → bad → ∀ W, Below w.heap.size w W → Calls Tryd.prog 18 #[.agg (sx M).cs, .agg (sy M).cs] W (fun r W' => r = .returned (.bool false) ∧ Below W.heap.size W W')) (hfalse : (x.k ≠ y.k ∨ x.f ≠ y.f ∨ x.n ≠ y.n ∨ lx ≠ ly ∨ x.t ≠ y.t ∨ (x.a.n ≠ y.a.n ∨ x.ks.n ≠ y.ks.n)) ∨ N < x.a.n ∨ M < x.ks.n → r = false) (htrue : ¬ (x.k ≠ y.k ∨ x.f ≠ y.f ∨ x.n ≠ y.n ∨ lx ≠ ly ∨ x.t ≠ y.t ∨ (x.a.n ≠ y.a.n ∨ x.ks.n ≠ y.ks.n)) → N = x.a.n ∧ M = x.ks.n → r = true) : Calls Tryd.prog 18 #[.agg (x.cs), .agg (y.cs)] w (fun rr w' => rr = .returned (.bool r) ∧ Below w.heap.size w w') := by
  refine calls_st (vs := [.agg (x.cs), .agg (y.cs)]) 97 Tryd.func18 rfl Tryd.ntmps18 rfl (fun a W H => ?_)
  replace H : St 97 w a W [(0, .agg (x.cs)), (1, .agg (y.cs))] [] := H
  refine sqR H gs0 fun Z_ z_ => rB rfl rfl rfl (bx_der x) fun g1 => rB rfl rfl rfl (bx_der y) fun g2 => rS 1 rfl <| rK [1, 1, 1, 0, 0] [] [] <| rN0 z_ ?_
  try clear H a W
  intro a W H
  refine wp_seq_k (fun K2 hK2 => ?_)
  refine wp_seq_k (fun K3 hK3 => ?_)
  cases hq1 : decide (x.k ≠ y.k) with
  | true =>
    have hq1p := of_decide_eq_true hq1
    refine rgP H gs0 (rV rfl (does_fieldAddr rfl rfl fa_der0) <| rV rfl (does_loadAt (v := .int .i64 x.k) rfl rfl (k := 1) rfl ld_derK) <| rV rfl (does_fieldAddr rfl rfl fa_der0) <| rV rfl (does_loadAt (v := .int .i64 y.k) rfl rfl (k := 0) rfl ld_derK) <| rV rfl (does_binOp rfl rfl rfl (zd_neq_derkind (k := x.k) (m := y.k) hq1 _ _)) <| rS 48 rfl <| rK [1, 0, 0, 0, 0, 0, 0, 0, 0, 0, 0, 0, 0, 0, 0, 0, 0, 0, 0, 0, 0, 0, 0, 0, 0, 0, 0, 0, 0, 0, 0, 0, 0, 0, 0, 0, 0, 0, 0, 0, 0, 0, 0, 0, 0, 0, 0, 0, 0, 0, 0, 0, 0] [] [] <| rZ0 ?_)
    try clear H a W
    intro a W H
    refine hK3 _ _ ?_
    clear hK3
    refine wp_cond_true (H.ev rfl) ?_
    refine sqR H gs0 fun Z_ z_ => rK [1, 0] [] [] <| rS 1 rfl <| rK [1, 0] [] [] <| rN0 z_ ?_
    try clear H a W
    intro a W H
    refine wp_ret ?_
    repeat (first | (with_reducible refine then_ret ?_) | (with_reducible refine blk_ret ?_))
    refine end_tmp (p := 4) rfl rfl H (fun hb => ?_)
    exact ⟨by rw [hfalse (.inl (by first | exact .inl hq1p | exact .inr (.inl hq1p) | exact .inr (.inr (.inl hq1p)) | exact .inr (.inr (.inr (.inl hq1p))) | exact .inr (.inr (.inr (.inr (.inl hq1p)))) | exact .inr (.inr (.inr (.inr (.inr (by omega)))))))], hb⟩
  | false =>
    have hq1p := of_decide_eq_false hq1
    cases hq2 : decide (x.f ≠ y.f) with
    | true =>
      have hq2p := of_decide_eq_true hq2
      refine rgP H gs0 (rV rfl (does_fieldAddr rfl rfl fa_der0) <| rV rfl (does_loadAt (v := .int .i64 x.k) rfl rfl (k := 1) rfl ld_derK) <| rV rfl (does_fieldAddr rfl rfl fa_der0) <| rV rfl (does_loadAt (v := .int .i64 y.k) rfl rfl (k := 0) rfl ld_derK) <| rV rfl (does_binOp rfl rfl rfl (zd_neq_derkind (k := x.k) (m := y.k) hq1 _ _)) <| rS 1 rfl <| rV rfl (does_fieldAddr rfl rfl fa_der1) <| rV rfl (does_loadAt (v := .bool x.f) rfl rfl (k := 1) rfl (ld_derFb rfl)) <| rV rfl (does_fieldAddr rfl rfl fa_der1) <| rV rfl (does_loadAt (v := .bool y.f) rfl rfl (k := 0) rfl (ld_derFb rfl)) <| rV rfl (does_binOp rfl rfl rfl (bd_neq hq2 _ _)) <| rS 42 rfl <| rK [1, 0, 0, 0, 0, 0, 0, 0, 0, 0, 0, 0, 0, 0, 0, 0, 0, 0, 0, 0, 0, 0, 0, 0, 0, 0, 0, 0, 0, 0, 0, 0, 0, 0, 0, 0, 0, 0, 0, 0, 0, 0, 0, 0, 0, 0, 0, 0, 0, 0, 0, 0, 0] [] [] <| rZ0 ?_)
      try clear H a W
      intro a W H
      refine hK3 _ _ ?_
      clear hK3
      refine wp_cond_true (H.ev rfl) ?_
      refine sqR H gs0 fun Z_ z_ => rK [1, 0] [] [] <| rS 1 rfl <| rK [1, 0] [] [] <| rN0 z_ ?_
      try clear H a W
      intro a W H
      refine wp_ret ?_
      repeat (first | (with_reducible refine then_ret ?_) | (with_reducible refine blk_ret ?_))
      refine end_tmp (p := 4) rfl rfl H (fun hb => ?_)
      exact ⟨by rw [hfalse (.inl (by first | exact .inl hq2p | exact .inr (.inl hq2p) | exact .inr (.inr (.inl hq2p)) | exact .inr (.inr (.inr (.inl hq2p))) | exact .inr (.inr (.inr (.inr (.inl hq2p)))) | exact .inr (.inr (.inr (.inr (.inr (by omega)))))))], hb⟩
    | false =>
      have hq2p := of_decide_eq_false hq2
      cases hq3 : decide (x.n ≠ y.n) with
      | true =>
        have hq3p := of_decide_eq_true hq3
        refine rgP H gs0 (rV rfl (does_fieldAddr rfl rfl fa_der0) <| rV rfl (does_loadAt (v := .int .i64 x.k) rfl rfl (k := 1) rfl ld_derK) <| rV rfl (does_fieldAddr rfl rfl fa_der0) <| rV rfl (does_loadAt (v := .int .i64 y.k) rfl rfl (k := 0) rfl ld_derK) <| rV rfl (does_binOp rfl rfl rfl (zd_neq_derkind (k := x.k) (m := y.k) hq1 _ _)) <| rS 1 rfl <| rV rfl (does_fieldAddr rfl rfl fa_der1) <| rV rfl (does_loadAt (v := .bool x.f) rfl rfl (k := 1) rfl (ld_derFb rfl)) <| rV rfl (does_fieldAddr rfl rfl fa_der1) <| rV rfl (does_loadAt (v := .bool y.f) rfl rfl (k := 0) rfl (ld_derFb rfl)) <| rV rfl (does_binOp rfl rfl rfl (bd_neq hq2 _ _)) <| rS 2 rfl <| rV rfl (does_fieldAddr rfl rfl fa_der2) <| rV rfl (does_loadAt (v := .int .i64 x.n) rfl rfl (k := 1) rfl ld_derN) <| rV rfl (does_fieldAddr rfl rfl fa_der2) <| rV rfl (does_loadAt (v := .int .i64 y.n) rfl rfl (k := 0) rfl ld_derN) <| rV rfl (does_binOp rfl rfl rfl (zd_neq_i64 (k := x.n) (m := y.n) hq3 _ _)) <| rS 35 rfl <| rK [1, 0, 0, 0, 0, 0, 0, 0, 0, 0, 0, 0, 0, 0, 0, 0, 0, 0, 0, 0, 0, 0, 0, 0, 0, 0, 0, 0, 0, 0, 0, 0, 0, 0, 0, 0, 0, 0, 0, 0, 0, 0, 0, 0, 0, 0, 0, 0, 0, 0, 0, 0, 0] [] [] <| rZ0 ?_)
        try clear H a W
        intro a W H
        refine hK3 _ _ ?_
        clear hK3
        refine wp_cond_true (H.ev rfl) ?_
        refine sqR H gs0 fun Z_ z_ => rK [1, 0] [] [] <| rS 1 rfl <| rK [1, 0] [] [] <| rN0 z_ ?_
        try clear H a W
        intro a W H
        refine wp_ret ?_
        repeat (first | (with_reducible refine then_ret ?_) | (with_reducible refine blk_ret ?_))
        refine end_tmp (p := 4) rfl rfl H (fun hb => ?_)
        exact ⟨by rw [hfalse (.inl (by first | exact .inl hq3p | exact .inr (.inl hq3p) | exact .inr (.inr (.inl hq3p)) | exact .inr (.inr (.inr (.inl hq3p))) | exact .inr (.inr (.inr (.inr (.inl hq3p)))) | exact .inr (.inr (.inr (.inr (.inr (by omega)))))))], hb⟩
      | false =>
        have hq3p := of_decide_eq_false hq3
        cases hq4 : decide (lx ≠ ly) with
        | true =>
          have hq4p := of_decide_eq_true hq4
          refine rgP H gs0 (rV rfl (does_fieldAddr rfl rfl fa_der0) <| rV rfl (does_loadAt (v := .int .i64 x.k) rfl rfl (k := 1) rfl ld_derK) <| rV rfl (does_fieldAddr rfl rfl fa_der0) <| rV rfl (does_loadAt (v := .int .i64 y.k) rfl rfl (k := 0) rfl ld_derK) <| rV rfl (does_binOp rfl rfl rfl (zd_neq_derkind (k := x.k) (m := y.k) hq1 _ _)) <| rS 1 rfl <| rV rfl (does_fieldAddr rfl rfl fa_der1) <| rV rfl (does_loadAt (v := .bool x.f) rfl rfl (k := 1) rfl (ld_derFb rfl)) <| rV rfl (does_fieldAddr rfl rfl fa_der1) <| rV rfl (does_loadAt (v := .bool y.f) rfl rfl (k := 0) rfl (ld_derFb rfl)) <| rV rfl (does_binOp rfl rfl rfl (bd_neq hq2 _ _)) <| rS 2 rfl <| rV rfl (does_fieldAddr rfl rfl fa_der2) <| rV rfl (does_loadAt (v := .int .i64 x.n) rfl rfl (k := 1) rfl ld_derN) <| rV rfl (does_fieldAddr rfl rfl fa_der2) <| rV rfl (does_loadAt (v := .int .i64 y.n) rfl rfl (k := 0) rfl ld_derN) <| rV rfl (does_binOp rfl rfl rfl (zd_neq_i64 (k := x.n) (m := y.n) hq3 _ _)) <| rS 2 rfl <| rV rfl (does_fieldAddr rfl rfl fa_der3) <| rV rfl (does_loadAt (v := .slice x.b.A x.b.n x.b.c) rfl rfl (k := 1) rfl ld_derB) <| rOV rfl (fun a W H _ => ob_strD H (wanted_some rfl rfl rfl rfl rfl) rfl rfl (bf_old hbx H)) <| rV rfl (does_fieldAddr rfl rfl fa_der3) <| rV rfl (does_loadAt (v := .slice y.b.A y.b.n y.b.c) rfl rfl (k := 0) rfl ld_derB) <| rOV rfl (fun a W H _ => ob_strD H (wanted_some rfl rfl rfl rfl rfl) rfl rfl (bf_old hby H)) <| rV rfl (does_binOp rfl rfl rfl (sd_neq (l := lx) (m := ly) hq4 _ _)) <| rS 26 rfl <| rK [1, 0, 0, 0, 0, 0, 0, 0, 0, 0, 0, 0, 0, 0, 0, 0, 0, 0, 0, 0, 0, 0, 0, 0, 0, 0, 0, 0, 0, 0, 0, 0, 0, 0, 0, 0, 0, 0, 0, 0, 0, 0, 0, 0, 0, 0, 0, 0, 0, 0, 0, 0, 0] [] [] <| rZ0 ?_)
          try clear H a W
          intro a W H
          refine hK3 _ _ ?_
          clear hK3
          refine wp_cond_true (H.ev rfl) ?_
          refine sqR H gs0 fun Z_ z_ => rK [1, 0] [] [] <| rS 1 rfl <| rK [1, 0] [] [] <| rN0 z_ ?_
          try clear H a W
          intro a W H
          refine wp_ret ?_
          repeat (first | (with_reducible refine then_ret ?_) | (with_reducible refine blk_ret ?_))
          refine end_tmp (p := 4) rfl rfl H (fun hb => ?_)
          exact ⟨by rw [hfalse (.inl (by first | exact .inl hq4p | exact .inr (.inl hq4p) | exact .inr (.inr (.inl hq4p)) | exact .inr (.inr (.inr (.inl hq4p))) | exact .inr (.inr (.inr (.inr (.inl hq4p)))) | exact .inr (.inr (.inr (.inr (.inr (by omega)))))))], hb⟩
        | false =>
          have hq4p := of_decide_eq_false hq4
          cases hq5 : decide (x.t ≠ y.t) with
          | true =>
            have hq5p := of_decide_eq_true hq5
            refine rgP H gs0 (rV rfl (does_fieldAddr rfl rfl fa_der0) <| rV rfl (does_loadAt (v := .int .i64 x.k) rfl rfl (k := 1) rfl ld_derK) <| rV rfl (does_fieldAddr rfl rfl fa_der0) <| rV rfl (does_loadAt (v := .int .i64 y.k) rfl rfl (k := 0) rfl ld_derK) <| rV rfl (does_binOp rfl rfl rfl (zd_neq_derkind (k := x.k) (m := y.k) hq1 _ _)) <| rS 1 rfl <| rV rfl (does_fieldAddr rfl rfl fa_der1) <| rV rfl (does_loadAt (v := .bool x.f) rfl rfl (k := 1) rfl (ld_derFb rfl)) <| rV rfl (does_fieldAddr rfl rfl fa_der1) <| rV rfl (does_loadAt (v := .bool y.f) rfl rfl (k := 0) rfl (ld_derFb rfl)) <| rV rfl (does_binOp rfl rfl rfl (bd_neq hq2 _ _)) <| rS 2 rfl <| rV rfl (does_fieldAddr rfl rfl fa_der2) <| rV rfl (does_loadAt (v := .int .i64 x.n) rfl rfl (k := 1) rfl ld_derN) <| rV rfl (does_fieldAddr rfl rfl fa_der2) <| rV rfl (does_loadAt (v := .int .i64 y.n) rfl rfl (k := 0) rfl ld_derN) <| rV rfl (does_binOp rfl rfl rfl (zd_neq_i64 (k := x.n) (m := y.n) hq3 _ _)) <| rS 2 rfl <| rV rfl (does_fieldAddr rfl rfl fa_der3) <| rV rfl (does_loadAt (v := .slice x.b.A x.b.n x.b.c) rfl rfl (k := 1) rfl ld_derB) <| rOV rfl (fun a W H _ => ob_strD H (wanted_some rfl rfl rfl rfl rfl) rfl rfl (bf_old hbx H)) <| rV rfl (does_fieldAddr rfl rfl fa_der3) <| rV rfl (does_loadAt (v := .slice y.b.A y.b.n y.b.c) rfl rfl (k := 0) rfl ld_derB) <| rOV rfl (fun a W H _ => ob_strD H (wanted_some rfl rfl rfl rfl rfl) rfl rfl (bf_old hby H)) <| rV rfl (does_binOp rfl rfl rfl (sd_neq (l := lx) (m := ly) hq4 _ _)) <| rS 2 rfl <| rV rfl (does_fieldAddr rfl rfl fa_der4) <| rV rfl (does_loadAt (v := .string (strB x.t)) rfl rfl (k := 1) rfl ld_derT) <| rV rfl (does_fieldAddr rfl rfl fa_der4) <| rV rfl (does_loadAt (v := .string (strB y.t)) rfl rfl (k := 0) rfl ld_derT) <| rV rfl (does_binOp rfl rfl rfl (sd_neq (l := x.t) (m := y.t) hq5 _ _)) <| rS 19 rfl <| rK [1, 0, 0, 0, 0, 0, 0, 0, 0, 0, 0, 0, 0, 0, 0, 0, 0, 0, 0, 0, 0, 0, 0, 0, 0, 0, 0, 0, 0, 0, 0, 0, 0, 0, 0, 0, 0, 0, 0, 0, 0, 0, 0, 0, 0, 0, 0, 0, 0, 0, 0, 0, 0] [] [] <| rZ0 ?_)
            try clear H a W
            intro a W H
            refine hK3 _ _ ?_
            clear hK3
            refine wp_cond_true (H.ev rfl) ?_
            refine sqR H gs0 fun Z_ z_ => rK [1, 0] [] [] <| rS 1 rfl <| rK [1, 0] [] [] <| rN0 z_ ?_
            try clear H a W
            intro a W H
            refine wp_ret ?_
            repeat (first | (with_reducible refine then_ret ?_) | (with_reducible refine blk_ret ?_))
            refine end_tmp (p := 4) rfl rfl H (fun hb => ?_)
            exact ⟨by rw [hfalse (.inl (by first | exact .inl hq5p | exact .inr (.inl hq5p) | exact .inr (.inr (.inl hq5p)) | exact .inr (.inr (.inr (.inl hq5p))) | exact .inr (.inr (.inr (.inr (.inl hq5p)))) | exact .inr (.inr (.inr (.inr (.inr (by omega)))))))], hb⟩
          | false =>
            have hq5p := of_decide_eq_false hq5
            cases hq6 : decide (((x.a.n : Nat) : Int) ≠ ((y.a.n : Nat) : Int)) with
            | true =>
              have hq6p := of_decide_eq_true hq6
              refine rgP H gs0 (rV rfl (does_fieldAddr rfl rfl fa_der0) <| rV rfl (does_loadAt (v := .int .i64 x.k) rfl rfl (k := 1) rfl ld_derK) <| rV rfl (does_fieldAddr rfl rfl fa_der0) <| rV rfl (does_loadAt (v := .int .i64 y.k) rfl rfl (k := 0) rfl ld_derK) <| rV rfl (does_binOp rfl rfl rfl (zd_neq_derkind (k := x.k) (m := y.k) hq1 _ _)) <| rS 1 rfl <| rV rfl (does_fieldAddr rfl rfl fa_der1) <| rV rfl (does_loadAt (v := .bool x.f) rfl rfl (k := 1) rfl (ld_derFb rfl)) <| rV rfl (does_fieldAddr rfl rfl fa_der1) <| rV rfl (does_loadAt (v := .bool y.f) rfl rfl (k := 0) rfl (ld_derFb rfl)) <| rV rfl (does_binOp rfl rfl rfl (bd_neq hq2 _ _)) <| rS 2 rfl <| rV rfl (does_fieldAddr rfl rfl fa_der2) <| rV rfl (does_loadAt (v := .int .i64 x.n) rfl rfl (k := 1) rfl ld_derN) <| rV rfl (does_fieldAddr rfl rfl fa_der2) <| rV rfl (does_loadAt (v := .int .i64 y.n) rfl rfl (k := 0) rfl ld_derN) <| rV rfl (does_binOp rfl rfl rfl (zd_neq_i64 (k := x.n) (m := y.n) hq3 _ _)) <| rS 2 rfl <| rV rfl (does_fieldAddr rfl rfl fa_der3) <| rV rfl (does_loadAt (v := .slice x.b.A x.b.n x.b.c) rfl rfl (k := 1) rfl ld_derB) <| rOV rfl (fun a W H _ => ob_strD H (wanted_some rfl rfl rfl rfl rfl) rfl rfl (bf_old hbx H)) <| rV rfl (does_fieldAddr rfl rfl fa_der3) <| rV rfl (does_loadAt (v := .slice y.b.A y.b.n y.b.c) rfl rfl (k := 0) rfl ld_derB) <| rOV rfl (fun a W H _ => ob_strD H (wanted_some rfl rfl rfl rfl rfl) rfl rfl (bf_old hby H)) <| rV rfl (does_binOp rfl rfl rfl (sd_neq (l := lx) (m := ly) hq4 _ _)) <| rS 2 rfl <| rV rfl (does_fieldAddr rfl rfl fa_der4) <| rV rfl (does_loadAt (v := .string (strB x.t)) rfl rfl (k := 1) rfl ld_derT) <| rV rfl (does_fieldAddr rfl rfl fa_der4) <| rV rfl (does_loadAt (v := .string (strB y.t)) rfl rfl (k := 0) rfl ld_derT) <| rV rfl (does_binOp rfl rfl rfl (sd_neq (l := x.t) (m := y.t) hq5 _ _)) <| rS 2 rfl <| rV rfl (does_fieldAddr rfl rfl fa_der5) <| rV rfl (does_loadAt (v := .slice x.a.A x.a.n x.a.c) rfl rfl (k := 1) rfl ld_derA) <| rV rfl (does_len Tryd.underlying24 rfl rfl) <| rV rfl (does_fieldAddr rfl rfl fa_der5) <| rV rfl (does_loadAt (v := .slice y.a.A y.a.n y.a.c) rfl rfl (k := 0) rfl ld_derA) <| rV rfl (does_len Tryd.underlying24 rfl rfl) <| rV rfl (does_binOp rfl rfl rfl (zd_neq_int (k := ((x.a.n : Nat) : Int)) (m := ((y.a.n : Nat) : Int)) hq6 _ _)) <| rS 10 rfl <| rK [1, 0, 0, 0, 0, 0, 0, 0, 0, 0, 0, 0, 0, 0, 0, 0, 0, 0, 0, 0, 0, 0, 0, 0, 0, 0, 0, 0, 0, 0, 0, 0, 0, 0, 0, 0, 0, 0, 0, 0, 0, 0, 0, 0, 0, 0, 0, 0, 0, 0, 0, 0, 0] [] [] <| rZ0 ?_)
              try clear H a W
              intro a W H
              refine hK3 _ _ ?_
              clear hK3
              refine wp_cond_true (H.ev rfl) ?_
              refine sqR H gs0 fun Z_ z_ => rK [1, 0] [] [] <| rS 1 rfl <| rK [1, 0] [] [] <| rN0 z_ ?_
              try clear H a W
              intro a W H
              refine wp_ret ?_
              repeat (first | (with_reducible refine then_ret ?_) | (with_reducible refine blk_ret ?_))
              refine end_tmp (p := 4) rfl rfl H (fun hb => ?_)
              exact ⟨by rw [hfalse (.inl (by first | exact .inl hq6p | exact .inr (.inl hq6p) | exact .inr (.inr (.inl hq6p)) | exact .inr (.inr (.inr (.inl hq6p))) | exact .inr (.inr (.inr (.inr (.inl hq6p)))) | exact .inr (.inr (.inr (.inr (.inr (by omega)))))))], hb⟩
            | false =>
              have hq6p := of_decide_eq_false hq6
              refine rgP H gs0 (rV rfl (does_fieldAddr rfl rfl fa_der0) <| rV rfl (does_loadAt (v := .int .i64 x.k) rfl rfl (k := 1) rfl ld_derK) <| rV rfl (does_fieldAddr rfl rfl fa_der0) <| rV rfl (does_loadAt (v := .int .i64 y.k) rfl rfl (k := 0) rfl ld_derK) <| rV rfl (does_binOp rfl rfl rfl (zd_neq_derkind (k := x.k) (m := y.k) hq1 _ _)) <| rS 1 rfl <| rV rfl (does_fieldAddr rfl rfl fa_der1) <| rV rfl (does_loadAt (v := .bool x.f) rfl rfl (k := 1) rfl (ld_derFb rfl)) <| rV rfl (does_fieldAddr rfl rfl fa_der1) <| rV rfl (does_loadAt (v := .bool y.f) rfl rfl (k := 0) rfl (ld_derFb rfl)) <| rV rfl (does_binOp rfl rfl rfl (bd_neq hq2 _ _)) <| rS 2 rfl <| rV rfl (does_fieldAddr rfl rfl fa_der2) <| rV rfl (does_loadAt (v := .int .i64 x.n) rfl rfl (k := 1) rfl ld_derN) <| rV rfl (does_fieldAddr rfl rfl fa_der2) <| rV rfl (does_loadAt (v := .int .i64 y.n) rfl rfl (k := 0) rfl ld_derN) <| rV rfl (does_binOp rfl rfl rfl (zd_neq_i64 (k := x.n) (m := y.n) hq3 _ _)) <| rS 2 rfl <| rV rfl (does_fieldAddr rfl rfl fa_der3) <| rV rfl (does_loadAt (v := .slice x.b.A x.b.n x.b.c) rfl rfl (k := 1) rfl ld_derB) <| rOV rfl (fun a W H _ => ob_strD H (wanted_some rfl rfl rfl rfl rfl) rfl rfl (bf_old hbx H)) <| rV rfl (does_fieldAddr rfl rfl fa_der3) <| rV rfl (does_loadAt (v := .slice y.b.A y.b.n y.b.c) rfl rfl (k := 0) rfl ld_derB) <| rOV rfl (fun a W H _ => ob_strD H (wanted_some rfl rfl rfl rfl rfl) rfl rfl (bf_old hby H)) <| rV rfl (does_binOp rfl rfl rfl (sd_neq (l := lx) (m := ly) hq4 _ _)) <| rS 2 rfl <| rV rfl (does_fieldAddr rfl rfl fa_der4) <| rV rfl (does_loadAt (v := .string (strB x.t)) rfl rfl (k := 1) rfl ld_derT) <| rV rfl (does_fieldAddr rfl rfl fa_der4) <| rV rfl (does_loadAt (v := .string (strB y.t)) rfl rfl (k := 0) rfl ld_derT) <| rV rfl (does_binOp rfl rfl rfl (sd_neq (l := x.t) (m := y.t) hq5 _ _)) <| rS 2 rfl <| rV rfl (does_fieldAddr rfl rfl fa_der5) <| rV rfl (does_loadAt (v := .slice x.a.A x.a.n x.a.c) rfl rfl (k := 1) rfl ld_derA) <| rV rfl (does_len Tryd.underlying24 rfl rfl) <| rV rfl (does_fieldAddr rfl rfl fa_der5) <| rV rfl (does_loadAt (v := .slice y.a.A y.a.n y.a.c) rfl rfl (k := 0) rfl ld_derA) <| rV rfl (does_len Tryd.underlying24 rfl rfl) <| rV rfl (does_binOp rfl rfl rfl (zd_neq_int (k := ((x.a.n : Nat) : Int)) (m := ((y.a.n : Nat) : Int)) hq6 _ _)) <| rS 2 rfl <| rV rfl (does_fieldAddr rfl rfl fa_der6) <| rV rfl (does_loadAt (v := .slice x.ks.A x.ks.n x.ks.c) rfl rfl (k := 1) rfl ld_derS) <| rV rfl (does_len Tryd.underlying25 rfl rfl) <| rV rfl (does_fieldAddr rfl rfl fa_der6) <| rV rfl (does_loadAt (v := .slice y.ks.A y.ks.n y.ks.c) rfl rfl (k := 0) rfl ld_derS) <| rV rfl (does_len Tryd.underlying25 rfl rfl) <| rV rfl (does_binOp rfl rfl rfl (zd_neq_int (k := ((x.ks.n : Nat) : Int)) (m := ((y.ks.n : Nat) : Int)) rfl _ _)) <| rS 1 rfl <| rK [1, 0, 0, 0, 0, 0, 0, 0, 0, 0, 0, 0, 0, 0, 0, 0, 0, 0, 0, 0, 0, 0, 0, 0, 0, 0, 0, 0, 0, 0, 0, 0, 0, 0, 0, 0, 0, 0, 0, 0, 0, 0, 0, 0, 0, 0, 0, 0, 0, 0, 0, 0, 0] [] [] <| rZ0 ?_)
              try clear H a W
              intro a W H
              refine hK3 _ _ ?_
              clear hK3
              cases hq7 : decide (((x.ks.n : Nat) : Int) ≠ ((y.ks.n : Nat) : Int)) with
              | true =>
                rw [hq7] at H
                have hq7p := of_decide_eq_true hq7
                refine wp_cond_true (H.ev rfl) ?_
                refine sqR H gs0 fun Z_ z_ => rK [1, 0] [] [] <| rS 1 rfl <| rK [1, 0] [] [] <| rN0 z_ ?_
                try clear H a W
                intro a W H
                refine wp_ret ?_
                repeat (first | (with_reducible refine then_ret ?_) | (with_reducible refine blk_ret ?_))
                refine end_tmp (p := 4) rfl rfl H (fun hb => ?_)
                exact ⟨by rw [hfalse (.inl (by first | exact .inl hq7p | exact .inr (.inl hq7p) | exact .inr (.inr (.inl hq7p)) | exact .inr (.inr (.inr (.inl hq7p))) | exact .inr (.inr (.inr (.inr (.inl hq7p)))) | exact .inr (.inr (.inr (.inr (.inr (by omega)))))))], hb⟩
              | false =>
                rw [hq7] at H
                have hq7p := of_decide_eq_false hq7
                refine wp_cond_false (H.ev rfl) ?_
                refine wp_skip ?_
                refine hK2 _ _ ?_
                clear hK2
                refine wp_seq_k (fun K11 hK11 => ?_)
                refine sqR H gs0 fun Z_ z_ => rS 1 rfl <| rK [1, 0] [] [] <| rN0 z_ ?_
                try clear H a W
                intro a W H
                refine wp_block ?_
                replace H : St 97 w a W [(5, .int .i64 ((0 : Nat) : Int)), (4, .bool false), (3, .pointer (some ⟨g2, 0, none⟩)), (2, .pointer (some ⟨g1, 0, none⟩))] [(g2, 27, y.cs), (g1, 27, x.cs)] := H.pick [0, 1, 2, 3] [0, 1] rfl
                refine wp_rounds N (fun k a W => St 97 w a W [(5, .int .i64 ((k : Nat) : Int)), (4, .bool false), (3, .pointer (some ⟨g2, 0, none⟩)), (2, .pointer (some ⟨g1, 0, none⟩))] [(g2, 27, y.cs), (g1, 27, x.cs)]) (k0 := 0) H (by omega) ?_
                try clear H a W
                intro k a W hk H
                by_cases hk2 : k < N
                · have hp_ := hposN k hk2
                  refine wp_seq_k (fun K13 hK13 => ?_)
                  refine sqR H gs0 fun Z_ z_ => rS 1 rfl <| rV rfl (does_fieldAddr rfl rfl fa_der5) <| rV rfl (does_loadAt (v := .slice x.a.A x.a.n x.a.c) rfl rfl (k := 1) rfl ld_derA) <| rV rfl (does_len Tryd.underlying24 rfl rfl) <| rV rfl (does_binOp rfl rfl rfl (zd_lss_int (k := ((k : Nat) : Int)) (m := ((x.a.n : Nat) : Int)) (decide_eq_true (by omega)) _ _)) <| rN0 z_ ?_
                  try clear H a W
                  intro a W H
                  refine wp_cond_true (H.ev rfl) ?_
                  refine wp_skip ?_
                  refine hK13 _ _ ?_
                  clear hK13
                  refine wp_seq_k (fun K15 hK15 => ?_)
                  refine wp_block ?_
                  refine sqD [.v 67 _ [], .v 68 _ [0], .v 69 _ [], .v 70 _ [1, 2], .v 71 _ [3], .v 72 _ [], .v 73 _ [5], .v 74 _ [], .v 75 _ [6, 7], .v 76 _ [8], .v 77 _ [4, 9]] (by kernel_rfl) (by kernel_rfl) H gs0 (fun _ => ⟨oV rfl (does_fieldAddr rfl rfl fa_der5), oV rfl (does_loadAt (v := .slice x.a.A x.a.n x.a.c) rfl rfl (k := 1) rfl ld_derA), oS rfl rfl, oV rfl (does_indexAddr rfl rfl rfl (ia_u64D (j := k) (hax (by omega)).1 (by omega))), oV rfl (does_loadCell (v := .int .u64 ((ax.getD k 0 : Nat) : Int)) rfl rfl ((hax (by omega)).2.2 k (by omega)) (hax (by omega)).2.1 ld_cellD), oV rfl (does_fieldAddr rfl rfl fa_der5), oV rfl (does_loadAt (v := .slice y.a.A y.a.n y.a.c) rfl rfl (k := 0) rfl ld_derA), oS rfl rfl, oV rfl (does_indexAddr rfl rfl rfl (ia_u64D (j := k) (hay (by omega)).1 (by omega))), oV rfl (does_loadCell (v := .int .u64 ((ay.getD k 0 : Nat) : Int)) rfl rfl ((hay (by omega)).2.2 k (by omega)) (hay (by omega)).2.1 ld_cellD), oV rfl (does_binOp rfl rfl rfl (zd_neq_u64 (k := ((ax.getD k 0 : Nat) : Int)) (m := ((ay.getD k 0 : Nat) : Int)) (decide_eq_false (by omega)) _ _)), trivial⟩) fun Z_ z_ => rN0 z_ ?_
                  try clear H a W
                  intro a W H
                  refine wp_cond_false (H.ev rfl) ?_
                  refine wp_skip ?_
                  refine blk_normal ?_
                  refine hK15 _ _ ?_
                  clear hK15
                  refine rgP H gs0 (rS 1 rfl <| rV rfl (does_binOp rfl rfl rfl (zd_add_int (k := ((k : Nat) : Int)) (m := 1) (c := ((k + 1 : Nat) : Int)) (by omega) (by omega) _ _)) <| rK [1, 1, 1, 1, 1, 1, 1, 1, 1, 1, 1, 1, 1, 1, 1, 1, 1, 1, 0] [] [] <| rS 1 rfl <| rZ0 ?_)
                  try clear H a W
                  intro a W H
                  refine ⟨k + 1, by omega, by omega, ?_⟩
                  show St 97 w a W [(5, .int .i64 ((k + 1 : Nat) : Int)), (4, .bool false), (3, .pointer (some ⟨g2, 0, none⟩)), (2, .pointer (some ⟨g1, 0, none⟩))] [(g2, 27, y.cs), (g1, 27, x.cs)]
                  exact H.pick [0, 19, 20, 21] [0, 1] rfl
                · obtain rfl : N = k := by omega
                  rcases hendN with hend | hend
                  · refine wp_seq_k (fun K17 hK17 => ?_)
                    refine sqR H gs0 fun Z_ z_ => rS 1 rfl <| rV rfl (does_fieldAddr rfl rfl fa_der5) <| rV rfl (does_loadAt (v := .slice x.a.A x.a.n x.a.c) rfl rfl (k := 1) rfl ld_derA) <| rV rfl (does_len Tryd.underlying24 rfl rfl) <| rV rfl (does_binOp rfl rfl rfl (zd_lss_int (k := ((N : Nat) : Int)) (m := ((x.a.n : Nat) : Int)) (decide_eq_false (by omega)) _ _)) <| rK [1, 0, 0, 0, 0] [] [] <| rN0 z_ ?_
                    try clear H a W
                    intro a W H
                    refine wp_cond_false (H.ev rfl) ?_
                    refine wp_exit ?_
                    repeat (with_reducible refine then_exit ?_)
                    refine blk_exit ?_
                    refine hK11 _ _ ?_
                    clear hK11
                    refine wp_seq_k (fun K19 hK19 => ?_)
                    refine sqR H gs0 fun Z_ z_ => rS 1 rfl <| rK [1, 0, 0] [] [] <| rN0 z_ ?_
                    try clear H a W
                    intro a W H
                    refine wp_block ?_
                    replace H : St 97 w a W [(6, .int .i64 ((0 : Nat) : Int)), (4, .bool false), (3, .pointer (some ⟨g2, 0, none⟩)), (2, .pointer (some ⟨g1, 0, none⟩))] [(g2, 27, y.cs), (g1, 27, x.cs)] := H.pick [0, 1, 2, 3] [0, 1] rfl
                    refine wp_rounds M (fun k a W => St 97 w a W [(6, .int .i64 ((k : Nat) : Int)), (4, .bool false), (3, .pointer (some ⟨g2, 0, none⟩)), (2, .pointer (some ⟨g1, 0, none⟩))] [(g2, 27, y.cs), (g1, 27, x.cs)]) (k0 := 0) H (by omega) ?_
                    try clear H a W
                    intro k a W hk H
                    by_cases hk2 : k < M
                    · have hp_ := hposM k hk2
                      refine wp_seq_k (fun K21 hK21 => ?_)
                      refine sqR H gs0 fun Z_ z_ => rS 1 rfl <| rV rfl (does_fieldAddr rfl rfl fa_der6) <| rV rfl (does_loadAt (v := .slice x.ks.A x.ks.n x.ks.c) rfl rfl (k := 1) rfl ld_derS) <| rV rfl (does_len Tryd.underlying25 rfl rfl) <| rV rfl (does_binOp rfl rfl rfl (zd_lss_int (k := ((k : Nat) : Int)) (m := ((x.ks.n : Nat) : Int)) (decide_eq_true (by omega)) _ _)) <| rN0 z_ ?_
                      try clear H a W
                      intro a W H
                      refine wp_cond_true (H.ev rfl) ?_
                      refine wp_skip ?_
                      refine hK21 _ _ ?_
                      clear hK21
                      refine wp_seq_k (fun K23 hK23 => ?_)
                      refine wp_block ?_
                      refine sqD [.v 85 _ [], .v 86 _ [0], .v 87 _ [], .v 88 _ [1, 2], .v 89 _ [3], .v 90 _ [], .v 91 _ [5], .v 92 _ [], .v 93 _ [6, 7], .v 94 _ [8], .v 95 _ [4, 9], .v 96 _ [10]] (by kernel_rfl) (by kernel_rfl) H gs0 (fun _ => ⟨oV rfl (does_fieldAddr rfl rfl fa_der6), oV rfl (does_loadAt (v := .slice x.ks.A x.ks.n x.ks.c) rfl rfl (k := 1) rfl ld_derS), oS rfl rfl, oV rfl (does_indexAddr rfl rfl rfl (ia_kids (j := k) (hkx (by omega)).1 (by omega))), oV rfl (does_kid (y := sx k) rfl rfl (hkx (by omega)).2.1 ((hkx (by omega)).2.2 k (by omega))), oV rfl (does_fieldAddr rfl rfl fa_der6), oV rfl (does_loadAt (v := .slice y.ks.A y.ks.n y.ks.c) rfl rfl (k := 0) rfl ld_derS), oS rfl rfl, oV rfl (does_indexAddr rfl rfl rfl (ia_kids (j := k) (hky (by omega)).1 (by omega))), oV rfl (does_kid (y := sy k) rfl rfl (hky (by omega)).2.1 ((hky (by omega)).2.2 k (by omega))), oV rfl (does_call rfl ⟨_, Tryd.func18, by kernel_rfl⟩ rfl (fun W hb => hyes (by omega) k hk2 W hb)), oS rfl rfl, trivial⟩) fun Z_ z_ => rN0 z_ ?_
                      try clear H a W
                      intro a W H
                      refine wp_cond_false (H.ev rfl) ?_
                      refine wp_skip ?_
                      refine blk_normal ?_
                      refine hK23 _ _ ?_
                      clear hK23
                      refine rgP H gs0 (rS 1 rfl <| rV rfl (does_binOp rfl rfl rfl (zd_add_int (k := ((k : Nat) : Int)) (m := 1) (c := ((k + 1 : Nat) : Int)) (by omega) (by omega) _ _)) <| rK [1, 1, 1, 1, 1, 1, 1, 1, 1, 1, 1, 1, 1, 1, 1, 1, 1, 1, 1, 0] [] [] <| rS 1 rfl <| rZ0 ?_)
                      try clear H a W
                      intro a W H
                      refine ⟨k + 1, by omega, by omega, ?_⟩
                      show St 97 w a W [(6, .int .i64 ((k + 1 : Nat) : Int)), (4, .bool false), (3, .pointer (some ⟨g2, 0, none⟩)), (2, .pointer (some ⟨g1, 0, none⟩))] [(g2, 27, y.cs), (g1, 27, x.cs)]
                      exact H.pick [0, 20, 21, 22] [0, 1] rfl
                    · obtain rfl : M = k := by omega
                      rcases hendM with hend | hend
                      · refine wp_seq_k (fun K25 hK25 => ?_)
                        refine sqR H gs0 fun Z_ z_ => rS 1 rfl <| rV rfl (does_fieldAddr rfl rfl fa_der6) <| rV rfl (does_loadAt (v := .slice x.ks.A x.ks.n x.ks.c) rfl rfl (k := 1) rfl ld_derS) <| rV rfl (does_len Tryd.underlying25 rfl rfl) <| rV rfl (does_binOp rfl rfl rfl (zd_lss_int (k := ((M : Nat) : Int)) (m := ((x.ks.n : Nat) : Int)) (decide_eq_false (by omega)) _ _)) <| rK [1, 0, 0, 0, 0] [] [] <| rN0 z_ ?_
                        try clear H a W
                        intro a W H
                        refine wp_cond_false (H.ev rfl) ?_
                        refine wp_exit ?_
                        repeat (with_reducible refine then_exit ?_)
                        refine blk_exit ?_
                        refine hK19 _ _ ?_
                        clear hK19
                        refine sqR H gs0 fun Z_ z_ => rK [1, 1, 0] [] [] <| rS 1 rfl <| rK [1, 0, 0, 0, 0] [0, 0] [] <| rN0 z_ ?_
                        try clear H a W
                        intro a W H
                        refine wp_ret ?_
                        repeat (first | (with_reducible refine then_ret ?_) | (with_reducible refine blk_ret ?_))
                        refine end_tmp (p := 4) rfl rfl H (fun hb => ?_)
                        exact ⟨by rw [htrue (by rintro (h_ | h_ | h_ | h_ | h_ | h_) <;> first | contradiction | omega) ⟨by omega, by omega⟩], hb⟩
                      · refine wp_seq_k (fun K28 hK28 => ?_)
                        refine sqR H gs0 fun Z_ z_ => rS 1 rfl <| rV rfl (does_fieldAddr rfl rfl fa_der6) <| rV rfl (does_loadAt (v := .slice x.ks.A x.ks.n x.ks.c) rfl rfl (k := 1) rfl ld_derS) <| rV rfl (does_len Tryd.underlying25 rfl rfl) <| rV rfl (does_binOp rfl rfl rfl (zd_lss_int (k := ((M : Nat) : Int)) (m := ((x.ks.n : Nat) : Int)) (decide_eq_true (by omega)) _ _)) <| rK [1, 0, 0, 0, 0] [] [] <| rN0 z_ ?_
                        try clear H a W
                        intro a W H
                        refine wp_cond_true (H.ev rfl) ?_
                        refine wp_skip ?_
                        refine hK28 _ _ ?_
                        clear hK28
                        refine wp_seq_k (fun K30 hK30 => ?_)
                        refine wp_block ?_
                        refine sqD [.v 85 _ [], .v 86 _ [0], .v 87 _ [], .v 88 _ [1, 2], .v 89 _ [3], .v 90 _ [], .v 91 _ [5], .v 92 _ [], .v 93 _ [6, 7], .v 94 _ [8], .v 95 _ [4, 9], .v 96 _ [10]] (by kernel_rfl) (by kernel_rfl) H gs0 (fun _ => ⟨oV rfl (does_fieldAddr rfl rfl fa_der6), oV rfl (does_loadAt (v := .slice x.ks.A x.ks.n x.ks.c) rfl rfl (k := 1) rfl ld_derS), oS rfl rfl, oV rfl (does_indexAddr rfl rfl rfl (ia_kids (j := M) (hkx (by omega)).1 (by omega))), oV rfl (does_kid (y := sx M) rfl rfl (hkx (by omega)).2.1 ((hkx (by omega)).2.2 M (by omega))), oV rfl (does_fieldAddr rfl rfl fa_der6), oV rfl (does_loadAt (v := .slice y.ks.A y.ks.n y.ks.c) rfl rfl (k := 0) rfl ld_derS), oS rfl rfl, oV rfl (does_indexAddr rfl rfl rfl (ia_kids (j := M) (hky (by omega)).1 (by omega))), oV rfl (does_kid (y := sy M) rfl rfl (hky (by omega)).2.1 ((hky (by omega)).2.2 M (by omega))), oV rfl (does_call rfl ⟨_, Tryd.func18, by kernel_rfl⟩ rfl (fun W hb => hno (by omega) hend.1 hend.2 W hb)), oS rfl rfl, trivial⟩) fun Z_ z_ => rK [1, 0, 0, 0, 0, 0, 0, 0, 0, 0, 0, 0, 0, 1, 1, 0, 0] [0, 0] [] <| rN0 z_ ?_
                        try clear H a W
                        intro a W H
                        refine wp_cond_true (H.ev rfl) ?_
                        refine sqR H gs0 fun Z_ z_ => rK [1, 1, 0] [] [] <| rS 1 rfl <| rK [1, 0] [] [] <| rN0 z_ ?_
                        try clear H a W
                        intro a W H
                        refine wp_ret ?_
                        repeat (first | (with_reducible refine then_ret ?_) | (with_reducible refine blk_ret ?_))
                        refine end_tmp (p := 4) rfl rfl H (fun hb => ?_)
                        exact ⟨by rw [hfalse (by first | exact .inr (.inl (by omega)) | exact .inr (.inr (by omega)))], hb⟩
                  · refine wp_seq_k (fun K33 hK33 => ?_)
                    refine sqR H gs0 fun Z_ z_ => rS 1 rfl <| rV rfl (does_fieldAddr rfl rfl fa_der5) <| rV rfl (does_loadAt (v := .slice x.a.A x.a.n x.a.c) rfl rfl (k := 1) rfl ld_derA) <| rV rfl (does_len Tryd.underlying24 rfl rfl) <| rV rfl (does_binOp rfl rfl rfl (zd_lss_int (k := ((N : Nat) : Int)) (m := ((x.a.n : Nat) : Int)) (decide_eq_true (by omega)) _ _)) <| rK [1, 0, 0, 0, 0] [] [] <| rN0 z_ ?_
                    try clear H a W
                    intro a W H
                    refine wp_cond_true (H.ev rfl) ?_
                    refine wp_skip ?_
                    refine hK33 _ _ ?_
                    clear hK33
                    refine wp_seq_k (fun K35 hK35 => ?_)
                    refine wp_block ?_
                    refine sqD [.v 67 _ [], .v 68 _ [0], .v 69 _ [], .v 70 _ [1, 2], .v 71 _ [3], .v 72 _ [], .v 73 _ [5], .v 74 _ [], .v 75 _ [6, 7], .v 76 _ [8], .v 77 _ [4, 9]] (by kernel_rfl) (by kernel_rfl) H gs0 (fun _ => ⟨oV rfl (does_fieldAddr rfl rfl fa_der5), oV rfl (does_loadAt (v := .slice x.a.A x.a.n x.a.c) rfl rfl (k := 1) rfl ld_derA), oS rfl rfl, oV rfl (does_indexAddr rfl rfl rfl (ia_u64D (j := N) (hax (by omega)).1 (by omega))), oV rfl (does_loadCell (v := .int .u64 ((ax.getD N 0 : Nat) : Int)) rfl rfl ((hax (by omega)).2.2 N (by omega)) (hax (by omega)).2.1 ld_cellD), oV rfl (does_fieldAddr rfl rfl fa_der5), oV rfl (does_loadAt (v := .slice y.a.A y.a.n y.a.c) rfl rfl (k := 0) rfl ld_derA), oS rfl rfl, oV rfl (does_indexAddr rfl rfl rfl (ia_u64D (j := N) (hay (by omega)).1 (by omega))), oV rfl (does_loadCell (v := .int .u64 ((ay.getD N 0 : Nat) : Int)) rfl rfl ((hay (by omega)).2.2 N (by omega)) (hay (by omega)).2.1 ld_cellD), oV rfl (does_binOp rfl rfl rfl (zd_neq_u64 (k := ((ax.getD N 0 : Nat) : Int)) (m := ((ay.getD N 0 : Nat) : Int)) (decide_eq_true (by omega)) _ _)), trivial⟩) fun Z_ z_ => rK [1, 0, 0, 0, 0, 0, 0, 0, 0, 0, 0, 0] [] [] <| rN0 z_ ?_
                    try clear H a W
                    intro a W H
                    refine wp_cond_true (H.ev rfl) ?_
                    refine sqR H gs0 fun Z_ z_ => rK [1, 1, 0] [] [] <| rS 1 rfl <| rK [1, 0] [] [] <| rN0 z_ ?_
                    try clear H a W
                    intro a W H
                    refine wp_ret ?_
                    repeat (first | (with_reducible refine then_ret ?_) | (with_reducible refine blk_ret ?_))
                    refine end_tmp (p := 4) rfl rfl H (fun hb => ?_)
                    exact ⟨by rw [hfalse (by first | exact .inr (.inl (by omega)) | exact .inr (.inr (by omega)))], hb⟩
noncomputable def eqD (T U : DT) : Bool := @decide (T = U) (Classical.propDecidable _)
theorem eqD_iff (T U : DT) : eqD T U = true ↔ T = U := by
  unfold eqD
  exact @decide_eq_true_iff _ (Classical.propDecidable _)
theorem eqD_not {T U : DT} (h : ¬ T = U) : eqD T U = false := by
  cases e : eqD T U with
  | false => rfl
  | true => exact absurd ((eqD_iff T U).1 e) h
theorem ext_getD {a c : List Nat} (hl : a.length = c.length) (h : ∀ i, i < a.length → a.getD i 0 = c.getD i 0) : a = c := by
  refine List.ext_getElem hl fun i h1 h2 => ?_
  have := h i h1
  rwa [List.getD_eq_getElem?_getD, List.getD_eq_getElem?_getD, List.getElem?_eq_getElem h1, List.getElem?_eq_getElem h2] at this
theorem same_sees {w : World} {B : Nat} {T : DT} {x : DH} (h : DX w B T x) : ∀ {w2 : World} {B2 : Nat} {U : DT} {y : DH} (h2 : DX w2 B2 U y) (W : World), Sees w B W → Sees w2 B2 W → Calls Tryd.prog 18 #[.agg x.cs, .agg y.cs] W (fun r W' => r = .returned (.bool (eqD T U)) ∧ Below W.heap.size W W') := by
  induction h with
  | @mk x b a ks sub hk hn hm hb ha hl hcap hc hs ih =>
    intro w2 B2 U y h2 W hW hW2
    cases h2 with
    | @mk _ b2 a2 ks2 sub2 hk2 hn2 hm2 hb2 ha2 hl2 hcap2 hc2 hs2 =>
    obtain ⟨kx, px, hkx⟩ := kids_at hc hW
    obtain ⟨ky, py, hky⟩ := kids_at hc2 hW2
    obtain ⟨gx, ox, hax⟩ := ((ha.keep hW.2).more hW.1).nat (Nat.le_refl _)
    obtain ⟨gy, oy, hay⟩ := ((ha2.keep hW2.2).more hW2.1).nat (Nat.le_refl _)
    obtain ⟨N, hNN, hposN, hendN⟩ := rounds_at (fun i => a.getD i 0 = a2.getD i 0) x.a.n
    obtain ⟨M, hNM, hposM, hendM⟩ := rounds_at (fun i => ks[i]? = ks2[i]?) x.ks.n
    have hla := ha.len
    have hla2 := ha2.len
    have kid : x.ks.n = y.ks.n → ∀ k, k < x.ks.n → ∀ W2, Below W.heap.size W W2 → ∃ V V2, ks[k]? = some V ∧ ks2[k]? = some V2 ∧ Calls Tryd.prog 18 #[.agg (sub k).cs, .agg (sub2 k).cs] W2 (fun r W' => r = .returned (.bool (eqD V V2)) ∧ Below W2.heap.size W2 W') := fun he k hk W2 hB => by
      have e1 : ks[k]? = some _ := List.getElem?_eq_getElem (by omega)
      have e2 : ks2[k]? = some _ := List.getElem?_eq_getElem (by omega)
      exact ⟨_, _, e1, e2, ih k _ e1 (hs2 k _ e2) W2 (hW.below hB) (hW2.below hB)⟩
    refine same_walk (sx := sub) (sy := sub2) (ax := a) (ay := a2) (N := N) (M := M) (bad := ¬ ks[M]? = ks2[M]?) _ W hm hm2 ⟨_, _, _, rfl, (hb.keep hW.2).more hW.1⟩ ⟨_, _, _, rfl, (hb2.keep hW2.2).more hW2.1⟩ hax hay hkx hky hNN hposN hendN hNM (fun _ _ => trivial) (fun he k hk W2 hB => ?_) hendM (fun he hM hbad W2 hB => ?_) (fun hf => eqD_not fun e => ?_) (fun hf hNM => (eqD_iff _ _).2 ?_)
    · obtain ⟨V, V2, e1, e2, hcall⟩ := kid he k (by omega) W2 hB
      have := hposM k hk
      rw [e1, e2] at this
      injection this with this
      subst this
      rwa [(eqD_iff V V).2 rfl] at hcall
    · obtain ⟨V, V2, e1, e2, hcall⟩ := kid he M hM W2 hB
      rw [e1, e2] at hbad
      rwa [eqD_not fun e => hbad (by rw [e])] at hcall
    · injection e with e1 e2 e3 e4 e5 e6 e7
      rcases hf with (hf | hf | hf | hf | hf | hf | hf) | hf | hf
      · exact hf e1
      · exact hf e2
      · exact hf e3
      · exact hf e4
      · exact hf e5
      · exact hf (by rw [← hla, ← hla2, e6])
      · exact hf (by rw [← hl, ← hl2, e7])
      · rcases hendN with h | ⟨_, h⟩
        · omega
        · exact h (by rw [e6])
      · rcases hendM with h | ⟨_, h⟩
        · omega
        · exact h (by rw [e7])
    · have d1 : x.k = y.k := Decidable.byContradiction fun h => hf (.inl h)
      have d2 : x.f = y.f := Decidable.byContradiction fun h => hf (.inr (.inl h))
      have d3 : x.n = y.n := Decidable.byContradiction fun h => hf (.inr (.inr (.inl h)))
      have d4 : b = b2 := Decidable.byContradiction fun h => hf (.inr (.inr (.inr (.inl h))))
      have d5 : x.t = y.t := Decidable.byContradiction fun h => hf (.inr (.inr (.inr (.inr (.inl h)))))
      have d6 : x.a.n = y.a.n := Decidable.byContradiction fun h => hf (.inr (.inr (.inr (.inr (.inr (.inl h))))))
      have d7 : x.ks.n = y.ks.n := Decidable.byContradiction fun h => hf (.inr (.inr (.inr (.inr (.inr (.inr h))))))
      have d8 : a = a2 := ext_getD (by omega) fun i hi => hposN i (by omega)
      have d9 : ks = ks2 := List.ext_getElem? fun i => by
        by_cases hi : i < x.ks.n
        · exact hposM i (by omega)
        · rw [List.getElem?_eq_none (by omega), List.getElem?_eq_none (by omega)]
      rw [d1, d2, d3, d4, d5, d8, d9]
theorem same_any {w : World} {T U : DT} {u v : Value} (hu : DF T u w) (hv : DF U v w) : Calls Tryd.prog 18 #[u, v] w (fun r W' => r = .returned (.bool (eqD T U)) ∧ Below w.heap.size w W') := by
  obtain ⟨x, rfl, h⟩ := hu
  obtain ⟨y, rfl, h2⟩ := hv
  exact same_sees h h2 w (Sees.refl (Nat.le_refl _)) (Sees.refl (Nat.le_refl _))
end Go.Proofs.YtiafcgoiolbdhaaDoor
namespace Go.Proofs.YtiafcgoiolbdhaaDoor
set_option linter.unusedVariables false
set_option linter.unusedSimpArgs false
set_option maxRecDepth 100000
open Go Go.RowKit
/-- What utf8.ValidString answers. -/
def UV (u8 : List UInt8 → Bool) (w : World) : Prop := ∀ W, Below w.heap.size w W → ∀ l : List UInt8, l.length < 9223372036854775808 → Calls Tryd.prog 51 #[.string (strB l)] W (fun r W' => r = .returned (.bool (u8 l)) ∧ Below W.heap.size W W')
theorem UV.ext {u8 : List UInt8 → Bool} {w W : World} (h : UV u8 w) (hb : Below w.heap.size w W) : UV u8 W := fun W2 hb2 => h W2 (hb.trans (hb2.mono hb.size))
theorem take_all {α : Type} [Inhabited α] (p : α → Bool) (l : List α) (d : α) {k : Nat} (h : k < l.length) : (l.take (k + 1)).all p = ((l.take k).all p && p (l.getD k d)) := by
  rw [List.take_add_one, List.getElem?_eq_getElem h, Option.toList_some, List.all_append, List.getD_eq_getElem?_getD, List.getElem?_eq_getElem h]
  simp
def arcB (a : List Nat) (k : Nat) : Bool := decide (2 ≤ a.length ∧ a.length ≤ 16 ∧ a.getD 0 0 ≤ 2 ∧ (a.getD 0 0 = 2 ∨ a.getD 1 0 < 40)) && (a.take k).all (fun x => decide (x < 2147483648))
theorem arcB_0 (a : List Nat) : arcB a 0 = decide (2 ≤ a.length ∧ a.length ≤ 16 ∧ a.getD 0 0 ≤ 2 ∧ (a.getD 0 0 = 2 ∨ a.getD 1 0 < 40)) := by
  unfold arcB
  rw [List.take_zero, List.all_nil, Bool.and_true]
theorem arcB_succ {a : List Nat} {k : Nat} (h : k < a.length) : arcB a (k + 1) = (arcB a k && decide (a.getD k 0 < 2147483648)) := by
  unfold arcB
  rw [take_all _ a 0 h, Bool.and_assoc]
theorem arcB_all (a : List Nat) : arcB a a.length = arcsOk a := by
  unfold arcB arcsOk
  rw [List.take_length]
  congr 1
  rw [Bool.eq_iff_iff]
  simp [and_assoc]
def tmB (t : List UInt8) (k : Nat) : Bool := decide (t.length = 15 ∧ (t.getD 14 0).toNat = 90) && (t.take k).all (fun x => decide (48 ≤ x.toNat) && decide (x.toNat ≤ 57))
theorem tmB_0 (t : List UInt8) : tmB t 0 = decide (t.length = 15 ∧ (t.getD 14 0).toNat = 90) := by
  unfold tmB
  rw [List.take_zero, List.all_nil, Bool.and_true]
theorem tmB_succ {t : List UInt8} {k : Nat} (h : k < t.length) : tmB t (k + 1) = (tmB t k && (decide (48 ≤ (t.getD k 0).toNat) && decide ((t.getD k 0).toNat ≤ 57))) := by
  unfold tmB
  rw [take_all _ t 0 h, Bool.and_assoc]
theorem tmB_len {t : List UInt8} {k : Nat} (h : tmB t k = true) : t.length = 15 := by
  unfold tmB at h
  rw [Bool.and_eq_true] at h
  exact (of_decide_eq_true h.1).1
theorem tmB_all (t : List UInt8) : tmB t 14 = timeOk t := by
  unfold tmB timeOk
  congr 1
  rw [Bool.eq_iff_iff]
  simp [← UInt8.toNat_inj]
theorem tmB_mono {t : List UInt8} {k : Nat} (h : tmB t k = false) : tmB t 14 = false ∨ 14 < k := by
  by_cases hk : 14 < k
  · exact .inr hk
  · refine .inl ?_
    cases e : tmB t 14 with
    | false => rfl
    | true =>
      unfold tmB at h e
      rw [Bool.and_eq_true] at e
      rw [e.1, Bool.true_and] at h
      have h2 : (t.take k).all (fun x => decide (48 ≤ x.toNat) && decide (x.toNat ≤ 57)) = true := List.all_eq_true.2 fun x hx => List.all_eq_true.1 e.2 x ((List.take_prefix_take_left (by omega)).subset hx)
      rw [h2] at h
      exact h
theorem tmB_end {t : List UInt8} {N : Nat} (h : N = 14 ∨ N < 14 ∧ ¬ tmB t N = true) : timeOk t = tmB t N := by
  rcases h with rfl | ⟨h1, h2⟩
  · exact (tmB_all t).symm
  · have h3 : tmB t N = false := by simpa using h2
    rcases tmB_mono h3 with h4 | h4
    · rw [← tmB_all, h3, h4]
    · omega
theorem tag_pos {k n : Int} : 0 < tagD k n ↔ 1 ≤ k ∧ k ≤ 10 := by
  have h31 := tmod31 n
  by_cases h8 : k = 8
  · subst h8
    rw [tagD_8]
    omega
  · by_cases h : k < 1 ∨ 11 ≤ k
    · rw [tagD_out h]
      omega
    · obtain rfl | rfl | rfl | rfl | rfl | rfl | rfl | rfl | rfl : k = 1 ∨ k = 2 ∨ k = 3 ∨ k = 4 ∨ k = 5 ∨ k = 6 ∨ k = 7 ∨ k = 9 ∨ k = 10 := by omega
      all_goals simp [tagD]
theorem own_eq (u8 : List UInt8 → Bool) {x : DH} {b : List UInt8} {a : List Nat} {ks : List DT} (hxn : -9223372036854775808 ≤ x.n ∧ x.n < 9223372036854775808) (hlb : b.length = x.b.n) (hla : a.length = x.a.n) (hlk : ks.length = x.ks.n) : ownD u8 (.mk x.k x.f x.n b x.t a ks)
    = (decide (0 < tagD x.k x.n) && (if x.k = 5 then arcsOk a else decide (a.length = 0)) && (if x.k = 10 then timeOk x.t else if x.k = 6 then u8 x.t else decide (x.t = [])) && decide (x.n = 0 ∨ x.k = 2 ∨ (x.k = 8 ∧ 0 ≤ x.n ∧ x.n ≤ 30)) && decide (((x.k = 8 ∨ x.k = 9) ∧ x.ks.n = 1) ∨ (¬ (x.k = 8 ∨ x.k = 9) ∧ (x.ks.n = 0 ∨ x.k = 7))) && (!x.f || decide (x.k = 1)) && (decide (((x.b.n : Nat) : Int) = 0) || (decide (x.k = 3) || decide (x.k = 4)))) := by
  unfold ownD
  dsimp only
  have e1 : (decide (1 ≤ x.k) && decide (x.k ≤ 10) && decide (-9223372036854775808 ≤ x.n) && decide (x.n < 9223372036854775808)) = decide (0 < tagD x.k x.n) := by
    rw [decide_eq_true hxn.1, decide_eq_true hxn.2, Bool.and_true, Bool.and_true, ← Bool.decide_and]
    exact decide_eq_decide.2 tag_pos.symm
  have e2 : (if x.k = 5 then arcsOk a else a.isEmpty) = (if x.k = 5 then arcsOk a else decide (a.length = 0)) := by
    split
    · rfl
    · cases a <;> simp
  have e3 : (if x.k = 6 then u8 x.t else if x.k = 10 then timeOk x.t else x.t.isEmpty) = (if x.k = 10 then timeOk x.t else if x.k = 6 then u8 x.t else decide (x.t = [])) := by
    by_cases h6 : x.k = 6
    · rw [if_pos h6, if_neg (by omega), if_pos h6]
    · rw [if_neg h6]
      by_cases h10 : x.k = 10
      · rw [if_pos h10, if_pos h10]
      · rw [if_neg h10, if_neg h10, if_neg h6]
        cases x.t <;> simp
  have e4 : (decide (x.n = 0) || decide (x.k = 2) || (decide (x.k = 8) && decide (0 ≤ x.n) && decide (x.n ≤ 30))) = decide (x.n = 0 ∨ x.k = 2 ∨ (x.k = 8 ∧ 0 ≤ x.n ∧ x.n ≤ 30)) := by
    rw [Bool.eq_iff_iff]
    simp [or_assoc, and_assoc]
  have e5 : (if x.k = 7 then true else if x.k = 8 ∨ x.k = 9 then decide (ks.length = 1) else ks.isEmpty) = decide (((x.k = 8 ∨ x.k = 9) ∧ x.ks.n = 1) ∨ (¬ (x.k = 8 ∨ x.k = 9) ∧ (x.ks.n = 0 ∨ x.k = 7))) := by
    rw [← hlk]
    by_cases h7 : x.k = 7
    · rw [if_pos h7]
      exact (decide_eq_true (by omega)).symm
    · rw [if_neg h7]
      by_cases h8 : x.k = 8 ∨ x.k = 9
      · rw [if_pos h8]
        exact decide_eq_decide.2 (by omega)
      · rw [if_neg h8]
        rw [show ks.isEmpty = decide (ks.length = 0) by cases ks <;> simp]
        exact decide_eq_decide.2 (by omega)
  have e6 : (b.isEmpty || decide (x.k = 3) || decide (x.k = 4)) = (decide (((x.b.n : Nat) : Int) = 0) || (decide (x.k = 3) || decide (x.k = 4))) := by
    rw [Bool.or_assoc, show b.isEmpty = decide (((x.b.n : Nat) : Int) = 0) by
      rw [← hlb]
      cases b
      · simp
      · simp; omega]
  rw [e1, e2, e3, e4, e5, e6]
theorem ix_str {l : List UInt8} {j : Nat} (h : j < l.length) (W : World) : (Instr.index 9 (.string (strB l)) (.int .i64 (j : Int))).run Tryd.prog W = .ok (.int .u8 (((l.getD j 0).toNat : Nat) : Int)) W := by
  have h1 : (0 : Int) ≤ (j : Int) := by omega
  have h2 : (j : Int) < ((strB l).size : Int) := by rw [strB_size]; omega
  have h3 : j < (strB l).size := by rw [strB_size]; exact h
  have h4 : (strB l)[j]'h3 = l.getD j 0 := by
    rw [List.getD_eq_getElem?_getD, List.getElem?_eq_getElem h]
    rfl
  go_simp
  all_goals first | exact h4 | (simp [h4]) | skip
set_option maxHeartbeats 4000000 in
theorem own_walk {x : DH} {b : List UInt8} {la : List Nat} {ks : List DT} {gx ox : Nat} (u8 : List UInt8 → Bool) (w : World) (hu8 : UV u8 w) (hxn : -9223372036854775808 ≤ x.n ∧ x.n < 9223372036854775808) (hx : x.b.n < 9223372036854775808 ∧ x.t.length < 9223372036854775808 ∧ x.a.n < 9223372036854775808 ∧ x.ks.n < 9223372036854775808) (hlb : b.length = x.b.n) (hla : la.length = x.a.n) (hlk : ks.length = x.ks.n) (hax : 0 < x.a.n → x.a.A = some ⟨gx, ox, none⟩ ∧ gx < w.heap.size ∧ ∀ i, i < x.a.n → w.cell? ⟨gx, ox + i, none⟩ = some (.int .u64 ((la.getD i 0 : Nat) : Int))) : Calls Tryd.prog 34 #[.agg (x.cs)] w (fun rr w' => rr = .returned (.bool (ownD u8 (.mk x.k x.f x.n b x.t la ks))) ∧ Below w.heap.size w w') := by
  refine calls_st (vs := [.agg (x.cs)]) 179 Tryd.func34 rfl Tryd.ntmps34 rfl (fun a W H => ?_)
  replace H : St 179 w a W [(0, .agg (x.cs))] [] := H
  refine sqR H gs0 fun Z_ z_ => rB rfl rfl rfl (bx_der x) fun g1 => rS 1 rfl <| rK [1, 1, 0] [] [] <| rN0 z_ ?_
  try clear H a W
  intro a W H
  refine sqR H gs0 fun Z_ z_ => rV rfl (does_fieldAddr rfl rfl fa_der0) <| rV rfl (does_loadAt (v := .int .i64 x.k) rfl rfl (k := 0) rfl ld_derK) <| rS 1 rfl <| rK [1, 0, 0] [] [] <| rN0 z_ ?_
  try clear H a W
  intro a W H
  refine sqR H gs0 fun Z_ z_ => rV rfl (does_fieldAddr rfl rfl fa_der5) <| rV rfl (does_loadAt (v := .slice x.a.A x.a.n x.a.c) rfl rfl (k := 0) rfl ld_derA) <| rV rfl (does_len Tryd.underlying24 rfl rfl) <| rV rfl (does_binOp rfl rfl rfl (zd_eql_int (k := ((x.a.n : Nat) : Int)) (m := 0) rfl _ _)) <| rS 1 rfl <| rK [1, 0, 0, 0, 0] [] [] <| rN0 z_ ?_
  try clear H a W
  intro a W H
  refine wp_seq_k (fun K4 hK4 => ?_)
  have J4 : ∀ a W, St 179 w a W [(4, .bool (if x.k = 5 then arcsOk la else decide (la.length = 0))), (3, .int .i64 x.k), (2, .bool false), (1, .pointer (some ⟨g1, 0, none⟩))] [(g1, 27, x.cs)] → K4 a W := by
    try clear H a W
    intro a W H
    refine hK4 _ _ ?_
    clear hK4
    refine sqR H gs0 fun Z_ z_ => rV rfl (does_fieldAddr rfl rfl fa_der4) <| rV rfl (does_loadAt (v := .string (strB x.t)) rfl rfl (k := 0) rfl ld_derT) <| rV rfl (does_binOp rfl rfl rfl (sd_eql (l := x.t) (m := []) rfl _ _)) <| rS 1 rfl <| rK [1, 0, 0, 0] [] [] <| rN0 z_ ?_
    try clear H a W
    intro a W H
    refine wp_seq_k (fun K6 hK6 => ?_)
    have J6 : ∀ a W, St 179 w a W [(6, .bool (if x.k = 6 then u8 x.t else decide (x.t = []))), (4, .bool (if x.k = 5 then arcsOk la else decide (la.length = 0))), (3, .int .i64 x.k), (2, .bool false), (1, .pointer (some ⟨g1, 0, none⟩))] [(g1, 27, x.cs)] → K6 a W := by
      try clear H a W
      intro a W H
      refine hK6 _ _ ?_
      clear hK6
      refine wp_seq_k (fun K7 hK7 => ?_)
      have J7 : ∀ a W, St 179 w a W [(6, .bool (if x.k = 10 then timeOk x.t else if x.k = 6 then u8 x.t else decide (x.t = []))), (4, .bool (if x.k = 5 then arcsOk la else decide (la.length = 0))), (3, .int .i64 x.k), (2, .bool false), (1, .pointer (some ⟨g1, 0, none⟩))] [(g1, 27, x.cs)] → K7 a W := by
        try clear H a W
        intro a W H
        refine hK7 _ _ ?_
        clear hK7
        refine wp_seq_k (fun K8 hK8 => ?_)
        have J8 : ∀ a W, St 179 w a W [(8, .bool (decide (x.n = 0 ∨ x.k = 2 ∨ (x.k = 8 ∧ 0 ≤ x.n ∧ x.n ≤ 30)))), (6, .bool (if x.k = 10 then timeOk x.t else if x.k = 6 then u8 x.t else decide (x.t = []))), (4, .bool (if x.k = 5 then arcsOk la else decide (la.length = 0))), (3, .int .i64 x.k), (2, .bool false), (1, .pointer (some ⟨g1, 0, none⟩))] [(g1, 27, x.cs)] → K8 a W := by
          try clear H a W
          intro a W H
          refine hK8 _ _ ?_
          clear hK8
          refine sqR H gs0 fun Z_ z_ => rV rfl (does_fieldAddr rfl rfl fa_der6) <| rV rfl (does_loadAt (v := .slice x.ks.A x.ks.n x.ks.c) rfl rfl (k := 0) rfl ld_derS) <| rV rfl (does_len Tryd.underlying25 rfl rfl) <| rV rfl (does_binOp rfl rfl rfl (zd_eql_int (k := ((x.ks.n : Nat) : Int)) (m := 0) rfl _ _)) <| rS 1 rfl <| rK [1, 0, 0, 0, 0] [] [] <| rN0 z_ ?_
          try clear H a W
          intro a W H
          refine wp_seq_k (fun K10 hK10 => ?_)
          have J10 : ∀ a W, St 179 w a W [(9, .bool (decide (x.ks.n = 0 ∨ x.k = 7))), (8, .bool (decide (x.n = 0 ∨ x.k = 2 ∨ (x.k = 8 ∧ 0 ≤ x.n ∧ x.n ≤ 30)))), (6, .bool (if x.k = 10 then timeOk x.t else if x.k = 6 then u8 x.t else decide (x.t = []))), (4, .bool (if x.k = 5 then arcsOk la else decide (la.length = 0))), (3, .int .i64 x.k), (2, .bool false), (1, .pointer (some ⟨g1, 0, none⟩))] [(g1, 27, x.cs)] → K10 a W := by
            try clear H a W
            intro a W H
            refine hK10 _ _ ?_
            clear hK10
            refine wp_seq_k (fun K11 hK11 => ?_)
            have J11 : ∀ a W, St 179 w a W [(9, .bool (decide (((x.k = 8 ∨ x.k = 9) ∧ x.ks.n = 1) ∨ (¬ (x.k = 8 ∨ x.k = 9) ∧ (x.ks.n = 0 ∨ x.k = 7))))), (8, .bool (decide (x.n = 0 ∨ x.k = 2 ∨ (x.k = 8 ∧ 0 ≤ x.n ∧ x.n ≤ 30)))), (6, .bool (if x.k = 10 then timeOk x.t else if x.k = 6 then u8 x.t else decide (x.t = []))), (4, .bool (if x.k = 5 then arcsOk la else decide (la.length = 0))), (3, .int .i64 x.k), (2, .bool false), (1, .pointer (some ⟨g1, 0, none⟩))] [(g1, 27, x.cs)] → K11 a W := by
              try clear H a W
              intro a W H
              refine hK11 _ _ ?_
              clear hK11
              refine wp_seq_k (fun K12 hK12 => ?_)
              cases hq1 : decide (0 < (tagD x.k x.n)) with
              | true =>
                have hq1p := of_decide_eq_true hq1
                cases hq2 : (if x.k = 5 then arcsOk la else decide (la.length = 0)) with
                | true =>
                  rw [hq2] at H
                  cases hq3 : (if x.k = 10 then timeOk x.t else if x.k = 6 then u8 x.t else decide (x.t = [])) with
                  | true =>
                    rw [hq3] at H
                    cases hq4 : decide (x.n = 0 ∨ x.k = 2 ∨ (x.k = 8 ∧ 0 ≤ x.n ∧ x.n ≤ 30)) with
                    | true =>
                      rw [hq4] at H
                      have hq4p := of_decide_eq_true hq4
                      cases hq5 : decide (((x.k = 8 ∨ x.k = 9) ∧ x.ks.n = 1) ∨ (¬ (x.k = 8 ∨ x.k = 9) ∧ (x.ks.n = 0 ∨ x.k = 7))) with
                      | true =>
                        rw [hq5] at H
                        have hq5p := of_decide_eq_true hq5
                        cases hq6 : x.f with
                        | true =>
                          cases hq7 : decide (x.k = 1) with
                          | true =>
                            have hq7p := of_decide_eq_true hq7
                            cases hq8 : decide (((x.b.n : Nat) : Int) = 0) with
                            | true =>
                              have hq8p := of_decide_eq_true hq8
                              refine rgP H gs0 (rV rfl (does_load rfl rfl (k := 0) rfl Tryd.underlying27 rfl (info_der x)) <| rV rfl (does_call rfl ⟨_, Tryd.func49, by kernel_rfl⟩ rfl (fun W hb => rtag_any x W hxn)) <| rV rfl (does_binOp rfl rfl rfl (zd_gtr_int (k := (tagD x.k x.n)) (m := 0) hq1 _ _)) <| rS 13 rfl <| rV rfl (does_fieldAddr rfl rfl fa_der1) <| rV rfl (does_loadAt (v := .bool true) rfl rfl (k := 0) rfl (ld_derFb hq6)) <| rS 3 rfl <| rV rfl (does_binOp rfl rfl rfl (zd_eql_derkind (k := x.k) (m := 1) hq7 _ _)) <| rS 3 rfl <| rV rfl (does_fieldAddr rfl rfl fa_der3) <| rV rfl (does_loadAt (v := .slice x.b.A x.b.n x.b.c) rfl rfl (k := 0) rfl ld_derB) <| rV rfl (does_len Tryd.underlying23 rfl rfl) <| rV rfl (does_binOp rfl rfl rfl (zd_eql_int (k := ((x.b.n : Nat) : Int)) (m := 0) hq8 _ _)) <| rS 9 rfl <| rK [1, 1, 1, 1, 1, 1, 1, 1, 1, 1, 1, 1, 1, 1, 1, 1, 1, 1, 1, 1, 1, 1, 1, 1, 1, 1, 1, 1, 1, 1, 1, 1, 1, 1, 1, 1, 1, 1, 1, 1, 1, 1, 1, 0] [] [] <| rS 1 rfl <| rK [1, 0, 0, 0, 0, 0, 0, 0, 0, 0, 0, 0, 0, 0, 0, 0, 0, 0, 0, 0, 0, 0, 0, 0, 0, 0, 0, 0, 0, 0, 0, 0, 0, 0, 0, 0, 0, 0, 0, 0, 0, 0, 0, 0, 0] [0] [] <| rZ0 ?_)
                              try clear H a W
                              intro a W H
                              refine hK12 _ _ ?_
                              clear hK12
                              refine wp_ret ?_
                              repeat (first | (with_reducible refine then_ret ?_) | (with_reducible refine blk_ret ?_))
                              refine end_tmp (p := 2) rfl rfl H (fun hb => ?_)
                              refine ⟨?_, hb⟩
                              rw [own_eq u8 hxn hlb hla hlk]
                              simp only [hq1, hq2, hq3, hq4, hq5, hq6, hq7, hq8, Bool.true_and, Bool.and_true, Bool.false_and, Bool.and_false, Bool.not_true, Bool.not_false, Bool.false_or, Bool.true_or, Bool.or_true, Bool.or_false]
                            | false =>
                              have hq8p := of_decide_eq_false hq8
                              cases hq9 : decide (x.k = 3) with
                              | true =>
                                have hq9p := of_decide_eq_true hq9
                                refine rgP H gs0 (rV rfl (does_load rfl rfl (k := 0) rfl Tryd.underlying27 rfl (info_der x)) <| rV rfl (does_call rfl ⟨_, Tryd.func49, by kernel_rfl⟩ rfl (fun W hb => rtag_any x W hxn)) <| rV rfl (does_binOp rfl rfl rfl (zd_gtr_int (k := (tagD x.k x.n)) (m := 0) hq1 _ _)) <| rS 13 rfl <| rV rfl (does_fieldAddr rfl rfl fa_der1) <| rV rfl (does_loadAt (v := .bool true) rfl rfl (k := 0) rfl (ld_derFb hq6)) <| rS 3 rfl <| rV rfl (does_binOp rfl rfl rfl (zd_eql_derkind (k := x.k) (m := 1) hq7 _ _)) <| rS 3 rfl <| rV rfl (does_fieldAddr rfl rfl fa_der3) <| rV rfl (does_loadAt (v := .slice x.b.A x.b.n x.b.c) rfl rfl (k := 0) rfl ld_derB) <| rV rfl (does_len Tryd.underlying23 rfl rfl) <| rV rfl (does_binOp rfl rfl rfl (zd_eql_int (k := ((x.b.n : Nat) : Int)) (m := 0) hq8 _ _)) <| rS 2 rfl <| rV rfl (does_binOp rfl rfl rfl (zd_eql_derkind (k := x.k) (m := 3) hq9 _ _)) <| rS 6 rfl <| rK [1, 1, 1, 1, 1, 1, 1, 1, 1, 1, 1, 1, 1, 1, 1, 1, 1, 1, 1, 1, 1, 1, 1, 1, 1, 1, 1, 1, 1, 1, 1, 1, 1, 1, 1, 1, 1, 1, 1, 1, 1, 1, 1, 0] [] [] <| rS 1 rfl <| rK [1, 0, 0, 0, 0, 0, 0, 0, 0, 0, 0, 0, 0, 0, 0, 0, 0, 0, 0, 0, 0, 0, 0, 0, 0, 0, 0, 0, 0, 0, 0, 0, 0, 0, 0, 0, 0, 0, 0, 0, 0, 0, 0, 0, 0] [0] [] <| rZ0 ?_)
                                try clear H a W
                                intro a W H
                                refine hK12 _ _ ?_
                                clear hK12
                                refine wp_ret ?_
                                repeat (first | (with_reducible refine then_ret ?_) | (with_reducible refine blk_ret ?_))
                                refine end_tmp (p := 2) rfl rfl H (fun hb => ?_)
                                refine ⟨?_, hb⟩
                                rw [own_eq u8 hxn hlb hla hlk]
                                simp only [hq1, hq2, hq3, hq4, hq5, hq6, hq7, hq8, hq9, Bool.true_and, Bool.and_true, Bool.false_and, Bool.and_false, Bool.not_true, Bool.not_false, Bool.false_or, Bool.true_or, Bool.or_true, Bool.or_false]
                              | false =>
                                have hq9p := of_decide_eq_false hq9
                                refine rgP H gs0 (rV rfl (does_load rfl rfl (k := 0) rfl Tryd.underlying27 rfl (info_der x)) <| rV rfl (does_call rfl ⟨_, Tryd.func49, by kernel_rfl⟩ rfl (fun W hb => rtag_any x W hxn)) <| rV rfl (does_binOp rfl rfl rfl (zd_gtr_int (k := (tagD x.k x.n)) (m := 0) hq1 _ _)) <| rS 13 rfl <| rV rfl (does_fieldAddr rfl rfl fa_der1) <| rV rfl (does_loadAt (v := .bool true) rfl rfl (k := 0) rfl (ld_derFb hq6)) <| rS 3 rfl <| rV rfl (does_binOp rfl rfl rfl (zd_eql_derkind (k := x.k) (m := 1) hq7 _ _)) <| rS 3 rfl <| rV rfl (does_fieldAddr rfl rfl fa_der3) <| rV rfl (does_loadAt (v := .slice x.b.A x.b.n x.b.c) rfl rfl (k := 0) rfl ld_derB) <| rV rfl (does_len Tryd.underlying23 rfl rfl) <| rV rfl (does_binOp rfl rfl rfl (zd_eql_int (k := ((x.b.n : Nat) : Int)) (m := 0) hq8 _ _)) <| rS 2 rfl <| rV rfl (does_binOp rfl rfl rfl (zd_eql_derkind (k := x.k) (m := 3) hq9 _ _)) <| rS 3 rfl <| rV rfl (does_binOp rfl rfl rfl (zd_eql_derkind (k := x.k) (m := 4) rfl _ _)) <| rS 2 rfl <| rK [1, 1, 1, 1, 1, 1, 1, 1, 1, 1, 1, 1, 1, 1, 1, 1, 1, 1, 1, 1, 1, 1, 1, 1, 1, 1, 1, 1, 1, 1, 1, 1, 1, 1, 1, 1, 1, 1, 1, 1, 1, 1, 1, 0] [] [] <| rS 1 rfl <| rK [1, 0, 0, 0, 0, 0, 0, 0, 0, 0, 0, 0, 0, 0, 0, 0, 0, 0, 0, 0, 0, 0, 0, 0, 0, 0, 0, 0, 0, 0, 0, 0, 0, 0, 0, 0, 0, 0, 0, 0, 0, 0, 0, 0, 0] [0] [] <| rZ0 ?_)
                                try clear H a W
                                intro a W H
                                refine hK12 _ _ ?_
                                clear hK12
                                refine wp_ret ?_
                                repeat (first | (with_reducible refine then_ret ?_) | (with_reducible refine blk_ret ?_))
                                refine end_tmp (p := 2) rfl rfl H (fun hb => ?_)
                                refine ⟨?_, hb⟩
                                rw [own_eq u8 hxn hlb hla hlk]
                                simp only [hq1, hq2, hq3, hq4, hq5, hq6, hq7, hq8, hq9, Bool.true_and, Bool.and_true, Bool.false_and, Bool.and_false, Bool.not_true, Bool.not_false, Bool.false_or, Bool.true_or, Bool.or_true, Bool.or_false]
                          | false =>
                            have hq7p := of_decide_eq_false hq7
                            refine rgP H gs0 (rV rfl (does_load rfl rfl (k := 0) rfl Tryd.underlying27 rfl (info_der x)) <| rV rfl (does_call rfl ⟨_, Tryd.func49, by kernel_rfl⟩ rfl (fun W hb => rtag_any x W hxn)) <| rV rfl (does_binOp rfl rfl rfl (zd_gtr_int (k := (tagD x.k x.n)) (m := 0) hq1 _ _)) <| rS 13 rfl <| rV rfl (does_fieldAddr rfl rfl fa_der1) <| rV rfl (does_loadAt (v := .bool true) rfl rfl (k := 0) rfl (ld_derFb hq6)) <| rS 3 rfl <| rV rfl (does_binOp rfl rfl rfl (zd_eql_derkind (k := x.k) (m := 1) hq7 _ _)) <| rS 16 rfl <| rK [1, 1, 1, 1, 1, 1, 1, 1, 1, 1, 1, 1, 1, 1, 1, 1, 1, 1, 1, 1, 1, 1, 1, 1, 1, 1, 1, 1, 1, 1, 1, 1, 1, 1, 1, 1, 1, 1, 1, 1, 1, 1, 1, 0] [] [] <| rS 1 rfl <| rK [1, 0, 0, 0, 0, 0, 0, 0, 0, 0, 0, 0, 0, 0, 0, 0, 0, 0, 0, 0, 0, 0, 0, 0, 0, 0, 0, 0, 0, 0, 0, 0, 0, 0, 0, 0, 0, 0, 0, 0, 0, 0, 0, 0, 0] [0] [] <| rZ0 ?_)
                            try clear H a W
                            intro a W H
                            refine hK12 _ _ ?_
                            clear hK12
                            refine wp_ret ?_
                            repeat (first | (with_reducible refine then_ret ?_) | (with_reducible refine blk_ret ?_))
                            refine end_tmp (p := 2) rfl rfl H (fun hb => ?_)
                            refine ⟨?_, hb⟩
                            rw [own_eq u8 hxn hlb hla hlk]
                            simp only [hq1, hq2, hq3, hq4, hq5, hq6, hq7, Bool.true_and, Bool.and_true, Bool.false_and, Bool.and_false, Bool.not_true, Bool.not_false, Bool.false_or, Bool.true_or, Bool.or_true, Bool.or_false]
                        | false =>
                          cases hq10 : decide (((x.b.n : Nat) : Int) = 0) with
                          | true =>
                            have hq10p := of_decide_eq_true hq10
                            refine rgP H gs0 (rV rfl (does_load rfl rfl (k := 0) rfl Tryd.underlying27 rfl (info_der x)) <| rV rfl (does_call rfl ⟨_, Tryd.func49, by kernel_rfl⟩ rfl (fun W hb => rtag_any x W hxn)) <| rV rfl (does_binOp rfl rfl rfl (zd_gtr_int (k := (tagD x.k x.n)) (m := 0) hq1 _ _)) <| rS 13 rfl <| rV rfl (does_fieldAddr rfl rfl fa_der1) <| rV rfl (does_loadAt (v := .bool false) rfl rfl (k := 0) rfl (ld_derFb hq6)) <| rS 7 rfl <| rV rfl (does_fieldAddr rfl rfl fa_der3) <| rV rfl (does_loadAt (v := .slice x.b.A x.b.n x.b.c) rfl rfl (k := 0) rfl ld_derB) <| rV rfl (does_len Tryd.underlying23 rfl rfl) <| rV rfl (does_binOp rfl rfl rfl (zd_eql_int (k := ((x.b.n : Nat) : Int)) (m := 0) hq10 _ _)) <| rS 9 rfl <| rK [1, 1, 1, 1, 1, 1, 1, 1, 1, 1, 1, 1, 1, 1, 1, 1, 1, 1, 1, 1, 1, 1, 1, 1, 1, 1, 1, 1, 1, 1, 1, 1, 1, 1, 1, 1, 1, 1, 1, 1, 1, 1, 1, 0] [] [] <| rS 1 rfl <| rK [1, 0, 0, 0, 0, 0, 0, 0, 0, 0, 0, 0, 0, 0, 0, 0, 0, 0, 0, 0, 0, 0, 0, 0, 0, 0, 0, 0, 0, 0, 0, 0, 0, 0, 0, 0, 0, 0, 0, 0, 0, 0, 0, 0, 0] [0] [] <| rZ0 ?_)
                            try clear H a W
                            intro a W H
                            refine hK12 _ _ ?_
                            clear hK12
                            refine wp_ret ?_
                            repeat (first | (with_reducible refine then_ret ?_) | (with_reducible refine blk_ret ?_))
                            refine end_tmp (p := 2) rfl rfl H (fun hb => ?_)
                            refine ⟨?_, hb⟩
                            rw [own_eq u8 hxn hlb hla hlk]
                            simp only [hq1, hq2, hq3, hq4, hq5, hq6, hq10, Bool.true_and, Bool.and_true, Bool.false_and, Bool.and_false, Bool.not_true, Bool.not_false, Bool.false_or, Bool.true_or, Bool.or_true, Bool.or_false]
                          | false =>
                            have hq10p := of_decide_eq_false hq10
                            cases hq11 : decide (x.k = 3) with
                            | true =>
                              have hq11p := of_decide_eq_true hq11
                              refine rgP H gs0 (rV rfl (does_load rfl rfl (k := 0) rfl Tryd.underlying27 rfl (info_der x)) <| rV rfl (does_call rfl ⟨_, Tryd.func49, by kernel_rfl⟩ rfl (fun W hb => rtag_any x W hxn)) <| rV rfl (does_binOp rfl rfl rfl (zd_gtr_int (k := (tagD x.k x.n)) (m := 0) hq1 _ _)) <| rS 13 rfl <| rV rfl (does_fieldAddr rfl rfl fa_der1) <| rV rfl (does_loadAt (v := .bool false) rfl rfl (k := 0) rfl (ld_derFb hq6)) <| rS 7 rfl <| rV rfl (does_fieldAddr rfl rfl fa_der3) <| rV rfl (does_loadAt (v := .slice x.b.A x.b.n x.b.c) rfl rfl (k := 0) rfl ld_derB) <| rV rfl (does_len Tryd.underlying23 rfl rfl) <| rV rfl (does_binOp rfl rfl rfl (zd_eql_int (k := ((x.b.n : Nat) : Int)) (m := 0) hq10 _ _)) <| rS 2 rfl <| rV rfl (does_binOp rfl rfl rfl (zd_eql_derkind (k := x.k) (m := 3) hq11 _ _)) <| rS 6 rfl <| rK [1, 1, 1, 1, 1, 1, 1, 1, 1, 1, 1, 1, 1, 1, 1, 1, 1, 1, 1, 1, 1, 1, 1, 1, 1, 1, 1, 1, 1, 1, 1, 1, 1, 1, 1, 1, 1, 1, 1, 1, 1, 1, 1, 0] [] [] <| rS 1 rfl <| rK [1, 0, 0, 0, 0, 0, 0, 0, 0, 0, 0, 0, 0, 0, 0, 0, 0, 0, 0, 0, 0, 0, 0, 0, 0, 0, 0, 0, 0, 0, 0, 0, 0, 0, 0, 0, 0, 0, 0, 0, 0, 0, 0, 0, 0] [0] [] <| rZ0 ?_)
                              try clear H a W
                              intro a W H
                              refine hK12 _ _ ?_
                              clear hK12
                              refine wp_ret ?_
                              repeat (first | (with_reducible refine then_ret ?_) | (with_reducible refine blk_ret ?_))
                              refine end_tmp (p := 2) rfl rfl H (fun hb => ?_)
                              refine ⟨?_, hb⟩
                              rw [own_eq u8 hxn hlb hla hlk]
                              simp only [hq1, hq2, hq3, hq4, hq5, hq6, hq10, hq11, Bool.true_and, Bool.and_true, Bool.false_and, Bool.and_false, Bool.not_true, Bool.not_false, Bool.false_or, Bool.true_or, Bool.or_true, Bool.or_false]
                            | false =>
                              have hq11p := of_decide_eq_false hq11
                              refine rgP H gs0 (rV rfl (does_load rfl rfl (k := 0) rfl Tryd.underlying27 rfl (info_der x)) <| rV rfl (does_call rfl ⟨_, Tryd.func49, by kernel_rfl⟩ rfl (fun W hb => rtag_any x W hxn)) <| rV rfl (does_binOp rfl rfl rfl (zd_gtr_int (k := (tagD x.k x.n)) (m := 0) hq1 _ _)) <| rS 13 rfl <| rV rfl (does_fieldAddr rfl rfl fa_der1) <| rV rfl (does_loadAt (v := .bool false) rfl rfl (k := 0) rfl (ld_derFb hq6)) <| rS 7 rfl <| rV rfl (does_fieldAddr rfl rfl fa_der3) <| rV rfl (does_loadAt (v := .slice x.b.A x.b.n x.b.c) rfl rfl (k := 0) rfl ld_derB) <| rV rfl (does_len Tryd.underlying23 rfl rfl) <| rV rfl (does_binOp rfl rfl rfl (zd_eql_int (k := ((x.b.n : Nat) : Int)) (m := 0) hq10 _ _)) <| rS 2 rfl <| rV rfl (does_binOp rfl rfl rfl (zd_eql_derkind (k := x.k) (m := 3) hq11 _ _)) <| rS 3 rfl <| rV rfl (does_binOp rfl rfl rfl (zd_eql_derkind (k := x.k) (m := 4) rfl _ _)) <| rS 2 rfl <| rK [1, 1, 1, 1, 1, 1, 1, 1, 1, 1, 1, 1, 1, 1, 1, 1, 1, 1, 1, 1, 1, 1, 1, 1, 1, 1, 1, 1, 1, 1, 1, 1, 1, 1, 1, 1, 1, 1, 1, 1, 1, 1, 1, 0] [] [] <| rS 1 rfl <| rK [1, 0, 0, 0, 0, 0, 0, 0, 0, 0, 0, 0, 0, 0, 0, 0, 0, 0, 0, 0, 0, 0, 0, 0, 0, 0, 0, 0, 0, 0, 0, 0, 0, 0, 0, 0, 0, 0, 0, 0, 0, 0, 0, 0, 0] [0] [] <| rZ0 ?_)
                              try clear H a W
                              intro a W H
                              refine hK12 _ _ ?_
                              clear hK12
                              refine wp_ret ?_
                              repeat (first | (with_reducible refine then_ret ?_) | (with_reducible refine blk_ret ?_))
                              refine end_tmp (p := 2) rfl rfl H (fun hb => ?_)
                              refine ⟨?_, hb⟩
                              rw [own_eq u8 hxn hlb hla hlk]
                              simp only [hq1, hq2, hq3, hq4, hq5, hq6, hq10, hq11, Bool.true_and, Bool.and_true, Bool.false_and, Bool.and_false, Bool.not_true, Bool.not_false, Bool.false_or, Bool.true_or, Bool.or_true, Bool.or_false]
                      | false =>
                        rw [hq5] at H
                        have hq5p := of_decide_eq_false hq5
                        refine rgP H gs0 (rV rfl (does_load rfl rfl (k := 0) rfl Tryd.underlying27 rfl (info_der x)) <| rV rfl (does_call rfl ⟨_, Tryd.func49, by kernel_rfl⟩ rfl (fun W hb => rtag_any x W hxn)) <| rV rfl (does_binOp rfl rfl rfl (zd_gtr_int (k := (tagD x.k x.n)) (m := 0) hq1 _ _)) <| rS 35 rfl <| rK [1, 1, 1, 1, 1, 1, 1, 1, 1, 1, 1, 1, 1, 1, 1, 1, 1, 1, 1, 1, 1, 1, 1, 1, 1, 1, 1, 1, 1, 1, 1, 1, 1, 1, 1, 1, 1, 1, 1, 1, 1, 1, 1, 0] [] [] <| rS 1 rfl <| rK [1, 0, 0, 0, 0, 0, 0, 0, 0, 0, 0, 0, 0, 0, 0, 0, 0, 0, 0, 0, 0, 0, 0, 0, 0, 0, 0, 0, 0, 0, 0, 0, 0, 0, 0, 0, 0, 0, 0, 0, 0, 0, 0, 0, 0] [0] [] <| rZ0 ?_)
                        try clear H a W
                        intro a W H
                        refine hK12 _ _ ?_
                        clear hK12
                        refine wp_ret ?_
                        repeat (first | (with_reducible refine then_ret ?_) | (with_reducible refine blk_ret ?_))
                        refine end_tmp (p := 2) rfl rfl H (fun hb => ?_)
                        refine ⟨?_, hb⟩
                        rw [own_eq u8 hxn hlb hla hlk]
                        simp only [hq1, hq2, hq3, hq4, hq5, Bool.true_and, Bool.and_true, Bool.false_and, Bool.and_false, Bool.not_true, Bool.not_false, Bool.false_or, Bool.true_or, Bool.or_true, Bool.or_false]
                    | false =>
                      rw [hq4] at H
                      have hq4p := of_decide_eq_false hq4
                      refine rgP H gs0 (rV rfl (does_load rfl rfl (k := 0) rfl Tryd.underlying27 rfl (info_der x)) <| rV rfl (does_call rfl ⟨_, Tryd.func49, by kernel_rfl⟩ rfl (fun W hb => rtag_any x W hxn)) <| rV rfl (does_binOp rfl rfl rfl (zd_gtr_int (k := (tagD x.k x.n)) (m := 0) hq1 _ _)) <| rS 35 rfl <| rK [1, 1, 1, 1, 1, 1, 1, 1, 1, 1, 1, 1, 1, 1, 1, 1, 1, 1, 1, 1, 1, 1, 1, 1, 1, 1, 1, 1, 1, 1, 1, 1, 1, 1, 1, 1, 1, 1, 1, 1, 1, 1, 1, 0] [] [] <| rS 1 rfl <| rK [1, 0, 0, 0, 0, 0, 0, 0, 0, 0, 0, 0, 0, 0, 0, 0, 0, 0, 0, 0, 0, 0, 0, 0, 0, 0, 0, 0, 0, 0, 0, 0, 0, 0, 0, 0, 0, 0, 0, 0, 0, 0, 0, 0, 0] [0] [] <| rZ0 ?_)
                      try clear H a W
                      intro a W H
                      refine hK12 _ _ ?_
                      clear hK12
                      refine wp_ret ?_
                      repeat (first | (with_reducible refine then_ret ?_) | (with_reducible refine blk_ret ?_))
                      refine end_tmp (p := 2) rfl rfl H (fun hb => ?_)
                      refine ⟨?_, hb⟩
                      rw [own_eq u8 hxn hlb hla hlk]
                      simp only [hq1, hq2, hq3, hq4, Bool.true_and, Bool.and_true, Bool.false_and, Bool.and_false, Bool.not_true, Bool.not_false, Bool.false_or, Bool.true_or, Bool.or_true, Bool.or_false]
                  | false =>
                    rw [hq3] at H
                    refine rgP H gs0 (rV rfl (does_load rfl rfl (k := 0) rfl Tryd.underlying27 rfl (info_der x)) <| rV rfl (does_call rfl ⟨_, Tryd.func49, by kernel_rfl⟩ rfl (fun W hb => rtag_any x W hxn)) <| rV rfl (does_binOp rfl rfl rfl (zd_gtr_int (k := (tagD x.k x.n)) (m := 0) hq1 _ _)) <| rS 35 rfl <| rK [1, 1, 1, 1, 1, 1, 1, 1, 1, 1, 1, 1, 1, 1, 1, 1, 1, 1, 1, 1, 1, 1, 1, 1, 1, 1, 1, 1, 1, 1, 1, 1, 1, 1, 1, 1, 1, 1, 1, 1, 1, 1, 1, 0] [] [] <| rS 1 rfl <| rK [1, 0, 0, 0, 0, 0, 0, 0, 0, 0, 0, 0, 0, 0, 0, 0, 0, 0, 0, 0, 0, 0, 0, 0, 0, 0, 0, 0, 0, 0, 0, 0, 0, 0, 0, 0, 0, 0, 0, 0, 0, 0, 0, 0, 0] [0] [] <| rZ0 ?_)
                    try clear H a W
                    intro a W H
                    refine hK12 _ _ ?_
                    clear hK12
                    refine wp_ret ?_
                    repeat (first | (with_reducible refine then_ret ?_) | (with_reducible refine blk_ret ?_))
                    refine end_tmp (p := 2) rfl rfl H (fun hb => ?_)
                    refine ⟨?_, hb⟩
                    rw [own_eq u8 hxn hlb hla hlk]
                    simp only [hq1, hq2, hq3, Bool.true_and, Bool.and_true, Bool.false_and, Bool.and_false, Bool.not_true, Bool.not_false, Bool.false_or, Bool.true_or, Bool.or_true, Bool.or_false]
                | false =>
                  rw [hq2] at H
                  refine rgP H gs0 (rV rfl (does_load rfl rfl (k := 0) rfl Tryd.underlying27 rfl (info_der x)) <| rV rfl (does_call rfl ⟨_, Tryd.func49, by kernel_rfl⟩ rfl (fun W hb => rtag_any x W hxn)) <| rV rfl (does_binOp rfl rfl rfl (zd_gtr_int (k := (tagD x.k x.n)) (m := 0) hq1 _ _)) <| rS 35 rfl <| rK [1, 1, 1, 1, 1, 1, 1, 1, 1, 1, 1, 1, 1, 1, 1, 1, 1, 1, 1, 1, 1, 1, 1, 1, 1, 1, 1, 1, 1, 1, 1, 1, 1, 1, 1, 1, 1, 1, 1, 1, 1, 1, 1, 0] [] [] <| rS 1 rfl <| rK [1, 0, 0, 0, 0, 0, 0, 0, 0, 0, 0, 0, 0, 0, 0, 0, 0, 0, 0, 0, 0, 0, 0, 0, 0, 0, 0, 0, 0, 0, 0, 0, 0, 0, 0, 0, 0, 0, 0, 0, 0, 0, 0, 0, 0] [0] [] <| rZ0 ?_)
                  try clear H a W
                  intro a W H
                  refine hK12 _ _ ?_
                  clear hK12
                  refine wp_ret ?_
                  repeat (first | (with_reducible refine then_ret ?_) | (with_reducible refine blk_ret ?_))
                  refine end_tmp (p := 2) rfl rfl H (fun hb => ?_)
                  refine ⟨?_, hb⟩
                  rw [own_eq u8 hxn hlb hla hlk]
                  simp only [hq1, hq2, Bool.true_and, Bool.and_true, Bool.false_and, Bool.and_false, Bool.not_true, Bool.not_false, Bool.false_or, Bool.true_or, Bool.or_true, Bool.or_false]
              | false =>
                have hq1p := of_decide_eq_false hq1
                refine rgP H gs0 (rV rfl (does_load rfl rfl (k := 0) rfl Tryd.underlying27 rfl (info_der x)) <| rV rfl (does_call rfl ⟨_, Tryd.func49, by kernel_rfl⟩ rfl (fun W hb => rtag_any x W hxn)) <| rV rfl (does_binOp rfl rfl rfl (zd_gtr_int (k := (tagD x.k x.n)) (m := 0) hq1 _ _)) <| rS 35 rfl <| rK [1, 1, 1, 1, 1, 1, 1, 1, 1, 1, 1, 1, 1, 1, 1, 1, 1, 1, 1, 1, 1, 1, 1, 1, 1, 1, 1, 1, 1, 1, 1, 1, 1, 1, 1, 1, 1, 1, 1, 1, 1, 1, 1, 0] [] [] <| rS 1 rfl <| rK [1, 0, 0, 0, 0, 0, 0, 0, 0, 0, 0, 0, 0, 0, 0, 0, 0, 0, 0, 0, 0, 0, 0, 0, 0, 0, 0, 0, 0, 0, 0, 0, 0, 0, 0, 0, 0, 0, 0, 0, 0, 0, 0, 0, 0] [0] [] <| rZ0 ?_)
                try clear H a W
                intro a W H
                refine hK12 _ _ ?_
                clear hK12
                refine wp_ret ?_
                repeat (first | (with_reducible refine then_ret ?_) | (with_reducible refine blk_ret ?_))
                refine end_tmp (p := 2) rfl rfl H (fun hb => ?_)
                refine ⟨?_, hb⟩
                rw [own_eq u8 hxn hlb hla hlk]
                simp only [hq1, Bool.true_and, Bool.and_true, Bool.false_and, Bool.and_false, Bool.not_true, Bool.not_false, Bool.false_or, Bool.true_or, Bool.or_true, Bool.or_false]
            clear hK11
            refine wp_seq_k (fun K13 hK13 => ?_)
            have J13 : ∀ a W, St 179 w a W [(136, .bool (decide (x.k = 9 ∨ x.k = 8))), (9, .bool (decide (x.ks.n = 0 ∨ x.k = 7))), (8, .bool (decide (x.n = 0 ∨ x.k = 2 ∨ (x.k = 8 ∧ 0 ≤ x.n ∧ x.n ≤ 30)))), (6, .bool (if x.k = 10 then timeOk x.t else if x.k = 6 then u8 x.t else decide (x.t = []))), (4, .bool (if x.k = 5 then arcsOk la else decide (la.length = 0))), (3, .int .i64 x.k), (2, .bool false), (1, .pointer (some ⟨g1, 0, none⟩))] [(g1, 27, x.cs)] → K13 a W := by
              try clear H a W
              intro a W H
              refine hK13 _ _ ?_
              clear hK13
              cases hq12 : decide (x.k = 9 ∨ x.k = 8) with
              | true =>
                rw [hq12] at H
                have hq12p := of_decide_eq_true hq12
                refine wp_cond_true (H.ev rfl) ?_
                refine rgP H gs0 (rV rfl (does_fieldAddr rfl rfl fa_der6) <| rV rfl (does_loadAt (v := .slice x.ks.A x.ks.n x.ks.c) rfl rfl (k := 0) rfl ld_derS) <| rV rfl (does_len Tryd.underlying25 rfl rfl) <| rV rfl (does_binOp rfl rfl rfl (zd_eql_int (k := ((x.ks.n : Nat) : Int)) (m := 1) rfl _ _)) <| rK [1, 1, 1, 1, 1, 0] [] [] <| rS 1 rfl <| rK [1, 0, 0, 0, 0, 0] [] [] <| rZ0 ?_)
                try clear H a W
                intro a W H
                exact J11 _ _ (by rw [show decide (((x.k = 8 ∨ x.k = 9) ∧ x.ks.n = 1) ∨ (¬ (x.k = 8 ∨ x.k = 9) ∧ (x.ks.n = 0 ∨ x.k = 7))) = (decide (((x.ks.n : Nat) : Int) = 1)) from decide_eq_decide.2 (by omega)]; exact H.pick [0, 1, 2, 3, 4, 5, 6] [0] rfl)
              | false =>
                rw [hq12] at H
                have hq12p := of_decide_eq_false hq12
                refine wp_cond_false (H.ev rfl) ?_
                refine wp_skip ?_
                exact J11 _ _ (by rw [show decide (((x.k = 8 ∨ x.k = 9) ∧ x.ks.n = 1) ∨ (¬ (x.k = 8 ∨ x.k = 9) ∧ (x.ks.n = 0 ∨ x.k = 7))) = (decide (x.ks.n = 0 ∨ x.k = 7)) from decide_eq_decide.2 (by omega)]; exact H.pick [1, 2, 3, 4, 5, 6, 7] [0] rfl)
            clear hK13
            cases hq13 : decide (x.k = 9) with
            | true =>
              have hq13p := of_decide_eq_true hq13
              refine rgP H gs0 (rS 1 rfl <| rV rfl (does_binOp rfl rfl rfl (zd_eql_derkind (k := x.k) (m := 9) hq13 _ _)) <| rS 4 rfl <| rK [1, 0, 0, 0, 0, 0] [] [] <| rZ0 ?_)
              try clear H a W
              intro a W H
              exact J13 _ _ (by rw [show decide (x.k = 9 ∨ x.k = 8) = true from decide_eq_true (by omega)]; exact H.pick [0, 1, 2, 3, 4, 5, 6, 7] [0] rfl)
            | false =>
              have hq13p := of_decide_eq_false hq13
              refine rgP H gs0 (rS 1 rfl <| rV rfl (does_binOp rfl rfl rfl (zd_eql_derkind (k := x.k) (m := 9) hq13 _ _)) <| rS 2 rfl <| rV rfl (does_binOp rfl rfl rfl (zd_eql_derkind (k := x.k) (m := 8) rfl _ _)) <| rS 1 rfl <| rK [1, 0, 0, 0, 0, 0] [] [] <| rZ0 ?_)
              try clear H a W
              intro a W H
              exact J13 _ _ (by rw [show decide (x.k = 9 ∨ x.k = 8) = (decide (x.k = 8)) from decide_eq_decide.2 (by omega)]; exact H.pick [0, 1, 2, 3, 4, 5, 6, 7] [0] rfl)
          clear hK10
          refine sqR H gs0 fun Z_ z_ => rS 1 rfl <| rV rfl (does_binOp rfl rfl rfl (zd_eql_derkind (k := x.k) (m := 7) rfl _ _)) <| rK [1, 0] [] [] <| rN0 z_ ?_
          try clear H a W
          intro a W H
          cases hq14 : decide (x.k = 7) with
          | true =>
            rw [hq14] at H
            have hq14p := of_decide_eq_true hq14
            refine wp_cond_true (H.ev rfl) ?_
            refine rgP H gs0 (rK [1, 0] [] [] <| rS 1 rfl <| rK [1, 0] [] [] <| rZ0 ?_)
            try clear H a W
            intro a W H
            exact J10 _ _ (by rw [show decide (x.ks.n = 0 ∨ x.k = 7) = true from decide_eq_true (by omega)]; exact H.pick [0, 1, 2, 3, 4, 5, 6] [0] rfl)
          | false =>
            rw [hq14] at H
            have hq14p := of_decide_eq_false hq14
            refine wp_cond_false (H.ev rfl) ?_
            refine wp_skip ?_
            exact J10 _ _ (by rw [show decide (x.ks.n = 0 ∨ x.k = 7) = (decide (((x.ks.n : Nat) : Int) = 0)) from decide_eq_decide.2 (by omega)]; exact H.pick [1, 2, 3, 4, 5, 6, 7] [0] rfl)
        clear hK8
        cases hq15 : decide (x.n = 0) with
        | true =>
          have hq15p := of_decide_eq_true hq15
          refine rgP H gs0 (rV rfl (does_fieldAddr rfl rfl fa_der2) <| rV rfl (does_loadAt (v := .int .i64 x.n) rfl rfl (k := 0) rfl ld_derN) <| rV rfl (does_binOp rfl rfl rfl (zd_eql_i64 (k := x.n) (m := 0) hq15 _ _)) <| rS 19 rfl <| rK [1, 0, 0, 0, 0, 0, 0, 0, 0, 0, 0, 0, 0, 0, 0, 0, 0, 0, 0, 0, 0, 0] [] [] <| rZ0 ?_)
          try clear H a W
          intro a W H
          exact J8 _ _ (by rw [show decide (x.n = 0 ∨ x.k = 2 ∨ (x.k = 8 ∧ 0 ≤ x.n ∧ x.n ≤ 30)) = true from decide_eq_true (by omega)]; exact H.pick [0, 1, 2, 3, 4, 5] [0] rfl)
        | false =>
          have hq15p := of_decide_eq_false hq15
          cases hq16 : decide (x.k = 2) with
          | true =>
            have hq16p := of_decide_eq_true hq16
            refine rgP H gs0 (rV rfl (does_fieldAddr rfl rfl fa_der2) <| rV rfl (does_loadAt (v := .int .i64 x.n) rfl rfl (k := 0) rfl ld_derN) <| rV rfl (does_binOp rfl rfl rfl (zd_eql_i64 (k := x.n) (m := 0) hq15 _ _)) <| rS 2 rfl <| rV rfl (does_binOp rfl rfl rfl (zd_eql_derkind (k := x.k) (m := 2) hq16 _ _)) <| rS 16 rfl <| rK [1, 0, 0, 0, 0, 0, 0, 0, 0, 0, 0, 0, 0, 0, 0, 0, 0, 0, 0, 0, 0, 0] [] [] <| rZ0 ?_)
            try clear H a W
            intro a W H
            exact J8 _ _ (by rw [show decide (x.n = 0 ∨ x.k = 2 ∨ (x.k = 8 ∧ 0 ≤ x.n ∧ x.n ≤ 30)) = true from decide_eq_true (by omega)]; exact H.pick [0, 1, 2, 3, 4, 5] [0] rfl)
          | false =>
            have hq16p := of_decide_eq_false hq16
            cases hq17 : decide (x.k = 8) with
            | true =>
              have hq17p := of_decide_eq_true hq17
              cases hq18 : decide (0 ≤ x.n) with
              | true =>
                have hq18p := of_decide_eq_true hq18
                refine rgP H gs0 (rV rfl (does_fieldAddr rfl rfl fa_der2) <| rV rfl (does_loadAt (v := .int .i64 x.n) rfl rfl (k := 0) rfl ld_derN) <| rV rfl (does_binOp rfl rfl rfl (zd_eql_i64 (k := x.n) (m := 0) hq15 _ _)) <| rS 2 rfl <| rV rfl (does_binOp rfl rfl rfl (zd_eql_derkind (k := x.k) (m := 2) hq16 _ _)) <| rS 3 rfl <| rV rfl (does_binOp rfl rfl rfl (zd_eql_derkind (k := x.k) (m := 8) hq17 _ _)) <| rS 1 rfl <| rV rfl (does_fieldAddr rfl rfl fa_der2) <| rV rfl (does_loadAt (v := .int .i64 x.n) rfl rfl (k := 0) rfl ld_derN) <| rV rfl (does_binOp rfl rfl rfl (zd_geq_i64 (k := x.n) (m := 0) hq18 _ _)) <| rS 2 rfl <| rV rfl (does_fieldAddr rfl rfl fa_der2) <| rV rfl (does_loadAt (v := .int .i64 x.n) rfl rfl (k := 0) rfl ld_derN) <| rV rfl (does_binOp rfl rfl rfl (zd_leq_i64 (k := x.n) (m := 30) rfl _ _)) <| rS 3 rfl <| rK [1, 0, 0, 0, 0, 0, 0, 0, 0, 0, 0, 0, 0, 0, 0, 0, 0, 0, 0, 0, 0, 0] [] [] <| rZ0 ?_)
                try clear H a W
                intro a W H
                exact J8 _ _ (by rw [show decide (x.n = 0 ∨ x.k = 2 ∨ (x.k = 8 ∧ 0 ≤ x.n ∧ x.n ≤ 30)) = (decide (x.n ≤ 30)) from decide_eq_decide.2 (by omega)]; exact H.pick [0, 1, 2, 3, 4, 5] [0] rfl)
              | false =>
                have hq18p := of_decide_eq_false hq18
                refine rgP H gs0 (rV rfl (does_fieldAddr rfl rfl fa_der2) <| rV rfl (does_loadAt (v := .int .i64 x.n) rfl rfl (k := 0) rfl ld_derN) <| rV rfl (does_binOp rfl rfl rfl (zd_eql_i64 (k := x.n) (m := 0) hq15 _ _)) <| rS 2 rfl <| rV rfl (does_binOp rfl rfl rfl (zd_eql_derkind (k := x.k) (m := 2) hq16 _ _)) <| rS 3 rfl <| rV rfl (does_binOp rfl rfl rfl (zd_eql_derkind (k := x.k) (m := 8) hq17 _ _)) <| rS 1 rfl <| rV rfl (does_fieldAddr rfl rfl fa_der2) <| rV rfl (does_loadAt (v := .int .i64 x.n) rfl rfl (k := 0) rfl ld_derN) <| rV rfl (does_binOp rfl rfl rfl (zd_geq_i64 (k := x.n) (m := 0) hq18 _ _)) <| rS 8 rfl <| rK [1, 0, 0, 0, 0, 0, 0, 0, 0, 0, 0, 0, 0, 0, 0, 0, 0, 0, 0, 0, 0, 0] [] [] <| rZ0 ?_)
                try clear H a W
                intro a W H
                exact J8 _ _ (by rw [show decide (x.n = 0 ∨ x.k = 2 ∨ (x.k = 8 ∧ 0 ≤ x.n ∧ x.n ≤ 30)) = false from decide_eq_false (by omega)]; exact H.pick [0, 1, 2, 3, 4, 5] [0] rfl)
            | false =>
              have hq17p := of_decide_eq_false hq17
              refine rgP H gs0 (rV rfl (does_fieldAddr rfl rfl fa_der2) <| rV rfl (does_loadAt (v := .int .i64 x.n) rfl rfl (k := 0) rfl ld_derN) <| rV rfl (does_binOp rfl rfl rfl (zd_eql_i64 (k := x.n) (m := 0) hq15 _ _)) <| rS 2 rfl <| rV rfl (does_binOp rfl rfl rfl (zd_eql_derkind (k := x.k) (m := 2) hq16 _ _)) <| rS 3 rfl <| rV rfl (does_binOp rfl rfl rfl (zd_eql_derkind (k := x.k) (m := 8) hq17 _ _)) <| rS 12 rfl <| rK [1, 0, 0, 0, 0, 0, 0, 0, 0, 0, 0, 0, 0, 0, 0, 0, 0, 0, 0, 0, 0, 0] [] [] <| rZ0 ?_)
              try clear H a W
              intro a W H
              exact J8 _ _ (by rw [show decide (x.n = 0 ∨ x.k = 2 ∨ (x.k = 8 ∧ 0 ≤ x.n ∧ x.n ≤ 30)) = false from decide_eq_false (by omega)]; exact H.pick [0, 1, 2, 3, 4, 5] [0] rfl)
      clear hK7
      refine sqR H gs0 fun Z_ z_ => rS 1 rfl <| rV rfl (does_binOp rfl rfl rfl (zd_eql_derkind (k := x.k) (m := 10) rfl _ _)) <| rK [1, 0] [] [] <| rN0 z_ ?_
      try clear H a W
      intro a W H
      cases hq19 : decide (x.k = 10) with
      | true =>
        rw [hq19] at H
        have hq19p := of_decide_eq_true hq19
        refine wp_cond_true (H.ev rfl) ?_
        refine wp_seq_k (fun K16 hK16 => ?_)
        have J16 : ∀ a W, St 179 w a W [(6, .bool (tmB x.t 0)), (4, .bool (if x.k = 5 then arcsOk la else decide (la.length = 0))), (3, .int .i64 x.k), (2, .bool false), (1, .pointer (some ⟨g1, 0, none⟩))] [(g1, 27, x.cs)] → K16 a W := by
          try clear H a W
          intro a W H
          refine hK16 _ _ ?_
          clear hK16
          refine sqR H gs0 fun Z_ z_ => rS 1 rfl <| rN0 z_ ?_
          try clear H a W
          intro a W H
          obtain ⟨N, hN, hpos, hend⟩ := rounds_at (fun i => tmB x.t i = true) 14
          refine wp_block ?_
          replace H : St 179 w a W [(7, .int .i64 ((0 : Nat) : Int)), (6, .bool (tmB x.t 0)), (4, .bool (if x.k = 5 then arcsOk la else decide (la.length = 0))), (3, .int .i64 x.k), (2, .bool false), (1, .pointer (some ⟨g1, 0, none⟩))] [(g1, 27, x.cs)] := H.pick [0, 1, 2, 3, 4, 5] [0] rfl
          refine wp_rounds N (fun k a W => St 179 w a W [(7, .int .i64 ((k : Nat) : Int)), (6, .bool (tmB x.t k)), (4, .bool (if x.k = 5 then arcsOk la else decide (la.length = 0))), (3, .int .i64 x.k), (2, .bool false), (1, .pointer (some ⟨g1, 0, none⟩))] [(g1, 27, x.cs)]) (k0 := 0) H (by omega) ?_
          try clear H a W
          intro k a W hk H
          by_cases hk2 : k < N
          · have hp_ := hpos k hk2
            have hlen_ := tmB_len hp_
            rw [hp_] at H
            refine wp_seq_k (fun K18 hK18 => ?_)
            refine sqR H gs0 fun Z_ z_ => rS 1 rfl <| rV rfl (does_binOp rfl rfl rfl (zd_lss_int (k := ((k : Nat) : Int)) (m := 14) (decide_eq_true (by omega)) _ _)) <| rS 3 rfl <| rN0 z_ ?_
            try clear H a W
            intro a W H
            refine wp_cond_true (H.ev rfl) ?_
            refine wp_skip ?_
            refine hK18 _ _ ?_
            clear hK18
            refine wp_seq_k (fun K20 hK20 => ?_)
            have J20 : ∀ a W, St 179 w a W [(6, .bool (tmB x.t (k + 1))), (89, .bool true), (88, .bool true), (87, .bool true), (86, .bool true), (85, .int .i64 ((k : Nat) : Int)), (7, .int .i64 ((k : Nat) : Int)), (4, .bool (if x.k = 5 then arcsOk la else decide (la.length = 0))), (3, .int .i64 x.k), (2, .bool false), (1, .pointer (some ⟨g1, 0, none⟩))] [(g1, 27, x.cs)] → K20 a W := by
              try clear H a W
              intro a W H
              refine hK20 _ _ ?_
              clear hK20
              refine rgP H gs0 (rS 1 rfl <| rV rfl (does_binOp rfl rfl rfl (zd_add_int (k := ((k : Nat) : Int)) (m := 1) (c := ((k + 1 : Nat) : Int)) (by omega) (by omega) _ _)) <| rK [1, 1, 1, 1, 1, 1, 1, 1, 0] [] [] <| rS 1 rfl <| rZ0 ?_)
              try clear H a W
              intro a W H
              refine ⟨k + 1, by omega, by omega, ?_⟩
              show St 179 w a W [(7, .int .i64 ((k + 1 : Nat) : Int)), (6, .bool (tmB x.t (k + 1))), (4, .bool (if x.k = 5 then arcsOk la else decide (la.length = 0))), (3, .int .i64 x.k), (2, .bool false), (1, .pointer (some ⟨g1, 0, none⟩))] [(g1, 27, x.cs)]
              exact H.pick [0, 3, 9, 10, 11, 12] [0] rfl
            clear hK20
            refine wp_block ?_
            cases hq20 : decide (48 ≤ (((x.t.getD k 0).toNat : Nat) : Int)) with
            | true =>
              have hq20p := of_decide_eq_true hq20
              refine rgP H gs0 (rV rfl (does_fieldAddr rfl rfl fa_der4) <| rV rfl (does_loadAt (v := .string (strB x.t)) rfl rfl (k := 0) rfl ld_derT) <| rS 1 rfl <| rV rfl (does_index rfl rfl rfl (ix_str (l := x.t) (j := k) (by omega))) <| rV rfl (does_binOp rfl rfl rfl (zd_geq_u8 (k := (((x.t.getD k 0).toNat : Nat) : Int)) (m := 48) hq20 _ _)) <| rS 1 rfl <| rV rfl (does_fieldAddr rfl rfl fa_der4) <| rV rfl (does_loadAt (v := .string (strB x.t)) rfl rfl (k := 0) rfl ld_derT) <| rS 1 rfl <| rV rfl (does_index rfl rfl rfl (ix_str (l := x.t) (j := k) (by omega))) <| rV rfl (does_binOp rfl rfl rfl (zd_leq_u8 (k := (((x.t.getD k 0).toNat : Nat) : Int)) (m := 57) rfl _ _)) <| rS 1 rfl <| rK [1, 1, 1, 1, 1, 1, 1, 1, 1, 1, 1, 1, 1, 1, 1, 1, 1, 1, 0] [] [] <| rS 1 rfl <| rZ0 ?_)
              try clear H a W
              intro a W H
              refine blk_normal ?_
              exact J20 _ _ (by rw [show tmB x.t (k + 1) = (decide ((((x.t.getD k 0).toNat : Nat) : Int) ≤ 57)) from (by rw [tmB_succ (by omega), hp_, Bool.true_and, decide_eq_true (p := 48 ≤ _) (by omega), Bool.true_and]; exact decide_eq_decide.2 (by omega))]; exact H.pick [0, 13, 14, 15, 16, 17, 18, 19, 20, 21, 22] [0] rfl)
            | false =>
              have hq20p := of_decide_eq_false hq20
              refine rgP H gs0 (rV rfl (does_fieldAddr rfl rfl fa_der4) <| rV rfl (does_loadAt (v := .string (strB x.t)) rfl rfl (k := 0) rfl ld_derT) <| rS 1 rfl <| rV rfl (does_index rfl rfl rfl (ix_str (l := x.t) (j := k) (by omega))) <| rV rfl (does_binOp rfl rfl rfl (zd_geq_u8 (k := (((x.t.getD k 0).toNat : Nat) : Int)) (m := 48) hq20 _ _)) <| rS 7 rfl <| rK [1, 1, 1, 1, 1, 1, 1, 1, 1, 1, 1, 1, 1, 1, 1, 1, 1, 1, 0] [] [] <| rS 1 rfl <| rZ0 ?_)
              try clear H a W
              intro a W H
              refine blk_normal ?_
              exact J20 _ _ (by rw [show tmB x.t (k + 1) = false from (by rw [tmB_succ (by omega), hp_, Bool.true_and, decide_eq_false (by omega), Bool.false_and])]; exact H.pick [0, 13, 14, 15, 16, 17, 18, 19, 20, 21, 22] [0] rfl)
          · obtain rfl : N = k := by omega
            rcases hend with hend | hend
            · refine wp_seq_k (fun K21 hK21 => ?_)
              refine sqR H gs0 fun Z_ z_ => rS 1 rfl <| rV rfl (does_binOp rfl rfl rfl (zd_lss_int (k := ((N : Nat) : Int)) (m := 14) (decide_eq_false (by omega)) _ _)) <| rS 3 rfl <| rK [1, 0, 0, 0, 0] [] [] <| rN0 z_ ?_
              try clear H a W
              intro a W H
              refine wp_cond_false (H.ev rfl) ?_
              refine wp_exit ?_
              repeat (with_reducible refine then_exit ?_)
              refine blk_exit ?_
              have hend := Or.inl (b := N < 14 ∧ ¬ tmB x.t N = true) hend
              exact J7 _ _ (by rw [show (if x.k = 10 then timeOk x.t else if x.k = 6 then u8 x.t else decide (x.t = [])) = (tmB x.t N) from (by rw [if_pos (by omega)]; exact tmB_end hend)]; exact H.pick [2, 3, 4, 5, 6] [0] rfl)
            · have hf_ : tmB x.t N = false := by simpa using hend.2
              have hend := Or.inr (a := N = 14) hend
              rw [hf_] at H
              refine wp_seq_k (fun K23 hK23 => ?_)
              refine sqR H gs0 fun Z_ z_ => rS 1 rfl <| rV rfl (does_binOp rfl rfl rfl (zd_lss_int (k := ((N : Nat) : Int)) (m := 14) (decide_eq_true (by omega)) _ _)) <| rS 3 rfl <| rK [1, 0, 0, 0, 0] [] [] <| rN0 z_ ?_
              try clear H a W
              intro a W H
              refine wp_cond_false (H.ev rfl) ?_
              refine wp_exit ?_
              repeat (with_reducible refine then_exit ?_)
              refine blk_exit ?_
              exact J7 _ _ (by rw [show (if x.k = 10 then timeOk x.t else if x.k = 6 then u8 x.t else decide (x.t = [])) = false from (by rw [if_pos (by omega)]; exact (tmB_end hend).trans hf_)]; exact H.pick [2, 3, 4, 5, 6] [0] rfl)
        clear hK16
        cases hq21 : decide (((x.t.length : Nat) : Int) = 15) with
        | true =>
          have hq21p := of_decide_eq_true hq21
          refine rgP H gs0 (rV rfl (does_fieldAddr rfl rfl fa_der4) <| rV rfl (does_loadAt (v := .string (strB x.t)) rfl rfl (k := 0) rfl ld_derT) <| rV rfl (does_lenT Tryd.underlying9 rfl rfl) <| rV rfl (does_binOp rfl rfl rfl (zd_eql_int (k := ((x.t.length : Nat) : Int)) (m := 15) hq21 _ _)) <| rS 1 rfl <| rV rfl (does_fieldAddr rfl rfl fa_der4) <| rV rfl (does_loadAt (v := .string (strB x.t)) rfl rfl (k := 0) rfl ld_derT) <| rV rfl (does_index rfl rfl rfl (ix_str (l := x.t) (j := 14) (by omega))) <| rV rfl (does_binOp rfl rfl rfl (zd_eql_u8 (k := (((x.t.getD 14 0).toNat : Nat) : Int)) (m := 90) rfl _ _)) <| rS 1 rfl <| rK [1, 1, 1, 1, 1, 1, 1, 1, 1, 1, 1, 0] [] [] <| rS 1 rfl <| rK [1, 0, 0, 0, 0, 0, 0, 0, 0, 0, 0, 0] [] [] <| rZ0 ?_)
          try clear H a W
          intro a W H
          exact J16 _ _ (by rw [show tmB x.t 0 = (decide ((((x.t.getD 14 0).toNat : Nat) : Int) = 90)) from ((tmB_0 x.t).trans (decide_eq_decide.2 (by omega)))]; exact H.pick [0, 1, 2, 3, 4] [0] rfl)
        | false =>
          have hq21p := of_decide_eq_false hq21
          refine rgP H gs0 (rV rfl (does_fieldAddr rfl rfl fa_der4) <| rV rfl (does_loadAt (v := .string (strB x.t)) rfl rfl (k := 0) rfl ld_derT) <| rV rfl (does_lenT Tryd.underlying9 rfl rfl) <| rV rfl (does_binOp rfl rfl rfl (zd_eql_int (k := ((x.t.length : Nat) : Int)) (m := 15) hq21 _ _)) <| rS 6 rfl <| rK [1, 1, 1, 1, 1, 1, 1, 1, 1, 1, 1, 0] [] [] <| rS 1 rfl <| rK [1, 0, 0, 0, 0, 0, 0, 0, 0, 0, 0, 0] [] [] <| rZ0 ?_)
          try clear H a W
          intro a W H
          exact J16 _ _ (by rw [show tmB x.t 0 = false from ((tmB_0 x.t).trans (decide_eq_false (by omega)))]; exact H.pick [0, 1, 2, 3, 4] [0] rfl)
      | false =>
        rw [hq19] at H
        have hq19p := of_decide_eq_false hq19
        refine wp_cond_false (H.ev rfl) ?_
        refine wp_skip ?_
        exact J7 _ _ (by rw [show (if x.k = 10 then timeOk x.t else if x.k = 6 then u8 x.t else decide (x.t = [])) = (if x.k = 6 then u8 x.t else decide (x.t = [])) from (if_neg (by omega))]; exact H.pick [1, 2, 3, 4, 5] [0] rfl)
    clear hK6
    refine sqR H gs0 fun Z_ z_ => rS 1 rfl <| rV rfl (does_binOp rfl rfl rfl (zd_eql_derkind (k := x.k) (m := 6) rfl _ _)) <| rK [1, 0] [] [] <| rN0 z_ ?_
    try clear H a W
    intro a W H
    cases hq22 : decide (x.k = 6) with
    | true =>
      rw [hq22] at H
      have hq22p := of_decide_eq_true hq22
      refine wp_cond_true (H.ev rfl) ?_
      refine rgP H gs0 (rV rfl (does_fieldAddr rfl rfl fa_der4) <| rV rfl (does_loadAt (v := .string (strB x.t)) rfl rfl (k := 0) rfl ld_derT) <| rV rfl (does_call rfl ⟨_, Tryd.func51, by kernel_rfl⟩ rfl (fun W hb => hu8 W hb x.t hx.2.1)) <| rK [1, 1, 1, 1, 0] [] [] <| rS 1 rfl <| rK [1, 0, 0, 0, 0] [] [] <| rZ0 ?_)
      try clear H a W
      intro a W H
      exact J6 _ _ (by rw [show (if x.k = 6 then u8 x.t else decide (x.t = [])) = (u8 x.t) from (if_pos (by omega))]; exact H.pick [0, 1, 2, 3, 4] [0] rfl)
    | false =>
      rw [hq22] at H
      have hq22p := of_decide_eq_false hq22
      refine wp_cond_false (H.ev rfl) ?_
      refine wp_skip ?_
      exact J6 _ _ (by rw [show (if x.k = 6 then u8 x.t else decide (x.t = [])) = (decide (x.t = [])) from (if_neg (by omega))]; exact H.pick [1, 2, 3, 4, 5] [0] rfl)
  clear hK4
  refine sqR H gs0 fun Z_ z_ => rS 1 rfl <| rV rfl (does_binOp rfl rfl rfl (zd_eql_derkind (k := x.k) (m := 5) rfl _ _)) <| rK [1, 0] [] [] <| rN0 z_ ?_
  try clear H a W
  intro a W H
  cases hq23 : decide (x.k = 5) with
  | true =>
    rw [hq23] at H
    have hq23p := of_decide_eq_true hq23
    refine wp_cond_true (H.ev rfl) ?_
    refine wp_seq_k (fun K27 hK27 => ?_)
    have J27 : ∀ a W, St 179 w a W [(4, .bool (arcB la 0)), (3, .int .i64 x.k), (2, .bool false), (1, .pointer (some ⟨g1, 0, none⟩))] [(g1, 27, x.cs)] → K27 a W := by
      try clear H a W
      intro a W H
      refine hK27 _ _ ?_
      clear hK27
      refine sqR H gs0 fun Z_ z_ => rS 1 rfl <| rN0 z_ ?_
      try clear H a W
      intro a W H
      refine wp_block ?_
      replace H : St 179 w a W [(5, .int .i64 ((0 : Nat) : Int)), (4, .bool (arcB la 0)), (3, .int .i64 x.k), (2, .bool false), (1, .pointer (some ⟨g1, 0, none⟩))] [(g1, 27, x.cs)] := H.pick [0, 1, 2, 3, 4] [0] rfl
      refine wp_rounds x.a.n (fun k a W => St 179 w a W [(5, .int .i64 ((k : Nat) : Int)), (4, .bool (arcB la k)), (3, .int .i64 x.k), (2, .bool false), (1, .pointer (some ⟨g1, 0, none⟩))] [(g1, 27, x.cs)]) (k0 := 0) H (by omega) ?_
      try clear H a W
      intro k a W hk H
      by_cases hk2 : k < x.a.n
      · refine wp_seq_k (fun K29 hK29 => ?_)
        refine sqR H gs0 fun Z_ z_ => rS 1 rfl <| rV rfl (does_fieldAddr rfl rfl fa_der5) <| rV rfl (does_loadAt (v := .slice x.a.A x.a.n x.a.c) rfl rfl (k := 0) rfl ld_derA) <| rV rfl (does_len Tryd.underlying24 rfl rfl) <| rV rfl (does_binOp rfl rfl rfl (zd_lss_int (k := ((k : Nat) : Int)) (m := ((x.a.n : Nat) : Int)) (decide_eq_true (by omega)) _ _)) <| rN0 z_ ?_
        try clear H a W
        intro a W H
        refine wp_cond_true (H.ev rfl) ?_
        refine wp_skip ?_
        refine hK29 _ _ ?_
        clear hK29
        refine wp_seq_k (fun K31 hK31 => ?_)
        have J31 : ∀ a W, St 179 w a W [(4, .bool (arcB la (k + 1))), (53, .bool true), (52, .int .i64 ((x.a.n : Nat) : Int)), (51, .slice x.a.A x.a.n x.a.c), (50, .pointer (some ⟨g1, 5, none⟩)), (49, .int .i64 ((k : Nat) : Int)), (5, .int .i64 ((k : Nat) : Int)), (3, .int .i64 x.k), (2, .bool false), (1, .pointer (some ⟨g1, 0, none⟩))] [(g1, 27, x.cs)] → K31 a W := by
          try clear H a W
          intro a W H
          refine hK31 _ _ ?_
          clear hK31
          refine rgP H gs0 (rS 1 rfl <| rV rfl (does_binOp rfl rfl rfl (zd_add_int (k := ((k : Nat) : Int)) (m := 1) (c := ((k + 1 : Nat) : Int)) (by omega) (by omega) _ _)) <| rK [1, 1, 1, 1, 1, 1, 1, 1, 0] [] [] <| rS 1 rfl <| rZ0 ?_)
          try clear H a W
          intro a W H
          refine ⟨k + 1, by omega, by omega, ?_⟩
          show St 179 w a W [(5, .int .i64 ((k + 1 : Nat) : Int)), (4, .bool (arcB la (k + 1))), (3, .int .i64 x.k), (2, .bool false), (1, .pointer (some ⟨g1, 0, none⟩))] [(g1, 27, x.cs)]
          exact H.pick [0, 3, 9, 10, 11] [0] rfl
        clear hK31
        refine wp_block ?_
        cases hq24 : arcB la k with
        | true =>
          rw [hq24] at H
          refine rgP H gs0 (rS 2 rfl <| rV rfl (does_fieldAddr rfl rfl fa_der5) <| rV rfl (does_loadAt (v := .slice x.a.A x.a.n x.a.c) rfl rfl (k := 0) rfl ld_derA) <| rS 1 rfl <| rV rfl (does_indexAddr rfl rfl rfl (ia_u64D (j := k) (hax (by omega)).1 (by omega))) <| rV rfl (does_loadCell (v := .int .u64 ((la.getD k 0 : Nat) : Int)) rfl rfl ((hax (by omega)).2.2 k (by omega)) (hax (by omega)).2.1 ld_cellD) <| rV rfl (does_binOp rfl rfl rfl (zd_lss_u64 (k := ((la.getD k 0 : Nat) : Int)) (m := 2147483648) rfl _ _)) <| rS 1 rfl <| rK [1, 1, 1, 1, 1, 1, 1, 1, 1, 1, 1, 1, 1, 1, 1, 0] [] [] <| rS 1 rfl <| rZ0 ?_)
          try clear H a W
          intro a W H
          refine blk_normal ?_
          exact J31 _ _ (by rw [show arcB la (k + 1) = (decide (((la.getD k 0 : Nat) : Int) < 2147483648)) from (by rw [arcB_succ (by omega), hq24, Bool.true_and]; exact decide_eq_decide.2 (by omega))]; exact H.pick [0, 10, 11, 12, 13, 14, 15, 16, 17, 18] [0] rfl)
        | false =>
          rw [hq24] at H
          refine rgP H gs0 (rS 9 rfl <| rK [1, 1, 1, 1, 1, 1, 1, 1, 1, 1, 1, 1, 1, 1, 1, 0] [] [] <| rS 1 rfl <| rZ0 ?_)
          try clear H a W
          intro a W H
          refine blk_normal ?_
          exact J31 _ _ (by rw [show arcB la (k + 1) = false from (by rw [arcB_succ (by omega), hq24, Bool.false_and])]; exact H.pick [0, 10, 11, 12, 13, 14, 15, 16, 17, 18] [0] rfl)
      · obtain rfl : x.a.n = k := by omega
        refine wp_seq_k (fun K32 hK32 => ?_)
        refine sqR H gs0 fun Z_ z_ => rS 1 rfl <| rV rfl (does_fieldAddr rfl rfl fa_der5) <| rV rfl (does_loadAt (v := .slice x.a.A x.a.n x.a.c) rfl rfl (k := 0) rfl ld_derA) <| rV rfl (does_len Tryd.underlying24 rfl rfl) <| rV rfl (does_binOp rfl rfl rfl (zd_lss_int (k := ((x.a.n : Nat) : Int)) (m := ((x.a.n : Nat) : Int)) (decide_eq_false (by omega)) _ _)) <| rK [1, 0, 0, 0, 0] [] [] <| rN0 z_ ?_
        try clear H a W
        intro a W H
        refine wp_cond_false (H.ev rfl) ?_
        refine wp_exit ?_
        repeat (with_reducible refine then_exit ?_)
        refine blk_exit ?_
        exact J4 _ _ (by rw [show (if x.k = 5 then arcsOk la else decide (la.length = 0)) = (arcB la x.a.n) from (by rw [if_pos (by omega), ← hla, arcB_all])]; exact H.pick [2, 3, 4, 5] [0] rfl)
    clear hK27
    cases hq25 : decide (2 ≤ ((x.a.n : Nat) : Int)) with
    | true =>
      have hq25p := of_decide_eq_true hq25
      cases hq26 : decide (((x.a.n : Nat) : Int) ≤ 16) with
      | true =>
        have hq26p := of_decide_eq_true hq26
        cases hq27 : decide (((la.getD 0 0 : Nat) : Int) ≤ 2) with
        | true =>
          have hq27p := of_decide_eq_true hq27
          cases hq28 : decide (((la.getD 0 0 : Nat) : Int) = 2) with
          | true =>
            have hq28p := of_decide_eq_true hq28
            refine rgP H gs0 (rV rfl (does_fieldAddr rfl rfl fa_der5) <| rV rfl (does_loadAt (v := .slice x.a.A x.a.n x.a.c) rfl rfl (k := 0) rfl ld_derA) <| rV rfl (does_len Tryd.underlying24 rfl rfl) <| rV rfl (does_binOp rfl rfl rfl (zd_geq_int (k := ((x.a.n : Nat) : Int)) (m := 2) hq25 _ _)) <| rS 1 rfl <| rV rfl (does_fieldAddr rfl rfl fa_der5) <| rV rfl (does_loadAt (v := .slice x.a.A x.a.n x.a.c) rfl rfl (k := 0) rfl ld_derA) <| rV rfl (does_len Tryd.underlying24 rfl rfl) <| rV rfl (does_binOp rfl rfl rfl (zd_leq_int (k := ((x.a.n : Nat) : Int)) (m := 16) hq26 _ _)) <| rS 2 rfl <| rV rfl (does_fieldAddr rfl rfl fa_der5) <| rV rfl (does_loadAt (v := .slice x.a.A x.a.n x.a.c) rfl rfl (k := 0) rfl ld_derA) <| rV rfl (does_indexAddr rfl rfl rfl (ia_u64D (j := 0) (hax (by omega)).1 (by omega))) <| rV rfl (does_loadCell (v := .int .u64 ((la.getD 0 0 : Nat) : Int)) rfl rfl ((hax (by omega)).2.2 0 (by omega)) (hax (by omega)).2.1 ld_cellD) <| rV rfl (does_binOp rfl rfl rfl (zd_leq_u64 (k := ((la.getD 0 0 : Nat) : Int)) (m := 2) hq27 _ _)) <| rS 2 rfl <| rV rfl (does_fieldAddr rfl rfl fa_der5) <| rV rfl (does_loadAt (v := .slice x.a.A x.a.n x.a.c) rfl rfl (k := 0) rfl ld_derA) <| rV rfl (does_indexAddr rfl rfl rfl (ia_u64D (j := 0) (hax (by omega)).1 (by omega))) <| rV rfl (does_loadCell (v := .int .u64 ((la.getD 0 0 : Nat) : Int)) rfl rfl ((hax (by omega)).2.2 0 (by omega)) (hax (by omega)).2.1 ld_cellD) <| rV rfl (does_binOp rfl rfl rfl (zd_eql_u64 (k := ((la.getD 0 0 : Nat) : Int)) (m := 2) hq28 _ _)) <| rS 8 rfl <| rK [1, 1, 1, 1, 1, 1, 1, 1, 1, 1, 1, 1, 1, 1, 1, 1, 1, 1, 1, 1, 1, 1, 1, 1, 1, 1, 1, 1, 1, 1, 1, 1, 0] [] [] <| rS 1 rfl <| rK [1, 0, 0, 0, 0, 0, 0, 0, 0, 0, 0, 0, 0, 0, 0, 0, 0, 0, 0, 0, 0, 0, 0, 0, 0, 0, 0, 0, 0, 0, 0, 0, 0] [] [] <| rZ0 ?_)
            try clear H a W
            intro a W H
            exact J27 _ _ (by rw [show arcB la 0 = true from ((arcB_0 la).trans (decide_eq_true (by omega)))]; exact H.pick [0, 1, 2, 3] [0] rfl)
          | false =>
            have hq28p := of_decide_eq_false hq28
            refine rgP H gs0 (rV rfl (does_fieldAddr rfl rfl fa_der5) <| rV rfl (does_loadAt (v := .slice x.a.A x.a.n x.a.c) rfl rfl (k := 0) rfl ld_derA) <| rV rfl (does_len Tryd.underlying24 rfl rfl) <| rV rfl (does_binOp rfl rfl rfl (zd_geq_int (k := ((x.a.n : Nat) : Int)) (m := 2) hq25 _ _)) <| rS 1 rfl <| rV rfl (does_fieldAddr rfl rfl fa_der5) <| rV rfl (does_loadAt (v := .slice x.a.A x.a.n x.a.c) rfl rfl (k := 0) rfl ld_derA) <| rV rfl (does_len Tryd.underlying24 rfl rfl) <| rV rfl (does_binOp rfl rfl rfl (zd_leq_int (k := ((x.a.n : Nat) : Int)) (m := 16) hq26 _ _)) <| rS 2 rfl <| rV rfl (does_fieldAddr rfl rfl fa_der5) <| rV rfl (does_loadAt (v := .slice x.a.A x.a.n x.a.c) rfl rfl (k := 0) rfl ld_derA) <| rV rfl (does_indexAddr rfl rfl rfl (ia_u64D (j := 0) (hax (by omega)).1 (by omega))) <| rV rfl (does_loadCell (v := .int .u64 ((la.getD 0 0 : Nat) : Int)) rfl rfl ((hax (by omega)).2.2 0 (by omega)) (hax (by omega)).2.1 ld_cellD) <| rV rfl (does_binOp rfl rfl rfl (zd_leq_u64 (k := ((la.getD 0 0 : Nat) : Int)) (m := 2) hq27 _ _)) <| rS 2 rfl <| rV rfl (does_fieldAddr rfl rfl fa_der5) <| rV rfl (does_loadAt (v := .slice x.a.A x.a.n x.a.c) rfl rfl (k := 0) rfl ld_derA) <| rV rfl (does_indexAddr rfl rfl rfl (ia_u64D (j := 0) (hax (by omega)).1 (by omega))) <| rV rfl (does_loadCell (v := .int .u64 ((la.getD 0 0 : Nat) : Int)) rfl rfl ((hax (by omega)).2.2 0 (by omega)) (hax (by omega)).2.1 ld_cellD) <| rV rfl (does_binOp rfl rfl rfl (zd_eql_u64 (k := ((la.getD 0 0 : Nat) : Int)) (m := 2) hq28 _ _)) <| rS 1 rfl <| rV rfl (does_fieldAddr rfl rfl fa_der5) <| rV rfl (does_loadAt (v := .slice x.a.A x.a.n x.a.c) rfl rfl (k := 0) rfl ld_derA) <| rV rfl (does_indexAddr rfl rfl rfl (ia_u64D (j := 1) (hax (by omega)).1 (by omega))) <| rV rfl (does_loadCell (v := .int .u64 ((la.getD 1 0 : Nat) : Int)) rfl rfl ((hax (by omega)).2.2 1 (by omega)) (hax (by omega)).2.1 ld_cellD) <| rV rfl (does_binOp rfl rfl rfl (zd_lss_u64 (k := ((la.getD 1 0 : Nat) : Int)) (m := 40) rfl _ _)) <| rS 2 rfl <| rK [1, 1, 1, 1, 1, 1, 1, 1, 1, 1, 1, 1, 1, 1, 1, 1, 1, 1, 1, 1, 1, 1, 1, 1, 1, 1, 1, 1, 1, 1, 1, 1, 0] [] [] <| rS 1 rfl <| rK [1, 0, 0, 0, 0, 0, 0, 0, 0, 0, 0, 0, 0, 0, 0, 0, 0, 0, 0, 0, 0, 0, 0, 0, 0, 0, 0, 0, 0, 0, 0, 0, 0] [] [] <| rZ0 ?_)
            try clear H a W
            intro a W H
            exact J27 _ _ (by rw [show arcB la 0 = (decide (((la.getD 1 0 : Nat) : Int) < 40)) from ((arcB_0 la).trans (decide_eq_decide.2 (by omega)))]; exact H.pick [0, 1, 2, 3] [0] rfl)
        | false =>
          have hq27p := of_decide_eq_false hq27
          refine rgP H gs0 (rV rfl (does_fieldAddr rfl rfl fa_der5) <| rV rfl (does_loadAt (v := .slice x.a.A x.a.n x.a.c) rfl rfl (k := 0) rfl ld_derA) <| rV rfl (does_len Tryd.underlying24 rfl rfl) <| rV rfl (does_binOp rfl rfl rfl (zd_geq_int (k := ((x.a.n : Nat) : Int)) (m := 2) hq25 _ _)) <| rS 1 rfl <| rV rfl (does_fieldAddr rfl rfl fa_der5) <| rV rfl (does_loadAt (v := .slice x.a.A x.a.n x.a.c) rfl rfl (k := 0) rfl ld_derA) <| rV rfl (does_len Tryd.underlying24 rfl rfl) <| rV rfl (does_binOp rfl rfl rfl (zd_leq_int (k := ((x.a.n : Nat) : Int)) (m := 16) hq26 _ _)) <| rS 2 rfl <| rV rfl (does_fieldAddr rfl rfl fa_der5) <| rV rfl (does_loadAt (v := .slice x.a.A x.a.n x.a.c) rfl rfl (k := 0) rfl ld_derA) <| rV rfl (does_indexAddr rfl rfl rfl (ia_u64D (j := 0) (hax (by omega)).1 (by omega))) <| rV rfl (does_loadCell (v := .int .u64 ((la.getD 0 0 : Nat) : Int)) rfl rfl ((hax (by omega)).2.2 0 (by omega)) (hax (by omega)).2.1 ld_cellD) <| rV rfl (does_binOp rfl rfl rfl (zd_leq_u64 (k := ((la.getD 0 0 : Nat) : Int)) (m := 2) hq27 _ _)) <| rS 15 rfl <| rK [1, 1, 1, 1, 1, 1, 1, 1, 1, 1, 1, 1, 1, 1, 1, 1, 1, 1, 1, 1, 1, 1, 1, 1, 1, 1, 1, 1, 1, 1, 1, 1, 0] [] [] <| rS 1 rfl <| rK [1, 0, 0, 0, 0, 0, 0, 0, 0, 0, 0, 0, 0, 0, 0, 0, 0, 0, 0, 0, 0, 0, 0, 0, 0, 0, 0, 0, 0, 0, 0, 0, 0] [] [] <| rZ0 ?_)
          try clear H a W
          intro a W H
          exact J27 _ _ (by rw [show arcB la 0 = false from ((arcB_0 la).trans (decide_eq_false (by omega)))]; exact H.pick [0, 1, 2, 3] [0] rfl)
      | false =>
        have hq26p := of_decide_eq_false hq26
        refine rgP H gs0 (rV rfl (does_fieldAddr rfl rfl fa_der5) <| rV rfl (does_loadAt (v := .slice x.a.A x.a.n x.a.c) rfl rfl (k := 0) rfl ld_derA) <| rV rfl (does_len Tryd.underlying24 rfl rfl) <| rV rfl (does_binOp rfl rfl rfl (zd_geq_int (k := ((x.a.n : Nat) : Int)) (m := 2) hq25 _ _)) <| rS 1 rfl <| rV rfl (does_fieldAddr rfl rfl fa_der5) <| rV rfl (does_loadAt (v := .slice x.a.A x.a.n x.a.c) rfl rfl (k := 0) rfl ld_derA) <| rV rfl (does_len Tryd.underlying24 rfl rfl) <| rV rfl (does_binOp rfl rfl rfl (zd_leq_int (k := ((x.a.n : Nat) : Int)) (m := 16) hq26 _ _)) <| rS 22 rfl <| rK [1, 1, 1, 1, 1, 1, 1, 1, 1, 1, 1, 1, 1, 1, 1, 1, 1, 1, 1, 1, 1, 1, 1, 1, 1, 1, 1, 1, 1, 1, 1, 1, 0] [] [] <| rS 1 rfl <| rK [1, 0, 0, 0, 0, 0, 0, 0, 0, 0, 0, 0, 0, 0, 0, 0, 0, 0, 0, 0, 0, 0, 0, 0, 0, 0, 0, 0, 0, 0, 0, 0, 0] [] [] <| rZ0 ?_)
        try clear H a W
        intro a W H
        exact J27 _ _ (by rw [show arcB la 0 = false from ((arcB_0 la).trans (decide_eq_false (by omega)))]; exact H.pick [0, 1, 2, 3] [0] rfl)
    | false =>
      have hq25p := of_decide_eq_false hq25
      refine rgP H gs0 (rV rfl (does_fieldAddr rfl rfl fa_der5) <| rV rfl (does_loadAt (v := .slice x.a.A x.a.n x.a.c) rfl rfl (k := 0) rfl ld_derA) <| rV rfl (does_len Tryd.underlying24 rfl rfl) <| rV rfl (does_binOp rfl rfl rfl (zd_geq_int (k := ((x.a.n : Nat) : Int)) (m := 2) hq25 _ _)) <| rS 27 rfl <| rK [1, 1, 1, 1, 1, 1, 1, 1, 1, 1, 1, 1, 1, 1, 1, 1, 1, 1, 1, 1, 1, 1, 1, 1, 1, 1, 1, 1, 1, 1, 1, 1, 0] [] [] <| rS 1 rfl <| rK [1, 0, 0, 0, 0, 0, 0, 0, 0, 0, 0, 0, 0, 0, 0, 0, 0, 0, 0, 0, 0, 0, 0, 0, 0, 0, 0, 0, 0, 0, 0, 0, 0] [] [] <| rZ0 ?_)
      try clear H a W
      intro a W H
      exact J27 _ _ (by rw [show arcB la 0 = false from ((arcB_0 la).trans (decide_eq_false (by omega)))]; exact H.pick [0, 1, 2, 3] [0] rfl)
  | false =>
    rw [hq23] at H
    have hq23p := of_decide_eq_false hq23
    refine wp_cond_false (H.ev rfl) ?_
    refine wp_skip ?_
    exact J4 _ _ (by rw [show (if x.k = 5 then arcsOk la else decide (la.length = 0)) = (decide (((x.a.n : Nat) : Int) = 0)) from (by rw [if_neg (by omega)]; exact decide_eq_decide.2 (by omega))]; exact H.pick [1, 2, 3, 4] [0] rfl)
end Go.Proofs.YtiafcgoiolbdhaaDoor
namespace Go.Proofs.YtiafcgoiolbdhaaDoor
set_option linter.unusedVariables false
set_option linter.unusedSimpArgs false
set_option maxRecDepth 100000
open Go Go.RowKit
set_option maxHeartbeats 4000000 in
theorem may_walk {x : DH} {sub : Nat → DH} {g o N : Nat} {bad : Prop} (d : Nat) (ow r : Bool) (w : World) (hd : d ≤ 1000) (hx : x.b.n < 9223372036854775808 ∧ x.t.length < 9223372036854775808 ∧ x.a.n < 9223372036854775808 ∧ x.ks.n < 9223372036854775808) (hNN : N ≤ x.ks.n) (hA : 0 < x.ks.n → x.ks.A = some ⟨g, o, none⟩ ∧ g < w.heap.size ∧ ∀ i, i < x.ks.n → ∀ (j : Nat) (v : Value), (sub i).cs[j]? = some v → w.cell? ⟨g, o + i * 7 + j, none⟩ = some v) (hown : ∀ W, Below w.heap.size w W → Calls Tryd.prog 34 #[.agg x.cs] W (fun r W' => r = .returned (.bool ow) ∧ Below W.heap.size W W')) (hyes : 0 < d → ∀ k, k < N → ∀ W, Below w.heap.size w W → Calls Tryd.prog 15 #[.agg (sub k).cs, .int .i64 ((d - 1 : Nat) : Int)] W (fun r W' => r = .returned (.bool true) ∧ Below W.heap.size W W')) (hend : N = x.ks.n ∨ N < x.ks.n ∧ bad) (hno : 0 < d → N < x.ks.n → bad → ∀ W, Below w.heap.size w W → Calls Tryd.prog 15 #[.agg (sub N).cs, .int .i64 ((d - 1 : Nat) : Int)] W (fun r W' => r = .returned (.bool false) ∧ Below W.heap.size W W')) (hfalse : d < 1 ∨ ow = false ∨ N < x.ks.n → r = false) (htrue : 0 < d → ow = true → N = x.ks.n → r = true) : Calls Tryd.prog 15 #[.agg (x.cs), .int .i64 ((d : Nat) : Int)] w (fun rr w' => rr = .returned (.bool r) ∧ Below w.heap.size w w') := by
  refine calls_st (vs := [.agg (x.cs), .int .i64 ((d : Nat) : Int)]) 29 Tryd.func15 rfl Tryd.ntmps15 rfl (fun a W H => ?_)
  replace H : St 29 w a W [(0, .agg (x.cs)), (1, .int .i64 ((d : Nat) : Int))] [] := H
  refine sqR H gs0 fun Z_ z_ => rB rfl rfl rfl (bx_der x) fun g1 => rS 1 rfl <| rK [1, 1, 0] [] [] <| rN0 z_ ?_
  try clear H a W
  intro a W H
  refine wp_seq_k (fun K2 hK2 => ?_)
  refine wp_seq_k (fun K3 hK3 => ?_)
  cases hq1 : decide (((d : Nat) : Int) < 1) with
  | true =>
    have hq1p := of_decide_eq_true hq1
    refine rgP H gs0 (rS 1 rfl <| rV rfl (does_binOp rfl rfl rfl (zd_lss_int (k := ((d : Nat) : Int)) (m := 1) hq1 _ _)) <| rS 5 rfl <| rK [1, 0, 0, 0, 0, 0, 0] [] [] <| rZ0 ?_)
    try clear H a W
    intro a W H
    refine hK3 _ _ ?_
    clear hK3
    refine wp_cond_true (H.ev rfl) ?_
    refine sqR H gs0 fun Z_ z_ => rK [1, 0] [] [] <| rS 1 rfl <| rK [1, 0] [] [] <| rN0 z_ ?_
    try clear H a W
    intro a W H
    refine wp_ret ?_
    repeat (first | (with_reducible refine then_ret ?_) | (with_reducible refine blk_ret ?_))
    refine end_tmp (p := 4) rfl rfl H (fun hb => ?_)
    exact ⟨by rw [hfalse (.inl (by omega))], hb⟩
  | false =>
    have hq1p := of_decide_eq_false hq1
    cases hq2 : ow with
    | true =>
      refine rgP H gs0 (rS 1 rfl <| rV rfl (does_binOp rfl rfl rfl (zd_lss_int (k := ((d : Nat) : Int)) (m := 1) hq1 _ _)) <| rS 1 rfl <| rV rfl (does_load rfl rfl (k := 0) rfl Tryd.underlying27 rfl (info_der x)) <| rV rfl (does_call rfl ⟨_, Tryd.func34, by kernel_rfl⟩ rfl (fun W hb => by have h_ := hown W hb; rw [hq2] at h_; exact h_)) <| rS 2 rfl <| rK [1, 0, 0, 0, 0, 0, 0] [] [] <| rZ0 ?_)
      try clear H a W
      intro a W H
      refine hK3 _ _ ?_
      clear hK3
      refine wp_cond_false (H.ev rfl) ?_
      refine wp_skip ?_
      refine hK2 _ _ ?_
      clear hK2
      refine wp_seq_k (fun K5 hK5 => ?_)
      refine sqR H gs0 fun Z_ z_ => rS 1 rfl <| rK [1, 0] [] [] <| rN0 z_ ?_
      try clear H a W
      intro a W H
      refine wp_block ?_
      replace H : St 29 w a W [(5, .int .i64 ((0 : Nat) : Int)), (4, .bool false), (2, .pointer (some ⟨g1, 0, none⟩)), (1, .int .i64 ((d : Nat) : Int))] [(g1, 27, x.cs)] := H.pick [0, 1, 2, 3] [0] rfl
      refine wp_rounds N (fun k a W => St 29 w a W [(5, .int .i64 ((k : Nat) : Int)), (4, .bool false), (2, .pointer (some ⟨g1, 0, none⟩)), (1, .int .i64 ((d : Nat) : Int))] [(g1, 27, x.cs)]) (k0 := 0) H (by omega) ?_
      try clear H a W
      intro k a W hk H
      by_cases hk2 : k < N
      · refine wp_seq_k (fun K7 hK7 => ?_)
        refine sqR H gs0 fun Z_ z_ => rS 1 rfl <| rV rfl (does_fieldAddr rfl rfl fa_der6) <| rV rfl (does_loadAt (v := .slice x.ks.A x.ks.n x.ks.c) rfl rfl (k := 0) rfl ld_derS) <| rV rfl (does_len Tryd.underlying25 rfl rfl) <| rV rfl (does_binOp rfl rfl rfl (zd_lss_int (k := ((k : Nat) : Int)) (m := ((x.ks.n : Nat) : Int)) (decide_eq_true (by omega)) _ _)) <| rN0 z_ ?_
        try clear H a W
        intro a W H
        refine wp_cond_true (H.ev rfl) ?_
        refine wp_skip ?_
        refine hK7 _ _ ?_
        clear hK7
        refine wp_seq_k (fun K9 hK9 => ?_)
        refine wp_block ?_
        refine sqR H gs0 fun Z_ z_ => rV rfl (does_fieldAddr rfl rfl fa_der6) <| rV rfl (does_loadAt (v := .slice x.ks.A x.ks.n x.ks.c) rfl rfl (k := 0) rfl ld_derS) <| rS 1 rfl <| rV rfl (does_indexAddr rfl rfl rfl (ia_kids (j := k) (hA (by omega)).1 (by omega))) <| rV rfl (does_kid (y := sub k) rfl rfl (hA (by omega)).2.1 ((hA (by omega)).2.2 k (by omega))) <| rS 1 rfl <| rV rfl (does_binOp rfl rfl rfl (zd_sub_int (k := ((d : Nat) : Int)) (m := 1) (c := ((d - 1 : Nat) : Int)) (by omega) (by omega) _ _)) <| rV rfl (does_call rfl ⟨_, Tryd.func15, by kernel_rfl⟩ rfl (fun W hb => hyes (by omega) k hk2 W hb)) <| rS 1 rfl <| rN0 z_ ?_
        try clear H a W
        intro a W H
        refine wp_cond_false (H.ev rfl) ?_
        refine wp_skip ?_
        refine blk_normal ?_
        refine hK9 _ _ ?_
        clear hK9
        refine rgP H gs0 (rS 1 rfl <| rV rfl (does_binOp rfl rfl rfl (zd_add_int (k := ((k : Nat) : Int)) (m := 1) (c := ((k + 1 : Nat) : Int)) (by omega) (by omega) _ _)) <| rK [1, 1, 1, 1, 1, 1, 1, 1, 1, 1, 1, 1, 1, 1, 1, 1, 0] [] [] <| rS 1 rfl <| rZ0 ?_)
        try clear H a W
        intro a W H
        refine ⟨k + 1, by omega, by omega, ?_⟩
        show St 29 w a W [(5, .int .i64 ((k + 1 : Nat) : Int)), (4, .bool false), (2, .pointer (some ⟨g1, 0, none⟩)), (1, .int .i64 ((d : Nat) : Int))] [(g1, 27, x.cs)]
        exact H.pick [0, 17, 18, 19] [0] rfl
      · obtain rfl : N = k := by omega
        rcases hend with hend | hend
        · refine wp_seq_k (fun K11 hK11 => ?_)
          refine sqR H gs0 fun Z_ z_ => rS 1 rfl <| rV rfl (does_fieldAddr rfl rfl fa_der6) <| rV rfl (does_loadAt (v := .slice x.ks.A x.ks.n x.ks.c) rfl rfl (k := 0) rfl ld_derS) <| rV rfl (does_len Tryd.underlying25 rfl rfl) <| rV rfl (does_binOp rfl rfl rfl (zd_lss_int (k := ((N : Nat) : Int)) (m := ((x.ks.n : Nat) : Int)) (decide_eq_false (by omega)) _ _)) <| rK [1, 0, 0, 0, 0] [] [] <| rN0 z_ ?_
          try clear H a W
          intro a W H
          refine wp_cond_false (H.ev rfl) ?_
          refine wp_exit ?_
          repeat (with_reducible refine then_exit ?_)
          refine blk_exit ?_
          refine hK5 _ _ ?_
          clear hK5
          refine sqR H gs0 fun Z_ z_ => rK [1, 1, 0] [] [] <| rS 1 rfl <| rK [1, 0, 0, 0, 0] [0] [] <| rN0 z_ ?_
          try clear H a W
          intro a W H
          refine wp_ret ?_
          repeat (first | (with_reducible refine then_ret ?_) | (with_reducible refine blk_ret ?_))
          refine end_tmp (p := 4) rfl rfl H (fun hb => ?_)
          exact ⟨by rw [htrue (by omega) hq2 (by omega)], hb⟩
        · have hlt_ := hend.1
          refine wp_seq_k (fun K14 hK14 => ?_)
          refine sqR H gs0 fun Z_ z_ => rS 1 rfl <| rV rfl (does_fieldAddr rfl rfl fa_der6) <| rV rfl (does_loadAt (v := .slice x.ks.A x.ks.n x.ks.c) rfl rfl (k := 0) rfl ld_derS) <| rV rfl (does_len Tryd.underlying25 rfl rfl) <| rV rfl (does_binOp rfl rfl rfl (zd_lss_int (k := ((N : Nat) : Int)) (m := ((x.ks.n : Nat) : Int)) (decide_eq_true (by omega)) _ _)) <| rK [1, 0, 0, 0, 0] [] [] <| rN0 z_ ?_
          try clear H a W
          intro a W H
          refine wp_cond_true (H.ev rfl) ?_
          refine wp_skip ?_
          refine hK14 _ _ ?_
          clear hK14
          refine wp_seq_k (fun K16 hK16 => ?_)
          refine wp_block ?_
          refine sqR H gs0 fun Z_ z_ => rV rfl (does_fieldAddr rfl rfl fa_der6) <| rV rfl (does_loadAt (v := .slice x.ks.A x.ks.n x.ks.c) rfl rfl (k := 0) rfl ld_derS) <| rS 1 rfl <| rV rfl (does_indexAddr rfl rfl rfl (ia_kids (j := N) (hA (by omega)).1 (by omega))) <| rV rfl (does_kid (y := sub N) rfl rfl (hA (by omega)).2.1 ((hA (by omega)).2.2 N (by omega))) <| rS 1 rfl <| rV rfl (does_binOp rfl rfl rfl (zd_sub_int (k := ((d : Nat) : Int)) (m := 1) (c := ((d - 1 : Nat) : Int)) (by omega) (by omega) _ _)) <| rV rfl (does_call rfl ⟨_, Tryd.func15, by kernel_rfl⟩ rfl (fun W hb => hno (by omega) hend.1 hend.2 W hb)) <| rS 1 rfl <| rK [1, 0, 0, 0, 0, 0, 0, 0, 0, 0, 1, 1, 0, 0] [0] [] <| rN0 z_ ?_
          try clear H a W
          intro a W H
          refine wp_cond_true (H.ev rfl) ?_
          refine sqR H gs0 fun Z_ z_ => rK [1, 1, 0] [] [] <| rS 1 rfl <| rK [1, 0] [] [] <| rN0 z_ ?_
          try clear H a W
          intro a W H
          refine wp_ret ?_
          repeat (first | (with_reducible refine then_ret ?_) | (with_reducible refine blk_ret ?_))
          refine end_tmp (p := 4) rfl rfl H (fun hb => ?_)
          exact ⟨by rw [hfalse (.inr (.inr (by omega)))], hb⟩
    | false =>
      refine rgP H gs0 (rS 1 rfl <| rV rfl (does_binOp rfl rfl rfl (zd_lss_int (k := ((d : Nat) : Int)) (m := 1) hq1 _ _)) <| rS 1 rfl <| rV rfl (does_load rfl rfl (k := 0) rfl Tryd.underlying27 rfl (info_der x)) <| rV rfl (does_call rfl ⟨_, Tryd.func34, by kernel_rfl⟩ rfl (fun W hb => by have h_ := hown W hb; rw [hq2] at h_; exact h_)) <| rS 2 rfl <| rK [1, 0, 0, 0, 0, 0, 0] [] [] <| rZ0 ?_)
      try clear H a W
      intro a W H
      refine hK3 _ _ ?_
      clear hK3
      refine wp_cond_true (H.ev rfl) ?_
      refine sqR H gs0 fun Z_ z_ => rK [1, 0] [] [] <| rS 1 rfl <| rK [1, 0] [] [] <| rN0 z_ ?_
      try clear H a W
      intro a W H
      refine wp_ret ?_
      repeat (first | (with_reducible refine then_ret ?_) | (with_reducible refine blk_ret ?_))
      refine end_tmp (p := 4) rfl rfl H (fun hb => ?_)
      exact ⟨by rw [hfalse (.inr (.inl hq2))], hb⟩
theorem own_sees {w : World} {B : Nat} {T : DT} {x : DH} (u8 : List UInt8 → Bool) (h : DX w B T x) (W : World) (hW : Sees w B W) (hu : UV u8 W) : Calls Tryd.prog 34 #[.agg x.cs] W (fun r W' => r = .returned (.bool (ownD u8 T)) ∧ Below W.heap.size W W') := by
  cases h with
  | @mk _ b a ks sub hk hn hm hb ha hl hcap hc hs =>
    obtain ⟨gx, ox, hax⟩ := ((ha.keep hW.2).more hW.1).nat (Nat.le_refl _)
    exact own_walk (b := b) (la := a) (ks := ks) u8 W hu hn hm hb.len ha.len hl hax
theorem mayD_succ (u8 : List UInt8 → Bool) (d : Nat) (k : Int) (f : Bool) (n : Int) (b t : List UInt8) (a : List Nat) (ks : List DT) : mayD u8 (d + 1) (.mk k f n b t a ks) = (ownD u8 (.mk k f n b t a ks) && ks.all (mayD u8 d)) := rfl
theorem may_sees {w : World} {B : Nat} {T : DT} {x : DH} (u8 : List UInt8 → Bool) (h : DX w B T x) : ∀ (d : Nat) (W : World), d ≤ 1000 → Sees w B W → UV u8 W → Calls Tryd.prog 15 #[.agg x.cs, .int .i64 ((d : Nat) : Int)] W (fun r W' => r = .returned (.bool (mayD u8 d T)) ∧ Below W.heap.size W W') := by
  induction h with
  | @mk x b a ks sub hk hn hm hb ha hl hcap hc hs ih =>
    intro d W hd hW hu
    obtain ⟨g, o, hgo⟩ := kids_at hc hW
    obtain ⟨N, hN, hpos, hend⟩ := rounds_at (fun i => ∀ T, ks[i]? = some T → mayD u8 (d - 1) T = true) x.ks.n
    have kid : ∀ k, k < x.ks.n → ∀ W2, Below W.heap.size W W2 → ∃ V, ks[k]? = some V ∧ Calls Tryd.prog 15 #[.agg (sub k).cs, .int .i64 ((d - 1 : Nat) : Int)] W2 (fun r W' => r = .returned (.bool (mayD u8 (d - 1) V)) ∧ Below W2.heap.size W2 W') := fun k hk W2 hB => by
      have e1 : ks[k]? = some _ := List.getElem?_eq_getElem (by omega)
      exact ⟨_, e1, ih k _ e1 (d - 1) W2 (by omega) (hW.below hB) (hu.ext hB)⟩
    refine may_walk (sub := sub) (N := N) (bad := ¬ ∀ T, ks[N]? = some T → mayD u8 (d - 1) T = true) d (ownD u8 (.mk x.k x.f x.n b x.t a ks)) _ W hd hm hN hgo (fun W2 hB => ?_) (fun _ k hk W2 hB => ?_) hend (fun _ hM hbad W2 hB => ?_) (fun hf => ?_) (fun h0 ho hNe => ?_)
    · exact own_sees u8 (.mk sub hk hn hm hb ha hl hcap hc hs) W2 (hW.below hB) (hu.ext hB)
    · obtain ⟨V, e1, hcall⟩ := kid k (by omega) W2 hB
      rwa [hpos k hk V e1] at hcall
    · obtain ⟨V, e1, hcall⟩ := kid N hM W2 hB
      have hV : mayD u8 (d - 1) V = false := by
        cases e : mayD u8 (d - 1) V with
        | false => rfl
        | true => exact absurd (fun T hT => by rw [e1] at hT; injection hT with hT; rw [← hT]; exact e) hbad
      rwa [hV] at hcall
    · rcases d with _ | d
      · rfl
      · rw [mayD_succ]
        rcases hf with hf | hf | hf
        · omega
        · rw [hf, Bool.false_and]
        · rcases hend with h | ⟨_, hbad⟩
          · omega
          · rw [Bool.and_eq_false_iff]
            refine .inr ?_
            cases e : ks.all (mayD u8 d) with
            | false => rfl
            | true => exact absurd (fun T hT => List.all_eq_true.1 e T (List.mem_iff_getElem?.2 ⟨_, hT⟩)) hbad
    · rcases d with _ | d
      · omega
      · rw [mayD_succ, ho, Bool.true_and]
        refine List.all_eq_true.2 fun T hT => ?_
        obtain ⟨i, hi⟩ := List.mem_iff_getElem?.1 hT
        have hlt : i < ks.length := (List.getElem?_eq_some_iff.1 hi).1
        exact hpos i (by omega) T hi
theorem may_any {w : World} {T : DT} {v : Value} (u8 : List UInt8 → Bool) (hv : DF T v w) (d : Nat) (hd : d ≤ 1000) (hu : UV u8 w) : Calls Tryd.prog 15 #[v, .int .i64 ((d : Nat) : Int)] w (fun r W' => r = .returned (.bool (mayD u8 d T)) ∧ Below w.heap.size w W') := by
  obtain ⟨x, rfl, h⟩ := hv
  exact may_sees u8 h d w hd (Sees.refl (Nat.le_refl _)) hu
end Go.Proofs.YtiafcgoiolbdhaaDoor
namespace Go.Proofs.YtiafcgoiolbdhaaDoor
set_option linter.unusedVariables false
set_option linter.unusedSimpArgs false
set_option maxRecDepth 100000
open Go Go.RowKit
theorem cv_uD {x : Nat} (hx : x < 256) (W : World) : (convert 47 5 (.int .u64 (x : Int))).run Tryd.prog W = .ok (bv (byteD x)) W := by
  have e : IntKind.u8.wrap (x : Int) = ((byteD x).toNat : Int) := by
    rw [IntKind.wrap_u8', byteD_nat hx]
    omega
  unfold bv
  go_simp
theorem cv_iD {x : Nat} (hx : x < 256) (W : World) : (convert 3 5 (.int .i64 (x : Int))).run Tryd.prog W = .ok (bv (byteD x)) W := by
  have e : IntKind.u8.wrap (x : Int) = ((byteD x).toNat : Int) := by
    rw [IntKind.wrap_u8', byteD_nat hx]
    omega
  unfold bv
  go_simp
theorem run_byteD (w : World) (x : UInt8) : (Instr.buildSlice 23 1 #[(0, bv x)]).run Tryd.prog w = .ok (.slice (some ⟨w.heap.size, 0, none⟩) 1 1) (w.alloc (.cells (bvs [x]) 5)) := by kernel_rfl
theorem run_byteD2 (w : World) (x y : UInt8) : (Instr.buildSlice 23 2 #[(0, bv x), (1, bv y)]).run Tryd.prog w = .ok (.slice (some ⟨w.heap.size, 0, none⟩) 2 2) (w.alloc (.cells (bvs [x, y]) 5)) := by kernel_rfl
theorem run_byteD3 (w : World) (x y z : UInt8) : (Instr.buildSlice 23 3 #[(0, bv x), (1, bv y), (2, bv z)]).run Tryd.prog w = .ok (.slice (some ⟨w.heap.size, 0, none⟩) 3 3) (w.alloc (.cells (bvs [x, y, z]) 5)) := by kernel_rfl
section
variable {n : Nat} {w0 w : World} {a : Act} {e : Env} {h : Hep} {Q : Exit → Act → World → Prop} {ops : Array Oper} {o : Oper}
theorem of_new (H : St n w0 a w e h) {l : List UInt8} (hl : l.length ≤ maxLen) : SB w (w.alloc (.cells (bvs l) 5)) ∧ OF w0.heap.size h l (.slice (some ⟨w.heap.size, 0, none⟩) l.length l.length) (w.alloc (.cells (bvs l) 5)) :=
  ⟨(Below.refl _ _).alloc (Nat.le_refl _) _, OwnB.ofBlk (Blk.new w 5 (bvs l)) _ rfl hl H.below.size, fun g hg p hp => by
    injection hg with hg
    subst hg
    exact Nat.ne_of_lt (H.heap p hp).lt⟩
theorem ob_byteOF {y0 : Operand} {x : UInt8} (H : St n w0 a w e h) (hw : ∀ a w, St n w0 a w e h → Region.wanted o (yielded ops a.tmps) = true) (ho : o.op = .buildSlice 23 1 #[(0, y0)]) (h0 : sev e y0 = some (bv x)) : ObS Tryd.prog ops Q o a w (OF w0.heap.size h [x]) := by
  obtain ⟨h1, h2⟩ := of_new H (l := [x]) (by unfold maxLen; simp)
  refine ob_runR H hw ⟨_, _, ?_, h1, h2⟩
  simp [execOp, ho, H.ev h0, run_byteD, Result.andThen]
theorem ob_byteOF2 {y0 y1 : Operand} {x y : UInt8} (H : St n w0 a w e h) (hw : ∀ a w, St n w0 a w e h → Region.wanted o (yielded ops a.tmps) = true) (ho : o.op = .buildSlice 23 2 #[(0, y0), (1, y1)]) (h0 : sev e y0 = some (bv x)) (h1 : sev e y1 = some (bv y)) : ObS Tryd.prog ops Q o a w (OF w0.heap.size h [x, y]) := by
  obtain ⟨h2, h3⟩ := of_new H (l := [x, y]) (by unfold maxLen; simp)
  refine ob_runR H hw ⟨_, _, ?_, h2, h3⟩
  simp [execOp, ho, H.ev h0, H.ev h1, run_byteD2, Result.andThen]
theorem ob_byteOF3 {y0 y1 y2 : Operand} {x y z : UInt8} (H : St n w0 a w e h) (hw : ∀ a w, St n w0 a w e h → Region.wanted o (yielded ops a.tmps) = true) (ho : o.op = .buildSlice 23 3 #[(0, y0), (1, y1), (2, y2)]) (h0 : sev e y0 = some (bv x)) (h1 : sev e y1 = some (bv y)) (h2 : sev e y2 = some (bv z)) : ObS Tryd.prog ops Q o a w (OF w0.heap.size h [x, y, z]) := by
  obtain ⟨h3, h4⟩ := of_new H (l := [x, y, z]) (by unfold maxLen; simp)
  refine ob_runR H hw ⟨_, _, ?_, h3, h4⟩
  simp [execOp, ho, H.ev h0, H.ev h1, H.ev h2, run_byteD3, Result.andThen]
end
theorem ud_quo {k m : Nat} (h : k < 18446744073709551616) (hm : 0 < m) (p q : Operand) (W : World) : (do eqGuard .quo 47 p q (.int .u64 (k : Int)) (.int .u64 (m : Int)); binOp .quo 47 (.int .u64 (k : Int)) (.int .u64 (m : Int)) : Sem Value).run Tryd.prog W = .ok (.int .u64 ((k / m : Nat) : Int)) W := by
  have e0 : ∀ d : Nat, d ≤ k → IntKind.u64.wrap (d : Int) = d := fun d hd => IntWalk.u64_in _ (by omega)
  have h2 : k / m ≤ k := Nat.div_le_self k m
  have h3 : ((k / m : Nat) : Int) = (k : Int) / (m : Int) := Int.natCast_ediv k m
  have e1 : ((k : Int)).tdiv (m : Int) = (k : Int) / (m : Int) := Int.tdiv_eq_ediv_of_nonneg (by omega)
  have e : IntKind.u64.wrap ((k : Int) / (m : Int)) = (k : Int) / (m : Int) := by rw [← h3]; exact e0 _ h2
  have h0 : ¬ m = 0 := by omega
  go_simp
theorem ud_rem {k m : Nat} (h : k < 18446744073709551616) (hm : 0 < m) (p q : Operand) (W : World) : (do eqGuard .rem 47 p q (.int .u64 (k : Int)) (.int .u64 (m : Int)); binOp .rem 47 (.int .u64 (k : Int)) (.int .u64 (m : Int)) : Sem Value).run Tryd.prog W = .ok (.int .u64 ((k % m : Nat) : Int)) W := by
  have e0 : ∀ d : Nat, d ≤ k → IntKind.u64.wrap (d : Int) = d := fun d hd => IntWalk.u64_in _ (by omega)
  have h2 : k % m ≤ k := Nat.mod_le k m
  have h3 : ((k % m : Nat) : Int) = (k : Int) % (m : Int) := Int.natCast_emod k m
  have e1 : ((k : Int)).tmod (m : Int) = (k : Int) % (m : Int) := Int.tmod_eq_emod_of_nonneg (by omega)
  have e : IntKind.u64.wrap ((k : Int) % (m : Int)) = (k : Int) % (m : Int) := by rw [← h3]; exact e0 _ h2
  have h0 : ¬ m = 0 := by omega
  go_simp
theorem ud_add {k m : Nat} (h : k + m < 18446744073709551616) (p q : Operand) (W : World) : (do eqGuard .add 47 p q (.int .u64 (k : Int)) (.int .u64 (m : Int)); binOp .add 47 (.int .u64 (k : Int)) (.int .u64 (m : Int)) : Sem Value).run Tryd.prog W = .ok (.int .u64 ((k + m : Nat) : Int)) W := by
  have e : IntKind.u64.wrap ((k : Int) + (m : Int)) = ((k + m : Nat) : Int) := by rw [IntWalk.u64_in _ (by omega)]; omega
  go_simp
def gmD (n : Nat) : Nat → Nat
  | 0 => n / 128
  | k + 1 => gmD n k / 128
def glD (n : Nat) : Nat → List UInt8
  | 0 => [byteD (n % 128)]
  | k + 1 => byteD (gmD n k % 128 + 128) :: glD n k
theorem gmD_lt {n : Nat} (h : n < 18446744073709551616) : ∀ k, gmD n k < 18446744073709551616
  | 0 => by unfold gmD; omega
  | k + 1 => by have := gmD_lt h k; unfold gmD; omega
theorem glD_len (n : Nat) : ∀ k, (glD n k).length = k + 1
  | 0 => rfl
  | k + 1 => by unfold glD; rw [List.length_cons, glD_len n k]
theorem glD_all (n : Nat) : ∀ k, (∀ i, i < k → 0 < gmD n i) → hiD (gmD n k) ++ glD n k = groupsD n
  | 0, _ => rfl
  | k + 1, h => by
    have h0 := h k (by omega)
    rw [← glD_all n k (fun i hi => h i (by omega))]
    conv => rhs; rw [hiD, dif_neg (by omega), List.append_assoc]
    rfl
theorem glD_0 (n : Nat) : glD n 0 = [byteD (n % 128)] := rfl
theorem glD_succ (n k : Nat) : glD n (k + 1) = [byteD (gmD n k % 128 + 128)] ++ glD n k := rfl
theorem gmD_0 (n : Nat) : gmD n 0 = n / 128 := rfl
theorem gmD_succ (n k : Nat) : gmD n (k + 1) = gmD n k / 128 := rfl
theorem gl_rounds {n : Nat} (h : n < 18446744073709551616) : ∃ N, N < 10 ∧ (∀ i, i < N → 0 < gmD n i) ∧ gmD n N = 0 := by
  obtain ⟨N, h1, h2, h3⟩ := rounds_at (fun i => 0 < gmD n i) 10
  rcases h3 with rfl | ⟨h3, h4⟩
  · have h9 := h2 9 (by omega)
    simp only [gmD] at h9
    omega
  · exact ⟨N, h3, h2, by omega⟩
theorem gl_end {n N : Nat} (hp : ∀ i, i < N → 0 < gmD n i) (h : gmD n N = 0) : glD n N = groupsD n := by
  rw [← glD_all n N hp, h, hiD, dif_pos rfl, List.nil_append]
attribute [local irreducible] bvs bv byteD gmD glD groupsD
set_option maxHeartbeats 4000000 in
theorem groups_any (n : Nat) (w : World) (hn : n < 18446744073709551616) : Calls Tryd.prog 68 #[.int .u64 ((n : Nat) : Int)] w (fun rr w' => ∃ v, rr = .returned v ∧ Below w.heap.size w w' ∧ OwnB w' w.heap.size 5 v (groupsD n)) := by
  refine calls_st (vs := [.int .u64 ((n : Nat) : Int)]) 22 Tryd.func68 rfl Tryd.ntmps68 rfl (fun a W H => ?_)
  replace H : St 22 w a W [(0, .int .u64 ((n : Nat) : Int))] [] := H
  refine sqR H gs0 fun Z_ z_ => rS 1 rfl <| rN0 z_ ?_
  try clear H a W
  intro a W H
  refine sqR H gs0 fun Z_ z_ => rS 1 rfl <| rV rfl (does_binOp rfl rfl rfl (ud_rem (k := n) (m := 128) (by omega) (by omega) _ _)) <| rV rfl (does_convert rfl rfl (cv_uD (by omega))) <| rO rfl (fun a W H _ => ob_byteOF (x := (byteD (n % 128))) H (wanted_none rfl) rfl rfl) fun v7 => rS 1 rfl <| rK [1, 0, 0, 0, 0] [] [] <| rN z_ ?_
  try clear H a W
  rintro a W H ⟨hv7, -⟩
  refine wp_seq_k (fun K3 hK3 => ?_)
  refine sqR H (gsC hv7 gs0) fun Z_ z_ => rS 1 rfl <| rV rfl (does_binOp rfl rfl rfl (ud_quo (k := n) (m := 128) (by omega) (by omega) _ _)) <| rK [1, 1, 1, 1, 0] [] [] <| rS 1 rfl <| rK [1, 0, 0] [] [] <| rN z_ ?_
  try clear hv7 H a W
  rintro a W H ⟨hv7, -⟩
  obtain ⟨N, hN10, hpos, hz⟩ := gl_rounds hn
  refine wp_block ?_
  rw [← gmD_0] at H
  replace H : St 22 w a W [(0, .int .u64 ((gmD n 0 : Nat) : Int)), (3, v7)] [] := H.pick [0, 1] [] rfl
  refine wp_rounds N (fun k a W => ∃ vo, OF w.heap.size [] (glD n k) vo W ∧ St 22 w a W [(0, .int .u64 ((gmD n k : Nat) : Int)), (3, vo)] []) (k0 := 0) (show ∃ vo, OF w.heap.size [] (glD n 0) vo W ∧ St 22 w a W [(0, .int .u64 ((gmD n 0 : Nat) : Int)), (3, vo)] [] from ⟨_, (by rw [glD_0]; exact hv7), H⟩) (by omega) ?_
  try clear H a W
  intro k a W hk H_
  obtain ⟨vo, hout, H⟩ := H_
  by_cases hk2 : k < N
  · have hp_ := hpos k hk2
    have hlt_ := gmD_lt hn k
    refine wp_seq_k (fun K5 hK5 => ?_)
    refine sqR H (gsC hout gs0) fun Z_ z_ => rS 1 rfl <| rV rfl (does_binOp rfl rfl rfl (zd_gtr_u64 (k := ((gmD n k : Nat) : Int)) (m := 0) (decide_eq_true (by omega)) _ _)) <| rN z_ ?_
    try clear hout H a W
    rintro a W H ⟨hout, -⟩
    refine wp_cond_true (H.ev rfl) ?_
    refine wp_skip ?_
    refine hK5 _ _ ?_
    clear hK5
    refine wp_seq_k (fun K7 hK7 => ?_)
    refine wp_block ?_
    refine rgP H (gsC hout gs0) (rS 1 rfl <| rV rfl (does_binOp rfl rfl rfl (ud_rem (k := (gmD n k)) (m := 128) (by omega) (by omega) _ _)) <| rV rfl (does_binOp rfl rfl rfl (ud_add (k := ((gmD n k) % 128)) (m := 128) (by omega) _ _)) <| rV rfl (does_convert rfl rfl (cv_uD (by omega))) <| rO rfl (fun a W H _ => ob_byteOF (x := (byteD (((gmD n k) % 128) + 128))) H (wanted_none rfl) rfl rfl) fun v18 => rS 1 rfl <| rI ?_)
    try clear hout H a W
    rintro a W H ⟨hv18, hout, -⟩
    refine pl_R (R := (WR w.heap.size [])) (F := OF w.heap.size [] ([(byteD (((gmD n k) % 128) + 128))] ++ (glD n k))) wr_st (ob_appW H (wanted_none rfl) rfl rfl rfl hv18 hout.bf (by simp only [List.length_append, List.length_cons, List.length_nil, glD_len]; omega)) rfl rfl rfl H ?_
    try clear H a
    intro v20 a W hv20 hR_ H
    clear hR_
    replace H : St 22 w a W [(20, v20), (19, vo), (18, v18), (17, bv (byteD (((gmD n k) % 128) + 128))), (16, .int .u64 ((((gmD n k) % 128) + 128 : Nat) : Int)), (15, .int .u64 (((gmD n k) % 128 : Nat) : Int)), (14, .int .u64 ((gmD n k : Nat) : Int)), (11, .bool true), (10, .int .u64 ((gmD n k : Nat) : Int)), (0, .int .u64 ((gmD n k : Nat) : Int)), (3, vo)] [] := H
    refine rgO H (gsC hv20 gs0) (rK [1, 1, 1, 1, 1, 1, 1, 1, 1, 1, 0] [] [] <| rS 1 rfl <| rZ ?_)
    try clear hv20 H a W
    rintro a W H ⟨hv20, -⟩
    refine blk_normal ?_
    refine hK7 _ _ ?_
    clear hK7
    refine rgP H (gsC hv20 gs0) (rS 1 rfl <| rV rfl (does_binOp rfl rfl rfl (ud_quo (k := (gmD n k)) (m := 128) (by omega) (by omega) _ _)) <| rK [1, 1, 1, 1, 1, 1, 1, 1, 1, 1, 1, 1, 0] [] [] <| rS 1 rfl <| rZ ?_)
    try clear hv20 H a W
    rintro a W H ⟨hv20, -⟩
    refine ⟨k + 1, by omega, by omega, ?_⟩
    show ∃ vo, OF w.heap.size [] (glD n (k + 1)) vo W ∧ St 22 w a W [(0, .int .u64 ((gmD n (k + 1) : Nat) : Int)), (3, vo)] []
    refine ⟨_, (by rw [glD_succ]; exact hv20), ?_⟩
    rw [gmD_succ]
    exact H.pick [0, 3] [] rfl
  · obtain rfl : N = k := by omega
    refine wp_seq_k (fun K8 hK8 => ?_)
    refine sqR H (gsC hout gs0) fun Z_ z_ => rS 1 rfl <| rV rfl (does_binOp rfl rfl rfl (zd_gtr_u64 (k := ((gmD n N : Nat) : Int)) (m := 0) (decide_eq_false (by omega)) _ _)) <| rK [1, 0] [] [] <| rN z_ ?_
    try clear hout H a W
    rintro a W H ⟨hout, -⟩
    refine wp_cond_false (H.ev rfl) ?_
    refine wp_exit ?_
    repeat (with_reducible refine then_exit ?_)
    refine blk_exit ?_
    refine hK3 _ _ ?_
    clear hK3
    refine sqR H (gsC hout gs0) fun Z_ z_ => rS 2 rfl <| rK [1, 0, 0, 0, 0] [] [] <| rN z_ ?_
    try clear hout H a W
    rintro a W H ⟨hout, -⟩
    refine wp_ret ?_
    repeat (first | (with_reducible refine then_ret ?_) | (with_reducible refine blk_ret ?_))
    refine end_tmp (p := 2) rfl rfl H (fun hb => ?_)
    exact ⟨_, rfl, hb, by rw [← gl_end hpos hz]; exact hout.1⟩
end Go.Proofs.YtiafcgoiolbdhaaDoor
namespace Go.Proofs.YtiafcgoiolbdhaaDoor
set_option linter.unusedVariables false
set_option linter.unusedSimpArgs false
set_option maxRecDepth 100000
open Go Go.RowKit
def pwD (s : Nat) : Int := 2 ^ s
theorem pwD_le {s : Nat} (h : s ≤ 62) : 0 < pwD s ∧ pwD s ≤ 4611686018427387904 := by
  unfold pwD
  exact ⟨Int.pow_pos (by decide), by
    have h2 : (2 : Nat) ^ s ≤ 2 ^ 62 := Nat.pow_le_pow_right (by omega) h
    have h3 : ((2 ^ s : Nat) : Int) = (2 : Int) ^ s := by push_cast; rfl
    rw [← h3]
    omega⟩
theorem zd_shl1 {s : Nat} (hs : s ≤ 62) (p q : Operand) (W : World) : (do eqGuard .shl 2 p q (.int .i64 1) (.int .u64 (s : Int)); binOp .shl 2 (.int .i64 1) (.int .u64 (s : Int)) : Sem Value).run Tryd.prog W = .ok (.int .i64 (pwD s)) W := by
  have h1 : (0 : Int) ≤ (s : Int) := by omega
  have h2 : (s : Int) < 64 := by omega
  have h3 := pwD_le hs
  unfold pwD at *
  have e : IntKind.i64.wrap ((2 : Int) ^ s) = 2 ^ s := IntWalk.i64_in _ (by omega)
  go_simp
  all_goals first | omega | (simp [e]) | skip
theorem zd_neg {x : Int} (h : -9223372036854775808 < x ∧ x < 9223372036854775808) (W : World) : (Op.unary .neg (.int .i64 x)).run Tryd.prog W = .ok (.int .i64 (-x)) W := by
  have e : IntKind.i64.wrap (-x) = -x := IntWalk.i64_in _ (by omega)
  go_simp
theorem cv_uint {x : Nat} (hx : x < 9223372036854775808) (W : World) : (convert 3 54 (.int .i64 (x : Int))).run Tryd.prog W = .ok (.int .u64 (x : Int)) W := by
  have e : IntKind.u64.wrap (x : Int) = (x : Int) := IntWalk.u64_in _ (by omega)
  go_simp
theorem cv_m64 (n : Int) (W : World) : (convert 2 47 (.int .i64 n)).run Tryd.prog W = .ok (.int .u64 ((m64 n : Nat) : Int)) W := by
  have e : IntKind.u64.wrap n = ((m64 n : Nat) : Int) := by
    have e1 : IntKind.u64.wrap n = n % 18446744073709551616 := by simp [IntKind.wrap, IntKind.bits, IntKind.signed]
    rw [e1]
    unfold m64
    omega
  go_simp
theorem m64_lt (n : Int) : m64 n < 18446744073709551616 := by unfold m64; omega
/-- Does a number not fit into so many bytes and one? -/
def noFit (n : Int) (k : Nat) : Prop := n < -(pwD (8 * (k + 1) - 1)) ∨ pwD (8 * (k + 1) - 1) ≤ n
theorem noFit_iff (n : Int) (k : Nat) : fitsD n (k + 1) = true ↔ ¬ noFit n k := by
  unfold fitsD noFit pwD
  rw [Bool.and_eq_true, decide_eq_true_eq, decide_eq_true_eq]
  omega
theorem size_end {n : Int} {N : Nat} (hpos : ∀ i, i < N → noFit n i) (hend : N = 7 ∨ N < 7 ∧ ¬ noFit n N) : sizeD n = N + 1 := by
  have hf : ∀ i, i < N → fitsD n (i + 1) = false := fun i hi => by
    cases e : fitsD n (i + 1) with
    | false => rfl
    | true => exact absurd (hpos i hi) ((noFit_iff n i).1 e)
  have ht : N < 7 → fitsD n (N + 1) = true := fun h7 => (noFit_iff n N).2 (by
    rcases hend with h | h
    · omega
    · exact h.2)
  have hN : N ≤ 7 := by omega
  unfold sizeD
  obtain rfl | rfl | rfl | rfl | rfl | rfl | rfl | rfl : N = 0 ∨ N = 1 ∨ N = 2 ∨ N = 3 ∨ N = 4 ∨ N = 5 ∨ N = 6 ∨ N = 7 := by omega
  · rw [if_pos (ht (by omega))]
  · rw [hf 0 (by omega), if_neg (by decide), if_pos (ht (by omega))]
  · rw [hf 0 (by omega), if_neg (by decide), hf 1 (by omega), if_neg (by decide), if_pos (ht (by omega))]
  · rw [hf 0 (by omega), if_neg (by decide), hf 1 (by omega), if_neg (by decide), hf 2 (by omega), if_neg (by decide), if_pos (ht (by omega))]
  · rw [hf 0 (by omega), if_neg (by decide), hf 1 (by omega), if_neg (by decide), hf 2 (by omega), if_neg (by decide), hf 3 (by omega), if_neg (by decide), if_pos (ht (by omega))]
  · rw [hf 0 (by omega), if_neg (by decide), hf 1 (by omega), if_neg (by decide), hf 2 (by omega), if_neg (by decide), hf 3 (by omega), if_neg (by decide), hf 4 (by omega), if_neg (by decide), if_pos (ht (by omega))]
  · rw [hf 0 (by omega), if_neg (by decide), hf 1 (by omega), if_neg (by decide), hf 2 (by omega), if_neg (by decide), hf 3 (by omega), if_neg (by decide), hf 4 (by omega), if_neg (by decide), hf 5 (by omega), if_neg (by decide), if_pos (ht (by omega))]
  · rw [hf 0 (by omega), if_neg (by decide), hf 1 (by omega), if_neg (by decide), hf 2 (by omega), if_neg (by decide), hf 3 (by omega), if_neg (by decide), hf 4 (by omega), if_neg (by decide), hf 5 (by omega), if_neg (by decide), hf 6 (by omega), if_neg (by decide)]
def dvD (m : Nat) : Nat → Nat
  | 0 => m
  | k + 1 => dvD m k / 256
theorem dvD_lt {m : Nat} (h : m < 18446744073709551616) : ∀ k, dvD m k < 18446744073709551616
  | 0 => h
  | k + 1 => by have := dvD_lt h k; unfold dvD; omega
theorem dvD_div : ∀ (k m : Nat), dvD (m / 256) k = dvD m k / 256
  | 0, _ => rfl
  | k + 1, m => by show dvD (m / 256) k / 256 = dvD m k / 256 / 256; rw [dvD_div k m]
theorem be_cons : ∀ (k m : Nat), beD (k + 1) m = [byteD (dvD m k % 256)] ++ beD k m
  | 0, m => rfl
  | k + 1, m => by
    show beD (k + 1) (m / 256) ++ [byteD (m % 256)] = _
    rw [be_cons k (m / 256), dvD_div, List.append_assoc]
    rfl
theorem dvD_0 (m : Nat) : dvD m 0 = m := rfl
theorem dvD_succ (m k : Nat) : dvD m (k + 1) = dvD m k / 256 := rfl
theorem be_0 (m : Nat) : beD 0 m = [] := rfl
theorem of_nil (B : Nat) (h : Hep) (W : World) : OF B h [] (.slice none 0 0) W := ⟨OwnB.nil _ _ _, fun g hg => by cases hg⟩
attribute [local irreducible] bvs bv byteD pwD noFit m64 dvD beD wholeD
theorem zd_mul8 {k : Nat} (h : k < 100) (p q : Operand) (W : World) : (do eqGuard .mul 3 p q (.int .i64 8) (.int .i64 (k : Int)); binOp .mul 3 (.int .i64 8) (.int .i64 (k : Int)) : Sem Value).run Tryd.prog W = .ok (.int .i64 ((8 * k : Nat) : Int)) W := by
  have e : IntKind.i64.wrap (8 * (k : Int)) = ((8 * k : Nat) : Int) := by rw [IntWalk.i64_in _ (by omega)]; omega
  go_simp
set_option maxHeartbeats 4000000 in
theorem whole_any (n : Int) (w : World) (hn : -9223372036854775808 ≤ n ∧ n < 9223372036854775808) : Calls Tryd.prog 67 #[.int .i64 n] w (fun rr w' => ∃ v, rr = .returned v ∧ Below w.heap.size w w' ∧ OwnB w' w.heap.size 5 v (wholeD n)) := by
  refine calls_st (vs := [.int .i64 n]) 46 Tryd.func67 rfl Tryd.ntmps67 rfl (fun a W H => ?_)
  replace H : St 46 w a W [(0, .int .i64 n)] [] := H
  refine sqR H gs0 fun Z_ z_ => rS 1 rfl <| rN0 z_ ?_
  try clear H a W
  intro a W H
  refine sqR H gs0 fun Z_ z_ => rS 1 rfl <| rN0 z_ ?_
  try clear H a W
  intro a W H
  refine wp_seq_k (fun K3 hK3 => ?_)
  obtain ⟨N, hN7, hpos, hend⟩ := rounds_at (noFit n) 7
  refine wp_block ?_
  replace H : St 46 w a W [(3, .int .i64 ((0 + 1 : Nat) : Int)), (2, .slice none 0 0), (0, .int .i64 n)] [] := H.pick [0, 1, 2] [] rfl
  refine wp_rounds N (fun k a W => St 46 w a W [(3, .int .i64 ((k + 1 : Nat) : Int)), (2, .slice none 0 0), (0, .int .i64 n)] []) (k0 := 0) H (by omega) ?_
  try clear H a W
  intro k a W hk H
  by_cases hk2 : k < N
  · have hp_ := hpos k hk2
    have hw_ := pwD_le (s := 8 * (k + 1) - 1) (by omega)
    unfold noFit at hp_
    by_cases hlo : n < -(pwD (8 * (k + 1) - 1))
    · refine wp_seq_k (fun K4 hK4 => ?_)
      refine sqR H gs0 fun Z_ z_ => rS 1 rfl <| rV rfl (does_binOp rfl rfl rfl (zd_lss_int (k := ((k + 1 : Nat) : Int)) (m := 8) (decide_eq_true (by omega)) _ _)) <| rS 3 rfl <| rV rfl (does_binOp rfl rfl rfl (zd_mul8 (k := (k + 1)) (by omega) _ _)) <| rV rfl (does_binOp rfl rfl rfl (zd_sub_int (k := ((8 * (k + 1) : Nat) : Int)) (m := 1) (c := ((8 * (k + 1) - 1 : Nat) : Int)) (by omega) (by omega) _ _)) <| rV rfl (does_convert rfl rfl (cv_uint (by omega))) <| rV rfl (does_binOp rfl rfl rfl (zd_shl1 (s := (8 * (k + 1) - 1)) (by omega) _ _)) <| rV rfl (does_unOp rfl rfl (zd_neg (x := (pwD (8 * (k + 1) - 1))) (by omega))) <| rV rfl (does_binOp rfl rfl rfl (zd_lss_i64 (k := n) (m := (-(pwD (8 * (k + 1) - 1)))) (decide_eq_true (by omega)) _ _)) <| rS 10 rfl <| rN0 z_ ?_
      try clear H a W
      intro a W H
      refine wp_cond_true (H.ev rfl) ?_
      refine wp_skip ?_
      refine hK4 _ _ ?_
      clear hK4
      refine wp_block ?_
      refine rgP H gs0 (rS 1 rfl <| rV rfl (does_binOp rfl rfl rfl (zd_add_int (k := ((k + 1 : Nat) : Int)) (m := 1) (c := ((k + 1 + 1 : Nat) : Int)) (by omega) (by omega) _ _)) <| rK [1, 1, 1, 1, 1, 1, 1, 1, 1, 1, 1, 1, 1, 1, 1, 1, 1, 1, 1, 1, 1, 1, 1, 0] [] [] <| rS 1 rfl <| rZ0 ?_)
      try clear H a W
      intro a W H
      refine blk_normal ?_
      refine ⟨k + 1, by omega, by omega, ?_⟩
      show St 46 w a W [(3, .int .i64 ((k + 1 + 1 : Nat) : Int)), (2, .slice none 0 0), (0, .int .i64 n)] []
      exact H.pick [0, 24, 25] [] rfl
    · refine wp_seq_k (fun K6 hK6 => ?_)
      refine sqR H gs0 fun Z_ z_ => rS 1 rfl <| rV rfl (does_binOp rfl rfl rfl (zd_lss_int (k := ((k + 1 : Nat) : Int)) (m := 8) (decide_eq_true (by omega)) _ _)) <| rS 3 rfl <| rV rfl (does_binOp rfl rfl rfl (zd_mul8 (k := (k + 1)) (by omega) _ _)) <| rV rfl (does_binOp rfl rfl rfl (zd_sub_int (k := ((8 * (k + 1) : Nat) : Int)) (m := 1) (c := ((8 * (k + 1) - 1 : Nat) : Int)) (by omega) (by omega) _ _)) <| rV rfl (does_convert rfl rfl (cv_uint (by omega))) <| rV rfl (does_binOp rfl rfl rfl (zd_shl1 (s := (8 * (k + 1) - 1)) (by omega) _ _)) <| rV rfl (does_unOp rfl rfl (zd_neg (x := (pwD (8 * (k + 1) - 1))) (by omega))) <| rV rfl (does_binOp rfl rfl rfl (zd_lss_i64 (k := n) (m := (-(pwD (8 * (k + 1) - 1)))) (decide_eq_false (by omega)) _ _)) <| rS 3 rfl <| rV rfl (does_binOp rfl rfl rfl (zd_mul8 (k := (k + 1)) (by omega) _ _)) <| rV rfl (does_binOp rfl rfl rfl (zd_sub_int (k := ((8 * (k + 1) : Nat) : Int)) (m := 1) (c := ((8 * (k + 1) - 1 : Nat) : Int)) (by omega) (by omega) _ _)) <| rV rfl (does_convert rfl rfl (cv_uint (by omega))) <| rV rfl (does_binOp rfl rfl rfl (zd_shl1 (s := (8 * (k + 1) - 1)) (by omega) _ _)) <| rV rfl (does_binOp rfl rfl rfl (zd_geq_i64 (k := n) (m := (pwD (8 * (k + 1) - 1))) (decide_eq_true (by omega)) _ _)) <| rS 2 rfl <| rN0 z_ ?_
      try clear H a W
      intro a W H
      refine wp_cond_true (H.ev rfl) ?_
      refine wp_skip ?_
      refine hK6 _ _ ?_
      clear hK6
      refine wp_block ?_
      refine rgP H gs0 (rS 1 rfl <| rV rfl (does_binOp rfl rfl rfl (zd_add_int (k := ((k + 1 : Nat) : Int)) (m := 1) (c := ((k + 1 + 1 : Nat) : Int)) (by omega) (by omega) _ _)) <| rK [1, 1, 1, 1, 1, 1, 1, 1, 1, 1, 1, 1, 1, 1, 1, 1, 1, 1, 1, 1, 1, 1, 1, 0] [] [] <| rS 1 rfl <| rZ0 ?_)
      try clear H a W
      intro a W H
      refine blk_normal ?_
      refine ⟨k + 1, by omega, by omega, ?_⟩
      show St 46 w a W [(3, .int .i64 ((k + 1 + 1 : Nat) : Int)), (2, .slice none 0 0), (0, .int .i64 n)] []
      exact H.pick [0, 24, 25] [] rfl
  · obtain rfl : N = k := by omega
    rcases id hend with hend2 | hend2
    · refine wp_seq_k (fun K8 hK8 => ?_)
      refine sqR H gs0 fun Z_ z_ => rS 1 rfl <| rV rfl (does_binOp rfl rfl rfl (zd_lss_int (k := ((N + 1 : Nat) : Int)) (m := 8) (decide_eq_false (by omega)) _ _)) <| rS 19 rfl <| rK [1, 0, 0, 0, 0, 0, 0, 0, 0, 0, 0, 0, 0, 0, 0, 0, 0, 0, 0, 0, 0] [] [] <| rN0 z_ ?_
      try clear H a W
      intro a W H
      refine wp_cond_false (H.ev rfl) ?_
      refine wp_exit ?_
      repeat (with_reducible refine then_exit ?_)
      refine blk_exit ?_
      refine hK3 _ _ ?_
      clear hK3
      refine sqR H gs0 fun Z_ z_ => rS 1 rfl <| rK [1, 0] [] [] <| rN0 z_ ?_
      try clear H a W
      intro a W H
      refine sqR H gs0 fun Z_ z_ => rS 1 rfl <| rV rfl (does_convert rfl rfl (cv_m64 _)) <| rS 1 rfl <| rK [1, 0, 0, 1, 1, 1, 0] [] [] <| rN0 z_ ?_
      try clear H a W
      intro a W H
      refine wp_seq_k (fun K12 hK12 => ?_)
      refine sqR H gs0 fun Z_ z_ => rS 1 rfl <| rN0 z_ ?_
      try clear H a W
      intro a W H
      refine wp_block ?_
      have hS := size_end hpos hend
      rw [← dvD_0 (m64 n)] at H
      replace H : St 46 w a W [(6, .int .i64 ((0 : Nat) : Int)), (5, .int .u64 ((dvD (m64 n) 0 : Nat) : Int)), (4, .slice none 0 0), (3, .int .i64 ((N + 1 : Nat) : Int)), (2, .slice none 0 0)] [] := H.pick [0, 1, 2, 3, 4] [] rfl
      refine wp_rounds (N + 1) (fun k a W => ∃ vo, OF w.heap.size [] (beD k (m64 n)) vo W ∧ St 46 w a W [(6, .int .i64 ((k : Nat) : Int)), (5, .int .u64 ((dvD (m64 n) k : Nat) : Int)), (4, vo), (3, .int .i64 ((N + 1 : Nat) : Int)), (2, .slice none 0 0)] []) (k0 := 0) (show ∃ vo, OF w.heap.size [] (beD 0 (m64 n)) vo W ∧ St 46 w a W [(6, .int .i64 ((0 : Nat) : Int)), (5, .int .u64 ((dvD (m64 n) 0 : Nat) : Int)), (4, vo), (3, .int .i64 ((N + 1 : Nat) : Int)), (2, .slice none 0 0)] [] from ⟨_, (by rw [be_0]; exact of_nil _ _ _), H⟩) (by omega) ?_
      try clear H a W
      intro k a W hk H_
      obtain ⟨vo, hout, H⟩ := H_
      by_cases hk2 : k < (N + 1)
      · have hlt_ := dvD_lt (m64_lt n) k
        refine wp_seq_k (fun K14 hK14 => ?_)
        refine sqR H (gsC hout gs0) fun Z_ z_ => rS 2 rfl <| rV rfl (does_binOp rfl rfl rfl (zd_lss_int (k := ((k : Nat) : Int)) (m := ((N + 1 : Nat) : Int)) (decide_eq_true (by omega)) _ _)) <| rN z_ ?_
        try clear hout H a W
        rintro a W H ⟨hout, -⟩
        refine wp_cond_true (H.ev rfl) ?_
        refine wp_skip ?_
        refine hK14 _ _ ?_
        clear hK14
        refine wp_seq_k (fun K16 hK16 => ?_)
        refine wp_block ?_
        refine wp_seq_k (fun K17 hK17 => ?_)
        refine rgP H (gsC hout gs0) (rS 1 rfl <| rV rfl (does_binOp rfl rfl rfl (ud_rem (k := (dvD (m64 n) k)) (m := 256) (by omega) (by omega) _ _)) <| rV rfl (does_convert rfl rfl (cv_uD (by omega))) <| rO rfl (fun a W H _ => ob_byteOF (x := (byteD ((dvD (m64 n) k) % 256))) H (wanted_none rfl) rfl rfl) fun v40 => rS 1 rfl <| rI ?_)
        try clear hout H a W
        rintro a W H ⟨hv40, hout, -⟩
        refine pl_R (R := (WR w.heap.size [])) (F := OF w.heap.size [] ([(byteD ((dvD (m64 n) k) % 256))] ++ (beD k (m64 n)))) wr_st (ob_appW H (wanted_none rfl) rfl rfl rfl hv40 hout.bf (by simp only [List.length_append, List.length_cons, List.length_nil, be_len]; omega)) rfl rfl rfl H ?_
        try clear H a
        intro v42 a W hv42 hR_ H
        clear hR_
        replace H : St 46 w a W [(42, v42), (41, vo), (40, v40), (39, bv (byteD ((dvD (m64 n) k) % 256))), (38, .int .u64 (((dvD (m64 n) k) % 256 : Nat) : Int)), (37, .int .u64 ((dvD (m64 n) k : Nat) : Int)), (34, .bool true), (33, .int .i64 ((N + 1 : Nat) : Int)), (32, .int .i64 ((k : Nat) : Int)), (6, .int .i64 ((k : Nat) : Int)), (5, .int .u64 ((dvD (m64 n) k : Nat) : Int)), (4, vo), (3, .int .i64 ((N + 1 : Nat) : Int)), (2, .slice none 0 0)] [] := H
        refine rgO H (gsC hv42 gs0) (rK [1, 1, 1, 1, 1, 1, 1, 1, 1, 1, 1, 0] [] [] <| rS 1 rfl <| rZ ?_)
        try clear hv42 H a W
        rintro a W H ⟨hv42, -⟩
        refine hK17 _ _ ?_
        clear hK17
        refine rgP H (gsC hv42 gs0) (rS 1 rfl <| rV rfl (does_binOp rfl rfl rfl (ud_quo (k := (dvD (m64 n) k)) (m := 256) (by omega) (by omega) _ _)) <| rK [1, 1, 1, 1, 1, 1, 1, 1, 1, 1, 1, 1, 1, 0] [] [] <| rS 1 rfl <| rZ ?_)
        try clear hv42 H a W
        rintro a W H ⟨hv42, -⟩
        refine blk_normal ?_
        refine hK16 _ _ ?_
        clear hK16
        refine rgP H (gsC hv42 gs0) (rS 1 rfl <| rV rfl (does_binOp rfl rfl rfl (zd_add_int (k := ((k : Nat) : Int)) (m := 1) (c := ((k + 1 : Nat) : Int)) (by omega) (by omega) _ _)) <| rK [1, 1, 1, 1, 1, 1, 1, 1, 1, 1, 1, 1, 1, 1, 1, 0] [] [] <| rS 1 rfl <| rZ ?_)
        try clear hv42 H a W
        rintro a W H ⟨hv42, -⟩
        refine ⟨k + 1, by omega, by omega, ?_⟩
        show ∃ vo, OF w.heap.size [] (beD (k + 1) (m64 n)) vo W ∧ St 46 w a W [(6, .int .i64 ((k + 1 : Nat) : Int)), (5, .int .u64 ((dvD (m64 n) (k + 1) : Nat) : Int)), (4, vo), (3, .int .i64 ((N + 1 : Nat) : Int)), (2, .slice none 0 0)] []
        refine ⟨_, (by rw [be_cons]; exact hv42), ?_⟩
        rw [dvD_succ]
        exact H.pick [0, 3, 6, 16, 17] [] rfl
      · obtain rfl : (N + 1) = k := by omega
        refine wp_seq_k (fun K18 hK18 => ?_)
        refine sqR H (gsC hout gs0) fun Z_ z_ => rS 2 rfl <| rV rfl (does_binOp rfl rfl rfl (zd_lss_int (k := (((N + 1) : Nat) : Int)) (m := ((N + 1 : Nat) : Int)) (decide_eq_false (by omega)) _ _)) <| rK [1, 0, 0, 1, 1, 1, 0] [] [] <| rN z_ ?_
        try clear hout H a W
        rintro a W H ⟨hout, -⟩
        refine wp_cond_false (H.ev rfl) ?_
        refine wp_exit ?_
        repeat (with_reducible refine then_exit ?_)
        refine blk_exit ?_
        refine hK12 _ _ ?_
        clear hK12
        refine sqR H (gsC hout gs0) fun Z_ z_ => rS 1 rfl <| rK [1, 1, 1, 1, 1, 0] [] [] <| rS 1 rfl <| rK [1, 0, 0, 0, 0, 0] [] [] <| rN z_ ?_
        try clear hout H a W
        rintro a W H ⟨hout, -⟩
        refine wp_ret ?_
        repeat (first | (with_reducible refine then_ret ?_) | (with_reducible refine blk_ret ?_))
        refine end_tmp (p := 2) rfl rfl H (fun hb => ?_)
        exact ⟨_, rfl, hb, by rw [wholeD, hS]; exact hout.1⟩
    · have hw_ := pwD_le (s := 8 * (N + 1) - 1) (by omega)
      have hf_ := hend2.2
      unfold noFit at hf_
      refine wp_seq_k (fun K21 hK21 => ?_)
      refine sqR H gs0 fun Z_ z_ => rS 1 rfl <| rV rfl (does_binOp rfl rfl rfl (zd_lss_int (k := ((N + 1 : Nat) : Int)) (m := 8) (decide_eq_true (by omega)) _ _)) <| rS 3 rfl <| rV rfl (does_binOp rfl rfl rfl (zd_mul8 (k := (N + 1)) (by omega) _ _)) <| rV rfl (does_binOp rfl rfl rfl (zd_sub_int (k := ((8 * (N + 1) : Nat) : Int)) (m := 1) (c := ((8 * (N + 1) - 1 : Nat) : Int)) (by omega) (by omega) _ _)) <| rV rfl (does_convert rfl rfl (cv_uint (by omega))) <| rV rfl (does_binOp rfl rfl rfl (zd_shl1 (s := (8 * (N + 1) - 1)) (by omega) _ _)) <| rV rfl (does_unOp rfl rfl (zd_neg (x := (pwD (8 * (N + 1) - 1))) (by omega))) <| rV rfl (does_binOp rfl rfl rfl (zd_lss_i64 (k := n) (m := (-(pwD (8 * (N + 1) - 1)))) (decide_eq_false (by omega)) _ _)) <| rS 3 rfl <| rV rfl (does_binOp rfl rfl rfl (zd_mul8 (k := (N + 1)) (by omega) _ _)) <| rV rfl (does_binOp rfl rfl rfl (zd_sub_int (k := ((8 * (N + 1) : Nat) : Int)) (m := 1) (c := ((8 * (N + 1) - 1 : Nat) : Int)) (by omega) (by omega) _ _)) <| rV rfl (does_convert rfl rfl (cv_uint (by omega))) <| rV rfl (does_binOp rfl rfl rfl (zd_shl1 (s := (8 * (N + 1) - 1)) (by omega) _ _)) <| rV rfl (does_binOp rfl rfl rfl (zd_geq_i64 (k := n) (m := (pwD (8 * (N + 1) - 1))) (decide_eq_false (by omega)) _ _)) <| rS 2 rfl <| rK [1, 0, 0, 0, 0, 0, 0, 0, 0, 0, 0, 0, 0, 0, 0, 0, 0, 0, 0, 0, 0] [] [] <| rN0 z_ ?_
      try clear H a W
      intro a W H
      refine wp_cond_false (H.ev rfl) ?_
      refine wp_exit ?_
      repeat (with_reducible refine then_exit ?_)
      refine blk_exit ?_
      refine hK3 _ _ ?_
      clear hK3
      refine sqR H gs0 fun Z_ z_ => rS 1 rfl <| rK [1, 0] [] [] <| rN0 z_ ?_
      try clear H a W
      intro a W H
      refine sqR H gs0 fun Z_ z_ => rS 1 rfl <| rV rfl (does_convert rfl rfl (cv_m64 _)) <| rS 1 rfl <| rK [1, 0, 0, 1, 1, 1, 0] [] [] <| rN0 z_ ?_
      try clear H a W
      intro a W H
      refine wp_seq_k (fun K25 hK25 => ?_)
      refine sqR H gs0 fun Z_ z_ => rS 1 rfl <| rN0 z_ ?_
      try clear H a W
      intro a W H
      refine wp_block ?_
      have hS := size_end hpos hend
      rw [← dvD_0 (m64 n)] at H
      replace H : St 46 w a W [(6, .int .i64 ((0 : Nat) : Int)), (5, .int .u64 ((dvD (m64 n) 0 : Nat) : Int)), (4, .slice none 0 0), (3, .int .i64 ((N + 1 : Nat) : Int)), (2, .slice none 0 0)] [] := H.pick [0, 1, 2, 3, 4] [] rfl
      refine wp_rounds (N + 1) (fun k a W => ∃ vo, OF w.heap.size [] (beD k (m64 n)) vo W ∧ St 46 w a W [(6, .int .i64 ((k : Nat) : Int)), (5, .int .u64 ((dvD (m64 n) k : Nat) : Int)), (4, vo), (3, .int .i64 ((N + 1 : Nat) : Int)), (2, .slice none 0 0)] []) (k0 := 0) (show ∃ vo, OF w.heap.size [] (beD 0 (m64 n)) vo W ∧ St 46 w a W [(6, .int .i64 ((0 : Nat) : Int)), (5, .int .u64 ((dvD (m64 n) 0 : Nat) : Int)), (4, vo), (3, .int .i64 ((N + 1 : Nat) : Int)), (2, .slice none 0 0)] [] from ⟨_, (by rw [be_0]; exact of_nil _ _ _), H⟩) (by omega) ?_
      try clear H a W
      intro k a W hk H_
      obtain ⟨vo, hout, H⟩ := H_
      by_cases hk2 : k < (N + 1)
      · have hlt_ := dvD_lt (m64_lt n) k
        refine wp_seq_k (fun K27 hK27 => ?_)
        refine sqR H (gsC hout gs0) fun Z_ z_ => rS 2 rfl <| rV rfl (does_binOp rfl rfl rfl (zd_lss_int (k := ((k : Nat) : Int)) (m := ((N + 1 : Nat) : Int)) (decide_eq_true (by omega)) _ _)) <| rN z_ ?_
        try clear hout H a W
        rintro a W H ⟨hout, -⟩
        refine wp_cond_true (H.ev rfl) ?_
        refine wp_skip ?_
        refine hK27 _ _ ?_
        clear hK27
        refine wp_seq_k (fun K29 hK29 => ?_)
        refine wp_block ?_
        refine wp_seq_k (fun K30 hK30 => ?_)
        refine rgP H (gsC hout gs0) (rS 1 rfl <| rV rfl (does_binOp rfl rfl rfl (ud_rem (k := (dvD (m64 n) k)) (m := 256) (by omega) (by omega) _ _)) <| rV rfl (does_convert rfl rfl (cv_uD (by omega))) <| rO rfl (fun a W H _ => ob_byteOF (x := (byteD ((dvD (m64 n) k) % 256))) H (wanted_none rfl) rfl rfl) fun v40 => rS 1 rfl <| rI ?_)
        try clear hout H a W
        rintro a W H ⟨hv40, hout, -⟩
        refine pl_R (R := (WR w.heap.size [])) (F := OF w.heap.size [] ([(byteD ((dvD (m64 n) k) % 256))] ++ (beD k (m64 n)))) wr_st (ob_appW H (wanted_none rfl) rfl rfl rfl hv40 hout.bf (by simp only [List.length_append, List.length_cons, List.length_nil, be_len]; omega)) rfl rfl rfl H ?_
        try clear H a
        intro v42 a W hv42 hR_ H
        clear hR_
        replace H : St 46 w a W [(42, v42), (41, vo), (40, v40), (39, bv (byteD ((dvD (m64 n) k) % 256))), (38, .int .u64 (((dvD (m64 n) k) % 256 : Nat) : Int)), (37, .int .u64 ((dvD (m64 n) k : Nat) : Int)), (34, .bool true), (33, .int .i64 ((N + 1 : Nat) : Int)), (32, .int .i64 ((k : Nat) : Int)), (6, .int .i64 ((k : Nat) : Int)), (5, .int .u64 ((dvD (m64 n) k : Nat) : Int)), (4, vo), (3, .int .i64 ((N + 1 : Nat) : Int)), (2, .slice none 0 0)] [] := H
        refine rgO H (gsC hv42 gs0) (rK [1, 1, 1, 1, 1, 1, 1, 1, 1, 1, 1, 0] [] [] <| rS 1 rfl <| rZ ?_)
        try clear hv42 H a W
        rintro a W H ⟨hv42, -⟩
        refine hK30 _ _ ?_
        clear hK30
        refine rgP H (gsC hv42 gs0) (rS 1 rfl <| rV rfl (does_binOp rfl rfl rfl (ud_quo (k := (dvD (m64 n) k)) (m := 256) (by omega) (by omega) _ _)) <| rK [1, 1, 1, 1, 1, 1, 1, 1, 1, 1, 1, 1, 1, 0] [] [] <| rS 1 rfl <| rZ ?_)
        try clear hv42 H a W
        rintro a W H ⟨hv42, -⟩
        refine blk_normal ?_
        refine hK29 _ _ ?_
        clear hK29
        refine rgP H (gsC hv42 gs0) (rS 1 rfl <| rV rfl (does_binOp rfl rfl rfl (zd_add_int (k := ((k : Nat) : Int)) (m := 1) (c := ((k + 1 : Nat) : Int)) (by omega) (by omega) _ _)) <| rK [1, 1, 1, 1, 1, 1, 1, 1, 1, 1, 1, 1, 1, 1, 1, 0] [] [] <| rS 1 rfl <| rZ ?_)
        try clear hv42 H a W
        rintro a W H ⟨hv42, -⟩
        refine ⟨k + 1, by omega, by omega, ?_⟩
        show ∃ vo, OF w.heap.size [] (beD (k + 1) (m64 n)) vo W ∧ St 46 w a W [(6, .int .i64 ((k + 1 : Nat) : Int)), (5, .int .u64 ((dvD (m64 n) (k + 1) : Nat) : Int)), (4, vo), (3, .int .i64 ((N + 1 : Nat) : Int)), (2, .slice none 0 0)] []
        refine ⟨_, (by rw [be_cons]; exact hv42), ?_⟩
        rw [dvD_succ]
        exact H.pick [0, 3, 6, 16, 17] [] rfl
      · obtain rfl : (N + 1) = k := by omega
        refine wp_seq_k (fun K31 hK31 => ?_)
        refine sqR H (gsC hout gs0) fun Z_ z_ => rS 2 rfl <| rV rfl (does_binOp rfl rfl rfl (zd_lss_int (k := (((N + 1) : Nat) : Int)) (m := ((N + 1 : Nat) : Int)) (decide_eq_false (by omega)) _ _)) <| rK [1, 0, 0, 1, 1, 1, 0] [] [] <| rN z_ ?_
        try clear hout H a W
        rintro a W H ⟨hout, -⟩
        refine wp_cond_false (H.ev rfl) ?_
        refine wp_exit ?_
        repeat (with_reducible refine then_exit ?_)
        refine blk_exit ?_
        refine hK25 _ _ ?_
        clear hK25
        refine sqR H (gsC hout gs0) fun Z_ z_ => rS 1 rfl <| rK [1, 1, 1, 1, 1, 0] [] [] <| rS 1 rfl <| rK [1, 0, 0, 0, 0, 0] [] [] <| rN z_ ?_
        try clear hout H a W
        rintro a W H ⟨hout, -⟩
        refine wp_ret ?_
        repeat (first | (with_reducible refine then_ret ?_) | (with_reducible refine blk_ret ?_))
        refine end_tmp (p := 2) rfl rfl H (fun hb => ?_)
        exact ⟨_, rfl, hb, by rw [wholeD, hS]; exact hout.1⟩
end Go.Proofs.YtiafcgoiolbdhaaDoor
namespace Go.Proofs.YtiafcgoiolbdhaaDoor
set_option linter.unusedVariables false
set_option linter.unusedSimpArgs false
set_option maxRecDepth 100000
open Go Go.RowKit
section
variable {n : Nat} {w0 w : World} {a : Act} {e : Env} {h : Hep} {Q : Exit → Act → World → Prop} {ops : Array Oper} {o : Oper}
/-- '[]byte(s)'. -/
theorem ob_ofStrD {x : Operand} {l : List UInt8} (H : St n w0 a w e h) (hw : ∀ a w, St n w0 a w e h → Region.wanted o (yielded ops a.tmps) = true) (ho : o.op = .convert 9 23 x) (hx : sev e x = some (.string (strB l))) : ObS Tryd.prog ops Q o a w (BF l) := by
  have hr := run_bytes_of_string (P := Tryd.prog) w 9 23 5 (strB l) Tryd.underlying9 Tryd.underlying23 Tryd.underlying5
  refine ob_runR H hw ⟨.slice (some ⟨w.heap.size, 0, none⟩) (strB l).size (grownCap w (strB l).size 0 5), w.drew.alloc (.cells (bytesRow (strB l) (grownCap w (strB l).size 0 5)) 5 ((bytesRow (strB l) (grownCap w (strB l).size 0 5)).size, (bytesRow (strB l) (grownCap w (strB l).size 0 5)).size + 1)), ?_, (Below.refl _ _).drew.alloc (Nat.le_refl _) _, ⟨_, _, _, rfl, (strB_size l).symm, grownCap_ge w _ 0 5, (fun e => by cases e), fun _ => ⟨w.heap.size, 0, rfl, by simp, fun j y hy => ?_⟩⟩⟩
  · simp [execOp, ho, H.ev hx, hr, Result.andThen]
  · have hj : j < (strB l).data.size := by
      have := (List.getElem?_eq_some_iff.1 hy).1
      simpa [strB] using this
    have hc := bytesRow_at (strB l) (grownCap w (strB l).size 0 5) j hj
    rw [Nat.zero_add, cell_of_row _ w.heap.size j _ 5 _ (heap_alloc_new w.drew _), hc]
    have h2 : l[j]? = some ((strB l).data[j]) := by
      have := List.getElem?_eq_getElem (l := l) (i := j) (by simpa [strB] using hj)
      rw [this]
      rfl
    rw [hy] at h2
    injection h2 with h2
    rw [h2]
end
theorem of_call {n : Nat} {w0 w : World} {a : Act} {e : Env} {h : Hep} {f : FuncId} {vs : Array Value} {l : List UInt8} (H : St n w0 a w e h) (hc : Calls Tryd.prog f vs w (fun r W' => ∃ v, r = .returned v ∧ Below w.heap.size w W' ∧ OwnB W' w.heap.size 5 v l)) :
    Calls Tryd.prog f vs w (fun r W' => ∃ v, r = .returned v ∧ Below w.heap.size w W' ∧ OF w0.heap.size h l v W') := by
  refine hc.mono ?_
  rintro r W' ⟨v, rfl, hb, ho⟩
  refine ⟨v, rfl, hb, ⟨ho.1, ho.2.imp id ?_⟩, fun g hg p hp => ?_⟩
  · rintro ⟨g, cap, cur, rfl, h1, r⟩
    exact ⟨g, cap, cur, rfl, Nat.le_trans H.below.size h1, r⟩
  · exact Nat.ne_of_lt (Nat.lt_of_lt_of_le (H.heap p hp).lt (ho.own hg).1)
theorem cv_tagD {z : Int} (h0 : 0 ≤ z ∧ z < 256) (W : World) : (convert 3 5 (.int .i64 z)).run Tryd.prog W = .ok (bv (byteD z.toNat)) W := by
  obtain ⟨j, rfl⟩ := Int.eq_ofNat_of_zero_le h0.1
  rw [Int.toNat_natCast]
  exact cv_iD (by omega) W
theorem tagD_lt (k n : Int) : 0 ≤ tagD k n ∧ tagD k n < 256 := by
  have h31 := tmod31 n
  by_cases h8 : k = 8
  · subst h8
    rw [tagD_8]
    omega
  · by_cases h : k < 1 ∨ 11 ≤ k
    · rw [tagD_out h]
      omega
    · obtain rfl | rfl | rfl | rfl | rfl | rfl | rfl | rfl | rfl : k = 1 ∨ k = 2 ∨ k = 3 ∨ k = 4 ∨ k = 5 ∨ k = 6 ∨ k = 7 ∨ k = 9 ∨ k = 10 := by omega
      all_goals simp [tagD]
theorem zd_rem {k m : Nat} (h : k < 9223372036854775808) (hm : 0 < m) (p q : Operand) (W : World) : (do eqGuard .rem 3 p q (.int .i64 (k : Int)) (.int .i64 (m : Int)); binOp .rem 3 (.int .i64 (k : Int)) (.int .i64 (m : Int)) : Sem Value).run Tryd.prog W = .ok (.int .i64 ((k % m : Nat) : Int)) W := by
  have e0 : ∀ d : Nat, d ≤ k → IntKind.i64.wrap (d : Int) = d := fun d hd => IntWalk.i64_in _ (by omega)
  have h2 : k % m ≤ k := Nat.mod_le k m
  have h3 : ((k % m : Nat) : Int) = (k : Int) % (m : Int) := Int.natCast_emod k m
  have e1 : ((k : Int)).tmod (m : Int) = (k : Int) % (m : Int) := Int.tmod_eq_emod_of_nonneg (by omega)
  have e : IntKind.i64.wrap ((k : Int) % (m : Int)) = (k : Int) % (m : Int) := by rw [← h3]; exact e0 _ h2
  have h0 : ¬ m = 0 := by omega
  go_simp
theorem ud_mul40 {m : Nat} (h : m < 100000000000) (p q : Operand) (W : World) : (do eqGuard .mul 47 p q (.int .u64 40) (.int .u64 (m : Int)); binOp .mul 47 (.int .u64 40) (.int .u64 (m : Int)) : Sem Value).run Tryd.prog W = .ok (.int .u64 ((40 * m : Nat) : Int)) W := by
  have e : IntKind.u64.wrap (40 * (m : Int)) = ((40 * m : Nat) : Int) := by rw [IntWalk.u64_in _ (by omega)]; omega
  go_simp
def arL (a : List Nat) (k : Nat) : List UInt8 := groupsD (40 * a.getD 0 0 + a.getD 1 0) ++ ((a.drop 2).take k).flatMap groupsD
theorem arL_0 (a : List Nat) : arL a 0 = groupsD (40 * a.getD 0 0 + a.getD 1 0) := by simp [arL]
theorem arL_succ {a : List Nat} {k : Nat} (h : k + 2 < a.length) : arL a (k + 1) = arL a k ++ groupsD (a.getD (k + 2) 0) := by
  have e : (a.drop 2)[k]? = some (a.getD (k + 2) 0) := by
    rw [List.getElem?_drop, show 2 + k = k + 2 by omega, List.getD_eq_getElem?_getD, List.getElem?_eq_getElem h]
    rfl
  unfold arL
  rw [List.take_add_one, e, Option.toList_some, List.flatMap_append, List.append_assoc]
  simp
theorem arL_all {a : List Nat} (h : 2 ≤ a.length) : arL a (a.length - 2) = oidD a := by
  rcases a with _ | ⟨x, _ | ⟨y, r⟩⟩
  · simp at h
  · simp at h
  · simp [arL, oidD]
theorem hi_len : ∀ (j m : Nat), m < 128 ^ j → (hiD m).length ≤ j
  | 0, m, h => by
    rw [hiD, dif_pos (by simp at h; omega)]
    exact Nat.zero_le _
  | j + 1, m, h => by
    by_cases h0 : m = 0
    · rw [hiD, dif_pos h0]
      exact Nat.zero_le _
    · rw [hiD, dif_neg h0, List.length_append, List.length_singleton]
      have := hi_len j (m / 128) (by rw [Nat.pow_succ] at h; exact Nat.div_lt_of_lt_mul (by rw [Nat.mul_comm]; exact h))
      omega
theorem groups_len {n : Nat} (h : n < 18446744073709551616) : (groupsD n).length ≤ 11 := by
  unfold groupsD
  rw [List.length_append, List.length_singleton]
  have := hi_len 10 (n / 128) (by omega)
  omega
theorem arL_len {a : List Nat} (ha : ∀ x ∈ a, x < 18446744073709551616) (hs : 40 * a.getD 0 0 + a.getD 1 0 < 18446744073709551616) : ∀ k, (arL a k).length ≤ 11 * (k + 1) := by
  intro k
  have e : ∀ (l : List Nat), (∀ x ∈ l, x < 18446744073709551616) → (l.flatMap groupsD).length ≤ 11 * l.length := fun l hl => by
    induction l with
    | nil => exact Nat.le_refl _
    | cons x r ih =>
      rw [List.flatMap_cons, List.length_append, List.length_cons]
      have h1 := groups_len (hl x List.mem_cons_self)
      have h2 := ih (fun y hy => hl y (List.mem_cons_of_mem _ hy))
      omega
  unfold arL
  rw [List.length_append]
  have h1 := groups_len hs
  have h2 := e ((a.drop 2).take k) (fun x hx => ha x (List.mem_of_mem_drop (List.mem_of_mem_take hx)))
  have h3 : ((a.drop 2).take k).length ≤ k := by rw [List.length_take]; omega
  omega
def kkL (kk : Nat → List UInt8) (n : Nat) : List UInt8 := (List.range n).flatMap kk
theorem kkL_0 (kk : Nat → List UInt8) : kkL kk 0 = [] := rfl
theorem kkL_succ (kk : Nat → List UInt8) (n : Nat) : kkL kk (n + 1) = kkL kk n ++ kk n := by
  unfold kkL
  rw [List.range_succ, List.flatMap_append]
  simp
theorem kkL_le (kk : Nat → List UInt8) {k n : Nat} (h : k ≤ n) : (kkL kk k).length ≤ (kkL kk n).length := by
  induction n with
  | zero =>
    obtain rfl : k = 0 := by omega
    exact Nat.le_refl _
  | succ n ih =>
    by_cases e : k = n + 1
    · subst e
      exact Nat.le_refl _
    · rw [kkL_succ, List.length_append]
      have := ih (by omega)
      omega
def ownC (k : Int) (f : Bool) (n : Int) (b t : List UInt8) (a : List Nat) : List UInt8 := if k = 1 then [if f then 255 else 0] else if k = 2 then wholeD n else if k = 3 then 0 :: b else if k = 4 then b else if k = 5 then oidD a else if k = 6 ∨ k = 10 then t else []
theorem contD_eq (k : Int) (f : Bool) (n : Int) (b t : List UInt8) (a : List Nat) (kk : List UInt8) : contD k f n b t a kk = ownC k f n b t a ++ kk := rfl
attribute [local irreducible] bvs byteD groupsD m64 dvD beD wholeD arL kkL oidD
set_option maxHeartbeats 4000000 in
theorem content_walk {x : DH} {sub : Nat → DH} {g o gx ox : Nat} {lb : List UInt8} {la : List Nat} (kk : Nat → List UInt8) (w : World) (hxn : -9223372036854775808 ≤ x.n ∧ x.n < 9223372036854775808) (hx : x.b.n < 9223372036854775808 ∧ x.t.length < 9223372036854775808 ∧ x.a.n < 9223372036854775808 ∧ x.ks.n < 9223372036854775808) (hbx : BF lb (.slice x.b.A x.b.n x.b.c) w) (hlb : lb.length ≤ 900000) (hla : la.length = x.a.n) (hal : ∀ y ∈ la, y < 18446744073709551616) (hgl : ∀ i, la.getD i 0 < 18446744073709551616) (hao : x.k = 5 → 2 ≤ x.a.n ∧ x.a.n ≤ 16 ∧ la.getD 0 0 ≤ 2 ∧ la.getD 1 0 < 2147483648) (hax : 0 < x.a.n → x.a.A = some ⟨gx, ox, none⟩ ∧ gx < w.heap.size ∧ ∀ i, i < x.a.n → w.cell? ⟨gx, ox + i, none⟩ = some (.int .u64 ((la.getD i 0 : Nat) : Int))) (hA : 0 < x.ks.n → x.ks.A = some ⟨g, o, none⟩ ∧ g < w.heap.size ∧ ∀ i, i < x.ks.n → ∀ (j : Nat) (v : Value), (sub i).cs[j]? = some v → w.cell? ⟨g, o + i * 7 + j, none⟩ = some v) (hleaf : x.k = 7 ∨ x.k = 8 ∨ x.k = 9 ∨ x.ks.n = 0) (hkl : (kkL kk x.ks.n).length ≤ 900000) (hpk : ∀ k, k < x.ks.n → ∀ W, Below w.heap.size w W → Calls Tryd.prog 32 #[.agg (sub k).cs] W (fun r W' => ∃ v, r = .returned v ∧ Below W.heap.size W W' ∧ BF (kk k) v W')) : Calls Tryd.prog 48 #[.agg (x.cs)] w (fun rr w' => ∃ v, rr = .returned v ∧ Below w.heap.size w w' ∧ BF (contD x.k x.f x.n lb x.t la (kkL kk x.ks.n)) v w') := by
  refine calls_st (vs := [.agg (x.cs)]) 79 Tryd.func48 rfl Tryd.ntmps48 rfl (fun a W H => ?_)
  replace H : St 79 w a W [(0, .agg (x.cs))] [] := H
  refine sqR H gs0 fun Z_ z_ => rB rfl rfl rfl (bx_der x) fun g1 => rS 1 rfl <| rK [1, 1, 0] [] [] <| rN0 z_ ?_
  try clear H a W
  intro a W H
  refine sqR H gs0 fun Z_ z_ => rS 1 rfl <| rN0 z_ ?_
  try clear H a W
  intro a W H
  refine wp_seq_k (fun K3 hK3 => ?_)
  refine sqR H gs0 fun Z_ z_ => rV rfl (does_fieldAddr rfl rfl fa_der0) <| rV rfl (does_loadAt (v := .int .i64 x.k) rfl rfl (k := 0) rfl ld_derK) <| rK [1, 0] [] [] <| rN0 z_ ?_
  try clear H a W
  intro a W H
  refine wp_block ?_
  refine sqR H gs0 fun Z_ z_ => rV rfl (does_binOp rfl rfl rfl (zd_eql_derkind (k := x.k) (m := 1) rfl _ _)) <| rS 1 rfl <| rK [1, 0] [] [] <| rN0 z_ ?_
  try clear H a W
  intro a W H
  cases hq1 : decide (x.k = 1) with
  | true =>
    rw [hq1] at H
    have hq1p := of_decide_eq_true hq1
    refine wp_cond_true (H.ev rfl) ?_
    refine sqR H gs0 fun Z_ z_ => rO rfl (fun a W H _ => ob_byteOF (x := 0) H (wanted_none rfl) rfl rfl) fun v10 => rK [1, 1, 1, 0] [] [] <| rS 1 rfl <| rK [1, 0, 0, 0] [] [] <| rN z_ ?_
    try clear H a W
    rintro a W H ⟨hv10, -⟩
    refine sqR H (gsC hv10 gs0) fun Z_ z_ => rV rfl (does_fieldAddr rfl rfl fa_der1) <| rV rfl (does_loadAt (v := .bool x.f) rfl rfl (k := 0) rfl (ld_derFb rfl)) <| rK [1, 0] [] [] <| rN z_ ?_
    try clear hv10 H a W
    rintro a W H ⟨hv10, -⟩
    cases hq2 : x.f with
    | true =>
      rw [hq2] at H
      refine wp_cond_true (H.ev rfl) ?_
      refine rgP H (gsC hv10 gs0) (rO rfl (fun a W H _ => ob_byteOF (x := 255) H (wanted_none rfl) rfl rfl) fun v13 => rK [1, 1, 0] [] [] <| rS 1 rfl <| rK [1, 0, 0] [] [1, 0] <| rZ ?_)
      try clear hv10 H a W
      rintro a W H ⟨hv13, -⟩
      refine blk_normal ?_
      refine hK3 _ _ ?_
      clear hK3
      refine wp_seq_k (fun K8 hK8 => ?_)
      refine sqR H (gsC hv13 gs0) fun Z_ z_ => rS 1 rfl <| rN z_ ?_
      try clear hv13 H a W
      rintro a W H ⟨hv13, -⟩
      have hk0 : x.ks.n = 0 := by omega
      refine wp_block ?_
      refine wp_rounds 0 (fun k a W => ∃ vo, BF [255] vo W ∧ St 79 w a W [(5, .int .i64 ((0 : Nat) : Int)), (3, vo), (2, .slice none 0 0), (1, .pointer (some ⟨g1, 0, none⟩))] [(g1, 27, x.cs)]) (k0 := 0) ⟨_, hv13.bf, H.pick [0, 1, 2, 3] [0] rfl⟩ (by omega) ?_
      try clear H a W
      rintro k a W hk ⟨vo, hout, H⟩
      obtain rfl : k = 0 := by omega
      refine wp_seq_k (fun K10 hK10 => ?_)
      refine sqR H (gsC hout gs0) fun Z_ z_ => rS 1 rfl <| rV rfl (does_fieldAddr rfl rfl fa_der6) <| rV rfl (does_loadAt (v := .slice x.ks.A x.ks.n x.ks.c) rfl rfl (k := 0) rfl ld_derS) <| rV rfl (does_len Tryd.underlying25 rfl rfl) <| rV rfl (does_binOp rfl rfl rfl (zd_lss_int (k := ((0 : Nat) : Int)) (m := ((x.ks.n : Nat) : Int)) (decide_eq_false (by omega)) _ _)) <| rK [1, 0, 0, 0, 0] [] [] <| rN z_ ?_
      try clear hout H a W
      rintro a W H ⟨hout, -⟩
      refine wp_cond_false (H.ev rfl) ?_
      refine wp_exit ?_
      repeat (with_reducible refine then_exit ?_)
      refine blk_exit ?_
      refine hK8 _ _ ?_
      clear hK8
      refine sqR H (gsC hout gs0) fun Z_ z_ => rS 1 rfl <| rK [1, 1, 1, 1, 0] [] [] <| rS 1 rfl <| rK [1, 0, 0, 0, 0, 0] [0] [] <| rN z_ ?_
      try clear hout H a W
      rintro a W H ⟨hout, -⟩
      refine wp_ret ?_
      repeat (first | (with_reducible refine then_ret ?_) | (with_reducible refine blk_ret ?_))
      refine end_tmp (p := 2) rfl rfl H (fun hb => ?_)
      refine ⟨_, rfl, hb, ?_⟩
      rw [hk0, kkL_0, contD_eq, List.append_nil]
      have e_ : ownC x.k x.f x.n lb x.t la = [255] := by unfold ownC; rw [if_pos (by omega)]; rw [hq2]; rfl
      rw [e_]
      exact hout
    | false =>
      rw [hq2] at H
      refine wp_cond_false (H.ev rfl) ?_
      refine wp_skip ?_
      refine blk_normal ?_
      refine hK3 _ _ ?_
      clear hK3
      refine wp_seq_k (fun K13 hK13 => ?_)
      refine sqR H (gsC hv10 gs0) fun Z_ z_ => rS 1 rfl <| rK [1, 0] [] [] <| rN z_ ?_
      try clear hv10 H a W
      rintro a W H ⟨hv10, -⟩
      have hk0 : x.ks.n = 0 := by omega
      refine wp_block ?_
      refine wp_rounds 0 (fun k a W => ∃ vo, BF [0] vo W ∧ St 79 w a W [(5, .int .i64 ((0 : Nat) : Int)), (3, vo), (2, .slice none 0 0), (1, .pointer (some ⟨g1, 0, none⟩))] [(g1, 27, x.cs)]) (k0 := 0) ⟨_, hv10.bf, H.pick [0, 1, 2, 3] [0] rfl⟩ (by omega) ?_
      try clear H a W
      rintro k a W hk ⟨vo, hout, H⟩
      obtain rfl : k = 0 := by omega
      refine wp_seq_k (fun K15 hK15 => ?_)
      refine sqR H (gsC hout gs0) fun Z_ z_ => rS 1 rfl <| rV rfl (does_fieldAddr rfl rfl fa_der6) <| rV rfl (does_loadAt (v := .slice x.ks.A x.ks.n x.ks.c) rfl rfl (k := 0) rfl ld_derS) <| rV rfl (does_len Tryd.underlying25 rfl rfl) <| rV rfl (does_binOp rfl rfl rfl (zd_lss_int (k := ((0 : Nat) : Int)) (m := ((x.ks.n : Nat) : Int)) (decide_eq_false (by omega)) _ _)) <| rK [1, 0, 0, 0, 0] [] [] <| rN z_ ?_
      try clear hout H a W
      rintro a W H ⟨hout, -⟩
      refine wp_cond_false (H.ev rfl) ?_
      refine wp_exit ?_
      repeat (with_reducible refine then_exit ?_)
      refine blk_exit ?_
      refine hK13 _ _ ?_
      clear hK13
      refine sqR H (gsC hout gs0) fun Z_ z_ => rS 1 rfl <| rK [1, 1, 1, 1, 0] [] [] <| rS 1 rfl <| rK [1, 0, 0, 0, 0, 0] [0] [] <| rN z_ ?_
      try clear hout H a W
      rintro a W H ⟨hout, -⟩
      refine wp_ret ?_
      repeat (first | (with_reducible refine then_ret ?_) | (with_reducible refine blk_ret ?_))
      refine end_tmp (p := 2) rfl rfl H (fun hb => ?_)
      refine ⟨_, rfl, hb, ?_⟩
      rw [hk0, kkL_0, contD_eq, List.append_nil]
      have e_ : ownC x.k x.f x.n lb x.t la = [0] := by unfold ownC; rw [if_pos (by omega)]; rw [hq2]; rfl
      rw [e_]
      exact hout
  | false =>
    rw [hq1] at H
    have hq1p := of_decide_eq_false hq1
    refine wp_cond_false (H.ev rfl) ?_
    refine sqR H gs0 fun Z_ z_ => rV rfl (does_binOp rfl rfl rfl (zd_eql_derkind (k := x.k) (m := 2) rfl _ _)) <| rS 1 rfl <| rK [1, 0, 0] [] [] <| rN0 z_ ?_
    try clear H a W
    intro a W H
    cases hq3 : decide (x.k = 2) with
    | true =>
      rw [hq3] at H
      have hq3p := of_decide_eq_true hq3
      refine wp_cond_true (H.ev rfl) ?_
      refine rgP H gs0 (rV rfl (does_fieldAddr rfl rfl fa_der2) <| rV rfl (does_loadAt (v := .int .i64 x.n) rfl rfl (k := 0) rfl ld_derN) <| rC rfl rfl ⟨_, Tryd.func67, by kernel_rfl⟩ rfl (fun a W H _ => (of_call H (whole_any x.n _ hxn))) fun v18 => rK [1, 1, 1, 1, 1, 0] [] [] <| rS 1 rfl <| rK [1, 0, 0, 0, 0, 0] [] [] <| rZ ?_)
      try clear H a W
      rintro a W H ⟨hv18, -⟩
      refine blk_normal ?_
      refine hK3 _ _ ?_
      clear hK3
      refine wp_seq_k (fun K19 hK19 => ?_)
      refine sqR H (gsC hv18 gs0) fun Z_ z_ => rS 1 rfl <| rN z_ ?_
      try clear hv18 H a W
      rintro a W H ⟨hv18, -⟩
      have hk0 : x.ks.n = 0 := by omega
      refine wp_block ?_
      refine wp_rounds 0 (fun k a W => ∃ vo, BF (wholeD x.n) vo W ∧ St 79 w a W [(5, .int .i64 ((0 : Nat) : Int)), (3, vo), (2, .slice none 0 0), (1, .pointer (some ⟨g1, 0, none⟩))] [(g1, 27, x.cs)]) (k0 := 0) ⟨_, hv18.bf, H.pick [0, 1, 2, 3] [0] rfl⟩ (by omega) ?_
      try clear H a W
      rintro k a W hk ⟨vo, hout, H⟩
      obtain rfl : k = 0 := by omega
      refine wp_seq_k (fun K21 hK21 => ?_)
      refine sqR H (gsC hout gs0) fun Z_ z_ => rS 1 rfl <| rV rfl (does_fieldAddr rfl rfl fa_der6) <| rV rfl (does_loadAt (v := .slice x.ks.A x.ks.n x.ks.c) rfl rfl (k := 0) rfl ld_derS) <| rV rfl (does_len Tryd.underlying25 rfl rfl) <| rV rfl (does_binOp rfl rfl rfl (zd_lss_int (k := ((0 : Nat) : Int)) (m := ((x.ks.n : Nat) : Int)) (decide_eq_false (by omega)) _ _)) <| rK [1, 0, 0, 0, 0] [] [] <| rN z_ ?_
      try clear hout H a W
      rintro a W H ⟨hout, -⟩
      refine wp_cond_false (H.ev rfl) ?_
      refine wp_exit ?_
      repeat (with_reducible refine then_exit ?_)
      refine blk_exit ?_
      refine hK19 _ _ ?_
      clear hK19
      refine sqR H (gsC hout gs0) fun Z_ z_ => rS 1 rfl <| rK [1, 1, 1, 1, 0] [] [] <| rS 1 rfl <| rK [1, 0, 0, 0, 0, 0] [0] [] <| rN z_ ?_
      try clear hout H a W
      rintro a W H ⟨hout, -⟩
      refine wp_ret ?_
      repeat (first | (with_reducible refine then_ret ?_) | (with_reducible refine blk_ret ?_))
      refine end_tmp (p := 2) rfl rfl H (fun hb => ?_)
      refine ⟨_, rfl, hb, ?_⟩
      rw [hk0, kkL_0, contD_eq, List.append_nil]
      have e_ : ownC x.k x.f x.n lb x.t la = (wholeD x.n) := by unfold ownC; rw [if_neg (by omega), if_pos (by omega)]
      rw [e_]
      exact hout
    | false =>
      rw [hq3] at H
      have hq3p := of_decide_eq_false hq3
      refine wp_cond_false (H.ev rfl) ?_
      refine sqR H gs0 fun Z_ z_ => rV rfl (does_binOp rfl rfl rfl (zd_eql_derkind (k := x.k) (m := 3) rfl _ _)) <| rS 1 rfl <| rK [1, 0, 0] [] [] <| rN0 z_ ?_
      try clear H a W
      intro a W H
      cases hq4 : decide (x.k = 3) with
      | true =>
        rw [hq4] at H
        have hq4p := of_decide_eq_true hq4
        refine wp_cond_true (H.ev rfl) ?_
        refine rgP H gs0 (rO rfl (fun a W H _ => ob_byteOF (x := 0) H (wanted_none rfl) rfl rfl) fun v21 => rV rfl (does_fieldAddr rfl rfl fa_der3) <| rV rfl (does_loadAt (v := .slice x.b.A x.b.n x.b.c) rfl rfl (k := 0) rfl ld_derB) <| rI ?_)
        try clear H a W
        rintro a W H ⟨hv21, -⟩
        refine pl_R (R := (WR w.heap.size [(g1, 27, x.cs)])) (F := OF w.heap.size [(g1, 27, x.cs)] ([0] ++ lb)) wr_st (ob_appW H (wanted_none rfl) rfl rfl rfl hv21 (bf_old hbx H) (by (try simp only [List.length_append, List.length_cons, List.length_nil]); omega)) rfl rfl rfl H ?_
        try clear H a
        intro v24 a W hv24 hR_ H
        clear hR_
        replace H : St 79 w a W [(24, v24), (23, .slice x.b.A x.b.n x.b.c), (22, .pointer (some ⟨g1, 3, none⟩)), (21, v21), (19, .bool true), (7, .int .i64 x.k), (3, .slice none 0 0), (2, .slice none 0 0), (1, .pointer (some ⟨g1, 0, none⟩))] [(g1, 27, x.cs)] := H
        refine rgO H (gsC hv24 gs0) (rK [1, 1, 1, 1, 1, 1, 0] [] [] <| rS 1 rfl <| rK [1, 0, 0, 0, 0, 0, 0] [] [] <| rZ ?_)
        try clear hv24 H a W
        rintro a W H ⟨hv24, -⟩
        refine blk_normal ?_
        refine hK3 _ _ ?_
        clear hK3
        refine wp_seq_k (fun K25 hK25 => ?_)
        refine sqR H (gsC hv24 gs0) fun Z_ z_ => rS 1 rfl <| rN z_ ?_
        try clear hv24 H a W
        rintro a W H ⟨hv24, -⟩
        have hk0 : x.ks.n = 0 := by omega
        refine wp_block ?_
        refine wp_rounds 0 (fun k a W => ∃ vo, BF ([0] ++ lb) vo W ∧ St 79 w a W [(5, .int .i64 ((0 : Nat) : Int)), (3, vo), (2, .slice none 0 0), (1, .pointer (some ⟨g1, 0, none⟩))] [(g1, 27, x.cs)]) (k0 := 0) ⟨_, hv24.bf, H.pick [0, 1, 2, 3] [0] rfl⟩ (by omega) ?_
        try clear H a W
        rintro k a W hk ⟨vo, hout, H⟩
        obtain rfl : k = 0 := by omega
        refine wp_seq_k (fun K27 hK27 => ?_)
        refine sqR H (gsC hout gs0) fun Z_ z_ => rS 1 rfl <| rV rfl (does_fieldAddr rfl rfl fa_der6) <| rV rfl (does_loadAt (v := .slice x.ks.A x.ks.n x.ks.c) rfl rfl (k := 0) rfl ld_derS) <| rV rfl (does_len Tryd.underlying25 rfl rfl) <| rV rfl (does_binOp rfl rfl rfl (zd_lss_int (k := ((0 : Nat) : Int)) (m := ((x.ks.n : Nat) : Int)) (decide_eq_false (by omega)) _ _)) <| rK [1, 0, 0, 0, 0] [] [] <| rN z_ ?_
        try clear hout H a W
        rintro a W H ⟨hout, -⟩
        refine wp_cond_false (H.ev rfl) ?_
        refine wp_exit ?_
        repeat (with_reducible refine then_exit ?_)
        refine blk_exit ?_
        refine hK25 _ _ ?_
        clear hK25
        refine sqR H (gsC hout gs0) fun Z_ z_ => rS 1 rfl <| rK [1, 1, 1, 1, 0] [] [] <| rS 1 rfl <| rK [1, 0, 0, 0, 0, 0] [0] [] <| rN z_ ?_
        try clear hout H a W
        rintro a W H ⟨hout, -⟩
        refine wp_ret ?_
        repeat (first | (with_reducible refine then_ret ?_) | (with_reducible refine blk_ret ?_))
        refine end_tmp (p := 2) rfl rfl H (fun hb => ?_)
        refine ⟨_, rfl, hb, ?_⟩
        rw [hk0, kkL_0, contD_eq, List.append_nil]
        have e_ : ownC x.k x.f x.n lb x.t la = ([0] ++ lb) := by unfold ownC; rw [if_neg (by omega), if_neg (by omega), if_pos (by omega)]; rfl
        rw [e_]
        exact hout
      | false =>
        rw [hq4] at H
        have hq4p := of_decide_eq_false hq4
        refine wp_cond_false (H.ev rfl) ?_
        refine sqR H gs0 fun Z_ z_ => rV rfl (does_binOp rfl rfl rfl (zd_eql_derkind (k := x.k) (m := 4) rfl _ _)) <| rS 1 rfl <| rK [1, 0, 0] [] [] <| rN0 z_ ?_
        try clear H a W
        intro a W H
        cases hq5 : decide (x.k = 4) with
        | true =>
          rw [hq5] at H
          have hq5p := of_decide_eq_true hq5
          refine wp_cond_true (H.ev rfl) ?_
          refine rgP H gs0 (rV rfl (does_fieldAddr rfl rfl fa_der3) <| rV rfl (does_loadAt (v := .slice x.b.A x.b.n x.b.c) rfl rfl (k := 0) rfl ld_derB) <| rK [1, 1, 1, 1, 0] [] [] <| rS 1 rfl <| rK [1, 0, 0, 0, 0] [] [] <| rZ0 ?_)
          try clear H a W
          intro a W H
          refine blk_normal ?_
          refine hK3 _ _ ?_
          clear hK3
          refine wp_seq_k (fun K31 hK31 => ?_)
          refine sqR H gs0 fun Z_ z_ => rS 1 rfl <| rN0 z_ ?_
          try clear H a W
          intro a W H
          have hk0 : x.ks.n = 0 := by omega
          refine wp_block ?_
          refine wp_rounds 0 (fun k a W => ∃ vo, BF lb vo W ∧ St 79 w a W [(5, .int .i64 ((0 : Nat) : Int)), (3, vo), (2, .slice none 0 0), (1, .pointer (some ⟨g1, 0, none⟩))] [(g1, 27, x.cs)]) (k0 := 0) ⟨_, (bf_old hbx H), H.pick [0, 1, 2, 3] [0] rfl⟩ (by omega) ?_
          try clear H a W
          rintro k a W hk ⟨vo, hout, H⟩
          obtain rfl : k = 0 := by omega
          refine wp_seq_k (fun K33 hK33 => ?_)
          refine sqR H (gsC hout gs0) fun Z_ z_ => rS 1 rfl <| rV rfl (does_fieldAddr rfl rfl fa_der6) <| rV rfl (does_loadAt (v := .slice x.ks.A x.ks.n x.ks.c) rfl rfl (k := 0) rfl ld_derS) <| rV rfl (does_len Tryd.underlying25 rfl rfl) <| rV rfl (does_binOp rfl rfl rfl (zd_lss_int (k := ((0 : Nat) : Int)) (m := ((x.ks.n : Nat) : Int)) (decide_eq_false (by omega)) _ _)) <| rK [1, 0, 0, 0, 0] [] [] <| rN z_ ?_
          try clear hout H a W
          rintro a W H ⟨hout, -⟩
          refine wp_cond_false (H.ev rfl) ?_
          refine wp_exit ?_
          repeat (with_reducible refine then_exit ?_)
          refine blk_exit ?_
          refine hK31 _ _ ?_
          clear hK31
          refine sqR H (gsC hout gs0) fun Z_ z_ => rS 1 rfl <| rK [1, 1, 1, 1, 0] [] [] <| rS 1 rfl <| rK [1, 0, 0, 0, 0, 0] [0] [] <| rN z_ ?_
          try clear hout H a W
          rintro a W H ⟨hout, -⟩
          refine wp_ret ?_
          repeat (first | (with_reducible refine then_ret ?_) | (with_reducible refine blk_ret ?_))
          refine end_tmp (p := 2) rfl rfl H (fun hb => ?_)
          refine ⟨_, rfl, hb, ?_⟩
          rw [hk0, kkL_0, contD_eq, List.append_nil]
          have e_ : ownC x.k x.f x.n lb x.t la = lb := by unfold ownC; rw [if_neg (by omega), if_neg (by omega), if_neg (by omega), if_pos (by omega)]
          rw [e_]
          exact hout
        | false =>
          rw [hq5] at H
          have hq5p := of_decide_eq_false hq5
          refine wp_cond_false (H.ev rfl) ?_
          refine sqR H gs0 fun Z_ z_ => rV rfl (does_binOp rfl rfl rfl (zd_eql_derkind (k := x.k) (m := 5) rfl _ _)) <| rS 1 rfl <| rK [1, 0, 0] [] [] <| rN0 z_ ?_
          try clear H a W
          intro a W H
          cases hq6 : decide (x.k = 5) with
          | true =>
            rw [hq6] at H
            have hq6p := of_decide_eq_true hq6
            refine wp_cond_true (H.ev rfl) ?_
            refine sqD [.v 31 _ [], .v 32 _ [0], .v 33 _ [1], .v 34 _ [2], .v 35 _ [3], .v 36 _ [], .v 37 _ [5], .v 38 _ [6], .v 39 _ [7], .v 40 _ [4, 8], .f 41 _ [9]] (by kernel_rfl) (by kernel_rfl) H gs0 (fun _ => ⟨oV rfl (does_fieldAddr rfl rfl fa_der5), oV rfl (does_loadAt (v := .slice x.a.A x.a.n x.a.c) rfl rfl (k := 0) rfl ld_derA), oV rfl (does_indexAddr rfl rfl rfl (ia_u64D (j := 0) (hax (by omega)).1 (by omega))), oV rfl (does_loadCell (v := .int .u64 ((la.getD 0 0 : Nat) : Int)) rfl rfl ((hax (by omega)).2.2 0 (by omega)) (hax (by omega)).2.1 ld_cellD), oV rfl (does_binOp rfl rfl rfl (ud_mul40 (by omega) _ _)), oV rfl (does_fieldAddr rfl rfl fa_der5), oV rfl (does_loadAt (v := .slice x.a.A x.a.n x.a.c) rfl rfl (k := 0) rfl ld_derA), oV rfl (does_indexAddr rfl rfl rfl (ia_u64D (j := 1) (hax (by omega)).1 (by omega))), oV rfl (does_loadCell (v := .int .u64 ((la.getD 1 0 : Nat) : Int)) rfl rfl ((hax (by omega)).2.2 1 (by omega)) (hax (by omega)).2.1 ld_cellD), oV rfl (does_binOp rfl rfl rfl (ud_add (k := 40 * la.getD 0 0) (m := la.getD 1 0) (by omega) _ _)), ⟨fun a W  H _ => ob_callS H (wanted_none rfl) rfl ⟨_, Tryd.func68, by kernel_rfl⟩ rfl (of_call H (groups_any (40 * la.getD 0 0 + la.getD 1 0) _ (by omega))), fun _ => inferInstance⟩, trivial⟩) fun Z_ z_ => fun v41 => rK [1, 1, 1, 1, 1, 1, 1, 1, 1, 1, 1, 1, 1, 0] [] [] <| rS 1 rfl <| rK [1, 0, 0, 0, 0, 0, 0, 0, 0, 0, 0, 0, 0, 0] [] [] <| rN z_ ?_
            try clear H a W
            rintro a W H ⟨hv41, -⟩
            refine sqR H (gsC hv41 gs0) fun Z_ z_ => rS 1 rfl <| rN z_ ?_
            try clear hv41 H a W
            rintro a W H ⟨hv41, -⟩
            have hars := arL_len hal (by omega)
            have hA2 : 2 ≤ x.a.n := by omega
            refine wp_block ?_
            replace H : St 79 w a W [(4, .int .i64 ((0 + 2 : Nat) : Int)), (3, v41), (2, .slice none 0 0), (1, .pointer (some ⟨g1, 0, none⟩))] [(g1, 27, x.cs)] := H.pick [0, 1, 2, 3] [0] rfl
            refine wp_rounds (x.a.n - 2) (fun k a W => ∃ vo, OF w.heap.size [(g1, 27, x.cs)] (arL la k) vo W ∧ St 79 w a W [(4, .int .i64 ((k + 2 : Nat) : Int)), (3, vo), (2, .slice none 0 0), (1, .pointer (some ⟨g1, 0, none⟩))] [(g1, 27, x.cs)]) (k0 := 0) (show ∃ vo, OF w.heap.size [(g1, 27, x.cs)] (arL la 0) vo W ∧ St 79 w a W [(4, .int .i64 ((0 + 2 : Nat) : Int)), (3, vo), (2, .slice none 0 0), (1, .pointer (some ⟨g1, 0, none⟩))] [(g1, 27, x.cs)] from ⟨_, (by rw [arL_0]; exact hv41), H⟩) (by omega) ?_
            try clear H a W
            intro k a W hk H_
            obtain ⟨vo, hout, H⟩ := H_
            by_cases hk2 : k < (x.a.n - 2)
            · have hl_ := hars k
              have hg_ := groups_len (n := la.getD (k + 2) 0) (by have := hgl (k + 2); omega)
              have hgl_ := hgl (k + 2)
              refine wp_seq_k (fun K39 hK39 => ?_)
              refine sqR H (gsC hout gs0) fun Z_ z_ => rS 1 rfl <| rV rfl (does_fieldAddr rfl rfl fa_der5) <| rV rfl (does_loadAt (v := .slice x.a.A x.a.n x.a.c) rfl rfl (k := 0) rfl ld_derA) <| rV rfl (does_len Tryd.underlying24 rfl rfl) <| rV rfl (does_binOp rfl rfl rfl (zd_lss_int (k := ((k + 2 : Nat) : Int)) (m := ((x.a.n : Nat) : Int)) (decide_eq_true (by omega)) _ _)) <| rN z_ ?_
              try clear hout H a W
              rintro a W H ⟨hout, -⟩
              refine wp_cond_true (H.ev rfl) ?_
              refine wp_skip ?_
              refine hK39 _ _ ?_
              clear hK39
              refine wp_seq_k (fun K41 hK41 => ?_)
              refine wp_block ?_
              refine rgP H (gsC hout gs0) (rS 1 rfl <| rV rfl (does_fieldAddr rfl rfl fa_der5) <| rV rfl (does_loadAt (v := .slice x.a.A x.a.n x.a.c) rfl rfl (k := 0) rfl ld_derA) <| rS 1 rfl <| rV rfl (does_indexAddr rfl rfl rfl (ia_u64D (j := k + 2) (hax (by omega)).1 (by omega))) <| rV rfl (does_loadCell (v := .int .u64 ((la.getD (k + 2) 0 : Nat) : Int)) rfl rfl ((hax (by omega)).2.2 (k + 2) (by omega)) (hax (by omega)).2.1 ld_cellD) <| rC rfl rfl ⟨_, Tryd.func68, by kernel_rfl⟩ rfl (fun a W H _ => (of_call H (groups_any (la.getD (k + 2) 0) _ (by omega)))) fun v55 => rI ?_)
              try clear hout H a W
              rintro a W H ⟨hv55, hout, -⟩
              refine pl_R (R := (WR w.heap.size [(g1, 27, x.cs)])) (F := OF w.heap.size [(g1, 27, x.cs)] ((arL la k) ++ (groupsD (la.getD (k + 2) 0)))) wr_st (ob_appW H (wanted_none rfl) rfl rfl rfl hout hv55.bf (by (try simp only [List.length_append, List.length_cons, List.length_nil]); omega)) rfl rfl rfl H ?_
              try clear H a
              intro v56 a W hv56 hR_ H
              clear hR_
              replace H : St 79 w a W [(56, v56), (55, v55), (54, .int .u64 ((la.getD (k + 2) 0 : Nat) : Int)), (53, .pointer (some ⟨gx, ox + (k + 2), none⟩)), (52, .int .i64 ((k + 2 : Nat) : Int)), (51, .slice x.a.A x.a.n x.a.c), (50, .pointer (some ⟨g1, 5, none⟩)), (49, vo), (46, .bool true), (45, .int .i64 ((x.a.n : Nat) : Int)), (44, .slice x.a.A x.a.n x.a.c), (43, .pointer (some ⟨g1, 5, none⟩)), (42, .int .i64 ((k + 2 : Nat) : Int)), (4, .int .i64 ((k + 2 : Nat) : Int)), (3, vo), (2, .slice none 0 0), (1, .pointer (some ⟨g1, 0, none⟩))] [(g1, 27, x.cs)] := H
              refine rgO H (gsC hv56 gs0) (rK [1, 1, 1, 1, 1, 1, 1, 1, 1, 1, 1, 1, 1, 1, 0] [] [] <| rS 1 rfl <| rZ ?_)
              try clear hv56 H a W
              rintro a W H ⟨hv56, -⟩
              refine blk_normal ?_
              refine hK41 _ _ ?_
              clear hK41
              refine rgP H (gsC hv56 gs0) (rS 1 rfl <| rV rfl (does_binOp rfl rfl rfl (zd_add_int (k := ((k + 2 : Nat) : Int)) (m := 1) (c := ((k + 2 + 1 : Nat) : Int)) (by omega) (by omega) _ _)) <| rK [1, 1, 1, 1, 1, 1, 1, 1, 1, 1, 1, 1, 1, 1, 1, 1, 0] [] [] <| rS 1 rfl <| rZ ?_)
              try clear hv56 H a W
              rintro a W H ⟨hv56, -⟩
              refine ⟨k + 1, by omega, by omega, ?_⟩
              show ∃ vo, OF w.heap.size [(g1, 27, x.cs)] (arL la (k + 1)) vo W ∧ St 79 w a W [(4, .int .i64 ((k + 1 + 2 : Nat) : Int)), (3, vo), (2, .slice none 0 0), (1, .pointer (some ⟨g1, 0, none⟩))] [(g1, 27, x.cs)]
              refine ⟨_, (by rw [arL_succ (by omega)]; exact hv56), ?_⟩
              exact H.pick [0, 3, 17, 18] [0] rfl
            · obtain rfl : (x.a.n - 2) = k := by omega
              refine wp_seq_k (fun K42 hK42 => ?_)
              refine sqR H (gsC hout gs0) fun Z_ z_ => rS 1 rfl <| rV rfl (does_fieldAddr rfl rfl fa_der5) <| rV rfl (does_loadAt (v := .slice x.a.A x.a.n x.a.c) rfl rfl (k := 0) rfl ld_derA) <| rV rfl (does_len Tryd.underlying24 rfl rfl) <| rV rfl (does_binOp rfl rfl rfl (zd_lss_int (k := (((x.a.n - 2) + 2 : Nat) : Int)) (m := ((x.a.n : Nat) : Int)) (decide_eq_false (by omega)) _ _)) <| rK [1, 0, 0, 0, 0] [] [] <| rN z_ ?_
              try clear hout H a W
              rintro a W H ⟨hout, -⟩
              refine wp_cond_false (H.ev rfl) ?_
              refine wp_exit ?_
              repeat (with_reducible refine then_exit ?_)
              refine blk_exit ?_
              refine blk_normal ?_
              refine hK3 _ _ ?_
              clear hK3
              refine wp_seq_k (fun K44 hK44 => ?_)
              refine sqR H (gsC hout gs0) fun Z_ z_ => rS 1 rfl <| rK [1, 0, 0] [] [] <| rN z_ ?_
              try clear hout H a W
              rintro a W H ⟨hout, -⟩
              have hk0 : x.ks.n = 0 := by omega
              refine wp_block ?_
              refine wp_rounds 0 (fun k a W => ∃ vo, BF (arL la (x.a.n - 2)) vo W ∧ St 79 w a W [(5, .int .i64 ((0 : Nat) : Int)), (3, vo), (2, .slice none 0 0), (1, .pointer (some ⟨g1, 0, none⟩))] [(g1, 27, x.cs)]) (k0 := 0) ⟨_, hout.bf, H.pick [0, 1, 2, 3] [0] rfl⟩ (by omega) ?_
              try clear H a W
              rintro k a W hk ⟨vo, hout, H⟩
              obtain rfl : k = 0 := by omega
              refine wp_seq_k (fun K46 hK46 => ?_)
              refine sqR H (gsC hout gs0) fun Z_ z_ => rS 1 rfl <| rV rfl (does_fieldAddr rfl rfl fa_der6) <| rV rfl (does_loadAt (v := .slice x.ks.A x.ks.n x.ks.c) rfl rfl (k := 0) rfl ld_derS) <| rV rfl (does_len Tryd.underlying25 rfl rfl) <| rV rfl (does_binOp rfl rfl rfl (zd_lss_int (k := ((0 : Nat) : Int)) (m := ((x.ks.n : Nat) : Int)) (decide_eq_false (by omega)) _ _)) <| rK [1, 0, 0, 0, 0] [] [] <| rN z_ ?_
              try clear hout H a W
              rintro a W H ⟨hout, -⟩
              refine wp_cond_false (H.ev rfl) ?_
              refine wp_exit ?_
              repeat (with_reducible refine then_exit ?_)
              refine blk_exit ?_
              refine hK44 _ _ ?_
              clear hK44
              refine sqR H (gsC hout gs0) fun Z_ z_ => rS 1 rfl <| rK [1, 1, 1, 1, 0] [] [] <| rS 1 rfl <| rK [1, 0, 0, 0, 0, 0] [0] [] <| rN z_ ?_
              try clear hout H a W
              rintro a W H ⟨hout, -⟩
              refine wp_ret ?_
              repeat (first | (with_reducible refine then_ret ?_) | (with_reducible refine blk_ret ?_))
              refine end_tmp (p := 2) rfl rfl H (fun hb => ?_)
              refine ⟨_, rfl, hb, ?_⟩
              rw [hk0, kkL_0, contD_eq, List.append_nil]
              have e_ : ownC x.k x.f x.n lb x.t la = (arL la (x.a.n - 2)) := by unfold ownC; rw [if_neg (by omega), if_neg (by omega), if_neg (by omega), if_neg (by omega), if_pos (by omega)]; rw [← arL_all (by omega), hla]
              rw [e_]
              exact hout
          | false =>
            rw [hq6] at H
            have hq6p := of_decide_eq_false hq6
            refine wp_cond_false (H.ev rfl) ?_
            refine wp_seq_k (fun K49 hK49 => ?_)
            refine sqR H gs0 fun Z_ z_ => rV rfl (does_binOp rfl rfl rfl (zd_eql_derkind (k := x.k) (m := 6) rfl _ _)) <| rS 1 rfl <| rK [1, 0, 0] [] [] <| rN0 z_ ?_
            try clear H a W
            intro a W H
            cases hq7 : decide (x.k = 6) with
            | true =>
              rw [hq7] at H
              have hq7p := of_decide_eq_true hq7
              refine wp_cond_true (H.ev rfl) ?_
              refine wp_skip ?_
              refine hK49 _ _ ?_
              clear hK49
              refine wp_cond_true (H.ev rfl) ?_
              refine rgP H gs0 (rV rfl (does_fieldAddr rfl rfl fa_der4) <| rV rfl (does_loadAt (v := .string (strB x.t)) rfl rfl (k := 0) rfl ld_derT) <| rO rfl (fun a W H _ => ob_ofStrD H (wanted_none rfl) rfl rfl) fun v62 => rK [1, 1, 1, 1, 1, 0] [] [] <| rS 1 rfl <| rK [1, 0, 0, 0, 0, 0] [] [] <| rZ ?_)
              try clear H a W
              rintro a W H ⟨hv62, -⟩
              refine blk_normal ?_
              refine hK3 _ _ ?_
              clear hK3
              refine wp_seq_k (fun K51 hK51 => ?_)
              refine sqR H (gsC hv62 gs0) fun Z_ z_ => rS 1 rfl <| rN z_ ?_
              try clear hv62 H a W
              rintro a W H ⟨hv62, -⟩
              have hk0 : x.ks.n = 0 := by omega
              refine wp_block ?_
              refine wp_rounds 0 (fun k a W => ∃ vo, BF x.t vo W ∧ St 79 w a W [(5, .int .i64 ((0 : Nat) : Int)), (3, vo), (2, .slice none 0 0), (1, .pointer (some ⟨g1, 0, none⟩))] [(g1, 27, x.cs)]) (k0 := 0) ⟨_, hv62, H.pick [0, 1, 2, 3] [0] rfl⟩ (by omega) ?_
              try clear H a W
              rintro k a W hk ⟨vo, hout, H⟩
              obtain rfl : k = 0 := by omega
              refine wp_seq_k (fun K53 hK53 => ?_)
              refine sqR H (gsC hout gs0) fun Z_ z_ => rS 1 rfl <| rV rfl (does_fieldAddr rfl rfl fa_der6) <| rV rfl (does_loadAt (v := .slice x.ks.A x.ks.n x.ks.c) rfl rfl (k := 0) rfl ld_derS) <| rV rfl (does_len Tryd.underlying25 rfl rfl) <| rV rfl (does_binOp rfl rfl rfl (zd_lss_int (k := ((0 : Nat) : Int)) (m := ((x.ks.n : Nat) : Int)) (decide_eq_false (by omega)) _ _)) <| rK [1, 0, 0, 0, 0] [] [] <| rN z_ ?_
              try clear hout H a W
              rintro a W H ⟨hout, -⟩
              refine wp_cond_false (H.ev rfl) ?_
              refine wp_exit ?_
              repeat (with_reducible refine then_exit ?_)
              refine blk_exit ?_
              refine hK51 _ _ ?_
              clear hK51
              refine sqR H (gsC hout gs0) fun Z_ z_ => rS 1 rfl <| rK [1, 1, 1, 1, 0] [] [] <| rS 1 rfl <| rK [1, 0, 0, 0, 0, 0] [0] [] <| rN z_ ?_
              try clear hout H a W
              rintro a W H ⟨hout, -⟩
              refine wp_ret ?_
              repeat (first | (with_reducible refine then_ret ?_) | (with_reducible refine blk_ret ?_))
              refine end_tmp (p := 2) rfl rfl H (fun hb => ?_)
              refine ⟨_, rfl, hb, ?_⟩
              rw [hk0, kkL_0, contD_eq, List.append_nil]
              have e_ : ownC x.k x.f x.n lb x.t la = x.t := by unfold ownC; rw [if_neg (by omega), if_neg (by omega), if_neg (by omega), if_neg (by omega), if_neg (by omega), if_pos (by omega)]
              rw [e_]
              exact hout
            | false =>
              rw [hq7] at H
              have hq7p := of_decide_eq_false hq7
              refine wp_cond_false (H.ev rfl) ?_
              refine rgP H gs0 (rV rfl (does_binOp rfl rfl rfl (zd_eql_derkind (k := x.k) (m := 10) rfl _ _)) <| rK [1, 0] [] [] <| rS 1 rfl <| rK [1, 0, 0] [] [] <| rZ0 ?_)
              try clear H a W
              intro a W H
              refine hK49 _ _ ?_
              clear hK49
              cases hq8 : decide (x.k = 10) with
              | true =>
                rw [hq8] at H
                have hq8p := of_decide_eq_true hq8
                refine wp_cond_true (H.ev rfl) ?_
                refine rgP H gs0 (rV rfl (does_fieldAddr rfl rfl fa_der4) <| rV rfl (does_loadAt (v := .string (strB x.t)) rfl rfl (k := 0) rfl ld_derT) <| rO rfl (fun a W H _ => ob_ofStrD H (wanted_none rfl) rfl rfl) fun v62 => rK [1, 1, 1, 1, 0] [] [] <| rS 1 rfl <| rK [1, 0, 0, 0, 0] [] [] <| rZ ?_)
                try clear H a W
                rintro a W H ⟨hv62, -⟩
                refine blk_normal ?_
                refine hK3 _ _ ?_
                clear hK3
                refine wp_seq_k (fun K56 hK56 => ?_)
                refine sqR H (gsC hv62 gs0) fun Z_ z_ => rS 1 rfl <| rN z_ ?_
                try clear hv62 H a W
                rintro a W H ⟨hv62, -⟩
                have hk0 : x.ks.n = 0 := by omega
                refine wp_block ?_
                refine wp_rounds 0 (fun k a W => ∃ vo, BF x.t vo W ∧ St 79 w a W [(5, .int .i64 ((0 : Nat) : Int)), (3, vo), (2, .slice none 0 0), (1, .pointer (some ⟨g1, 0, none⟩))] [(g1, 27, x.cs)]) (k0 := 0) ⟨_, hv62, H.pick [0, 1, 2, 3] [0] rfl⟩ (by omega) ?_
                try clear H a W
                rintro k a W hk ⟨vo, hout, H⟩
                obtain rfl : k = 0 := by omega
                refine wp_seq_k (fun K58 hK58 => ?_)
                refine sqR H (gsC hout gs0) fun Z_ z_ => rS 1 rfl <| rV rfl (does_fieldAddr rfl rfl fa_der6) <| rV rfl (does_loadAt (v := .slice x.ks.A x.ks.n x.ks.c) rfl rfl (k := 0) rfl ld_derS) <| rV rfl (does_len Tryd.underlying25 rfl rfl) <| rV rfl (does_binOp rfl rfl rfl (zd_lss_int (k := ((0 : Nat) : Int)) (m := ((x.ks.n : Nat) : Int)) (decide_eq_false (by omega)) _ _)) <| rK [1, 0, 0, 0, 0] [] [] <| rN z_ ?_
                try clear hout H a W
                rintro a W H ⟨hout, -⟩
                refine wp_cond_false (H.ev rfl) ?_
                refine wp_exit ?_
                repeat (with_reducible refine then_exit ?_)
                refine blk_exit ?_
                refine hK56 _ _ ?_
                clear hK56
                refine sqR H (gsC hout gs0) fun Z_ z_ => rS 1 rfl <| rK [1, 1, 1, 1, 0] [] [] <| rS 1 rfl <| rK [1, 0, 0, 0, 0, 0] [0] [] <| rN z_ ?_
                try clear hout H a W
                rintro a W H ⟨hout, -⟩
                refine wp_ret ?_
                repeat (first | (with_reducible refine then_ret ?_) | (with_reducible refine blk_ret ?_))
                refine end_tmp (p := 2) rfl rfl H (fun hb => ?_)
                refine ⟨_, rfl, hb, ?_⟩
                rw [hk0, kkL_0, contD_eq, List.append_nil]
                have e_ : ownC x.k x.f x.n lb x.t la = x.t := by unfold ownC; rw [if_neg (by omega), if_neg (by omega), if_neg (by omega), if_neg (by omega), if_neg (by omega), if_pos (by omega)]
                rw [e_]
                exact hout
              | false =>
                rw [hq8] at H
                have hq8p := of_decide_eq_false hq8
                refine wp_cond_false (H.ev rfl) ?_
                refine wp_skip ?_
                refine blk_normal ?_
                refine hK3 _ _ ?_
                clear hK3
                refine wp_seq_k (fun K61 hK61 => ?_)
                refine sqR H gs0 fun Z_ z_ => rS 1 rfl <| rK [1, 0] [] [] <| rN0 z_ ?_
                try clear H a W
                intro a W H
                refine wp_block ?_
                replace H : St 79 w a W [(5, .int .i64 ((0 : Nat) : Int)), (3, .slice none 0 0), (2, .slice none 0 0), (1, .pointer (some ⟨g1, 0, none⟩))] [(g1, 27, x.cs)] := H.pick [0, 1, 2, 3] [0] rfl
                refine wp_rounds x.ks.n (fun k a W => ∃ vo, OF w.heap.size [(g1, 27, x.cs)] (kkL kk k) vo W ∧ St 79 w a W [(5, .int .i64 ((k : Nat) : Int)), (3, vo), (2, .slice none 0 0), (1, .pointer (some ⟨g1, 0, none⟩))] [(g1, 27, x.cs)]) (k0 := 0) (show ∃ vo, OF w.heap.size [(g1, 27, x.cs)] (kkL kk 0) vo W ∧ St 79 w a W [(5, .int .i64 ((0 : Nat) : Int)), (3, vo), (2, .slice none 0 0), (1, .pointer (some ⟨g1, 0, none⟩))] [(g1, 27, x.cs)] from ⟨_, (by rw [kkL_0]; exact of_nil _ _ _), H⟩) (by omega) ?_
                try clear H a W
                intro k a W hk H_
                obtain ⟨vo, hout, H⟩ := H_
                by_cases hk2 : k < x.ks.n
                · have hl_ := kkL_le kk (show k ≤ x.ks.n by omega)
                  have hl2_ := kkL_le kk (show k + 1 ≤ x.ks.n by omega)
                  rw [kkL_succ, List.length_append] at hl2_
                  refine wp_seq_k (fun K63 hK63 => ?_)
                  refine sqR H (gsC hout gs0) fun Z_ z_ => rS 1 rfl <| rV rfl (does_fieldAddr rfl rfl fa_der6) <| rV rfl (does_loadAt (v := .slice x.ks.A x.ks.n x.ks.c) rfl rfl (k := 0) rfl ld_derS) <| rV rfl (does_len Tryd.underlying25 rfl rfl) <| rV rfl (does_binOp rfl rfl rfl (zd_lss_int (k := ((k : Nat) : Int)) (m := ((x.ks.n : Nat) : Int)) (decide_eq_true (by omega)) _ _)) <| rN z_ ?_
                  try clear hout H a W
                  rintro a W H ⟨hout, -⟩
                  refine wp_cond_true (H.ev rfl) ?_
                  refine wp_skip ?_
                  refine hK63 _ _ ?_
                  clear hK63
                  refine wp_seq_k (fun K65 hK65 => ?_)
                  refine wp_block ?_
                  refine rgP H (gsC hout gs0) (rS 1 rfl <| rV rfl (does_fieldAddr rfl rfl fa_der6) <| rV rfl (does_loadAt (v := .slice x.ks.A x.ks.n x.ks.c) rfl rfl (k := 0) rfl ld_derS) <| rS 1 rfl <| rV rfl (does_indexAddr rfl rfl rfl (ia_kids (j := k) (hA (by omega)).1 (by omega))) <| rV rfl (does_kid (y := sub k) rfl rfl (hA (by omega)).2.1 ((hA (by omega)).2.2 k (by omega))) <| rC rfl rfl ⟨_, Tryd.func32, by kernel_rfl⟩ rfl (fun a W H _ => (hpk k (by omega) _ H.below)) fun v76 => rI ?_)
                  try clear hout H a W
                  rintro a W H ⟨hv76, hout, -⟩
                  refine pl_R (R := (WR w.heap.size [(g1, 27, x.cs)])) (F := OF w.heap.size [(g1, 27, x.cs)] ((kkL kk k) ++ (kk k))) wr_st (ob_appW H (wanted_none rfl) rfl rfl rfl hout hv76 (by (try simp only [List.length_append, List.length_cons, List.length_nil]); omega)) rfl rfl rfl H ?_
                  try clear H a
                  intro v77 a W hv77 hR_ H
                  clear hR_
                  replace H : St 79 w a W [(77, v77), (76, v76), (75, .agg ((sub k).cs)), (74, .pointer (some ⟨g, o + k * 7, none⟩)), (73, .int .i64 ((k : Nat) : Int)), (72, .slice x.ks.A x.ks.n x.ks.c), (71, .pointer (some ⟨g1, 6, none⟩)), (70, vo), (67, .bool true), (66, .int .i64 ((x.ks.n : Nat) : Int)), (65, .slice x.ks.A x.ks.n x.ks.c), (64, .pointer (some ⟨g1, 6, none⟩)), (63, .int .i64 ((k : Nat) : Int)), (5, .int .i64 ((k : Nat) : Int)), (3, vo), (2, .slice none 0 0), (1, .pointer (some ⟨g1, 0, none⟩))] [(g1, 27, x.cs)] := H
                  refine rgO H (gsC hv77 gs0) (rK [1, 1, 1, 1, 1, 1, 1, 1, 1, 1, 1, 1, 1, 1, 0] [] [] <| rS 1 rfl <| rZ ?_)
                  try clear hv77 H a W
                  rintro a W H ⟨hv77, -⟩
                  refine blk_normal ?_
                  refine hK65 _ _ ?_
                  clear hK65
                  refine rgP H (gsC hv77 gs0) (rS 1 rfl <| rV rfl (does_binOp rfl rfl rfl (zd_add_int (k := ((k : Nat) : Int)) (m := 1) (c := ((k + 1 : Nat) : Int)) (by omega) (by omega) _ _)) <| rK [1, 1, 1, 1, 1, 1, 1, 1, 1, 1, 1, 1, 1, 1, 1, 1, 0] [] [] <| rS 1 rfl <| rZ ?_)
                  try clear hv77 H a W
                  rintro a W H ⟨hv77, -⟩
                  refine ⟨k + 1, by omega, by omega, ?_⟩
                  show ∃ vo, OF w.heap.size [(g1, 27, x.cs)] (kkL kk (k + 1)) vo W ∧ St 79 w a W [(5, .int .i64 ((k + 1 : Nat) : Int)), (3, vo), (2, .slice none 0 0), (1, .pointer (some ⟨g1, 0, none⟩))] [(g1, 27, x.cs)]
                  refine ⟨_, (by rw [kkL_succ]; exact hv77), ?_⟩
                  exact H.pick [0, 3, 17, 18] [0] rfl
                · obtain rfl : x.ks.n = k := by omega
                  refine wp_seq_k (fun K66 hK66 => ?_)
                  refine sqR H (gsC hout gs0) fun Z_ z_ => rS 1 rfl <| rV rfl (does_fieldAddr rfl rfl fa_der6) <| rV rfl (does_loadAt (v := .slice x.ks.A x.ks.n x.ks.c) rfl rfl (k := 0) rfl ld_derS) <| rV rfl (does_len Tryd.underlying25 rfl rfl) <| rV rfl (does_binOp rfl rfl rfl (zd_lss_int (k := ((x.ks.n : Nat) : Int)) (m := ((x.ks.n : Nat) : Int)) (decide_eq_false (by omega)) _ _)) <| rK [1, 0, 0, 0, 0] [] [] <| rN z_ ?_
                  try clear hout H a W
                  rintro a W H ⟨hout, -⟩
                  refine wp_cond_false (H.ev rfl) ?_
                  refine wp_exit ?_
                  repeat (with_reducible refine then_exit ?_)
                  refine blk_exit ?_
                  refine hK61 _ _ ?_
                  clear hK61
                  refine sqR H (gsC hout gs0) fun Z_ z_ => rS 1 rfl <| rK [1, 1, 1, 1, 0] [] [] <| rS 1 rfl <| rK [1, 0, 0, 0, 0, 0] [0] [] <| rN z_ ?_
                  try clear hout H a W
                  rintro a W H ⟨hout, -⟩
                  refine wp_ret ?_
                  repeat (first | (with_reducible refine then_ret ?_) | (with_reducible refine blk_ret ?_))
                  refine end_tmp (p := 2) rfl rfl H (fun hb => ?_)
                  refine ⟨_, rfl, hb, ?_⟩
                  rw [contD_eq, show ownC x.k x.f x.n lb x.t la = [] by unfold ownC; rw [if_neg (by omega), if_neg (by omega), if_neg (by omega), if_neg (by omega), if_neg (by omega), if_neg (by omega)], List.nil_append]
                  exact hout.bf
end Go.Proofs.YtiafcgoiolbdhaaDoor
namespace Go.Proofs.YtiafcgoiolbdhaaDoor
set_option linter.unusedVariables false
set_option linter.unusedSimpArgs false
set_option maxRecDepth 100000
open Go Go.RowKit
theorem end_tmps2 {P : Program} {n : Nat} {w0 : World} {e : Env} {h : Hep} {a : Act} {w : World} {fn : Func} {R : Ending → World → Prop} {p q : Tmp} {u v : Value} (hr : fn.results = #[.tmp p, .tmp q]) (hp : look e p = some u) (hq : look e q = some v) (H : St n w0 a w e h) (hR : Below w0.heap.size w0 w → R (.returned (.tuple #[u, v])) w) : bodyPost P fn R .ret a w := by
  refine bodyPost_ret ?_ H.defers (hR H.below)
  have h1 := H.ev (x := .tmp p) hp
  have h2 := H.ev (x := .tmp q) hq
  simp only [Act.eval, Array.getD_eq_getD_getElem?] at h1 h2
  simp [results, hr, h1, h2]
attribute [local irreducible] bvs byteD groupsD m64 dvD beD wholeD arL kkL oidD
set_option maxHeartbeats 4000000 in
theorem pack_walk {x : DH} {lc : List UInt8} (w : World) (hxn : -9223372036854775808 ≤ x.n ∧ x.n < 9223372036854775808) (hlc : lc.length ≤ 900000) (hct : ∀ W, Below w.heap.size w W → Calls Tryd.prog 48 #[.agg x.cs] W (fun r W' => ∃ v, r = .returned v ∧ Below W.heap.size W W' ∧ BF lc v W')) : Calls Tryd.prog 32 #[.agg (x.cs)] w (fun rr w' => ∃ v, rr = .returned v ∧ Below w.heap.size w w' ∧ BF (headD (tagD x.k x.n) lc) v w') := by
  refine calls_st (vs := [.agg (x.cs)]) 41 Tryd.func32 rfl Tryd.ntmps32 rfl (fun a W H => ?_)
  replace H : St 41 w a W [(0, .agg (x.cs))] [] := H
  refine sqR H gs0 fun Z_ z_ => rB rfl rfl rfl (bx_der x) fun g1 => rS 1 rfl <| rK [1, 1, 0] [] [] <| rN0 z_ ?_
  try clear H a W
  intro a W H
  refine sqR H gs0 fun Z_ z_ => rV rfl (does_load rfl rfl (k := 0) rfl Tryd.underlying27 rfl (info_der x)) <| rC rfl rfl ⟨_, Tryd.func48, by kernel_rfl⟩ rfl (fun a W H _ => (hct _ H.below)) fun v7 => rS 1 rfl <| rK [1, 0, 0] [] [] <| rN z_ ?_
  try clear H a W
  rintro a W H ⟨hv7, -⟩
  obtain ⟨Ac, nc, cc, rfl, hsl_⟩ := hv7
  have hnc : lc.length = nc := hsl_.len
  obtain ⟨ws, H, HK, hFc, hBg1⟩ : ∃ ws, St 41 ws a W [(3, .slice Ac nc cc), (2, .slice none 0 0), (1, .pointer (some ⟨g1, 0, none⟩))] [] ∧ Kn w ws [(g1, 27, x.cs)] ∧ BF lc (.slice Ac nc cc) ws ∧ Blk ws g1 27 x.cs := ⟨W, H.rebase, H.kn, ⟨_, _, _, rfl, hsl_⟩, H.blk (k := 0) rfl⟩
  refine sqR H gs0 fun Z_ z_ => rS 1 rfl <| rV rfl (does_len Tryd.underlying23 rfl rfl) <| rS 1 rfl <| rK [1, 0, 0] [] [] <| rN0 z_ ?_
  try clear H a W
  intro a W H
  refine sqR H gs0 fun Z_ z_ => rV rfl (does_loadOld rfl rfl hBg1 Tryd.underlying27 rfl (info_der x)) <| rV rfl (does_call rfl ⟨_, Tryd.func49, by kernel_rfl⟩ rfl (fun W hb => rtag_any x W hxn)) <| rV rfl (does_convert rfl rfl (cv_tagD (tagD_lt _ _))) <| rO rfl (fun a W H _ => ob_byteOF (x := (byteD (tagD x.k x.n).toNat)) H (wanted_none rfl) rfl rfl) fun v13 => rS 1 rfl <| rK [1, 0, 0, 0, 0, 1, 1, 1, 0] [] [] <| rN z_ ?_
  try clear H a W
  rintro a W H ⟨hv13, -⟩
  refine wp_seq_k (fun K5 hK5 => ?_)
  refine sqR H (gsC hv13 gs0) fun Z_ z_ => rS 1 rfl <| rV rfl (does_binOp rfl rfl rfl (zd_lss_int (k := ((nc : Nat) : Int)) (m := 128) rfl _ _)) <| rK [1, 0] [] [] <| rN z_ ?_
  try clear hv13 H a W
  rintro a W H ⟨hv13, -⟩
  cases hq1 : decide (((nc : Nat) : Int) < 128) with
  | true =>
    rw [hq1] at H
    have hq1p := of_decide_eq_true hq1
    refine wp_cond_true (H.ev rfl) ?_
    refine rgP H (gsC hv13 gs0) (rS 2 rfl <| rV rfl (does_convert rfl rfl (cv_iD (by omega))) <| rO rfl (fun a W H _ => ob_byteOF (x := (byteD nc)) H (wanted_none rfl) rfl rfl) fun v19 => rI ?_)
    try clear hv13 H a W
    rintro a W H ⟨hv19, hv13, -⟩
    refine pl_R (R := (WR ws.heap.size [])) (F := OF ws.heap.size [] ([(byteD (tagD x.k x.n).toNat)] ++ [(byteD nc)])) wr_st (ob_appW H (wanted_none rfl) rfl rfl rfl hv13 hv19.bf (by (try simp only [List.length_append, List.length_cons, List.length_nil]); omega)) rfl rfl rfl H ?_
    try clear H a
    intro v20 a W hv20 hR_ H
    clear hR_
    replace H : St 41 ws a W [(20, v20), (19, v19), (18, bv (byteD nc)), (17, .int .i64 ((nc : Nat) : Int)), (16, v13), (15, .bool true), (5, v13), (4, .int .i64 ((nc : Nat) : Int)), (3, .slice Ac nc cc), (2, .slice none 0 0)] [] := H
    refine rgO H (gsC hv20 gs0) (rK [1, 1, 1, 1, 1, 1, 0] [] [] <| rS 1 rfl <| rK [1, 0, 0, 0, 0, 0, 0, 0] [] [] <| rZ ?_)
    try clear hv20 H a W
    rintro a W H ⟨hv20, -⟩
    refine hK5 _ _ ?_
    clear hK5
    refine wp_seq_k (fun K7 hK7 => ?_)
    refine rgP H (gsC hv20 gs0) (rS 2 rfl <| rI ?_)
    try clear hv20 H a W
    rintro a W H ⟨hv20, -⟩
    refine pl_R (R := (WR ws.heap.size [])) (F := OF ws.heap.size [] (([(byteD (tagD x.k x.n).toNat)] ++ [(byteD nc)]) ++ lc)) wr_st (ob_appW H (wanted_none rfl) rfl rfl rfl hv20 (bf_old hFc H) (by (try simp only [List.length_append, List.length_cons, List.length_nil]); omega)) rfl rfl rfl H ?_
    try clear H a
    intro v40 a W hv40 hR_ H
    clear hR_
    replace H : St 41 ws a W [(40, v40), (39, .slice Ac nc cc), (38, v20), (5, v20), (3, .slice Ac nc cc), (2, .slice none 0 0)] [] := H
    refine rgO H (gsC hv40 gs0) (rK [1, 1, 1, 1, 1, 0] [] [] <| rS 1 rfl <| rK [1, 0, 0, 0, 0, 0] [] [] <| rZ ?_)
    try clear hv40 H a W
    rintro a W H ⟨hv40, -⟩
    refine hK7 _ _ ?_
    clear hK7
    refine wp_ret ?_
    repeat (first | (with_reducible refine then_ret ?_) | (with_reducible refine blk_ret ?_))
    refine end_tmp (p := 2) rfl rfl H (fun hb => ?_)
    refine ⟨_, rfl, HK.below.trans (hb.mono HK.below.size), ?_⟩
    have e_ : headD (tagD x.k x.n) lc = (([(byteD (tagD x.k x.n).toNat)] ++ [(byteD nc)]) ++ lc) := by
      unfold headD lenD
      rw [hnc, if_pos (by omega)]
      simp
    rw [e_]
    exact hv40.bf
  | false =>
    rw [hq1] at H
    have hq1p := of_decide_eq_false hq1
    refine wp_cond_false (H.ev rfl) ?_
    refine sqR H (gsC hv13 gs0) fun Z_ z_ => rS 1 rfl <| rV rfl (does_binOp rfl rfl rfl (zd_lss_int (k := ((nc : Nat) : Int)) (m := 256) rfl _ _)) <| rK [1, 0, 0] [] [] <| rN z_ ?_
    try clear hv13 H a W
    rintro a W H ⟨hv13, -⟩
    cases hq2 : decide (((nc : Nat) : Int) < 256) with
    | true =>
      rw [hq2] at H
      have hq2p := of_decide_eq_true hq2
      refine wp_cond_true (H.ev rfl) ?_
      refine rgP H (gsC hv13 gs0) (rS 2 rfl <| rV rfl (does_convert rfl rfl (cv_iD (by omega))) <| rO rfl (fun a W H _ => ob_byteOF2 (x := 129) (y := (byteD nc)) H (wanted_none rfl) rfl rfl rfl) fun v26 => rI ?_)
      try clear hv13 H a W
      rintro a W H ⟨hv26, hv13, -⟩
      refine pl_R (R := (WR ws.heap.size [])) (F := OF ws.heap.size [] ([(byteD (tagD x.k x.n).toNat)] ++ [129, (byteD nc)])) wr_st (ob_appW H (wanted_none rfl) rfl rfl rfl hv13 hv26.bf (by (try simp only [List.length_append, List.length_cons, List.length_nil]); omega)) rfl rfl rfl H ?_
      try clear H a
      intro v27 a W hv27 hR_ H
      clear hR_
      replace H : St 41 ws a W [(27, v27), (26, v26), (25, bv (byteD nc)), (24, .int .i64 ((nc : Nat) : Int)), (23, v13), (22, .bool true), (5, v13), (4, .int .i64 ((nc : Nat) : Int)), (3, .slice Ac nc cc), (2, .slice none 0 0)] [] := H
      refine rgO H (gsC hv27 gs0) (rK [1, 1, 1, 1, 1, 1, 0] [] [] <| rS 1 rfl <| rK [1, 0, 0, 0, 0, 0, 0, 0] [] [] <| rZ ?_)
      try clear hv27 H a W
      rintro a W H ⟨hv27, -⟩
      refine hK5 _ _ ?_
      clear hK5
      refine wp_seq_k (fun K9 hK9 => ?_)
      refine rgP H (gsC hv27 gs0) (rS 2 rfl <| rI ?_)
      try clear hv27 H a W
      rintro a W H ⟨hv27, -⟩
      refine pl_R (R := (WR ws.heap.size [])) (F := OF ws.heap.size [] (([(byteD (tagD x.k x.n).toNat)] ++ [129, (byteD nc)]) ++ lc)) wr_st (ob_appW H (wanted_none rfl) rfl rfl rfl hv27 (bf_old hFc H) (by (try simp only [List.length_append, List.length_cons, List.length_nil]); omega)) rfl rfl rfl H ?_
      try clear H a
      intro v40 a W hv40 hR_ H
      clear hR_
      replace H : St 41 ws a W [(40, v40), (39, .slice Ac nc cc), (38, v27), (5, v27), (3, .slice Ac nc cc), (2, .slice none 0 0)] [] := H
      refine rgO H (gsC hv40 gs0) (rK [1, 1, 1, 1, 1, 0] [] [] <| rS 1 rfl <| rK [1, 0, 0, 0, 0, 0] [] [] <| rZ ?_)
      try clear hv40 H a W
      rintro a W H ⟨hv40, -⟩
      refine hK9 _ _ ?_
      clear hK9
      refine wp_ret ?_
      repeat (first | (with_reducible refine then_ret ?_) | (with_reducible refine blk_ret ?_))
      refine end_tmp (p := 2) rfl rfl H (fun hb => ?_)
      refine ⟨_, rfl, HK.below.trans (hb.mono HK.below.size), ?_⟩
      have e_ : headD (tagD x.k x.n) lc = (([(byteD (tagD x.k x.n).toNat)] ++ [129, (byteD nc)]) ++ lc) := by
        unfold headD lenD
        rw [hnc, if_neg (by omega), if_pos (by omega)]
        simp
      rw [e_]
      exact hv40.bf
    | false =>
      rw [hq2] at H
      have hq2p := of_decide_eq_false hq2
      refine wp_cond_false (H.ev rfl) ?_
      refine rgP H (gsC hv13 gs0) (rS 2 rfl <| rV rfl (does_binOp rfl rfl rfl (zd_quo (k := nc) (m := 256) (by omega) (by omega) _ _)) <| rV rfl (does_binOp rfl rfl rfl (zd_rem (k := (nc / 256)) (m := 256) (by omega) (by omega) _ _)) <| rV rfl (does_convert rfl rfl (cv_iD (by omega))) <| rS 1 rfl <| rV rfl (does_binOp rfl rfl rfl (zd_rem (k := nc) (m := 256) (by omega) (by omega) _ _)) <| rV rfl (does_convert rfl rfl (cv_iD (by omega))) <| rO rfl (fun a W H _ => ob_byteOF3 (x := 130) (y := (byteD ((nc / 256) % 256))) (z := (byteD (nc % 256))) H (wanted_none rfl) rfl rfl rfl rfl) fun v36 => rI ?_)
      try clear hv13 H a W
      rintro a W H ⟨hv36, hv13, -⟩
      refine pl_R (R := (WR ws.heap.size [])) (F := OF ws.heap.size [] ([(byteD (tagD x.k x.n).toNat)] ++ [130, (byteD ((nc / 256) % 256)), (byteD (nc % 256))])) wr_st (ob_appW H (wanted_none rfl) rfl rfl rfl hv13 hv36.bf (by (try simp only [List.length_append, List.length_cons, List.length_nil]); omega)) rfl rfl rfl H ?_
      try clear H a
      intro v37 a W hv37 hR_ H
      clear hR_
      replace H : St 41 ws a W [(37, v37), (36, v36), (35, bv (byteD (nc % 256))), (34, .int .i64 ((nc % 256 : Nat) : Int)), (33, .int .i64 ((nc : Nat) : Int)), (32, bv (byteD ((nc / 256) % 256))), (31, .int .i64 (((nc / 256) % 256 : Nat) : Int)), (30, .int .i64 ((nc / 256 : Nat) : Int)), (29, .int .i64 ((nc : Nat) : Int)), (28, v13), (22, .bool false), (5, v13), (4, .int .i64 ((nc : Nat) : Int)), (3, .slice Ac nc cc), (2, .slice none 0 0)] [] := H
      refine rgO H (gsC hv37 gs0) (rK [1, 1, 1, 1, 1, 1, 1, 1, 1, 1, 1, 0] [] [] <| rS 1 rfl <| rK [1, 0, 0, 0, 0, 0, 0, 0, 0, 0, 0, 0, 0] [] [] <| rZ ?_)
      try clear hv37 H a W
      rintro a W H ⟨hv37, -⟩
      refine hK5 _ _ ?_
      clear hK5
      refine wp_seq_k (fun K10 hK10 => ?_)
      refine rgP H (gsC hv37 gs0) (rS 2 rfl <| rI ?_)
      try clear hv37 H a W
      rintro a W H ⟨hv37, -⟩
      refine pl_R (R := (WR ws.heap.size [])) (F := OF ws.heap.size [] (([(byteD (tagD x.k x.n).toNat)] ++ [130, (byteD ((nc / 256) % 256)), (byteD (nc % 256))]) ++ lc)) wr_st (ob_appW H (wanted_none rfl) rfl rfl rfl hv37 (bf_old hFc H) (by (try simp only [List.length_append, List.length_cons, List.length_nil]); omega)) rfl rfl rfl H ?_
      try clear H a
      intro v40 a W hv40 hR_ H
      clear hR_
      replace H : St 41 ws a W [(40, v40), (39, .slice Ac nc cc), (38, v37), (5, v37), (3, .slice Ac nc cc), (2, .slice none 0 0)] [] := H
      refine rgO H (gsC hv40 gs0) (rK [1, 1, 1, 1, 1, 0] [] [] <| rS 1 rfl <| rK [1, 0, 0, 0, 0, 0] [] [] <| rZ ?_)
      try clear hv40 H a W
      rintro a W H ⟨hv40, -⟩
      refine hK10 _ _ ?_
      clear hK10
      refine wp_ret ?_
      repeat (first | (with_reducible refine then_ret ?_) | (with_reducible refine blk_ret ?_))
      refine end_tmp (p := 2) rfl rfl H (fun hb => ?_)
      refine ⟨_, rfl, HK.below.trans (hb.mono HK.below.size), ?_⟩
      have e_ : headD (tagD x.k x.n) lc = (([(byteD (tagD x.k x.n).toNat)] ++ [130, (byteD ((nc / 256) % 256)), (byteD (nc % 256))]) ++ lc) := by
        unfold headD lenD
        rw [hnc, if_neg (by omega), if_neg (by omega)]
        simp
      rw [e_]
      exact hv40.bf
/-- The kids' bytes, one by one. -/
def kkD (ks : List DT) (d : Nat) (i : Nat) : List UInt8 := match ks[i]? with
  | some T => packD d T
  | none => []
theorem kkL_take (ks : List DT) (d : Nat) : ∀ n, n ≤ ks.length → kkL (kkD ks d) n = (ks.take n).flatMap (packD d)
  | 0, _ => by rw [kkL_0, List.take_zero, List.flatMap_nil]
  | n + 1, h => by
    have e : ks[n]? = some _ := List.getElem?_eq_getElem (by omega)
    rw [kkL_succ, kkL_take ks d n (by omega), List.take_add_one, e, Option.toList_some, List.flatMap_append]
    congr 1
    unfold kkD
    rw [e]
    simp
theorem kkL_all (ks : List DT) (d : Nat) : kkL (kkD ks d) ks.length = ks.flatMap (packD d) := by rw [kkL_take ks d _ (Nat.le_refl _), List.take_length]
theorem own_leaf {u8 : List UInt8 → Bool} {k : Int} {f : Bool} {n : Int} {b t : List UInt8} {a : List Nat} {ks : List DT} (h : ownD u8 (.mk k f n b t a ks) = true) : (k = 7 ∨ k = 8 ∨ k = 9 ∨ ks.length = 0) ∧ (k = 5 → 2 ≤ a.length ∧ a.length ≤ 16 ∧ a.getD 0 0 ≤ 2 ∧ a.getD 1 0 < 2147483648) ∧ (b.length = 0 ∨ k = 3 ∨ k = 4) := by
  unfold ownD at h
  dsimp only at h
  simp only [Bool.and_eq_true] at h
  obtain ⟨⟨⟨⟨⟨⟨_, h5⟩, _⟩, _⟩, h7⟩, _⟩, h9⟩ := h
  refine ⟨?_, fun hk => ?_, ?_⟩
  · by_cases h1 : k = 7
    · exact .inl h1
    · rw [if_neg h1] at h7
      by_cases h2 : k = 8 ∨ k = 9
      · omega
      · rw [if_neg h2] at h7
        exact .inr (.inr (.inr (by rw [List.isEmpty_iff.1 h7]; rfl)))
  · rw [if_pos hk] at h5
    unfold arcsOk at h5
    simp only [Bool.and_eq_true, decide_eq_true_eq] at h5
    obtain ⟨⟨⟨⟨h1, h2⟩, h3⟩, h4⟩, h6⟩ := h5
    refine ⟨h1, h2, h3, ?_⟩
    have := List.all_eq_true.1 h6 (a.getD 1 0) (by rw [List.getD_eq_getElem?_getD, List.getElem?_eq_getElem (by omega)]; exact List.getElem_mem _)
    simpa using this
  · simp only [Bool.or_eq_true, decide_eq_true_eq] at h9
    rcases h9 with (h9 | h9) | h9
    · exact .inl (by rw [List.isEmpty_iff.1 h9]; rfl)
    · exact .inr (.inl h9)
    · exact .inr (.inr h9)
theorem pack_sees {w : World} {B : Nat} {T : DT} {x : DH} (u8 : List UInt8 → Bool) (h : DX w B T x) : ∀ (d : Nat) (W : World), Sees w B W → mayD u8 d T = true → (packD d T).length ≤ 900000 → Calls Tryd.prog 32 #[.agg x.cs] W (fun r W' => ∃ v, r = .returned v ∧ Below W.heap.size W W' ∧ BF (packD d T) v W') := by
  induction h with
  | @mk x b a ks sub hk hn hm hb ha hl hcap hc hs ih =>
    intro d W hW hmay hlen
    rcases d with _ | d
    · cases hmay
    · rw [mayD_succ, Bool.and_eq_true] at hmay
      obtain ⟨hown, hkids⟩ := hmay
      obtain ⟨hleaf, hao, hbe⟩ := own_leaf hown
      have hla := ha.len
      have hlb := hb.len
      obtain ⟨g, o, hgo⟩ := kids_at hc hW
      obtain ⟨gx, ox, hax⟩ := ((ha.keep hW.2).more hW.1).nat (Nat.le_refl _)
      have e0 : packD (d + 1) (.mk x.k x.f x.n b x.t a ks) = headD (tagD x.k x.n) (contD x.k x.f x.n b x.t a (ks.flatMap (packD d))) := rfl
      have ekk : kkL (kkD ks d) x.ks.n = ks.flatMap (packD d) := by rw [← hl, kkL_all]
      rw [e0] at hlen ⊢
      have hlc : (contD x.k x.f x.n b x.t a (ks.flatMap (packD d))).length ≤ 900000 := by
        unfold headD at hlen
        rw [List.length_cons, List.length_append] at hlen
        omega
      have hkl : (ks.flatMap (packD d)).length ≤ 900000 := by
        rw [contD_eq, List.length_append] at hlc
        omega
      refine pack_walk W hn hlc (fun W2 hB => ?_)
      rw [← ekk]
      have kid : ∀ k, k < x.ks.n → ∀ W3, Below W2.heap.size W2 W3 → Calls Tryd.prog 32 #[.agg (sub k).cs] W3 (fun r W' => ∃ v, r = .returned v ∧ Below W3.heap.size W3 W' ∧ BF (kkD ks d k) v W') := fun k hk W3 hB3 => by
        have e1 : ks[k]? = some _ := List.getElem?_eq_getElem (by omega)
        have e2 : kkD ks d k = packD d (ks[k]'(by omega)) := by unfold kkD; rw [e1]
        rw [e2]
        refine ih k _ e1 d W3 ((hW.below hB).below hB3) (List.all_eq_true.1 hkids _ (List.getElem_mem _)) ?_
        have h1 := kkL_le (kkD ks d) (show k + 1 ≤ x.ks.n by omega)
        rw [kkL_succ, List.length_append, ekk, e2] at h1
        omega
      have hW2 := hW.below hB
      obtain ⟨g2, o2, hgo2⟩ := kids_at hc hW2
      obtain ⟨gx2, ox2, hax2⟩ := ((ha.keep hW2.2).more hW2.1).nat (Nat.le_refl _)
      have hbl : b.length ≤ 900000 := by
        rcases hbe with h | h | h
        · omega
        · rw [contD_eq, List.length_append] at hlc
          have e : ownC x.k x.f x.n b x.t a = 0 :: b := by unfold ownC; rw [if_neg (by omega), if_neg (by omega), if_pos h]
          rw [e, List.length_cons] at hlc
          omega
        · rw [contD_eq, List.length_append] at hlc
          have e : ownC x.k x.f x.n b x.t a = b := by unfold ownC; rw [if_neg (by omega), if_neg (by omega), if_neg (by omega), if_pos h]
          rw [e] at hlc
          omega
      have hgl : ∀ i, a.getD i 0 < 18446744073709551616 := fun i => by
        rw [List.getD_eq_getElem?_getD]
        cases e : a[i]? with
        | none => simp
        | some y => exact ha.lt y (List.mem_iff_getElem?.2 ⟨i, e⟩)
      exact content_walk (sub := sub) (kkD ks d) W2 hn hm ⟨_, _, _, rfl, (hb.keep hW2.2).more hW2.1⟩ hbl hla ha.lt hgl (fun hk5 => by have := hao hk5; omega) hax2 hgo2 (by omega) (by rw [ekk]; exact hkl) kid
/-- The document's bytes: nothing where it may not be, nothing where it is too long. -/
def bytesE (u8 : List UInt8 → Bool) (T : DT) : Nat := if mayD u8 12 T = true then (if 65000 < (packD 12 T).length then 3 else 0) else 2
end Go.Proofs.YtiafcgoiolbdhaaDoor
namespace Go.Proofs.YtiafcgoiolbdhaaDoor
set_option linter.unusedVariables false
set_option linter.unusedSimpArgs false
theorem byteD_lo {n : Nat} (h : n < 128) : byteD n ≠ 129 ∧ byteD n ≠ 130 := by
  have e := byteD_nat (n := n) (by omega)
  refine ⟨fun h2 => ?_, fun h2 => ?_⟩
  · rw [h2] at e
    have : (129 : UInt8).toNat = 129 := rfl
    omega
  · rw [h2] at e
    have : (130 : UInt8).toNat = 130 := rfl
    omega
theorem head_len (t : Int) (c : List UInt8) : (headD t c).length = 1 + (lenD c.length).length + c.length := by
  unfold headD
  simp only [List.length_cons, List.length_append]
  omega
theorem span_head {t : Int} {c : List UInt8} (rest : List UInt8) (hc : c.length < 65536) : ∃ i, 2 ≤ i ∧ spanD (headD t c ++ rest) = some (i, i + c.length) ∧ ((headD t c ++ rest).take (i + c.length)).drop i = c ∧ (headD t c).length = i + c.length ∧ (headD t c ++ rest).getD 0 0 = byteD t.toNat := by
  have hcut : ∀ (p : List UInt8) (i : Nat), p.length = i → ((p ++ (c ++ rest)).take (i + c.length)).drop i = c := fun p i hp => by
    subst hp
    rw [← List.append_assoc, List.take_left' (by simp), List.drop_left' rfl]
  rcases Nat.lt_or_ge c.length 128 with h1 | h1
  · have e : headD t c ++ rest = [byteD t.toNat, byteD c.length] ++ (c ++ rest) := by
      unfold headD lenD
      rw [if_pos h1]
      simp
    refine ⟨2, by omega, ?_, by rw [e]; exact hcut _ 2 rfl, by rw [head_len]; unfold lenD; rw [if_pos h1]; simp, by rw [e]; rfl⟩
    have hb := byteD_nat (n := c.length) (by omega)
    have hl := byteD_lo h1
    rw [e]
    unfold spanD
    have g1 : ([byteD t.toNat, byteD c.length] ++ (c ++ rest)).getD 1 0 = byteD c.length := rfl
    rw [g1, if_neg (by simp), if_neg (fun h => hl.1 h.1), if_neg (fun h => hl.2 h.1), if_neg (by omega), hb, if_pos (by simp; omega)]
  · rcases Nat.lt_or_ge c.length 256 with h2 | h2
    · have e : headD t c ++ rest = [byteD t.toNat, 129, byteD c.length] ++ (c ++ rest) := by
        unfold headD lenD
        rw [if_neg (by omega), if_pos h2]
        simp
      refine ⟨3, by omega, ?_, by rw [e]; exact hcut _ 3 rfl, by rw [head_len]; unfold lenD; rw [if_neg (by omega), if_pos h2]; simp, by rw [e]; rfl⟩
      have hb := byteD_nat h2
      rw [e]
      unfold spanD
      have g1 : ([byteD t.toNat, 129, byteD c.length] ++ (c ++ rest)).getD 1 0 = 129 := rfl
      have g2 : ([byteD t.toNat, 129, byteD c.length] ++ (c ++ rest)).getD 2 0 = byteD c.length := rfl
      rw [g1, g2, if_neg (by simp), if_pos ⟨rfl, by simp⟩, hb, if_pos (by simp; omega)]
    · have e : headD t c ++ rest = [byteD t.toNat, 130, byteD (c.length / 256 % 256), byteD (c.length % 256)] ++ (c ++ rest) := by
        unfold headD lenD
        rw [if_neg (by omega), if_neg (by omega)]
        simp
      refine ⟨4, by omega, ?_, by rw [e]; exact hcut _ 4 rfl, by rw [head_len]; unfold lenD; rw [if_neg (by omega), if_neg (by omega)]; simp, by rw [e]; rfl⟩
      have hb1 := byteD_nat (n := c.length / 256 % 256) (by omega)
      have hb2 := byteD_nat (n := c.length % 256) (by omega)
      rw [e]
      unfold spanD
      have g1 : ([byteD t.toNat, 130, byteD (c.length / 256 % 256), byteD (c.length % 256)] ++ (c ++ rest)).getD 1 0 = 130 := rfl
      have g2 : ([byteD t.toNat, 130, byteD (c.length / 256 % 256), byteD (c.length % 256)] ++ (c ++ rest)).getD 2 0 = byteD (c.length / 256 % 256) := rfl
      have g3 : ([byteD t.toNat, 130, byteD (c.length / 256 % 256), byteD (c.length % 256)] ++ (c ++ rest)).getD 3 0 = byteD (c.length % 256) := rfl
      have e4 : 256 * (c.length / 256 % 256) + c.length % 256 = c.length := by omega
      rw [g1, g2, g3, if_neg (by simp), if_neg (fun h => absurd h.1 (by decide)), if_pos ⟨rfl, by simp⟩, hb1, hb2, e4, if_pos (by simp; omega)]
theorem tag_of {k n : Int} (h1 : 1 ≤ k) (h2 : k ≤ 10) (h3 : k = 8 → 0 ≤ n ∧ n ≤ 30) : (byteD (tagD k n).toNat).toNat = (tagD k n).toNat ∧ kindD (tagD k n).toNat = k := by
  have hk : k = 1 ∨ k = 2 ∨ k = 3 ∨ k = 4 ∨ k = 5 ∨ k = 6 ∨ k = 7 ∨ k = 8 ∨ k = 9 ∨ k = 10 := by omega
  rcases hk with rfl | rfl | rfl | rfl | rfl | rfl | rfl | rfl | rfl | rfl
  all_goals first
    | exact ⟨rfl, rfl⟩
    | (obtain ⟨h4, h5⟩ := h3 rfl
       have e : tagD 8 n = 160 + n := by
         unfold tagD
         rw [if_pos rfl, Int.tmod_eq_emod_of_nonneg h4]
         omega
       rw [e, byteD_nat (by omega)]
       refine ⟨rfl, ?_⟩
       unfold kindD
       simp only [show ¬ (160 + n).toNat = 1 by omega, show ¬ (160 + n).toNat = 2 by omega, show ¬ (160 + n).toNat = 3 by omega, show ¬ (160 + n).toNat = 4 by omega, show ¬ (160 + n).toNat = 6 by omega, show ¬ (160 + n).toNat = 12 by omega, show ¬ (160 + n).toNat = 48 by omega, show ¬ (160 + n).toNat = 49 by omega, show ¬ (160 + n).toNat = 24 by omega, if_false]
       rw [if_pos (by omega)])
theorem pack_len (d : Nat) (v : DT) : d = 0 ∨ 2 ≤ (packD d v).length := by
  cases d with
  | zero => exact .inl rfl
  | succ d =>
    right
    obtain ⟨k, f, n, b, t, a, ks⟩ := v
    unfold packD
    rw [head_len]
    have : 1 ≤ (lenD (contD k f n b t a (ks.flatMap (packD d))).length).length := by
      unfold lenD
      split
      · simp
      · split <;> simp
    omega
/-- Kids, one behind the other. -/
theorem rd_kids {rd : List UInt8 → Option (DT × Nat)} {pk : DT → List UInt8} : ∀ (ks : List DT) (f : Nat), (∀ k ∈ ks, ∀ rest, rd (pk k ++ rest) = some (k, (pk k).length)) → (∀ k ∈ ks, 1 ≤ (pk k).length) → (ks.flatMap pk).length ≤ f → rdKids rd f (ks.flatMap pk) = some ks
  | [], f, _, _, _ => by
    cases f <;> rfl
  | k :: r, f, h1, h2, h3 => by
    rw [List.flatMap_cons] at h3 ⊢
    have hk := h2 k List.mem_cons_self
    have hr := h1 k List.mem_cons_self (r.flatMap pk)
    rw [List.length_append] at h3
    obtain ⟨f, rfl⟩ : ∃ g, f = g + 1 := ⟨f - 1, by omega⟩
    generalize hP : pk k ++ r.flatMap pk = P at *
    have hpos : 0 < P.length := by rw [← hP, List.length_append]; omega
    cases P with
    | nil => simp at hpos
    | cons x c =>
      show (match rd (x :: c) with
        | none => none
        | some (k, n) => (rdKids rd f ((x :: c).drop n)).map (k :: ·)) = _
      rw [hr]
      show (rdKids rd f ((x :: c).drop (pk k).length)).map (k :: ·) = _
      rw [← hP, List.drop_left' rfl, rd_kids r f (fun k hk => h1 k (List.mem_cons_of_mem _ hk)) (fun k hk => h2 k (List.mem_cons_of_mem _ hk)) (by omega)]
      rfl
theorem flat_leD {pk : DT → List UInt8} {k : DT} : ∀ {ks : List DT}, k ∈ ks → (pk k).length ≤ (ks.flatMap pk).length
  | x :: r, h => by
    rw [List.flatMap_cons, List.length_append]
    rcases List.mem_cons.1 h with rfl | h
    · omega
    · have := flat_leD (pk := pk) h
      omega
/-- THE ROUND TRIP. -/
theorem read_pack (u8 : List UInt8 → Bool) : ∀ (d : Nat) (v : DT) (rest : List UInt8), mayD u8 d v = true → (packD d v).length ≤ 65000 → readD d (packD d v ++ rest) = some (v, (packD d v).length)
  | 0, v, rest, h, _ => by cases h
  | d + 1, .mk k f n b t a ks, rest, h, hl => by
    unfold mayD at h
    rw [Bool.and_eq_true] at h
    obtain ⟨ho, hk⟩ := h
    unfold ownD at ho
    simp only [Bool.and_eq_true, decide_eq_true_eq] at ho
    obtain ⟨⟨⟨⟨⟨⟨⟨⟨⟨k1, k10⟩, n1⟩, n2⟩, ha⟩, ht⟩, hn⟩, hks⟩, hf⟩, hb⟩ := ho
    have hn8 : k = 8 → 0 ≤ n ∧ n ≤ 30 := fun e => by
      subst e
      simp at hn
      omega
    obtain ⟨hbt, hkd⟩ := tag_of k1 k10 hn8
    unfold packD at hl ⊢
    generalize hC : contD k f n b t a (ks.flatMap (packD d)) = c at hl ⊢
    have hcl : c.length ≤ 65000 := by rw [head_len] at hl; omega
    obtain ⟨i, hi, hs, hcut, hlen, hg⟩ := span_head (t := tagD k n) rest (show c.length < 65536 by omega)
    have hkids : ∀ kk ∈ ks, ∀ rest, readD d (packD d kk ++ rest) = some (kk, (packD d kk).length) := fun kk hkk rest => by
      refine read_pack u8 d kk rest (List.all_eq_true.1 hk kk hkk) ?_
      have h1 := flat_leD (pk := packD d) hkk
      have h2 : (ks.flatMap (packD d)).length ≤ c.length := by
        rw [← hC]
        unfold contD
        rw [List.length_append]
        omega
      omega
    have hne : ∀ kk ∈ ks, 1 ≤ (packD d kk).length := fun kk hkk => by
      rcases pack_len d kk with h0 | h0
      · subst h0
        have := List.all_eq_true.1 hk kk hkk
        cases this
      · omega
    unfold readD
    rw [hs]
    show (makeD (kindD ((headD (tagD k n) c ++ rest).getD 0 0).toNat) ((headD (tagD k n) c ++ rest).getD 0 0).toNat (((headD (tagD k n) c ++ rest).take (i + c.length)).drop i) (rdKids (readD d) (((headD (tagD k n) c ++ rest).take (i + c.length)).drop i).length (((headD (tagD k n) c ++ rest).take (i + c.length)).drop i))).map (·, i + c.length) = _
    rw [hcut, hg, hbt, hkd, hlen]
    suffices hm : makeD k (tagD k n).toNat c (rdKids (readD d) c.length c) = some (.mk k f n b t a ks) by rw [hm]; rfl
    have kn : ks = [] → ks.flatMap (packD d) = [] := fun e => by subst e; rfl
    have kids_ : c = ks.flatMap (packD d) → rdKids (readD d) c.length c = some ks := fun e => by
      rw [e]
      exact rd_kids ks _ hkids hne (Nat.le_refl _)
    have hcases : k = 1 ∨ k = 2 ∨ k = 3 ∨ k = 4 ∨ k = 5 ∨ k = 6 ∨ k = 7 ∨ k = 8 ∨ k = 9 ∨ k = 10 := by omega
    rcases hcases with rfl | rfl | rfl | rfl | rfl | rfl | rfl | rfl | rfl | rfl
    · simp at ha ht hn hks hb
      obtain rfl := ha; obtain rfl := ht; obtain rfl := hn; obtain rfl := hks; obtain rfl := hb
      subst hC
      cases f <;> rfl
    · simp at ha ht hks hb hf
      obtain rfl := ha; obtain rfl := ht; obtain rfl := hks; obtain rfl := hb; obtain rfl := hf
      have e : c = wholeD n := by rw [← hC]; simp [contD]
      rw [e]
      show some (DT.mk 2 false (numD (wholeD n)) [] [] [] []) = _
      rw [num_whole n1 n2]
    · simp at ha ht hn hks hf
      obtain rfl := ha; obtain rfl := ht; obtain rfl := hn; obtain rfl := hks; obtain rfl := hf
      have e : c = 0 :: b := by rw [← hC]; simp [contD]
      rw [e]
      rfl
    · simp at ha ht hn hks hf
      obtain rfl := ha; obtain rfl := ht; obtain rfl := hn; obtain rfl := hks; obtain rfl := hf
      have e : c = b := by rw [← hC]; simp [contD]
      rw [e]
      rfl
    · simp at ha ht hn hks hb hf
      obtain rfl := ht; obtain rfl := hn; obtain rfl := hks; obtain rfl := hb; obtain rfl := hf
      have e : c = oidD a := by rw [← hC]; simp [contD]
      rw [e]
      show some (DT.mk 5 false 0 [] [] (arcsD (oidD a) 0 []) []) = _
      rw [arcs_oid ha]
    · simp at ha hn hks hb hf
      obtain rfl := ha; obtain rfl := hn; obtain rfl := hks; obtain rfl := hb; obtain rfl := hf
      have e : c = t := by rw [← hC]; simp [contD]
      rw [e]
      rfl
    · simp at ha ht hn hb hf
      obtain rfl := ha; obtain rfl := ht; obtain rfl := hn; obtain rfl := hb; obtain rfl := hf
      rw [kids_ (by rw [← hC]; simp [contD])]
      rfl
    · simp at ha ht hb hf
      obtain rfl := ha; obtain rfl := ht; obtain rfl := hb; obtain rfl := hf
      rw [kids_ (by rw [← hC]; simp [contD])]
      obtain ⟨q1, q2⟩ := hn8 rfl
      have e8 : (((tagD 8 n).toNat : Int) - 160) = n := by
        unfold tagD
        rw [if_pos rfl, Int.tmod_eq_emod_of_nonneg q1]
        omega
      show some (DT.mk 8 false (((tagD 8 n).toNat : Int) - 160) [] [] [] ks) = _
      rw [e8]
    · simp at ha ht hn hb hf
      obtain rfl := ha; obtain rfl := ht; obtain rfl := hn; obtain rfl := hb; obtain rfl := hf
      rw [kids_ (by rw [← hC]; simp [contD])]
      rfl
    · simp at ha hn hks hb hf
      obtain rfl := ha; obtain rfl := hn; obtain rfl := hks; obtain rfl := hb; obtain rfl := hf
      have e : c = t := by rw [← hC]; simp [contD]
      rw [e]
      rfl
/-- What bytes are: just a value's. -/
def ofD (u8 : List UInt8 → Bool) (b : List UInt8) : Option DT :=
  if 65000 < b.length then none else match readD 12 b with
    | none => none
    | some (v, n) => bif decide (n = b.length) && (mayD u8 12 v && decide (packD 12 v = b)) then some v else none
theorem of_pack {u8 : List UInt8 → Bool} {v : DT} (h : mayD u8 12 v = true) (hl : (packD 12 v).length ≤ 65000) : ofD u8 (packD 12 v) = some v := by
  have hr := read_pack u8 12 v [] h hl
  rw [List.append_nil] at hr
  unfold ofD
  rw [if_neg (by omega), hr]
  simp [h]
theorem of_some {u8 : List UInt8 → Bool} {b : List UInt8} {v : DT} (h : ofD u8 b = some v) : mayD u8 12 v = true ∧ packD 12 v = b ∧ b.length ≤ 65000 := by
  unfold ofD at h
  split at h
  · cases h
  · rename_i hl
    split at h
    · cases h
    · rename_i v' n hr
      cases hc : (decide (n = b.length) && (mayD u8 12 v' && decide (packD 12 v' = b))) with
      | false => rw [hc] at h; cases h
      | true =>
        rw [hc] at h
        simp only [cond_true, Option.some.injEq] at h
        subst h
        simp only [Bool.and_eq_true, decide_eq_true_eq] at hc
        exact ⟨hc.2.1, hc.2.2, by omega⟩
end Go.Proofs.YtiafcgoiolbdhaaDoor
namespace Go.Proofs.YtiafcgoiolbdhaaDoor
set_option linter.unusedVariables false
set_option linter.unusedSimpArgs false
set_option maxRecDepth 100000
open Go Go.RowKit
def intT (n : Int) : DT := .mk 2 false n [] [] [] []
theorem int_may (u8 : List UInt8 → Bool) {n : Int} (hn : -9223372036854775808 ≤ n ∧ n < 9223372036854775808) : mayD u8 12 (intT n) = true := by
  show mayD u8 (11 + 1) (.mk 2 false n [] [] [] []) = true
  rw [mayD_succ]
  unfold ownD
  simp [hn.1, hn.2]
theorem int_pack (n : Int) : packD 12 (intT n) = [2, byteD (sizeD n)] ++ wholeD n := by
  show headD (tagD 2 n) (contD 2 false n [] [] [] []) = _
  have e1 : contD 2 false n [] [] [] [] = wholeD n := by
    rw [contD_eq, List.append_nil]
    unfold ownC
    rw [if_neg (by decide), if_pos rfl]
  have e2 : (wholeD n).length = sizeD n := by unfold wholeD; rw [be_len]
  have := size_pos n
  rw [e1]
  unfold headD lenD
  rw [e2, if_pos (by omega)]
  rfl
theorem int_len (n : Int) : (packD 12 (intT n)).length = sizeD n + 2 := by
  rw [int_pack, List.length_append]
  unfold wholeD
  rw [be_len]
  simp
  omega
theorem int_inj {n m : Int} (hn : -9223372036854775808 ≤ n ∧ n < 9223372036854775808) (hm : -9223372036854775808 ≤ m ∧ m < 9223372036854775808) : packD 12 (intT n) = packD 12 (intT m) ↔ n = m := by
  refine ⟨fun h => ?_, fun h => by rw [h]⟩
  rw [int_pack, int_pack] at h
  have h2 := (List.append_inj h (by simp)).2
  rw [← num_whole hn.1 hn.2, ← num_whole hm.1 hm.2, h2]
theorem size_fits (n : Int) (h : sizeD n < 8) : fitsD n (sizeD n) = true := by
  unfold sizeD at h ⊢
  repeat' split
  all_goals first | assumption | skip
  all_goals simp_all
theorem size_least (n : Int) (h : 1 < sizeD n) : fitsD n (sizeD n - 1) = false := by
  unfold sizeD at h ⊢
  repeat' split
  all_goals simp_all
end Go.Proofs.YtiafcgoiolbdhaaDoor
