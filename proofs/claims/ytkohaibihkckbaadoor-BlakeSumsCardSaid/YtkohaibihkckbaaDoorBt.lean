/- Layer 11's law of tables: the orders, the start's words. -/
import Derived.Test.YtkohaibihkckbaaDoorBe
namespace Go.Proofs.YtkohaibihkckbaaDoor
set_option linter.unusedVariables false
set_option linter.unusedSimpArgs false
set_option maxRecDepth 100000
open Go Go.RowKit

/-- Worlds behind w. -/
structure Ext (w : World) : Prop where
  ok : True
theorem Ext.ext {w W : World} (_ : Ext w) (hb : Below w.heap.size w W) : Below w.heap.size w W := hb
/-! Rows of truths. -/
def bwv (s : Nat → Bool) : Array Value := ((List.range 16).map fun i => Value.bool (s i)).toArray
def updT (s : Nat → Bool) (a : Nat) : Nat → Bool := fun i => Nat.beq i a || s i
theorem bwv_size (s : Nat → Bool) : (bwv s).size = 16 := by simp [bwv]
theorem bwv_get {i : Nat} (h : i < 16) (s : Nat → Bool) : (bwv s)[i]? = some (.bool (s i)) := by simp [bwv, h]
theorem bwv_set (s : Nat → Bool) (a : Nat) : (bwv s).setIfInBounds a (.bool true) = bwv (updT s a) := by
  apply Array.ext_getElem?
  intro i
  by_cases h : i < 16
  · rw [bwv_get h, Array.getElem?_setIfInBounds, bwv_size]
    unfold updT
    by_cases e : a = i
    · subst e
      rw [if_pos rfl, if_pos h, Nat.beq_refl]
      rfl
    · rw [if_neg e, bwv_get h, show Nat.beq i a = false from nb_ne (Ne.symm e)]
      rfl
  · rw [Array.getElem?_eq_none (by simp [bwv_size]; omega), Array.getElem?_eq_none (by rw [bwv_size]; omega)]
/-- Which an order's first k have named. -/
def seenB (r : Nat) : Nat → Nat → Bool
  | 0 => fun _ => false
  | k + 1 => updT (seenB r k) (ord r k)
theorem seen_none : ∀ r, r < 10 → ∀ k, k < 16 → seenB r k (ord r k) = false := by decide
theorem seen_0 (r : Nat) : bwv (fun _ => false) = bwv (seenB r 0) := rfl
def z16 : Nat → Nat := fun _ => 0
theorem al_a16 (W : World) : (Instr.alloc 33 true (.tuple #[])).run Tryd.prog W = .ok (.pointer (some ⟨W.heap.size, 0, none⟩)) (W.alloc (.cells (iv 16 z16) 33)) := by kernel_rfl
theorem al_b16 (W : World) : (Instr.alloc 35 true (.tuple #[])).run Tryd.prog W = .ok (.pointer (some ⟨W.heap.size, 0, none⟩)) (W.alloc (.cells (bwv (fun _ => false)) 35)) := by kernel_rfl
theorem iv_size (m : Nat) (f : Nat → Nat) : (iv m f).size = m := by simp [iv]
theorem iv_one (m : Nat) (f : Nat → Nat) : (iv m f).all (·.oneCell') = true := by
  rw [Array.all_eq_true']
  intro x hx
  simp only [iv, List.mem_toArray, List.mem_map] at hx
  obtain ⟨i, _, rfl⟩ := hx
  rfl
theorem info_a16 (f : Nat → Nat) : (Tryd.prog.info? 33).map (·.size) = some (iv 16 f).size := by rw [iv_size]; kernel_rfl
theorem size_iv (f g : Nat → Nat) : (iv 16 f).size = (iv 16 g).size := by rw [iv_size, iv_size]
theorem ia_a16 {j : Nat} (hj : j < 16) {g : Nat} (W : World) : (Instr.indexAt 33 (.pointer (some ⟨g, 0, none⟩)) (.int .i64 (j : Int))).run Tryd.prog W = .ok (.pointer (some ⟨g, j, none⟩)) W := by
  have h1 : (0 : Int) ≤ (j : Int) := by omega
  have h2 : (j : Int) < 16 := by omega
  go_simp
theorem ia_b16 {j : Nat} (hj : j < 16) {g : Nat} (W : World) : (Instr.indexAt 35 (.pointer (some ⟨g, 0, none⟩)) (.int .i64 (j : Int))).run Tryd.prog W = .ok (.pointer (some ⟨g, j, none⟩)) W := by
  have h1 : (0 : Int) ≤ (j : Int) := by omega
  have h2 : (j : Int) < 16 := by omega
  go_simp
theorem ld_ivA {g j m : Nat} {t : TypeId} {f : Nat → Nat} (hj : j < m) (W : World) (h : Blk W g t (iv m f)) : (Instr.loadAt 3 (.pointer (some ⟨g, j, none⟩))).run Tryd.prog W = .ok (.int .i64 ((f j : Nat) : Int)) W := by
  have hc := h.cell j
  rw [iv_get hj] at hc
  go_simp
theorem ld_bw {g j : Nat} {t : TypeId} {s : Nat → Bool} {b : Bool} (hj : j < 16) (hb : s j = b) (W : World) (h : Blk W g t (bwv s)) : (Instr.loadAt 4 (.pointer (some ⟨g, j, none⟩))).run Tryd.prog W = .ok (.bool b) W := by
  have hc := h.cell j
  rw [bwv_get hj, hb] at hc
  go_simp
theorem st_bw {g j : Nat} {t : TypeId} {s : Nat → Bool} (hj : j < 16) (W : World) (h : Blk W g t (bwv s)) : (Instr.storeAt 4 (.pointer (some ⟨g, j, none⟩)) (.bool true)).run Tryd.prog W = .ok () (W.setCells g j [.bool true]) := by
  have hc := h.cell j
  have hf := h.frozen j
  rw [bwv_get hj] at hc
  have hs : (W.cell? ⟨g, j, none⟩).isSome = true := by rw [hc]; rfl
  show _ = Result.ok () (W.setCell ⟨g, j, none⟩ (.bool true))
  go_simp
theorem sv_bw {s u : Nat → Bool} {j : Nat} (h : updT s j = u) : setV (bwv s) j [.bool true] = bwv u := by
  rw [← h]
  exact bwv_set s j
theorem z_neq {k m : Nat} (h : k = m) (p q : Operand) (W : World) : (do eqGuard .neq 3 p q (.int .i64 (k : Int)) (.int .i64 (m : Int)); binOp .neq 3 (.int .i64 (k : Int)) (.int .i64 (m : Int)) : Sem Value).run Tryd.prog W = .ok (.bool false) W := by
  subst h
  go_simp
theorem w_neq (x : UInt32) (p q : Operand) (W : World) : (do eqGuard .neq 36 p q (wc x) (wc x); binOp .neq 36 (wc x) (wc x) : Sem Value).run Tryd.prog W = .ok (.bool false) W := by
  unfold wc
  go_simp
theorem w_eq0 (p q : Operand) (W : World) : (do eqGuard .eql 36 p q (.int .u32 0) (.int .u32 0); binOp .eql 36 (.int .u32 0) (.int .u32 0) : Sem Value).run Tryd.prog W = .ok (.bool true) W := by
  go_simp
theorem bd_a16 (W : World) : (Instr.build 33 ([] : List (Nat × Value)).toArray).run Tryd.prog W = .ok (.agg (iv 16 z16)) W := by kernel_rfl
theorem a_eq0 (p q : Operand) (W : World) : (do eqGuard .eql 33 p q (.agg (iv 16 z16)) (.agg (iv 16 z16)); binOp .eql 33 (.agg (iv 16 z16)) (.agg (iv 16 z16)) : Sem Value).run Tryd.prog W = .ok (.bool true) W := by kernel_rfl
attribute [local irreducible] wv wc bvs bv iv tabR wn ivB bwv dnI
set_option maxHeartbeats 4000000 in
theorem law_tables (x : Int) (w : World) (hpg : Ext w) (hO : ∀ (i : Nat) (W : World), Below w.heap.size w W → i < 10 → Calls Tryd.prog 9 #[.int .i64 (i : Int)] W (fun rr w' => rr = .returned (.agg (iv 16 (ord i))) ∧ Below W.heap.size W w')) (hOn : ∀ (x : Int) (W : World), Below w.heap.size w W → ¬ (0 ≤ x ∧ x < 10) → Calls Tryd.prog 9 #[.int .i64 x] W (fun rr w' => rr = .returned (.agg (iv 16 z16)) ∧ Below W.heap.size W w')) (hS : ∀ (i : Nat) (W : World), Below w.heap.size w W → i < 8 → Calls Tryd.prog 10 #[.int .i64 (i : Int)] W (fun rr w' => rr = .returned (wc (ivB i)) ∧ Below W.heap.size W w')) (hSn : ∀ (x : Int) (W : World), Below w.heap.size w W → ¬ (0 ≤ x ∧ x < 8) → Calls Tryd.prog 10 #[.int .i64 x] W (fun rr w' => rr = .returned (.int .u32 0) ∧ Below W.heap.size W w')) (hK : ∀ W : World, Below w.heap.size w W → Calls Tryd.prog 5 #[] W (fun rr w' => rr = .returned (.bool true) ∧ Below W.heap.size W w')) : Calls Tryd.prog 4 #[.int .i64 x] w (fun rr w' => rr = .returned (.bool true) ∧ Below w.heap.size w w') := by
  refine calls_st (vs := [.int .i64 x]) 79 Tryd.func4 rfl Tryd.ntmps4 rfl (fun a W H => ?_)
  replace H : St 79 w a W [(0, .int .i64 x)] [] := H
  refine sqR H gs0 fun Z_ z_ => rS 1 rfl <| rN0 z_ ?_
  try clear H a W
  intro a W H
  refine wp_seq_k (fun K2 hK2 => ?_)
  refine rgP H gs0 (rT (V := fun g => .slice (some ⟨g, 0, none⟩) 10 10) (T := fun g u => tabB g u 10 16 ord) rfl rfl ⟨_, Tryd.func8, by kernel_rfl⟩ rfl (fun w => rorders_any w) fun gO oO => rI0 ?_)
  try clear H a W
  intro a W H
  replace H : St 79 w a W [(9, .slice (some ⟨gO, 0, none⟩) 10 10), (2, .bool false), (0, .int .i64 x)] (tabB gO oO 10 16 ord) := H
  refine rgO H gs0 (rS 1 rfl <| rK [1, 0] [] [] <| rZ0 ?_)
  try clear H a W
  intro a W H
  refine hK2 _ _ ?_
  clear hK2
  refine wp_seq_k (fun K3 hK3 => ?_)
  refine sqR H gs0 fun Z_ z_ => rS 1 rfl <| rN0 z_ ?_
  try clear H a W
  intro a W H
  refine wp_block ?_
  replace H : St 79 w a W [(4, .int .i64 ((0 : Nat) : Int)), (3, .slice (some ⟨gO, 0, none⟩) 10 10), (0, .int .i64 x)] (tabB gO oO 10 16 ord) := H.pickF (h := []) (t := tabB gO oO 10 16 ord) [0, 1, 3] [] rfl
  refine wp_rounds 10 (fun r a W => St 79 w a W [(4, .int .i64 ((r : Nat) : Int)), (3, .slice (some ⟨gO, 0, none⟩) 10 10), (0, .int .i64 x)] (tabB gO oO 10 16 ord)) (k0 := 0) H (by omega) ?_
  try clear H a W
  intro r a W hr H
  by_cases hr2 : r < 10
  · refine wp_seq_k (fun K5 hK5 => ?_)
    refine sqR H gs0 fun Z_ z_ => rS 1 rfl <| rV rfl (does_binOp rfl rfl rfl (i_lss_yes (k := r) (m := 10) (by omega) _ _)) <| rN0 z_ ?_
    try clear H a W
    intro a W H
    refine wp_cond_true (H.ev rfl) ?_
    refine wp_skip ?_
    refine hK5 _ _ ?_
    clear hK5
    refine wp_seq_k (fun K7 hK7 => ?_)
    refine wp_block ?_
    refine sqR H gs0 fun Z_ z_ => rS 1 rfl <| rV rfl (does_call rfl ⟨_, Tryd.func9, by kernel_rfl⟩ rfl (fun W hb => hO _ W (hpg.ext hb) (by omega))) <| rA rfl rfl al_a16 fun g1 => rW [1] ⟨rfl, rfl⟩ rfl rfl rfl (info_a16 _) (size_iv _ _) (iv_one _ _) <| rN0 z_ ?_
    try clear H a W
    intro a W H
    refine sqR H gs0 fun Z_ z_ => rA rfl rfl al_b16 fun g2 => rN0 z_ ?_
    try clear H a W
    intro a W H
    refine sqR H gs0 fun Z_ z_ => rS 1 rfl <| rN0 z_ ?_
    try clear H a W
    intro a W H
    rw [seen_0 r] at H
    refine wp_block ?_
    replace H : St 79 w a W [(7, .int .i64 ((0 : Nat) : Int)), (6, .pointer (some ⟨g2, 0, none⟩)), (5, .pointer (some ⟨g1, 0, none⟩)), (4, .int .i64 ((r : Nat) : Int)), (3, .slice (some ⟨gO, 0, none⟩) 10 10), (0, .int .i64 x)] ((g2, 35, bwv (seenB r 0)) :: (g1, 33, iv 16 (ord r)) :: tabB gO oO 10 16 ord) := H.pickF (h := [(g2, 35, bwv (seenB r 0)), (g1, 33, iv 16 (ord r))]) (t := tabB gO oO 10 16 ord) [0, 1, 2, 7, 8, 9] [0, 1] rfl
    refine wp_rounds 16 (fun k a W => St 79 w a W [(7, .int .i64 ((k : Nat) : Int)), (6, .pointer (some ⟨g2, 0, none⟩)), (5, .pointer (some ⟨g1, 0, none⟩)), (4, .int .i64 ((r : Nat) : Int)), (3, .slice (some ⟨gO, 0, none⟩) 10 10), (0, .int .i64 x)] ((g2, 35, bwv (seenB r k)) :: (g1, 33, iv 16 (ord r)) :: tabB gO oO 10 16 ord)) (k0 := 0) H (by omega) ?_
    try clear H a W
    intro k a W hk H
    by_cases hk2 : k < 16
    · refine wp_seq_k (fun K11 hK11 => ?_)
      refine sqR H gs0 fun Z_ z_ => rS 1 rfl <| rV rfl (does_binOp rfl rfl rfl (i_lss_yes (k := k) (m := 16) (by omega) _ _)) <| rN0 z_ ?_
      try clear H a W
      intro a W H
      refine wp_cond_true (H.ev rfl) ?_
      refine wp_skip ?_
      refine hK11 _ _ ?_
      clear hK11
      refine wp_seq_k (fun K13 hK13 => ?_)
      refine wp_block ?_
      refine wp_seq_k (fun K14 hK14 => ?_)
      refine sqD (.v 20 _ [] :: .v 21 _ [0] :: .v 22 _ [1] :: .v 23 _ [] :: .v 24 _ [] :: .v 25 _ [3, 4] :: .v 26 _ [5] :: .v 27 _ [] :: .v 28 _ [6, 7] :: .v 29 _ [8] :: .v 30 _ [2, 9] :: .v 31 _ [10] :: .v 32 _ [11] :: .v 33 _ [12, 11] :: .v 34 _ [13, 11] :: .v 35 _ [14, 11] :: .v 36 _ [15, 11] :: .v 37 _ [11, 16] :: []) (by kernel_rfl) (by kernel_rfl) H gs0 (fun _ => ⟨oS rfl rfl, oV rfl (does_indexAddr rfl rfl rfl (ia_a16 (j := k) (by omega))), oV rfl (does_loadAt (v := .int .i64 ((ord r k : Nat) : Int)) rfl rfl (k := 1) rfl (ld_ivA (by omega))), oS rfl rfl, oS rfl rfl, oV rfl (does_indexAddr rfl rfl rfl (ia_intss (j := r) (by omega))), oV rfl (does_loadIn 2 _ rfl rfl rfl List.mem_cons_self (ld_tab (j := r) (n := 10) (by omega))), oS rfl rfl, oV rfl (does_indexAddr rfl rfl rfl (ia_ints (j := k) (by omega))), oV rfl (does_loadIn 2 _ rfl rfl rfl (tabB_row (k := r) (by omega)) (ld_iv (j := k) (m := 16) (by omega))), oV rfl (does_binOp rfl rfl rfl (z_neq rfl _ _)), oS rfl rfl, oS rfl rfl, oV rfl (does_indexAddr rfl rfl rfl (ia_a16 (j := k) (by omega))), oV rfl (does_loadAt (v := .int .i64 ((ord r k : Nat) : Int)) rfl rfl (k := 1) rfl (ld_ivA (by omega))), oV rfl (does_indexAddr rfl rfl rfl (ia_b16 (j := (ord r k)) (ord_lt _ _))), oV rfl (does_loadAt (v := .bool false) rfl rfl (k := 0) rfl (ld_bw (ord_lt _ _) (seen_none _ (by omega) _ (by omega)))), oS rfl rfl, trivial⟩) fun Z_ z_ => rN0 z_ ?_
      try clear H a W
      intro a W H
      refine wp_cond_false (H.ev rfl) ?_
      refine wp_skip ?_
      refine hK14 _ _ ?_
      clear hK14
      refine rgP H gs0 (rS 1 rfl <| rV rfl (does_indexAddr rfl rfl rfl (ia_a16 (j := k) (by omega))) <| rV rfl (does_loadAt (v := .int .i64 ((ord r k : Nat) : Int)) rfl rfl (k := 1) rfl (ld_ivA (by omega))) <| rV rfl (does_indexAddr rfl rfl rfl (ia_b16 (j := (ord r k)) (ord_lt _ _))) <| rX [1] (c := bwv (seenB r (k + 1))) ⟨rfl, rfl⟩ rfl rfl rfl (st_bw (ord_lt _ _)) (sv_bw (u := seenB r (k + 1)) rfl) <| rZ0 ?_)
      try clear H a W
      intro a W H
      refine blk_normal ?_
      refine hK13 _ _ ?_
      clear hK13
      refine rgP H gs0 (rS 1 rfl <| rV rfl (does_binOp rfl rfl rfl (i_inc (by omega) _ _)) <| rK [1, 1, 1, 1, 1, 1, 1, 1, 1, 1, 1, 1, 1, 1, 1, 1, 1, 1, 1, 1, 1, 1, 1, 1, 1, 1, 0] [] [] <| rS 1 rfl <| rZ0 ?_)
      try clear H a W
      intro a W H
      refine ⟨k + 1, by omega, by omega, ?_⟩
      show St 79 w a W [(7, .int .i64 ((k + 1 : Nat) : Int)), (6, .pointer (some ⟨g2, 0, none⟩)), (5, .pointer (some ⟨g1, 0, none⟩)), (4, .int .i64 ((r : Nat) : Int)), (3, .slice (some ⟨gO, 0, none⟩) 10 10), (0, .int .i64 x)] ((g2, 35, bwv (seenB r (k + 1))) :: (g1, 33, iv 16 (ord r)) :: tabB gO oO 10 16 ord)
      exact H.pickF (h := [(g2, 35, bwv (seenB r (k + 1))), (g1, 33, iv 16 (ord r))]) (t := tabB gO oO 10 16 ord) [0, 27, 28, 29, 30, 31] [0, 1] rfl
    · obtain rfl : 16 = k := by omega
      refine wp_seq_k (fun K16 hK16 => ?_)
      refine sqR H gs0 fun Z_ z_ => rS 1 rfl <| rV rfl (does_binOp rfl rfl rfl (i_lss_no (k := 16) (m := 16) (by omega) _ _)) <| rN0 z_ ?_
      try clear H a W
      intro a W H
      refine wp_cond_false (H.ev rfl) ?_
      refine wp_exit ?_
      repeat (with_reducible refine then_exit ?_)
      refine blk_exit ?_
      refine blk_normal ?_
      refine hK7 _ _ ?_
      clear hK7
      refine rgP H gs0 (rS 1 rfl <| rV rfl (does_binOp rfl rfl rfl (i_inc (by omega) _ _)) <| rK [1, 1, 1, 1, 1, 1, 1, 0] [] [] <| rS 1 rfl <| rZ0 ?_)
      try clear H a W
      intro a W H
      refine ⟨r + 1, by omega, by omega, ?_⟩
      show St 79 w a W [(4, .int .i64 ((r + 1 : Nat) : Int)), (3, .slice (some ⟨gO, 0, none⟩) 10 10), (0, .int .i64 x)] (tabB gO oO 10 16 ord)
      exact H.pickF (h := [(g2, 35, bwv (seenB r 16)), (g1, 33, iv 16 (ord r))]) (t := tabB gO oO 10 16 ord) [0, 8, 9] [] rfl
  · obtain rfl : 10 = r := by omega
    refine wp_seq_k (fun K18 hK18 => ?_)
    refine sqR H gs0 fun Z_ z_ => rS 1 rfl <| rV rfl (does_binOp rfl rfl rfl (i_lss_no (k := 10) (m := 10) (by omega) _ _)) <| rK [1, 0] [] [] <| rN0 z_ ?_
    try clear H a W
    intro a W H
    refine wp_cond_false (H.ev rfl) ?_
    refine wp_exit ?_
    repeat (with_reducible refine then_exit ?_)
    refine blk_exit ?_
    refine hK3 _ _ ?_
    clear hK3
    refine wp_seq_k (fun K20 hK20 => ?_)
    refine sqR H gs0 fun Z_ z_ => rS 1 rfl <| rK [1, 0, 0, 0] [] [] <| rN0 z_ ?_
    try clear H a W
    intro a W H
    refine wp_block ?_
    replace H : St 79 w a W [(8, .int .i64 ((0 : Nat) : Int)), (0, .int .i64 x)] (tabB gO oO 10 16 ord) := H.pickF (h := []) (t := tabB gO oO 10 16 ord) [0, 1] [] rfl
    refine wp_rounds 8 (fun k a W => St 79 w a W [(8, .int .i64 ((k : Nat) : Int)), (0, .int .i64 x)] (tabB gO oO 10 16 ord)) (k0 := 0) H (by omega) ?_
    try clear H a W
    intro k a W hk H
    by_cases hk2 : k < 8
    · refine wp_seq_k (fun K22 hK22 => ?_)
      refine sqR H gs0 fun Z_ z_ => rS 1 rfl <| rV rfl (does_binOp rfl rfl rfl (i_lss_yes (k := k) (m := 8) (by omega) _ _)) <| rN0 z_ ?_
      try clear H a W
      intro a W H
      refine wp_cond_true (H.ev rfl) ?_
      refine wp_skip ?_
      refine hK22 _ _ ?_
      clear hK22
      refine wp_seq_k (fun K24 hK24 => ?_)
      refine wp_block ?_
      refine sqR H gs0 fun Z_ z_ => rS 1 rfl <| rV rfl (does_call rfl ⟨_, Tryd.func10, by kernel_rfl⟩ rfl (fun W hb => hS _ W (hpg.ext hb) (by omega))) <| rS 1 rfl <| rV rfl (does_call rfl ⟨_, Tryd.func11, by kernel_rfl⟩ rfl (fun W hb => rstart_any k (by omega) W)) <| rV rfl (does_binOp rfl rfl rfl (w_neq _ _ _)) <| rN0 z_ ?_
      try clear H a W
      intro a W H
      refine wp_cond_false (H.ev rfl) ?_
      refine wp_skip ?_
      refine blk_normal ?_
      refine hK24 _ _ ?_
      clear hK24
      refine rgP H gs0 (rS 1 rfl <| rV rfl (does_binOp rfl rfl rfl (i_inc (by omega) _ _)) <| rK [1, 1, 1, 1, 1, 1, 1, 1, 1, 0] [] [] <| rS 1 rfl <| rZ0 ?_)
      try clear H a W
      intro a W H
      refine ⟨k + 1, by omega, by omega, ?_⟩
      show St 79 w a W [(8, .int .i64 ((k + 1 : Nat) : Int)), (0, .int .i64 x)] (tabB gO oO 10 16 ord)
      exact H.pickF (h := []) (t := tabB gO oO 10 16 ord) [0, 10] [] rfl
    · obtain rfl : 8 = k := by omega
      refine wp_seq_k (fun K26 hK26 => ?_)
      refine sqR H gs0 fun Z_ z_ => rS 1 rfl <| rV rfl (does_binOp rfl rfl rfl (i_lss_no (k := 8) (m := 8) (by omega) _ _)) <| rK [1, 0] [] [] <| rN0 z_ ?_
      try clear H a W
      intro a W H
      refine wp_cond_false (H.ev rfl) ?_
      refine wp_exit ?_
      repeat (with_reducible refine then_exit ?_)
      refine blk_exit ?_
      rcases (show x < 0 ∨ (0 ≤ x ∧ x < 8) ∨ (8 ≤ x ∧ x < 10) ∨ 10 ≤ x by omega) with h5 | h5 | h5 | h5
      · refine hK20 _ _ ?_
        clear hK20
        refine sqR H gs0 fun Z_ z_ => rS 1 rfl <| rV rfl (does_binOp rfl rfl rfl (z_geq (k := x) (m := 0) (decide_eq_false (by omega)) _ _)) <| rS 6 rfl <| rV rfl (does_call rfl ⟨_, Tryd.func9, by kernel_rfl⟩ rfl (fun W hb => hOn _ W (hpg.ext hb) (by omega))) <| rV rfl (does_build (ps := []) rfl rfl bd_a16) <| rV rfl (does_binOp rfl rfl rfl (a_eq0 _ _)) <| rS 3 rfl <| rV rfl (does_binOp rfl rfl rfl (z_geq (k := x) (m := 0) (decide_eq_false (by omega)) _ _)) <| rS 6 rfl <| rV rfl (does_call rfl ⟨_, Tryd.func10, by kernel_rfl⟩ rfl (fun W hb => hSn _ W (hpg.ext hb) (by omega))) <| rV rfl (does_binOp rfl rfl rfl (w_eq0 _ _)) <| rS 3 rfl <| rV rfl (does_call rfl ⟨_, Tryd.func5, by kernel_rfl⟩ rfl (fun W hb => hK W (hpg.ext hb))) <| rS 2 rfl <| rK [1, 0, 0, 0, 0, 0, 0, 0, 0, 0, 0, 0, 0, 0, 0, 0, 0, 0, 0, 0, 0, 0, 0, 0, 0, 0, 0, 0, 0, 0, 0, 0] [] [] <| rN0 z_ ?_
        try clear H a W
        intro a W H
        refine wp_ret ?_
        repeat (first | (with_reducible refine then_ret ?_) | (with_reducible refine blk_ret ?_))
        refine end_tmp (p := 2) rfl rfl H (fun hb => ?_)
        exact ⟨rfl, hb⟩
      · refine hK20 _ _ ?_
        clear hK20
        refine sqR H gs0 fun Z_ z_ => rS 1 rfl <| rV rfl (does_binOp rfl rfl rfl (z_geq (k := x) (m := 0) (decide_eq_true (by omega)) _ _)) <| rS 2 rfl <| rV rfl (does_binOp rfl rfl rfl (z_lss (k := x) (m := 10) (decide_eq_true (by omega)) _ _)) <| rS 9 rfl <| rV rfl (does_binOp rfl rfl rfl (z_geq (k := x) (m := 0) (decide_eq_true (by omega)) _ _)) <| rS 2 rfl <| rV rfl (does_binOp rfl rfl rfl (z_lss (k := x) (m := 8) (decide_eq_true (by omega)) _ _)) <| rS 8 rfl <| rV rfl (does_call rfl ⟨_, Tryd.func5, by kernel_rfl⟩ rfl (fun W hb => hK W (hpg.ext hb))) <| rS 2 rfl <| rK [1, 0, 0, 0, 0, 0, 0, 0, 0, 0, 0, 0, 0, 0, 0, 0, 0, 0, 0, 0, 0, 0, 0, 0, 0, 0, 0, 0, 0, 0, 0, 0] [] [] <| rN0 z_ ?_
        try clear H a W
        intro a W H
        refine wp_ret ?_
        repeat (first | (with_reducible refine then_ret ?_) | (with_reducible refine blk_ret ?_))
        refine end_tmp (p := 2) rfl rfl H (fun hb => ?_)
        exact ⟨rfl, hb⟩
      · refine hK20 _ _ ?_
        clear hK20
        refine sqR H gs0 fun Z_ z_ => rS 1 rfl <| rV rfl (does_binOp rfl rfl rfl (z_geq (k := x) (m := 0) (decide_eq_true (by omega)) _ _)) <| rS 2 rfl <| rV rfl (does_binOp rfl rfl rfl (z_lss (k := x) (m := 10) (decide_eq_true (by omega)) _ _)) <| rS 9 rfl <| rV rfl (does_binOp rfl rfl rfl (z_geq (k := x) (m := 0) (decide_eq_true (by omega)) _ _)) <| rS 2 rfl <| rV rfl (does_binOp rfl rfl rfl (z_lss (k := x) (m := 8) (decide_eq_false (by omega)) _ _)) <| rS 3 rfl <| rV rfl (does_call rfl ⟨_, Tryd.func10, by kernel_rfl⟩ rfl (fun W hb => hSn _ W (hpg.ext hb) (by omega))) <| rV rfl (does_binOp rfl rfl rfl (w_eq0 _ _)) <| rS 3 rfl <| rV rfl (does_call rfl ⟨_, Tryd.func5, by kernel_rfl⟩ rfl (fun W hb => hK W (hpg.ext hb))) <| rS 2 rfl <| rK [1, 0, 0, 0, 0, 0, 0, 0, 0, 0, 0, 0, 0, 0, 0, 0, 0, 0, 0, 0, 0, 0, 0, 0, 0, 0, 0, 0, 0, 0, 0, 0] [] [] <| rN0 z_ ?_
        try clear H a W
        intro a W H
        refine wp_ret ?_
        repeat (first | (with_reducible refine then_ret ?_) | (with_reducible refine blk_ret ?_))
        refine end_tmp (p := 2) rfl rfl H (fun hb => ?_)
        exact ⟨rfl, hb⟩
      · refine hK20 _ _ ?_
        clear hK20
        refine sqR H gs0 fun Z_ z_ => rS 1 rfl <| rV rfl (does_binOp rfl rfl rfl (z_geq (k := x) (m := 0) (decide_eq_true (by omega)) _ _)) <| rS 2 rfl <| rV rfl (does_binOp rfl rfl rfl (z_lss (k := x) (m := 10) (decide_eq_false (by omega)) _ _)) <| rS 3 rfl <| rV rfl (does_call rfl ⟨_, Tryd.func9, by kernel_rfl⟩ rfl (fun W hb => hOn _ W (hpg.ext hb) (by omega))) <| rV rfl (does_build (ps := []) rfl rfl bd_a16) <| rV rfl (does_binOp rfl rfl rfl (a_eq0 _ _)) <| rS 3 rfl <| rV rfl (does_binOp rfl rfl rfl (z_geq (k := x) (m := 0) (decide_eq_true (by omega)) _ _)) <| rS 2 rfl <| rV rfl (does_binOp rfl rfl rfl (z_lss (k := x) (m := 8) (decide_eq_false (by omega)) _ _)) <| rS 3 rfl <| rV rfl (does_call rfl ⟨_, Tryd.func10, by kernel_rfl⟩ rfl (fun W hb => hSn _ W (hpg.ext hb) (by omega))) <| rV rfl (does_binOp rfl rfl rfl (w_eq0 _ _)) <| rS 3 rfl <| rV rfl (does_call rfl ⟨_, Tryd.func5, by kernel_rfl⟩ rfl (fun W hb => hK W (hpg.ext hb))) <| rS 2 rfl <| rK [1, 0, 0, 0, 0, 0, 0, 0, 0, 0, 0, 0, 0, 0, 0, 0, 0, 0, 0, 0, 0, 0, 0, 0, 0, 0, 0, 0, 0, 0, 0, 0] [] [] <| rN0 z_ ?_
        try clear H a W
        intro a W H
        refine wp_ret ?_
        repeat (first | (with_reducible refine then_ret ?_) | (with_reducible refine blk_ret ?_))
        refine end_tmp (p := 2) rfl rfl H (fun hb => ?_)
        exact ⟨rfl, hb⟩
end Go.Proofs.YtkohaibihkckbaaDoor
