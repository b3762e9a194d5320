/- Layer 14's laws: which disks are the same; DiskEdits. -/
import Derived.Test.YtiebelmglchbdaaPs
import Derived.Test.YtiebelmglchbdaaPo
namespace Go.Proofs.Ytiebelmglchbdaa
set_option linter.unusedVariables false
set_option linter.unusedSimpArgs false
set_option maxRecDepth 100000
open Go Go.RowKit

theorem po_readv {p : Nat} {D : Dk} {r hh : Hep} (h : PO p D r) (n : Nat) (hn : n < D.B.length) (w0 w : World) (K : Kn w0 w (r ++ hh)) : Calls Try.prog 42 #[.pointer (some ⟨p, 0, none⟩), .int .i64 ((n : Nat) : Int)] w (fun rr w' => rr = .returned (.agg (bvs (readB D n))) ∧ Kn w0 w' (r ++ hh)) := by
  obtain ⟨X, rfl, hX⟩ := h
  exact read_x hX hn w0 w K
theorem do_len (D : Dk) (s : St5) : (dDo D s).1.B.length = D.B.length ∧ (dDo D s).1.L.length ≤ D.L.length + 1 := by
  obtain ⟨hB, hL⟩ := step_same D
  have hw : ∀ n b, (dWrite D n b).1.B.length = D.B.length ∧ (dWrite D n b).1.L.length ≤ D.L.length + 1 := fun n b => by
    unfold dWrite
    split
    · split
      · rw [hB, hL]; exact ⟨rfl, Nat.le_succ _⟩
      · refine ⟨by show (dStep D).1.B.length = _; rw [hB], ?_⟩
        show (D.L ++ [(n.toNat, b)]).length ≤ _
        rw [List.length_append]
        exact Nat.le_refl _
    · exact ⟨rfl, Nat.le_succ _⟩
  unfold dDo
  repeat' split
  · exact hw _ _
  · unfold dSync
    split
    · exact ⟨settle_len _ _, Nat.zero_le _⟩
    · rw [hB, hL]; exact ⟨rfl, Nat.le_succ _⟩
  · unfold dFuse
    split <;> exact ⟨rfl, Nat.le_succ _⟩
  · exact ⟨crash_len _ _ _ _, Nat.zero_le _⟩
  · unfold dEdit
    split
    · exact ⟨List.length_modify _ _ _, by show (editL _ _ _ D.L).length ≤ _; simp [editL]⟩
    · exact ⟨rfl, Nat.le_succ _⟩
  · exact hw _ _
  · exact ⟨rfl, Nat.le_succ _⟩
/-! Edits. -/
section
variable {D : Dk} {n k : Int} {x : UInt8}
theorem ed_no (h : ¬ (0 ≤ n ∧ n < (D.B.length : Int) ∧ 0 ≤ k ∧ k < 512)) : dEdit D n k x = (D, 2) := if_neg fun h' => h (by have h1 := h'.1; unfold hasB at h1; exact ⟨h1.1, h1.2, h'.2⟩)
theorem ed_yes (h : 0 ≤ n ∧ n < (D.B.length : Int) ∧ 0 ≤ k ∧ k < 512) : dEdit D n k x = (Dk.mk (D.B.modify n.toNat (xorB k.toNat x)) (editL n.toNat k.toNat x D.L) D.fuse D.dead, 0) := if_pos ⟨⟨h.1, h.2.1⟩, h.2.2⟩
theorem ed_err : ((0 ≤ n ∧ n < (D.B.length : Int) ∧ 0 ≤ k ∧ k < 512) → (dEdit D n k x).2 = 0) ∧ (¬ (0 ≤ n ∧ n < (D.B.length : Int) ∧ 0 ≤ k ∧ k < 512) → (dEdit D n k x).2 = 2) := ⟨fun h => by rw [ed_yes h], fun h => by rw [ed_no h]⟩
theorem ed_len : (dEdit D n k x).1.B.length = D.B.length ∧ (dEdit D n k x).1.L.length = D.L.length ∧ (dEdit D n k x).1.dead = D.dead := by
  unfold dEdit
  split
  · exact ⟨List.length_modify _ _ _, by simp [editL], rfl⟩
  · exact ⟨rfl, rfl, rfl⟩
theorem ed_read (h : 0 ≤ n ∧ n < (D.B.length : Int) ∧ 0 ≤ k ∧ k < 512) (m : Nat) : readB (dEdit D n k x).1 m = if m = n.toNat then xorB k.toNat x (readB D m) else readB D m := by
  rw [ed_yes h]
  exact read_edit D.B D.L n.toNat k.toNat x m (by omega)
theorem ed_same0 (h : ¬ (0 ≤ n ∧ n < (D.B.length : Int) ∧ 0 ≤ k ∧ k < 512)) (m : Nat) : readB (dEdit D n k x).1 m = readB D m := by rw [ed_no h]
theorem ed_same2 (h : 0 ≤ n ∧ n < (D.B.length : Int) ∧ 0 ≤ k ∧ k < 512) (m : Nat) : readB (dEdit (dEdit D n k x).1 n k x).1 m = readB D m := by
  have h2 : 0 ≤ n ∧ n < ((dEdit D n k x).1.B.length : Int) ∧ 0 ≤ k ∧ k < 512 := by rw [ed_len.1]; exact h
  rw [ed_read h2, ed_read h]
  split
  · exact xor_xor _ _ _
  · rfl
end
theorem bd_eqlS {f : Bool} (p q : Operand) (W : World) : (do eqGuard .eql 4 p q (.bool f) (.bool f); binOp .eql 4 (.bool f) (.bool f) : Sem Value).run Try.prog W = .ok (.bool true) W := by
  cases f <;> kernel_rfl
attribute [local irreducible] bvs dwa entsI zeroB lastsB stepP lastN xorB rb dWrite dSync dFuse dCrash dEdit dDo readB
/-- Have both the same blocks, as they are read? -/
def sameD (D E : Dk) : Bool := decide (∀ m, m < D.B.length → readB D m = readB E m)
set_option maxHeartbeats 8000000 in
theorem same_D {p1 p2 : Nat} {D E : Dk} {r1 r2 hh : Hep} (hP1 : PO p1 D r1) (hP2 : PO p2 E r2) (hlen : E.B.length = D.B.length) (w0 w : World) (K : Kn w0 w (r1 ++ (r2 ++ hh))) : Calls Try.prog 20 #[.pointer (some ⟨p1, 0, none⟩), .pointer (some ⟨p2, 0, none⟩)] w (fun rr w' => rr = .returned (.bool (sameD D E)) ∧ Kn w0 w' (r1 ++ (r2 ++ hh))) := by
  have hnb := hP1.nb
  refine calls_kn (vs := [.pointer (some ⟨p1, 0, none⟩), .pointer (some ⟨p2, 0, none⟩)]) 24 Try.func20 rfl Try.ntmps20 rfl K (fun a W H => ?_)
  replace H : St 24 w0 a W [(0, .pointer (some ⟨p1, 0, none⟩)), (1, .pointer (some ⟨p2, 0, none⟩))] ((r1 ++ (r2 ++ hh))) := H
  refine sqR H gs0 fun Z_ z_ => rS 1 rfl <| rN0 z_ ?_
  try clear H a W
  intro a W H
  refine wp_seq_k (fun K2 hK2 => ?_)
  refine wp_seq_k (fun K3 hK3 => ?_)
  refine rgP H gs0 (rS 1 rfl <| rI0 ?_)
  try clear H a W
  intro a W H
  replace H : St 24 w0 a W [(6, .pointer (some ⟨p1, 0, none⟩)), (4, .bool false), (0, .pointer (some ⟨p1, 0, none⟩)), (1, .pointer (some ⟨p2, 0, none⟩))] (r1 ++ (([] : Hep) ++ (r2 ++ hh))) := H.perm' (((List.Perm.refl _).append_left ([] : Hep)).trans (List.perm_append_comm_assoc ([] : Hep) r1 (r2 ++ hh)))
  refine pl_callV rfl rfl ⟨_, Try.func31, by kernel_rfl⟩ rfl (fun K_ => po_blocks (hh := (([] : Hep) ++ (r2 ++ hh))) hP1 w0 _ K_) H ?_
  try clear H a W
  intro a W H
  replace H := H.perm' (List.perm_append_comm_assoc r1 ([] : Hep) (r2 ++ hh))
  replace H : St 24 w0 a W [(7, .int .i64 ((D.B.length : Nat) : Int)), (6, .pointer (some ⟨p1, 0, none⟩)), (4, .bool false), (0, .pointer (some ⟨p1, 0, none⟩)), (1, .pointer (some ⟨p2, 0, none⟩))] ((r1 ++ (r2 ++ hh))) := H
  refine rgO H gs0 (rS 1 rfl <| rI0 ?_)
  try clear H a W
  intro a W H
  replace H : St 24 w0 a W [(8, .pointer (some ⟨p2, 0, none⟩)), (7, .int .i64 ((D.B.length : Nat) : Int)), (6, .pointer (some ⟨p1, 0, none⟩)), (4, .bool false), (0, .pointer (some ⟨p1, 0, none⟩)), (1, .pointer (some ⟨p2, 0, none⟩))] (r2 ++ (([] : Hep) ++ (r1 ++ hh))) := H.perm' (((((List.Perm.refl _).append_left r1).trans (List.perm_append_comm_assoc r1 r2 hh)).append_left ([] : Hep)).trans (List.perm_append_comm_assoc ([] : Hep) r2 (r1 ++ hh)))
  refine pl_callV rfl rfl ⟨_, Try.func31, by kernel_rfl⟩ rfl (fun K_ => po_blocks (hh := (([] : Hep) ++ (r1 ++ hh))) hP2 w0 _ K_) H ?_
  try clear H a W
  intro a W H
  replace H := H.perm' (List.perm_append_comm_assoc r2 ([] : Hep) (r1 ++ hh))
  replace H : St 24 w0 a W [(9, .int .i64 ((E.B.length : Nat) : Int)), (8, .pointer (some ⟨p2, 0, none⟩)), (7, .int .i64 ((D.B.length : Nat) : Int)), (6, .pointer (some ⟨p1, 0, none⟩)), (4, .bool false), (0, .pointer (some ⟨p1, 0, none⟩)), (1, .pointer (some ⟨p2, 0, none⟩))] ((r2 ++ (r1 ++ hh))) := H
  refine rgO H gs0 (rV rfl (does_binOp rfl rfl rfl (zd_neq_int (k := ((D.B.length : Nat) : Int)) (m := ((E.B.length : Nat) : Int)) (decide_eq_false (by omega)) _ _)) <| rK [1, 0, 0, 0, 0] [] [] <| rZ0 ?_)
  try clear H a W
  intro a W H
  refine hK3 _ _ ?_
  clear hK3
  refine wp_cond_false (H.ev rfl) ?_
  refine wp_skip ?_
  refine hK2 _ _ ?_
  clear hK2
  refine wp_seq_k (fun K4 hK4 => ?_)
  refine wp_seq_k (fun K5 hK5 => ?_)
  refine rgP H gs0 (rS 1 rfl <| rI0 ?_)
  try clear H a W
  intro a W H
  replace H : St 24 w0 a W [(11, .pointer (some ⟨p1, 0, none⟩)), (10, .bool false), (4, .bool false), (0, .pointer (some ⟨p1, 0, none⟩)), (1, .pointer (some ⟨p2, 0, none⟩))] (r1 ++ (([] : Hep) ++ (r2 ++ hh))) := H.perm' (((((List.Perm.refl _).append_left r2).trans (List.perm_append_comm_assoc r2 r1 hh)).append_left ([] : Hep)).trans (List.perm_append_comm_assoc ([] : Hep) r1 (r2 ++ hh)))
  refine pl_callV rfl rfl ⟨_, Try.func31, by kernel_rfl⟩ rfl (fun K_ => po_blocks (hh := (([] : Hep) ++ (r2 ++ hh))) hP1 w0 _ K_) H ?_
  try clear H a W
  intro a W H
  replace H := H.perm' (List.perm_append_comm_assoc r1 ([] : Hep) (r2 ++ hh))
  replace H : St 24 w0 a W [(12, .int .i64 ((D.B.length : Nat) : Int)), (11, .pointer (some ⟨p1, 0, none⟩)), (10, .bool false), (4, .bool false), (0, .pointer (some ⟨p1, 0, none⟩)), (1, .pointer (some ⟨p2, 0, none⟩))] ((r1 ++ (r2 ++ hh))) := H
  refine rgO H gs0 (rS 1 rfl <| rK [1, 1, 0, 0] [] [] <| rZ0 ?_)
  try clear H a W
  intro a W H
  refine hK5 _ _ ?_
  clear hK5
  refine wp_block ?_
  replace H := H.perm' ((((List.Perm.refl _).append_left r1).trans (List.perm_append_comm_assoc r1 r2 hh)).append_left ([] : Hep))
  replace H : St 24 w0 a W [(13, .int .i64 0), (12, .int .i64 ((D.B.length : Nat) : Int)), (4, .bool false), (0, .pointer (some ⟨p1, 0, none⟩)), (1, .pointer (some ⟨p2, 0, none⟩))] ((r2 ++ (r1 ++ hh))) := H
  replace H := H.perm' ((((List.Perm.refl _).append_left r2).trans (List.perm_append_comm_assoc r2 r1 hh)).append_left ([] : Hep))
  replace H : St 24 w0 a W [(13, .int .i64 0), (12, .int .i64 ((D.B.length : Nat) : Int)), (4, .bool false), (0, .pointer (some ⟨p1, 0, none⟩)), (1, .pointer (some ⟨p2, 0, none⟩))] ((r1 ++ (r2 ++ hh))) := H
  replace H : St 24 w0 a W [(13, .int .i64 0), (12, .int .i64 ((D.B.length : Nat) : Int)), (0, .pointer (some ⟨p1, 0, none⟩)), (1, .pointer (some ⟨p2, 0, none⟩))] ((r1 ++ (r2 ++ hh))) := H.pickF (h := []) (t := (r1 ++ (r2 ++ hh))) [0, 1, 3, 4] [] rfl
  refine wp_rounds D.B.length (fun k a W => ∃ u0, (u0 = 0 ∧ ∀ m, m < k → readB D m = readB E m) ∧ St 24 w0 a W [(13, .int .i64 ((k : Nat) : Int)), (12, .int .i64 ((D.B.length : Nat) : Int)), (0, .pointer (some ⟨p1, 0, none⟩)), (1, .pointer (some ⟨p2, 0, none⟩))] ((r1 ++ (r2 ++ hh)))) (k0 := 0) ⟨0, ⟨rfl, fun m hm => absurd hm (Nat.not_lt_zero _)⟩, H⟩ (by omega) ?_
  try clear H a W
  rintro k a W hk ⟨u0, hJ, H⟩
  by_cases hk2 : k < D.B.length
  · refine sqR H gs0 fun Z_ z_ => rV rfl (does_binOp rfl rfl rfl (zd_lss_int (k := ((k : Nat) : Int)) (m := ((D.B.length : Nat) : Int)) (decide_eq_true (by omega)) _ _)) <| rN0 z_ ?_
    try clear H a W
    intro a W H
    refine cdT H rfl ?_
    refine wp_seq_k (fun K7 hK7 => ?_)
    refine wp_block ?_
    refine sqR H gs0 fun Z_ z_ => rS 2 rfl <| rN0 z_ ?_
    try clear H a W
    intro a W H
    refine wp_seq_k (fun K9 hK9 => ?_)
    refine rgP H gs0 (rS 2 rfl <| rI0 ?_)
    try clear H a W
    intro a W H
    replace H : St 24 w0 a W [(17, .int .i64 ((k : Nat) : Int)), (16, .pointer (some ⟨p1, 0, none⟩)), (5, .int .i64 ((k : Nat) : Int)), (15, .int .i64 ((k : Nat) : Int)), (14, .bool true), (13, .int .i64 ((k : Nat) : Int)), (12, .int .i64 ((D.B.length : Nat) : Int)), (0, .pointer (some ⟨p1, 0, none⟩)), (1, .pointer (some ⟨p2, 0, none⟩))] (r1 ++ (([] : Hep) ++ (r2 ++ hh))) := H.perm' (((List.Perm.refl _).append_left ([] : Hep)).trans (List.perm_append_comm_assoc ([] : Hep) r1 (r2 ++ hh)))
    refine pl_callV rfl rfl ⟨_, Try.func42, by kernel_rfl⟩ rfl (fun K_ => po_readv (hh := (([] : Hep) ++ (r2 ++ hh))) hP1 k (by omega) w0 _ K_) H ?_
    try clear H a W
    intro a W H
    replace H := H.perm' (List.perm_append_comm_assoc r1 ([] : Hep) (r2 ++ hh))
    replace H : St 24 w0 a W [(18, .agg (bvs (readB D k))), (17, .int .i64 ((k : Nat) : Int)), (16, .pointer (some ⟨p1, 0, none⟩)), (5, .int .i64 ((k : Nat) : Int)), (15, .int .i64 ((k : Nat) : Int)), (14, .bool true), (13, .int .i64 ((k : Nat) : Int)), (12, .int .i64 ((D.B.length : Nat) : Int)), (0, .pointer (some ⟨p1, 0, none⟩)), (1, .pointer (some ⟨p2, 0, none⟩))] ((r1 ++ (r2 ++ hh))) := H
    refine rgO H gs0 (rS 2 rfl <| rI0 ?_)
    try clear H a W
    intro a W H
    replace H : St 24 w0 a W [(20, .int .i64 ((k : Nat) : Int)), (19, .pointer (some ⟨p2, 0, none⟩)), (18, .agg (bvs (readB D k))), (17, .int .i64 ((k : Nat) : Int)), (16, .pointer (some ⟨p1, 0, none⟩)), (5, .int .i64 ((k : Nat) : Int)), (15, .int .i64 ((k : Nat) : Int)), (14, .bool true), (13, .int .i64 ((k : Nat) : Int)), (12, .int .i64 ((D.B.length : Nat) : Int)), (0, .pointer (some ⟨p1, 0, none⟩)), (1, .pointer (some ⟨p2, 0, none⟩))] (r2 ++ (([] : Hep) ++ (r1 ++ hh))) := H.perm' (((((List.Perm.refl _).append_left r1).trans (List.perm_append_comm_assoc r1 r2 hh)).append_left ([] : Hep)).trans (List.perm_append_comm_assoc ([] : Hep) r2 (r1 ++ hh)))
    refine pl_callV rfl rfl ⟨_, Try.func42, by kernel_rfl⟩ rfl (fun K_ => po_readv (hh := (([] : Hep) ++ (r1 ++ hh))) hP2 k (by omega) w0 _ K_) H ?_
    try clear H a W
    intro a W H
    replace H := H.perm' (List.perm_append_comm_assoc r2 ([] : Hep) (r1 ++ hh))
    replace H : St 24 w0 a W [(21, .agg (bvs (readB E k))), (20, .int .i64 ((k : Nat) : Int)), (19, .pointer (some ⟨p2, 0, none⟩)), (18, .agg (bvs (readB D k))), (17, .int .i64 ((k : Nat) : Int)), (16, .pointer (some ⟨p1, 0, none⟩)), (5, .int .i64 ((k : Nat) : Int)), (15, .int .i64 ((k : Nat) : Int)), (14, .bool true), (13, .int .i64 ((k : Nat) : Int)), (12, .int .i64 ((D.B.length : Nat) : Int)), (0, .pointer (some ⟨p1, 0, none⟩)), (1, .pointer (some ⟨p2, 0, none⟩))] ((r2 ++ (r1 ++ hh))) := H
    refine rgO H gs0 (rV rfl (does_binOp rfl rfl rfl (block_neq (read_len hP1.ok (by omega)) (read_len hP2.ok (by omega)) rfl _ _)) <| rZ0 ?_)
    try clear H a W
    intro a W H
    refine hK9 _ _ ?_
    clear hK9
    cases hq1 : decide (readB D k ≠ readB E k) with
    | true =>
      rw [hq1] at H
      have hq1p := of_decide_eq_true hq1
      refine wp_cond_true (H.ev rfl) ?_
      refine sqR H gs0 fun Z_ z_ => rS 1 rfl <| rN0 z_ ?_
      try clear H a W
      intro a W H
      refine wp_ret ?_
      repeat (first | (with_reducible refine then_ret ?_) | (with_reducible refine blk_ret ?_))
      refine end_tmp (p := 4) rfl rfl H (fun hb => ?_)
      replace H := H.perm' ((((List.Perm.refl _).append_left r2).trans (List.perm_append_comm_assoc r2 r1 hh)).append_left ([] : Hep))
      replace H : St 24 w0 a W [(4, .bool false), (22, .bool true), (21, .agg (bvs (readB E k))), (20, .int .i64 ((k : Nat) : Int)), (19, .pointer (some ⟨p2, 0, none⟩)), (18, .agg (bvs (readB D k))), (17, .int .i64 ((k : Nat) : Int)), (16, .pointer (some ⟨p1, 0, none⟩)), (5, .int .i64 ((k : Nat) : Int)), (15, .int .i64 ((k : Nat) : Int)), (14, .bool true), (13, .int .i64 ((k : Nat) : Int)), (12, .int .i64 ((D.B.length : Nat) : Int)), (0, .pointer (some ⟨p1, 0, none⟩)), (1, .pointer (some ⟨p2, 0, none⟩))] ((r1 ++ (r2 ++ hh))) := H
      rw [show sameD D E = false from decide_eq_false fun h_ => hq1p (h_ k hk2)]
      exact ⟨rfl, H.kn⟩
    | false =>
      rw [hq1] at H
      have hq1p := of_decide_eq_false hq1
      refine wp_cond_false (H.ev rfl) ?_
      refine wp_skip ?_
      refine blk_normal ?_
      refine hK7 _ _ ?_
      clear hK7
      refine rgP H gs0 (rV rfl (does_binOp rfl rfl rfl (zd_add_int (k := ((k : Nat) : Int)) (m := 1) (c := ((k + 1 : Nat) : Int)) (by omega) (by omega) _ _)) <| rK [1, 1, 1, 1, 1, 1, 1, 1, 1, 1, 1, 0] [] [] <| rS 1 rfl <| rZ0 ?_)
      try clear H a W
      intro a W H
      replace H := H.perm' ((((List.Perm.refl _).append_left r2).trans (List.perm_append_comm_assoc r2 r1 hh)).append_left ([] : Hep))
      replace H : St 24 w0 a W [(13, .int .i64 ((k + 1 : Nat) : Int)), (23, .int .i64 ((k + 1 : Nat) : Int)), (22, .bool false), (21, .agg (bvs (readB E k))), (20, .int .i64 ((k : Nat) : Int)), (19, .pointer (some ⟨p2, 0, none⟩)), (18, .agg (bvs (readB D k))), (17, .int .i64 ((k : Nat) : Int)), (16, .pointer (some ⟨p1, 0, none⟩)), (5, .int .i64 ((k : Nat) : Int)), (15, .int .i64 ((k : Nat) : Int)), (14, .bool true), (12, .int .i64 ((D.B.length : Nat) : Int)), (0, .pointer (some ⟨p1, 0, none⟩)), (1, .pointer (some ⟨p2, 0, none⟩))] ((r1 ++ (r2 ++ hh))) := H
      refine ⟨k + 1, by omega, by omega, 0, ⟨rfl, fun m hm => by
      by_cases e_ : m = k
      · subst e_
        exact Classical.byContradiction fun h_ => hq1p h_
      · exact hJ.2 m (by omega)⟩, ?_⟩
      exact H.pickF (h := []) (t := (r1 ++ (r2 ++ hh))) [0, 12, 13, 14] [] rfl
  · obtain rfl : D.B.length = k := by omega
    refine sqR H gs0 fun Z_ z_ => rV rfl (does_binOp rfl rfl rfl (zd_lss_int (k := ((D.B.length : Nat) : Int)) (m := ((D.B.length : Nat) : Int)) (decide_eq_false (by omega)) _ _)) <| rK [1, 1, 0] [] [] <| rN0 z_ ?_
    try clear H a W
    intro a W H
    refine wp_seq_k (fun K12 hK12 => ?_)
    refine wp_cond_false (H.ev rfl) ?_
    refine wp_exit ?_
    repeat (first | (with_reducible refine then_exit ?_) | (with_reducible refine blk_pass (by decide) ?_))
    refine blk_exit ?_
    refine hK4 _ _ ?_
    clear hK4
    refine sqR H gs0 fun Z_ z_ => rS 1 rfl <| rK [1, 0, 0, 0, 0] [] [] <| rN0 z_ ?_
    try clear H a W
    intro a W H
    refine wp_ret ?_
    repeat (first | (with_reducible refine then_ret ?_) | (with_reducible refine blk_ret ?_))
    refine end_tmp (p := 4) rfl rfl H (fun hb => ?_)
    replace H := H.perm' ((((List.Perm.refl _).append_left r1).trans (List.perm_append_comm_assoc r1 r2 hh)).append_left ([] : Hep))
    replace H : St 24 w0 a W [(4, .bool true)] ((r2 ++ (r1 ++ hh))) := H
    replace H := H.perm' ((((List.Perm.refl _).append_left r2).trans (List.perm_append_comm_assoc r2 r1 hh)).append_left ([] : Hep))
    replace H : St 24 w0 a W [(4, .bool true)] ((r1 ++ (r2 ++ hh))) := H
    rw [show sameD D E = true from decide_eq_true hJ.2]
    exact ⟨rfl, H.kn⟩
theorem po_same {p1 p2 : Nat} {D E : Dk} {r1 r2 hh : Hep} (hP1 : PO p1 D r1) (hP2 : PO p2 E r2) (hlen : E.B.length = D.B.length) (hs : ∀ m, readB D m = readB E m) (w0 w : World) (K : Kn w0 w (r1 ++ (r2 ++ hh))) : Calls Try.prog 20 #[.pointer (some ⟨p1, 0, none⟩), .pointer (some ⟨p2, 0, none⟩)] w (fun rr w' => rr = .returned (.bool true) ∧ Kn w0 w' (r1 ++ (r2 ++ hh))) := by
  have h := same_D hP1 hP2 hlen w0 w K
  rw [show sameD D E = true from decide_eq_true fun m _ => hs m] at h
  exact h
end Go.Proofs.Ytiebelmglchbdaa
