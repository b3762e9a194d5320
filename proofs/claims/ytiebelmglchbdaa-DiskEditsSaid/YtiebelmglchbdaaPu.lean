/- Layer 14's laws: DiskEdits. -/
import Derived.Test.YtiebelmglchbdaaPt
namespace Go.Proofs.Ytiebelmglchbdaa
set_option linter.unusedVariables false
set_option linter.unusedSimpArgs false
set_option maxRecDepth 100000
open Go Go.RowKit

attribute [local irreducible] bvs dwa entsI zeroB lastsB stepP lastN xorB rb dWrite dSync dFuse dCrash dEdit dDo readB
set_option maxHeartbeats 32000000 in
theorem law_edits_neg {A : Option Addr} {len cap gl ol : Nat} {sub : Nat → SH} (n k_ : Int) (x : UInt8) (w : World) (hL : SL w A len cap gl ol sub) (hn : -9223372036854775808 ≤ n ∧ n < 9223372036854775808) (hk : -9223372036854775808 ≤ k_ ∧ k_ < 9223372036854775808) (bl : Int) (hneg : decide (bl < 1) = true) : Calls Try.prog 9 #[.int .i64 bl, .slice A len cap, .int .i64 n, .int .i64 k_, bv x] w (fun rr w' => rr = .returned (.bool true) ∧ Below w.heap.size w w') := by
  have hmax := hL.max_
  have hbig := max_big
  refine calls_st (vs := [.int .i64 bl, .slice A len cap, .int .i64 n, .int .i64 k_, bv x]) 161 Try.func9 rfl Try.ntmps9 rfl (fun a W H => ?_)
  replace H : St 161 w a W [(0, .int .i64 bl), (1, .slice A len cap), (2, .int .i64 n), (3, .int .i64 k_), (4, bv x)] (([] : Hep)) := H
  refine sqR H gs0 fun Z_ z_ => rS 1 rfl <| rN0 z_ ?_
  try clear H a W
  intro a W H
  refine wp_seq_k (fun K2 hK2 => ?_)
  refine sqR H gs0 fun Z_ z_ => rS 1 rfl <| rV rfl (does_binOp rfl rfl rfl (zd_lss_int (k := bl) (m := 1) hneg _ _)) <| rS 8 rfl <| rK [1, 0, 0, 0, 0, 0, 0, 0, 0, 0] [] [] <| rN0 z_ ?_
  try clear H a W
  intro a W H
  refine wp_cond_true (H.ev rfl) ?_
  refine sqR H gs0 fun Z_ z_ => rV rfl (does_call rfl ⟨_, Try.func11, by kernel_rfl⟩ rfl (fun W hb => known_any W)) <| rK [1, 1, 0] [] [] <| rS 1 rfl <| rK [1, 0, 0] [] [] <| rN0 z_ ?_
  try clear H a W
  intro a W H
  refine wp_ret ?_
  repeat (first | (with_reducible refine then_ret ?_) | (with_reducible refine blk_ret ?_))
  refine end_tmp (p := 10) rfl rfl H (fun hb => ?_)
  exact ⟨rfl, hb⟩
set_option maxHeartbeats 32000000 in
theorem law_edits_nat {A : Option Addr} {len cap gl ol : Nat} {sub : Nat → SH} (n k_ : Int) (x : UInt8) (w : World) (hL : SL w A len cap gl ol sub) (hn : -9223372036854775808 ≤ n ∧ n < 9223372036854775808) (hk : -9223372036854775808 ≤ k_ ∧ k_ < 9223372036854775808) (nb : Nat) : Calls Try.prog 9 #[.int .i64 ((nb : Nat) : Int), .slice A len cap, .int .i64 n, .int .i64 k_, bv x] w (fun rr w' => rr = .returned (.bool true) ∧ Below w.heap.size w w') := by
  have hmax := hL.max_
  have hbig := max_big
  refine calls_st (vs := [.int .i64 ((nb : Nat) : Int), .slice A len cap, .int .i64 n, .int .i64 k_, bv x]) 161 Try.func9 rfl Try.ntmps9 rfl (fun a W H => ?_)
  replace H : St 161 w a W [(0, .int .i64 ((nb : Nat) : Int)), (1, .slice A len cap), (2, .int .i64 n), (3, .int .i64 k_), (4, bv x)] (([] : Hep)) := H
  refine sqR H gs0 fun Z_ z_ => rS 1 rfl <| rN0 z_ ?_
  try clear H a W
  intro a W H
  refine wp_seq_k (fun K2 hK2 => ?_)
  refine wp_seq_k (fun K3 hK3 => ?_)
  cases hq1 : decide (((nb : Nat) : Int) < 1) with
  | true =>
    have hq1p := of_decide_eq_true hq1
    refine rgP H gs0 (rS 1 rfl <| rV rfl (does_binOp rfl rfl rfl (zd_lss_int (k := ((nb : Nat) : Int)) (m := 1) hq1 _ _)) <| rS 8 rfl <| rK [1, 0, 0, 0, 0, 0, 0, 0, 0, 0] [] [] <| rZ0 ?_)
    try clear H a W
    intro a W H
    refine hK3 _ _ ?_
    clear hK3
    refine wp_cond_true (H.ev rfl) ?_
    refine sqR H gs0 fun Z_ z_ => rV rfl (does_call rfl ⟨_, Try.func11, by kernel_rfl⟩ rfl (fun W hb => known_any W)) <| rK [1, 1, 0] [] [] <| rS 1 rfl <| rK [1, 0, 0] [] [] <| rN0 z_ ?_
    try clear H a W
    intro a W H
    refine wp_ret ?_
    repeat (first | (with_reducible refine then_ret ?_) | (with_reducible refine blk_ret ?_))
    refine end_tmp (p := 10) rfl rfl H (fun hb => ?_)
    exact ⟨rfl, hb⟩
  | false =>
    have hq1p := of_decide_eq_false hq1
    cases hq2 : decide (40 < ((nb : Nat) : Int)) with
    | true =>
      have hq2p := of_decide_eq_true hq2
      refine rgP H gs0 (rS 1 rfl <| rV rfl (does_binOp rfl rfl rfl (zd_lss_int (k := ((nb : Nat) : Int)) (m := 1) hq1 _ _)) <| rS 2 rfl <| rV rfl (does_binOp rfl rfl rfl (zd_gtr_int (k := ((nb : Nat) : Int)) (m := 40) hq2 _ _)) <| rS 5 rfl <| rK [1, 0, 0, 0, 0, 0, 0, 0, 0, 0] [] [] <| rZ0 ?_)
      try clear H a W
      intro a W H
      refine hK3 _ _ ?_
      clear hK3
      refine wp_cond_true (H.ev rfl) ?_
      refine sqR H gs0 fun Z_ z_ => rV rfl (does_call rfl ⟨_, Try.func11, by kernel_rfl⟩ rfl (fun W hb => known_any W)) <| rK [1, 1, 0] [] [] <| rS 1 rfl <| rK [1, 0, 0] [] [] <| rN0 z_ ?_
      try clear H a W
      intro a W H
      refine wp_ret ?_
      repeat (first | (with_reducible refine then_ret ?_) | (with_reducible refine blk_ret ?_))
      refine end_tmp (p := 10) rfl rfl H (fun hb => ?_)
      exact ⟨rfl, hb⟩
    | false =>
      have hq2p := of_decide_eq_false hq2
      refine rgP H gs0 (rS 1 rfl <| rV rfl (does_binOp rfl rfl rfl (zd_lss_int (k := ((nb : Nat) : Int)) (m := 1) hq1 _ _)) <| rS 2 rfl <| rV rfl (does_binOp rfl rfl rfl (zd_gtr_int (k := ((nb : Nat) : Int)) (m := 40) hq2 _ _)) <| rS 3 rfl <| rI0 ?_)
      try clear H a W
      intro a W H
      refine pl_callX rfl rfl ⟨_, Try.func10, by kernel_rfl⟩ rfl (fun K_ => much_K (M := 40) w _ hL (by decide) K_) H ?_
      try clear H a W
      rintro b1 a W hb1 H
      replace H : St 161 w a W [(31, .bool b1), (30, .slice A len cap), (29, .bool false), (28, .bool false), (27, .bool false), (26, .int .i64 ((nb : Nat) : Int)), (25, .bool false), (24, .bool false), (23, .int .i64 ((nb : Nat) : Int)), (10, .bool false), (0, .int .i64 ((nb : Nat) : Int)), (1, .slice A len cap), (2, .int .i64 n), (3, .int .i64 k_), (4, bv x)] (([] : Hep)) := H
      refine rgO H gs0 (rS 1 rfl <| rK [1, 0, 0, 0, 0, 0, 0, 0, 0, 0] [] [] <| rZ0 ?_)
      try clear H a W
      intro a W H
      refine hK3 _ _ ?_
      clear hK3
      cases hq3 : b1 with
      | true =>
        rw [hq3] at H
        refine wp_cond_true (H.ev rfl) ?_
        refine sqR H gs0 fun Z_ z_ => rV rfl (does_call rfl ⟨_, Try.func11, by kernel_rfl⟩ rfl (fun W hb => known_any W)) <| rK [1, 1, 0] [] [] <| rS 1 rfl <| rK [1, 0, 0] [] [] <| rN0 z_ ?_
        try clear H a W
        intro a W H
        refine wp_ret ?_
        repeat (first | (with_reducible refine then_ret ?_) | (with_reducible refine blk_ret ?_))
        refine end_tmp (p := 10) rfl rfl H (fun hb => ?_)
        exact ⟨rfl, hb⟩
      | false =>
        rw [hq3] at H
        have hlen := hb1 hq3
        refine wp_cond_false (H.ev rfl) ?_
        refine wp_skip ?_
        refine hK2 _ _ ?_
        clear hK2
        refine wp_seq_k (fun K7 hK7 => ?_)
        refine rgP H gs0 (rS 1 rfl <| rI0 ?_)
        try clear H a W
        intro a W H
        replace H : St 161 w a W [(35, .int .i64 ((nb : Nat) : Int)), (32, .bool false), (10, .bool false), (0, .int .i64 ((nb : Nat) : Int)), (1, .slice A len cap), (2, .int .i64 n), (3, .int .i64 k_), (4, bv x)] (([] : Hep) ++ ([] : Hep)) := H
        refine pl_callX rfl rfl ⟨_, Try.func12, by kernel_rfl⟩ rfl (fun K_ => po_new (hh := (([] : Hep) ++ ([] : Hep))) nb (by omega) w _ K_) H ?_
        try clear H a W
        rintro ⟨p2, r2⟩ a W hP2 H
        replace hP2 : PO p2 (dNew nb) r2 := hP2
        replace H := H.perm' (List.perm_append_comm_assoc r2 ([] : Hep) ([] : Hep))
        replace H : St 161 w a W [(36, .tuple #[.pointer (some ⟨p2, 0, none⟩), .int .i64 0]), (35, .int .i64 ((nb : Nat) : Int)), (32, .bool false), (10, .bool false), (0, .int .i64 ((nb : Nat) : Int)), (1, .slice A len cap), (2, .int .i64 n), (3, .int .i64 k_), (4, bv x)] ((r2 ++ ([] : Hep))) := H
        refine rgO H gs0 (rS 5 rfl <| rK [1, 1, 0, 0, 0, 0, 0, 0] [] [] <| rZ0 ?_)
        try clear H a W
        intro a W H
        refine hK7 _ _ ?_
        clear hK7
        refine wp_seq_k (fun K8 hK8 => ?_)
        refine sqR H gs0 fun Z_ z_ => rS 1 rfl <| rV rfl (does_binOp rfl rfl rfl (fun W => ptr_nil W)) <| rS 2 rfl <| rV rfl (does_call rfl ⟨_, Try.func13, by kernel_rfl⟩ rfl (fun W hb => num_any _ W)) <| rV rfl (does_binOp rfl rfl rfl (zd_neq_int (k := 0) (m := 0) (decide_eq_false (by omega)) _ _)) <| rS 1 rfl <| rK [1, 0, 0, 0, 0, 0, 0, 0] [] [] <| rN0 z_ ?_
        try clear H a W
        intro a W H
        refine wp_cond_false (H.ev rfl) ?_
        refine wp_skip ?_
        refine hK8 _ _ ?_
        clear hK8
        refine wp_seq_k (fun K10 hK10 => ?_)
        refine sqR H gs0 fun Z_ z_ => rS 1 rfl <| rK [1, 0] [] [] <| rN0 z_ ?_
        try clear H a W
        intro a W H
        refine wp_block ?_
        replace H : St 161 w a W [(13, .int .i64 0), (11, .pointer (some ⟨p2, 0, none⟩)), (0, .int .i64 ((nb : Nat) : Int)), (1, .slice A len cap), (2, .int .i64 n), (3, .int .i64 k_), (4, bv x)] ((r2 ++ ([] : Hep))) := H.pickF (h := []) (t := (r2 ++ ([] : Hep))) [0, 1, 3, 4, 5, 6, 7] [] rfl
        refine wp_rounds len (fun k a W => ∃ D r, (PO p2 D r ∧ D.B.length = nb ∧ D.L.length ≤ k) ∧ St 161 w a W [(13, .int .i64 ((k : Nat) : Int)), (11, .pointer (some ⟨p2, 0, none⟩)), (0, .int .i64 ((nb : Nat) : Int)), (1, .slice A len cap), (2, .int .i64 n), (3, .int .i64 k_), (4, bv x)] ((r ++ ([] : Hep)))) (k0 := 0) ⟨(dNew nb), r2, ⟨hP2, List.length_replicate, Nat.zero_le _⟩, H⟩ (by omega) ?_
        try clear H a W
        rintro k a W hk ⟨D, r, hJ, H⟩
        by_cases hk2 : k < len
        · have hDl := hJ.2
          refine wp_seq_k (fun K12 hK12 => ?_)
          refine sqR H gs0 fun Z_ z_ => rS 2 rfl <| rV rfl (does_len Try.underlying22 rfl rfl) <| rV rfl (does_binOp rfl rfl rfl (zd_lss_int (k := ((k : Nat) : Int)) (m := ((len : Nat) : Int)) (decide_eq_true (by omega)) _ _)) <| rN0 z_ ?_
          try clear H a W
          intro a W H
          refine wp_cond_true (H.ev rfl) ?_
          refine wp_skip ?_
          refine hK12 _ _ ?_
          clear hK12
          refine wp_seq_k (fun K14 hK14 => ?_)
          refine wp_block ?_
          refine rgP H gs0 (rS 3 rfl <| rV rfl (does_indexAddr rfl rfl rfl (ia_steps (j := k) (hL.at_ (by omega)).1 (by omega))) <| rV rfl (does_stepO (y := sub k) rfl rfl (hL.at_ (by omega)).2.1 ((hL.at_ (by omega)).2.2 k (by omega))) <| rI0 ?_)
          try clear H a W
          intro a W H
          replace H : St 161 w a W [(56, .agg ((sub k).cs)), (55, .pointer (some ⟨gl, ol + k * 5, none⟩)), (54, .int .i64 ((k : Nat) : Int)), (53, .slice A len cap), (52, .pointer (some ⟨p2, 0, none⟩)), (49, .bool true), (48, .int .i64 ((len : Nat) : Int)), (47, .slice A len cap), (46, .int .i64 ((k : Nat) : Int)), (13, .int .i64 ((k : Nat) : Int)), (11, .pointer (some ⟨p2, 0, none⟩)), (0, .int .i64 ((nb : Nat) : Int)), (1, .slice A len cap), (2, .int .i64 n), (3, .int .i64 k_), (4, bv x)] (r ++ (([] : Hep) ++ ([] : Hep))) := H.perm' (((List.Perm.refl _).append_left ([] : Hep)).trans (List.perm_append_comm_assoc ([] : Hep) r ([] : Hep)))
          refine pl_callX rfl rfl ⟨_, Try.func15, by kernel_rfl⟩ rfl (fun K_ => do_K (hh := (([] : Hep) ++ ([] : Hep))) w _ hJ.1 (sub k) (hL.ok k (by omega)) (by omega) K_) H ?_
          try clear H a W
          rintro r3 a W hP3 H
          replace hP3 : PO p2 (dDo D (sub k).s).1 r3 := hP3
          replace H := H.perm' (List.perm_append_comm_assoc r3 ([] : Hep) ([] : Hep))
          replace H : St 161 w a W [(57, .int .i64 ((dDo D (sub k).s).2)), (56, .agg ((sub k).cs)), (55, .pointer (some ⟨gl, ol + k * 5, none⟩)), (54, .int .i64 ((k : Nat) : Int)), (53, .slice A len cap), (52, .pointer (some ⟨p2, 0, none⟩)), (49, .bool true), (48, .int .i64 ((len : Nat) : Int)), (47, .slice A len cap), (46, .int .i64 ((k : Nat) : Int)), (13, .int .i64 ((k : Nat) : Int)), (11, .pointer (some ⟨p2, 0, none⟩)), (0, .int .i64 ((nb : Nat) : Int)), (1, .slice A len cap), (2, .int .i64 n), (3, .int .i64 k_), (4, bv x)] ((r3 ++ ([] : Hep))) := H
          refine rgO H gs0 (rK [0] [] [] <| rZ0 ?_)
          try clear H a W
          intro a W H
          refine blk_normal ?_
          refine hK14 _ _ ?_
          clear hK14
          refine rgP H gs0 (rS 1 rfl <| rV rfl (does_binOp rfl rfl rfl (zd_add_int (k := ((k : Nat) : Int)) (m := 1) (c := ((k + 1 : Nat) : Int)) (by omega) (by omega) _ _)) <| rK [1, 1, 1, 1, 1, 1, 1, 1, 1, 1, 1, 0] [] [] <| rS 1 rfl <| rZ0 ?_)
          try clear H a W
          intro a W H
          refine ⟨k + 1, by omega, by omega, (dDo D (sub k).s).1, r3, ⟨hP3, (do_len _ _).1.trans hJ.2.1, Nat.le_trans (do_len _ _).2 (by omega)⟩, ?_⟩
          exact H.pickF (h := []) (t := (r3 ++ ([] : Hep))) [0, 12, 13, 14, 15, 16, 17] [] rfl
        · obtain rfl : len = k := by omega
          refine wp_seq_k (fun K15 hK15 => ?_)
          refine sqR H gs0 fun Z_ z_ => rS 2 rfl <| rV rfl (does_len Try.underlying22 rfl rfl) <| rV rfl (does_binOp rfl rfl rfl (zd_lss_int (k := ((len : Nat) : Int)) (m := ((len : Nat) : Int)) (decide_eq_false (by omega)) _ _)) <| rK [1, 0, 0, 0] [] [] <| rN0 z_ ?_
          try clear H a W
          intro a W H
          refine wp_cond_false (H.ev rfl) ?_
          refine wp_exit ?_
          repeat (first | (with_reducible refine then_exit ?_) | (with_reducible refine blk_pass (by decide) ?_))
          refine blk_exit ?_
          have hDl := hJ.2
          have hed := ed_err (D := D) (n := n) (k := k_) (x := x)
          have hel := ed_len (D := D) (n := n) (k := k_) (x := x)
          have hed2 := ed_err (D := (dEdit D n k_ x).1) (n := n) (k := k_) (x := x)
          have hel2 := ed_len (D := (dEdit D n k_ x).1) (n := n) (k := k_) (x := x)
          refine hK10 _ _ ?_
          clear hK10
          refine wp_seq_k (fun K17 hK17 => ?_)
          refine rgP H gs0 (rS 1 rfl <| rI0 ?_)
          try clear H a W
          intro a W H
          replace H : St 161 w a W [(58, .pointer (some ⟨p2, 0, none⟩)), (49, .bool false), (13, .int .i64 ((len : Nat) : Int)), (11, .pointer (some ⟨p2, 0, none⟩)), (0, .int .i64 ((nb : Nat) : Int)), (1, .slice A len cap), (2, .int .i64 n), (3, .int .i64 k_), (4, bv x)] (r ++ (([] : Hep) ++ ([] : Hep))) := H.perm' (((List.Perm.refl _).append_left ([] : Hep)).trans (List.perm_append_comm_assoc ([] : Hep) r ([] : Hep)))
          refine pl_callX rfl rfl ⟨_, Try.func19, by kernel_rfl⟩ rfl (fun K_ => po_copy (hh := (([] : Hep) ++ ([] : Hep))) hJ.1 w _ K_) H ?_
          try clear H a W
          rintro ⟨p4, r4⟩ a W hP4 H
          replace hP4 : PO p4 D r4 := hP4
          replace H := H.perm' (((List.perm_append_comm_assoc r ([] : Hep) ([] : Hep)).append_left r4).trans (List.perm_append_comm_assoc r4 ([] : Hep) (r ++ ([] : Hep))))
          replace H : St 161 w a W [(59, .pointer (some ⟨p4, 0, none⟩)), (58, .pointer (some ⟨p2, 0, none⟩)), (49, .bool false), (13, .int .i64 ((len : Nat) : Int)), (11, .pointer (some ⟨p2, 0, none⟩)), (0, .int .i64 ((nb : Nat) : Int)), (1, .slice A len cap), (2, .int .i64 n), (3, .int .i64 k_), (4, bv x)] ((r4 ++ (r ++ ([] : Hep)))) := H
          refine rgO H gs0 (rS 1 rfl <| rI0 ?_)
          try clear H a W
          intro a W H
          replace H : St 161 w a W [(60, .pointer (some ⟨p2, 0, none⟩)), (59, .pointer (some ⟨p4, 0, none⟩)), (58, .pointer (some ⟨p2, 0, none⟩)), (49, .bool false), (13, .int .i64 ((len : Nat) : Int)), (11, .pointer (some ⟨p2, 0, none⟩)), (0, .int .i64 ((nb : Nat) : Int)), (1, .slice A len cap), (2, .int .i64 n), (3, .int .i64 k_), (4, bv x)] (r ++ (([] : Hep) ++ (r4 ++ ([] : Hep)))) := H.perm' (((((List.Perm.refl _).append_left r4).trans (List.perm_append_comm_assoc r4 r ([] : Hep))).append_left ([] : Hep)).trans (List.perm_append_comm_assoc ([] : Hep) r (r4 ++ ([] : Hep))))
          refine pl_callV rfl rfl ⟨_, Try.func22, by kernel_rfl⟩ rfl (fun K_ => po_dead (hh := (([] : Hep) ++ (r4 ++ ([] : Hep)))) hJ.1 w _ K_) H ?_
          try clear H a W
          intro a W H
          replace H := H.perm' (List.perm_append_comm_assoc r ([] : Hep) (r4 ++ ([] : Hep)))
          replace H : St 161 w a W [(61, .bool D.dead), (60, .pointer (some ⟨p2, 0, none⟩)), (59, .pointer (some ⟨p4, 0, none⟩)), (58, .pointer (some ⟨p2, 0, none⟩)), (49, .bool false), (13, .int .i64 ((len : Nat) : Int)), (11, .pointer (some ⟨p2, 0, none⟩)), (0, .int .i64 ((nb : Nat) : Int)), (1, .slice A len cap), (2, .int .i64 n), (3, .int .i64 k_), (4, bv x)] ((r ++ (r4 ++ ([] : Hep)))) := H
          refine rgO H gs0 (rS 1 rfl <| rI0 ?_)
          try clear H a W
          intro a W H
          replace H : St 161 w a W [(62, .pointer (some ⟨p2, 0, none⟩)), (61, .bool D.dead), (60, .pointer (some ⟨p2, 0, none⟩)), (59, .pointer (some ⟨p4, 0, none⟩)), (58, .pointer (some ⟨p2, 0, none⟩)), (49, .bool false), (13, .int .i64 ((len : Nat) : Int)), (11, .pointer (some ⟨p2, 0, none⟩)), (0, .int .i64 ((nb : Nat) : Int)), (1, .slice A len cap), (2, .int .i64 n), (3, .int .i64 k_), (4, bv x)] (r ++ (([] : Hep) ++ (r4 ++ ([] : Hep)))) := H.perm' (((List.Perm.refl _).append_left ([] : Hep)).trans (List.perm_append_comm_assoc ([] : Hep) r (r4 ++ ([] : Hep))))
          refine pl_callV rfl rfl ⟨_, Try.func21, by kernel_rfl⟩ rfl (fun K_ => po_unsynced (hh := (([] : Hep) ++ (r4 ++ ([] : Hep)))) hJ.1 w _ K_) H ?_
          try clear H a W
          intro a W H
          replace H := H.perm' (List.perm_append_comm_assoc r ([] : Hep) (r4 ++ ([] : Hep)))
          replace H : St 161 w a W [(63, .int .i64 ((D.L.length : Nat) : Int)), (62, .pointer (some ⟨p2, 0, none⟩)), (61, .bool D.dead), (60, .pointer (some ⟨p2, 0, none⟩)), (59, .pointer (some ⟨p4, 0, none⟩)), (58, .pointer (some ⟨p2, 0, none⟩)), (49, .bool false), (13, .int .i64 ((len : Nat) : Int)), (11, .pointer (some ⟨p2, 0, none⟩)), (0, .int .i64 ((nb : Nat) : Int)), (1, .slice A len cap), (2, .int .i64 n), (3, .int .i64 k_), (4, bv x)] ((r ++ (r4 ++ ([] : Hep)))) := H
          refine rgO H gs0 (rS 3 rfl <| rK [1, 1, 1, 0, 0, 0, 0, 0, 0, 0, 0, 1, 1, 0] [] [] <| rZ0 ?_)
          try clear H a W
          intro a W H
          refine hK17 _ _ ?_
          clear hK17
          refine wp_seq_k (fun K18 hK18 => ?_)
          refine rgP H gs0 (rS 4 rfl <| rI0 ?_)
          try clear H a W
          intro a W H
          replace H : St 161 w a W [(67, bv x), (66, .int .i64 k_), (65, .int .i64 n), (64, .pointer (some ⟨p2, 0, none⟩)), (16, .int .i64 ((D.L.length : Nat) : Int)), (15, .bool D.dead), (14, .pointer (some ⟨p4, 0, none⟩)), (11, .pointer (some ⟨p2, 0, none⟩)), (0, .int .i64 ((nb : Nat) : Int)), (2, .int .i64 n), (3, .int .i64 k_), (4, bv x)] (r ++ (([] : Hep) ++ (r4 ++ ([] : Hep)))) := H.perm' (((List.Perm.refl _).append_left ([] : Hep)).trans (List.perm_append_comm_assoc ([] : Hep) r (r4 ++ ([] : Hep))))
          refine pl_callX rfl rfl ⟨_, Try.func30, by kernel_rfl⟩ rfl (fun K_ => po_edit (hh := (([] : Hep) ++ (r4 ++ ([] : Hep)))) hJ.1 n k_ x w _ K_) H ?_
          try clear H a W
          rintro r7 a W hP7 H
          replace hP7 : PO p2 (dEdit D n k_ x).1 r7 := hP7
          replace H := H.perm' (List.perm_append_comm_assoc r7 ([] : Hep) (r4 ++ ([] : Hep)))
          replace H : St 161 w a W [(68, .int .i64 ((dEdit D n k_ x).2)), (67, bv x), (66, .int .i64 k_), (65, .int .i64 n), (64, .pointer (some ⟨p2, 0, none⟩)), (16, .int .i64 ((D.L.length : Nat) : Int)), (15, .bool D.dead), (14, .pointer (some ⟨p4, 0, none⟩)), (11, .pointer (some ⟨p2, 0, none⟩)), (0, .int .i64 ((nb : Nat) : Int)), (2, .int .i64 n), (3, .int .i64 k_), (4, bv x)] ((r7 ++ (r4 ++ ([] : Hep)))) := H
          refine rgO H gs0 (rS 1 rfl <| rK [1, 0, 0, 0, 0, 0] [] [] <| rZ0 ?_)
          try clear H a W
          intro a W H
          refine hK18 _ _ ?_
          clear hK18
          refine wp_seq_k (fun K19 hK19 => ?_)
          refine wp_seq_k (fun K20 hK20 => ?_)
          cases hq4 : decide (n < 0) with
          | true =>
            have hq4p := of_decide_eq_true hq4
            refine rgP H gs0 (rS 1 rfl <| rV rfl (does_binOp rfl rfl rfl (zd_lss_int (k := n) (m := 0) hq4 _ _)) <| rS 13 rfl <| rK [1, 0, 0, 0, 0, 0, 0, 0, 0, 0, 0, 0, 0, 0, 0] [] [] <| rZ0 ?_)
            try clear H a W
            intro a W H
            refine hK20 _ _ ?_
            clear hK20
            refine wp_cond_true (H.ev rfl) ?_
            refine wp_seq_k (fun K21 hK21 => ?_)
            refine rgP H gs0 (rS 1 rfl <| rV rfl (does_call rfl ⟨_, Try.func13, by kernel_rfl⟩ rfl (fun W hb => num_any _ W)) <| rV rfl (does_binOp rfl rfl rfl (zd_eql_int (k := ((dEdit D n k_ x).2)) (m := 2) (decide_eq_true (by omega)) _ _)) <| rS 3 rfl <| rI0 ?_)
            try clear H a W
            intro a W H
            replace H := H.perm' ((((List.Perm.refl _).append_left r7).trans (List.perm_append_comm_assoc r7 r4 ([] : Hep))).append_left ([] : Hep))
            replace H : St 161 w a W [(89, .pointer (some ⟨p4, 0, none⟩)), (88, .pointer (some ⟨p2, 0, none⟩)), (87, .bool true), (86, .bool true), (85, .int .i64 ((dEdit D n k_ x).2)), (84, .int .i64 ((dEdit D n k_ x).2)), (83, .bool true), (17, .int .i64 ((dEdit D n k_ x).2)), (16, .int .i64 ((D.L.length : Nat) : Int)), (15, .bool D.dead), (14, .pointer (some ⟨p4, 0, none⟩)), (11, .pointer (some ⟨p2, 0, none⟩)), (0, .int .i64 ((nb : Nat) : Int)), (2, .int .i64 n), (3, .int .i64 k_), (4, bv x)] ((r4 ++ (r7 ++ ([] : Hep)))) := H
            replace H := H.perm' ((((List.Perm.refl _).append_left r4).trans (List.perm_append_comm_assoc r4 r7 ([] : Hep))).append_left ([] : Hep))
            replace H : St 161 w a W [(89, .pointer (some ⟨p4, 0, none⟩)), (88, .pointer (some ⟨p2, 0, none⟩)), (87, .bool true), (86, .bool true), (85, .int .i64 ((dEdit D n k_ x).2)), (84, .int .i64 ((dEdit D n k_ x).2)), (83, .bool true), (17, .int .i64 ((dEdit D n k_ x).2)), (16, .int .i64 ((D.L.length : Nat) : Int)), (15, .bool D.dead), (14, .pointer (some ⟨p4, 0, none⟩)), (11, .pointer (some ⟨p2, 0, none⟩)), (0, .int .i64 ((nb : Nat) : Int)), (2, .int .i64 n), (3, .int .i64 k_), (4, bv x)] ((r7 ++ (r4 ++ ([] : Hep)))) := H
            replace H : St 161 w a W [(89, .pointer (some ⟨p4, 0, none⟩)), (88, .pointer (some ⟨p2, 0, none⟩)), (87, .bool true), (86, .bool true), (85, .int .i64 ((dEdit D n k_ x).2)), (84, .int .i64 ((dEdit D n k_ x).2)), (83, .bool true), (17, .int .i64 ((dEdit D n k_ x).2)), (16, .int .i64 ((D.L.length : Nat) : Int)), (15, .bool D.dead), (14, .pointer (some ⟨p4, 0, none⟩)), (11, .pointer (some ⟨p2, 0, none⟩)), (0, .int .i64 ((nb : Nat) : Int)), (2, .int .i64 n), (3, .int .i64 k_), (4, bv x)] (r7 ++ (r4 ++ (([] : Hep) ++ ([] : Hep)))) := H.perm' ((List.perm_append_comm_assoc ([] : Hep) r7 (r4 ++ ([] : Hep))).trans ((List.perm_append_comm_assoc ([] : Hep) r4 ([] : Hep)).append_left r7))
            refine pl_callV rfl rfl ⟨_, Try.func20, by kernel_rfl⟩ rfl (fun K_ => po_same (hh := (([] : Hep) ++ ([] : Hep))) hP7 hP4 (by first | rfl | exact ed_len.1.symm | exact (ed_len.1.trans ed_len.1).symm) (fun m => ed_same0 (by omega) m) w _ K_) H ?_
            try clear H a W
            intro a W H
            replace H := H.perm' (((List.perm_append_comm_assoc r4 ([] : Hep) ([] : Hep)).append_left r7).trans (List.perm_append_comm_assoc r7 ([] : Hep) (r4 ++ ([] : Hep))))
            replace H : St 161 w a W [(90, .bool true), (89, .pointer (some ⟨p4, 0, none⟩)), (88, .pointer (some ⟨p2, 0, none⟩)), (87, .bool true), (86, .bool true), (85, .int .i64 ((dEdit D n k_ x).2)), (84, .int .i64 ((dEdit D n k_ x).2)), (83, .bool true), (17, .int .i64 ((dEdit D n k_ x).2)), (16, .int .i64 ((D.L.length : Nat) : Int)), (15, .bool D.dead), (14, .pointer (some ⟨p4, 0, none⟩)), (11, .pointer (some ⟨p2, 0, none⟩)), (0, .int .i64 ((nb : Nat) : Int)), (2, .int .i64 n), (3, .int .i64 k_), (4, bv x)] ((r7 ++ (r4 ++ ([] : Hep)))) := H
            refine rgO H gs0 (rS 2 rfl <| rV rfl (does_call rfl ⟨_, Try.func11, by kernel_rfl⟩ rfl (fun W hb => known_any W)) <| rS 2 rfl <| rK [1, 0, 0, 0, 0, 0, 0, 0, 0, 0, 0, 0, 0] [] [] <| rZ0 ?_)
            try clear H a W
            intro a W H
            refine hK21 _ _ ?_
            clear hK21
            refine wp_ret ?_
            repeat (first | (with_reducible refine then_ret ?_) | (with_reducible refine blk_ret ?_))
            refine end_tmp (p := 10) rfl rfl H (fun hb => ?_)
            exact ⟨rfl, hb⟩
          | false =>
            have hq4p := of_decide_eq_false hq4
            cases hq5 : decide (((nb : Nat) : Int) ≤ n) with
            | true =>
              have hq5p := of_decide_eq_true hq5
              refine rgP H gs0 (rS 1 rfl <| rV rfl (does_binOp rfl rfl rfl (zd_lss_int (k := n) (m := 0) hq4 _ _)) <| rS 3 rfl <| rV rfl (does_binOp rfl rfl rfl (zd_geq_int (k := n) (m := ((nb : Nat) : Int)) hq5 _ _)) <| rS 9 rfl <| rK [1, 0, 0, 0, 0, 0, 0, 0, 0, 0, 0, 0, 0, 0, 0] [] [] <| rZ0 ?_)
              try clear H a W
              intro a W H
              refine hK20 _ _ ?_
              clear hK20
              refine wp_cond_true (H.ev rfl) ?_
              refine wp_seq_k (fun K22 hK22 => ?_)
              refine rgP H gs0 (rS 1 rfl <| rV rfl (does_call rfl ⟨_, Try.func13, by kernel_rfl⟩ rfl (fun W hb => num_any _ W)) <| rV rfl (does_binOp rfl rfl rfl (zd_eql_int (k := ((dEdit D n k_ x).2)) (m := 2) (decide_eq_true (by omega)) _ _)) <| rS 3 rfl <| rI0 ?_)
              try clear H a W
              intro a W H
              replace H := H.perm' ((((List.Perm.refl _).append_left r7).trans (List.perm_append_comm_assoc r7 r4 ([] : Hep))).append_left ([] : Hep))
              replace H : St 161 w a W [(89, .pointer (some ⟨p4, 0, none⟩)), (88, .pointer (some ⟨p2, 0, none⟩)), (87, .bool true), (86, .bool true), (85, .int .i64 ((dEdit D n k_ x).2)), (84, .int .i64 ((dEdit D n k_ x).2)), (83, .bool true), (17, .int .i64 ((dEdit D n k_ x).2)), (16, .int .i64 ((D.L.length : Nat) : Int)), (15, .bool D.dead), (14, .pointer (some ⟨p4, 0, none⟩)), (11, .pointer (some ⟨p2, 0, none⟩)), (0, .int .i64 ((nb : Nat) : Int)), (2, .int .i64 n), (3, .int .i64 k_), (4, bv x)] ((r4 ++ (r7 ++ ([] : Hep)))) := H
              replace H := H.perm' ((((List.Perm.refl _).append_left r4).trans (List.perm_append_comm_assoc r4 r7 ([] : Hep))).append_left ([] : Hep))
              replace H : St 161 w a W [(89, .pointer (some ⟨p4, 0, none⟩)), (88, .pointer (some ⟨p2, 0, none⟩)), (87, .bool true), (86, .bool true), (85, .int .i64 ((dEdit D n k_ x).2)), (84, .int .i64 ((dEdit D n k_ x).2)), (83, .bool true), (17, .int .i64 ((dEdit D n k_ x).2)), (16, .int .i64 ((D.L.length : Nat) : Int)), (15, .bool D.dead), (14, .pointer (some ⟨p4, 0, none⟩)), (11, .pointer (some ⟨p2, 0, none⟩)), (0, .int .i64 ((nb : Nat) : Int)), (2, .int .i64 n), (3, .int .i64 k_), (4, bv x)] ((r7 ++ (r4 ++ ([] : Hep)))) := H
              replace H : St 161 w a W [(89, .pointer (some ⟨p4, 0, none⟩)), (88, .pointer (some ⟨p2, 0, none⟩)), (87, .bool true), (86, .bool true), (85, .int .i64 ((dEdit D n k_ x).2)), (84, .int .i64 ((dEdit D n k_ x).2)), (83, .bool true), (17, .int .i64 ((dEdit D n k_ x).2)), (16, .int .i64 ((D.L.length : Nat) : Int)), (15, .bool D.dead), (14, .pointer (some ⟨p4, 0, none⟩)), (11, .pointer (some ⟨p2, 0, none⟩)), (0, .int .i64 ((nb : Nat) : Int)), (2, .int .i64 n), (3, .int .i64 k_), (4, bv x)] (r7 ++ (r4 ++ (([] : Hep) ++ ([] : Hep)))) := H.perm' ((List.perm_append_comm_assoc ([] : Hep) r7 (r4 ++ ([] : Hep))).trans ((List.perm_append_comm_assoc ([] : Hep) r4 ([] : Hep)).append_left r7))
              refine pl_callV rfl rfl ⟨_, Try.func20, by kernel_rfl⟩ rfl (fun K_ => po_same (hh := (([] : Hep) ++ ([] : Hep))) hP7 hP4 (by first | rfl | exact ed_len.1.symm | exact (ed_len.1.trans ed_len.1).symm) (fun m => ed_same0 (by omega) m) w _ K_) H ?_
              try clear H a W
              intro a W H
              replace H := H.perm' (((List.perm_append_comm_assoc r4 ([] : Hep) ([] : Hep)).append_left r7).trans (List.perm_append_comm_assoc r7 ([] : Hep) (r4 ++ ([] : Hep))))
              replace H : St 161 w a W [(90, .bool true), (89, .pointer (some ⟨p4, 0, none⟩)), (88, .pointer (some ⟨p2, 0, none⟩)), (87, .bool true), (86, .bool true), (85, .int .i64 ((dEdit D n k_ x).2)), (84, .int .i64 ((dEdit D n k_ x).2)), (83, .bool true), (17, .int .i64 ((dEdit D n k_ x).2)), (16, .int .i64 ((D.L.length : Nat) : Int)), (15, .bool D.dead), (14, .pointer (some ⟨p4, 0, none⟩)), (11, .pointer (some ⟨p2, 0, none⟩)), (0, .int .i64 ((nb : Nat) : Int)), (2, .int .i64 n), (3, .int .i64 k_), (4, bv x)] ((r7 ++ (r4 ++ ([] : Hep)))) := H
              refine rgO H gs0 (rS 2 rfl <| rV rfl (does_call rfl ⟨_, Try.func11, by kernel_rfl⟩ rfl (fun W hb => known_any W)) <| rS 2 rfl <| rK [1, 0, 0, 0, 0, 0, 0, 0, 0, 0, 0, 0, 0] [] [] <| rZ0 ?_)
              try clear H a W
              intro a W H
              refine hK22 _ _ ?_
              clear hK22
              refine wp_ret ?_
              repeat (first | (with_reducible refine then_ret ?_) | (with_reducible refine blk_ret ?_))
              refine end_tmp (p := 10) rfl rfl H (fun hb => ?_)
              exact ⟨rfl, hb⟩
            | false =>
              have hq5p := of_decide_eq_false hq5
              cases hq6 : decide (k_ < 0) with
              | true =>
                have hq6p := of_decide_eq_true hq6
                refine rgP H gs0 (rS 1 rfl <| rV rfl (does_binOp rfl rfl rfl (zd_lss_int (k := n) (m := 0) hq4 _ _)) <| rS 3 rfl <| rV rfl (does_binOp rfl rfl rfl (zd_geq_int (k := n) (m := ((nb : Nat) : Int)) hq5 _ _)) <| rS 3 rfl <| rV rfl (does_binOp rfl rfl rfl (zd_lss_int (k := k_) (m := 0) hq6 _ _)) <| rS 5 rfl <| rK [1, 0, 0, 0, 0, 0, 0, 0, 0, 0, 0, 0, 0, 0, 0] [] [] <| rZ0 ?_)
                try clear H a W
                intro a W H
                refine hK20 _ _ ?_
                clear hK20
                refine wp_cond_true (H.ev rfl) ?_
                refine wp_seq_k (fun K23 hK23 => ?_)
                refine rgP H gs0 (rS 1 rfl <| rV rfl (does_call rfl ⟨_, Try.func13, by kernel_rfl⟩ rfl (fun W hb => num_any _ W)) <| rV rfl (does_binOp rfl rfl rfl (zd_eql_int (k := ((dEdit D n k_ x).2)) (m := 2) (decide_eq_true (by omega)) _ _)) <| rS 3 rfl <| rI0 ?_)
                try clear H a W
                intro a W H
                replace H := H.perm' ((((List.Perm.refl _).append_left r7).trans (List.perm_append_comm_assoc r7 r4 ([] : Hep))).append_left ([] : Hep))
                replace H : St 161 w a W [(89, .pointer (some ⟨p4, 0, none⟩)), (88, .pointer (some ⟨p2, 0, none⟩)), (87, .bool true), (86, .bool true), (85, .int .i64 ((dEdit D n k_ x).2)), (84, .int .i64 ((dEdit D n k_ x).2)), (83, .bool true), (17, .int .i64 ((dEdit D n k_ x).2)), (16, .int .i64 ((D.L.length : Nat) : Int)), (15, .bool D.dead), (14, .pointer (some ⟨p4, 0, none⟩)), (11, .pointer (some ⟨p2, 0, none⟩)), (0, .int .i64 ((nb : Nat) : Int)), (2, .int .i64 n), (3, .int .i64 k_), (4, bv x)] ((r4 ++ (r7 ++ ([] : Hep)))) := H
                replace H := H.perm' ((((List.Perm.refl _).append_left r4).trans (List.perm_append_comm_assoc r4 r7 ([] : Hep))).append_left ([] : Hep))
                replace H : St 161 w a W [(89, .pointer (some ⟨p4, 0, none⟩)), (88, .pointer (some ⟨p2, 0, none⟩)), (87, .bool true), (86, .bool true), (85, .int .i64 ((dEdit D n k_ x).2)), (84, .int .i64 ((dEdit D n k_ x).2)), (83, .bool true), (17, .int .i64 ((dEdit D n k_ x).2)), (16, .int .i64 ((D.L.length : Nat) : Int)), (15, .bool D.dead), (14, .pointer (some ⟨p4, 0, none⟩)), (11, .pointer (some ⟨p2, 0, none⟩)), (0, .int .i64 ((nb : Nat) : Int)), (2, .int .i64 n), (3, .int .i64 k_), (4, bv x)] ((r7 ++ (r4 ++ ([] : Hep)))) := H
                replace H : St 161 w a W [(89, .pointer (some ⟨p4, 0, none⟩)), (88, .pointer (some ⟨p2, 0, none⟩)), (87, .bool true), (86, .bool true), (85, .int .i64 ((dEdit D n k_ x).2)), (84, .int .i64 ((dEdit D n k_ x).2)), (83, .bool true), (17, .int .i64 ((dEdit D n k_ x).2)), (16, .int .i64 ((D.L.length : Nat) : Int)), (15, .bool D.dead), (14, .pointer (some ⟨p4, 0, none⟩)), (11, .pointer (some ⟨p2, 0, none⟩)), (0, .int .i64 ((nb : Nat) : Int)), (2, .int .i64 n), (3, .int .i64 k_), (4, bv x)] (r7 ++ (r4 ++ (([] : Hep) ++ ([] : Hep)))) := H.perm' ((List.perm_append_comm_assoc ([] : Hep) r7 (r4 ++ ([] : Hep))).trans ((List.perm_append_comm_assoc ([] : Hep) r4 ([] : Hep)).append_left r7))
                refine pl_callV rfl rfl ⟨_, Try.func20, by kernel_rfl⟩ rfl (fun K_ => po_same (hh := (([] : Hep) ++ ([] : Hep))) hP7 hP4 (by first | rfl | exact ed_len.1.symm | exact (ed_len.1.trans ed_len.1).symm) (fun m => ed_same0 (by omega) m) w _ K_) H ?_
                try clear H a W
                intro a W H
                replace H := H.perm' (((List.perm_append_comm_assoc r4 ([] : Hep) ([] : Hep)).append_left r7).trans (List.perm_append_comm_assoc r7 ([] : Hep) (r4 ++ ([] : Hep))))
                replace H : St 161 w a W [(90, .bool true), (89, .pointer (some ⟨p4, 0, none⟩)), (88, .pointer (some ⟨p2, 0, none⟩)), (87, .bool true), (86, .bool true), (85, .int .i64 ((dEdit D n k_ x).2)), (84, .int .i64 ((dEdit D n k_ x).2)), (83, .bool true), (17, .int .i64 ((dEdit D n k_ x).2)), (16, .int .i64 ((D.L.length : Nat) : Int)), (15, .bool D.dead), (14, .pointer (some ⟨p4, 0, none⟩)), (11, .pointer (some ⟨p2, 0, none⟩)), (0, .int .i64 ((nb : Nat) : Int)), (2, .int .i64 n), (3, .int .i64 k_), (4, bv x)] ((r7 ++ (r4 ++ ([] : Hep)))) := H
                refine rgO H gs0 (rS 2 rfl <| rV rfl (does_call rfl ⟨_, Try.func11, by kernel_rfl⟩ rfl (fun W hb => known_any W)) <| rS 2 rfl <| rK [1, 0, 0, 0, 0, 0, 0, 0, 0, 0, 0, 0, 0] [] [] <| rZ0 ?_)
                try clear H a W
                intro a W H
                refine hK23 _ _ ?_
                clear hK23
                refine wp_ret ?_
                repeat (first | (with_reducible refine then_ret ?_) | (with_reducible refine blk_ret ?_))
                refine end_tmp (p := 10) rfl rfl H (fun hb => ?_)
                exact ⟨rfl, hb⟩
              | false =>
                have hq6p := of_decide_eq_false hq6
                refine rgP H gs0 (rS 1 rfl <| rV rfl (does_binOp rfl rfl rfl (zd_lss_int (k := n) (m := 0) hq4 _ _)) <| rS 3 rfl <| rV rfl (does_binOp rfl rfl rfl (zd_geq_int (k := n) (m := ((nb : Nat) : Int)) hq5 _ _)) <| rS 3 rfl <| rV rfl (does_binOp rfl rfl rfl (zd_lss_int (k := k_) (m := 0) hq6 _ _)) <| rS 3 rfl <| rV rfl (does_binOp rfl rfl rfl (zd_geq_int (k := k_) (m := 512) rfl _ _)) <| rS 1 rfl <| rK [1, 0, 0, 0, 0, 0, 0, 0, 0, 0, 0, 0, 0, 0, 0] [] [] <| rZ0 ?_)
                try clear H a W
                intro a W H
                refine hK20 _ _ ?_
                clear hK20
                cases hq7 : decide (512 ≤ k_) with
                | true =>
                  rw [hq7] at H
                  have hq7p := of_decide_eq_true hq7
                  refine wp_cond_true (H.ev rfl) ?_
                  refine wp_seq_k (fun K24 hK24 => ?_)
                  refine rgP H gs0 (rS 1 rfl <| rV rfl (does_call rfl ⟨_, Try.func13, by kernel_rfl⟩ rfl (fun W hb => num_any _ W)) <| rV rfl (does_binOp rfl rfl rfl (zd_eql_int (k := ((dEdit D n k_ x).2)) (m := 2) (decide_eq_true (by omega)) _ _)) <| rS 3 rfl <| rI0 ?_)
                  try clear H a W
                  intro a W H
                  replace H := H.perm' ((((List.Perm.refl _).append_left r7).trans (List.perm_append_comm_assoc r7 r4 ([] : Hep))).append_left ([] : Hep))
                  replace H : St 161 w a W [(89, .pointer (some ⟨p4, 0, none⟩)), (88, .pointer (some ⟨p2, 0, none⟩)), (87, .bool true), (86, .bool true), (85, .int .i64 ((dEdit D n k_ x).2)), (84, .int .i64 ((dEdit D n k_ x).2)), (83, .bool true), (17, .int .i64 ((dEdit D n k_ x).2)), (16, .int .i64 ((D.L.length : Nat) : Int)), (15, .bool D.dead), (14, .pointer (some ⟨p4, 0, none⟩)), (11, .pointer (some ⟨p2, 0, none⟩)), (0, .int .i64 ((nb : Nat) : Int)), (2, .int .i64 n), (3, .int .i64 k_), (4, bv x)] ((r4 ++ (r7 ++ ([] : Hep)))) := H
                  replace H := H.perm' ((((List.Perm.refl _).append_left r4).trans (List.perm_append_comm_assoc r4 r7 ([] : Hep))).append_left ([] : Hep))
                  replace H : St 161 w a W [(89, .pointer (some ⟨p4, 0, none⟩)), (88, .pointer (some ⟨p2, 0, none⟩)), (87, .bool true), (86, .bool true), (85, .int .i64 ((dEdit D n k_ x).2)), (84, .int .i64 ((dEdit D n k_ x).2)), (83, .bool true), (17, .int .i64 ((dEdit D n k_ x).2)), (16, .int .i64 ((D.L.length : Nat) : Int)), (15, .bool D.dead), (14, .pointer (some ⟨p4, 0, none⟩)), (11, .pointer (some ⟨p2, 0, none⟩)), (0, .int .i64 ((nb : Nat) : Int)), (2, .int .i64 n), (3, .int .i64 k_), (4, bv x)] ((r7 ++ (r4 ++ ([] : Hep)))) := H
                  replace H : St 161 w a W [(89, .pointer (some ⟨p4, 0, none⟩)), (88, .pointer (some ⟨p2, 0, none⟩)), (87, .bool true), (86, .bool true), (85, .int .i64 ((dEdit D n k_ x).2)), (84, .int .i64 ((dEdit D n k_ x).2)), (83, .bool true), (17, .int .i64 ((dEdit D n k_ x).2)), (16, .int .i64 ((D.L.length : Nat) : Int)), (15, .bool D.dead), (14, .pointer (some ⟨p4, 0, none⟩)), (11, .pointer (some ⟨p2, 0, none⟩)), (0, .int .i64 ((nb : Nat) : Int)), (2, .int .i64 n), (3, .int .i64 k_), (4, bv x)] (r7 ++ (r4 ++ (([] : Hep) ++ ([] : Hep)))) := H.perm' ((List.perm_append_comm_assoc ([] : Hep) r7 (r4 ++ ([] : Hep))).trans ((List.perm_append_comm_assoc ([] : Hep) r4 ([] : Hep)).append_left r7))
                  refine pl_callV rfl rfl ⟨_, Try.func20, by kernel_rfl⟩ rfl (fun K_ => po_same (hh := (([] : Hep) ++ ([] : Hep))) hP7 hP4 (by first | rfl | exact ed_len.1.symm | exact (ed_len.1.trans ed_len.1).symm) (fun m => ed_same0 (by omega) m) w _ K_) H ?_
                  try clear H a W
                  intro a W H
                  replace H := H.perm' (((List.perm_append_comm_assoc r4 ([] : Hep) ([] : Hep)).append_left r7).trans (List.perm_append_comm_assoc r7 ([] : Hep) (r4 ++ ([] : Hep))))
                  replace H : St 161 w a W [(90, .bool true), (89, .pointer (some ⟨p4, 0, none⟩)), (88, .pointer (some ⟨p2, 0, none⟩)), (87, .bool true), (86, .bool true), (85, .int .i64 ((dEdit D n k_ x).2)), (84, .int .i64 ((dEdit D n k_ x).2)), (83, .bool true), (17, .int .i64 ((dEdit D n k_ x).2)), (16, .int .i64 ((D.L.length : Nat) : Int)), (15, .bool D.dead), (14, .pointer (some ⟨p4, 0, none⟩)), (11, .pointer (some ⟨p2, 0, none⟩)), (0, .int .i64 ((nb : Nat) : Int)), (2, .int .i64 n), (3, .int .i64 k_), (4, bv x)] ((r7 ++ (r4 ++ ([] : Hep)))) := H
                  refine rgO H gs0 (rS 2 rfl <| rV rfl (does_call rfl ⟨_, Try.func11, by kernel_rfl⟩ rfl (fun W hb => known_any W)) <| rS 2 rfl <| rK [1, 0, 0, 0, 0, 0, 0, 0, 0, 0, 0, 0, 0] [] [] <| rZ0 ?_)
                  try clear H a W
                  intro a W H
                  refine hK24 _ _ ?_
                  clear hK24
                  refine wp_ret ?_
                  repeat (first | (with_reducible refine then_ret ?_) | (with_reducible refine blk_ret ?_))
                  refine end_tmp (p := 10) rfl rfl H (fun hb => ?_)
                  exact ⟨rfl, hb⟩
                | false =>
                  rw [hq7] at H
                  have hq7p := of_decide_eq_false hq7
                  refine wp_cond_false (H.ev rfl) ?_
                  refine wp_skip ?_
                  refine hK19 _ _ ?_
                  clear hK19
                  refine wp_seq_k (fun K25 hK25 => ?_)
                  refine sqR H gs0 fun Z_ z_ => rS 1 rfl <| rK [1, 0] [] [] <| rN0 z_ ?_
                  try clear H a W
                  intro a W H
                  refine wp_block ?_
                  replace H := H.perm' ((((List.Perm.refl _).append_left r7).trans (List.perm_append_comm_assoc r7 r4 ([] : Hep))).append_left ([] : Hep))
                  replace H : St 161 w a W [(18, .int .i64 0), (17, .int .i64 ((dEdit D n k_ x).2)), (16, .int .i64 ((D.L.length : Nat) : Int)), (15, .bool D.dead), (14, .pointer (some ⟨p4, 0, none⟩)), (11, .pointer (some ⟨p2, 0, none⟩)), (0, .int .i64 ((nb : Nat) : Int)), (2, .int .i64 n), (3, .int .i64 k_), (4, bv x)] ((r4 ++ (r7 ++ ([] : Hep)))) := H
                  replace H := H.perm' ((((List.Perm.refl _).append_left r4).trans (List.perm_append_comm_assoc r4 r7 ([] : Hep))).append_left ([] : Hep))
                  replace H : St 161 w a W [(18, .int .i64 0), (17, .int .i64 ((dEdit D n k_ x).2)), (16, .int .i64 ((D.L.length : Nat) : Int)), (15, .bool D.dead), (14, .pointer (some ⟨p4, 0, none⟩)), (11, .pointer (some ⟨p2, 0, none⟩)), (0, .int .i64 ((nb : Nat) : Int)), (2, .int .i64 n), (3, .int .i64 k_), (4, bv x)] ((r7 ++ (r4 ++ ([] : Hep)))) := H
                  replace H : St 161 w a W [(18, .int .i64 0), (17, .int .i64 ((dEdit D n k_ x).2)), (16, .int .i64 ((D.L.length : Nat) : Int)), (15, .bool D.dead), (14, .pointer (some ⟨p4, 0, none⟩)), (11, .pointer (some ⟨p2, 0, none⟩)), (0, .int .i64 ((nb : Nat) : Int)), (2, .int .i64 n), (3, .int .i64 k_), (4, bv x)] ((r7 ++ (r4 ++ ([] : Hep)))) := H.pickF (h := []) (t := (r7 ++ (r4 ++ ([] : Hep)))) [0, 1, 2, 3, 4, 5, 6, 7, 8, 9] [] rfl
                  refine wp_rounds nb (fun i a W => ∃ u0, (u0 = 0) ∧ St 161 w a W [(18, .int .i64 ((i : Nat) : Int)), (17, .int .i64 ((dEdit D n k_ x).2)), (16, .int .i64 ((D.L.length : Nat) : Int)), (15, .bool D.dead), (14, .pointer (some ⟨p4, 0, none⟩)), (11, .pointer (some ⟨p2, 0, none⟩)), (0, .int .i64 ((nb : Nat) : Int)), (2, .int .i64 n), (3, .int .i64 k_), (4, bv x)] ((r7 ++ (r4 ++ ([] : Hep))))) (k0 := 0) ⟨0, rfl, H⟩ (by omega) ?_
                  try clear H a W
                  rintro i a W hi ⟨u0, hu0, H⟩
                  by_cases hi2 : i < nb
                  · refine wp_seq_k (fun K27 hK27 => ?_)
                    refine sqR H gs0 fun Z_ z_ => rS 2 rfl <| rV rfl (does_binOp rfl rfl rfl (zd_lss_int (k := ((i : Nat) : Int)) (m := ((nb : Nat) : Int)) (decide_eq_true (by omega)) _ _)) <| rN0 z_ ?_
                    try clear H a W
                    intro a W H
                    refine wp_cond_true (H.ev rfl) ?_
                    refine wp_skip ?_
                    refine hK27 _ _ ?_
                    clear hK27
                    refine wp_seq_k (fun K29 hK29 => ?_)
                    refine wp_block ?_
                    refine wp_seq_k (fun K30 hK30 => ?_)
                    refine rgP H gs0 (rS 2 rfl <| rI0 ?_)
                    try clear H a W
                    intro a W H
                    replace H : St 161 w a W [(102, .int .i64 ((i : Nat) : Int)), (101, .pointer (some ⟨p4, 0, none⟩)), (97, .bool true), (96, .int .i64 ((nb : Nat) : Int)), (95, .int .i64 ((i : Nat) : Int)), (18, .int .i64 ((i : Nat) : Int)), (17, .int .i64 ((dEdit D n k_ x).2)), (16, .int .i64 ((D.L.length : Nat) : Int)), (15, .bool D.dead), (14, .pointer (some ⟨p4, 0, none⟩)), (11, .pointer (some ⟨p2, 0, none⟩)), (0, .int .i64 ((nb : Nat) : Int)), (2, .int .i64 n), (3, .int .i64 k_), (4, bv x)] (r4 ++ (([] : Hep) ++ (r7 ++ ([] : Hep)))) := H.perm' (((((List.Perm.refl _).append_left r7).trans (List.perm_append_comm_assoc r7 r4 ([] : Hep))).append_left ([] : Hep)).trans (List.perm_append_comm_assoc ([] : Hep) r4 (r7 ++ ([] : Hep))))
                    refine pl_callX rfl rfl ⟨_, Try.func18, by kernel_rfl⟩ rfl (fun K_ => po_read (hh := (([] : Hep) ++ (r7 ++ ([] : Hep)))) hP4 i (by omega) w _ K_) H ?_
                    try clear H a W
                    rintro gr12 a W - H
                    replace H := H.perm' ((List.perm_append_comm_assoc r4 ([] : Hep) (r7 ++ ([] : Hep))).append_left ([(gr12, .ty 77, bvs (readB D i))] : Hep))
                    replace H : St 161 w a W [(103, .tuple #[.slice (some ⟨gr12, 0, none⟩) 512 512, .int .i64 0]), (102, .int .i64 ((i : Nat) : Int)), (101, .pointer (some ⟨p4, 0, none⟩)), (97, .bool true), (96, .int .i64 ((nb : Nat) : Int)), (95, .int .i64 ((i : Nat) : Int)), (18, .int .i64 ((i : Nat) : Int)), (17, .int .i64 ((dEdit D n k_ x).2)), (16, .int .i64 ((D.L.length : Nat) : Int)), (15, .bool D.dead), (14, .pointer (some ⟨p4, 0, none⟩)), (11, .pointer (some ⟨p2, 0, none⟩)), (0, .int .i64 ((nb : Nat) : Int)), (2, .int .i64 n), (3, .int .i64 k_), (4, bv x)] ((gr12, 77, bvs (readB D i)) :: (r4 ++ (r7 ++ ([] : Hep)))) := H
                    refine rgO H gs0 (rS 5 rfl <| rK [0] [] [] <| rZ0 ?_)
                    try clear H a W
                    intro a W H
                    refine hK30 _ _ ?_
                    clear hK30
                    refine wp_seq_k (fun K31 hK31 => ?_)
                    refine rgP H gs0 (rS 2 rfl <| rI0 ?_)
                    try clear H a W
                    intro a W H
                    replace H : St 161 w a W [(108, .int .i64 ((i : Nat) : Int)), (107, .pointer (some ⟨p2, 0, none⟩)), (19, .slice (some ⟨gr12, 0, none⟩) 512 512), (105, .int .i64 0), (104, .slice (some ⟨gr12, 0, none⟩) 512 512), (100, .tuple #[.slice (some ⟨gr12, 0, none⟩) 512 512, .int .i64 0]), (103, .tuple #[.slice (some ⟨gr12, 0, none⟩) 512 512, .int .i64 0]), (102, .int .i64 ((i : Nat) : Int)), (101, .pointer (some ⟨p4, 0, none⟩)), (97, .bool true), (96, .int .i64 ((nb : Nat) : Int)), (95, .int .i64 ((i : Nat) : Int)), (18, .int .i64 ((i : Nat) : Int)), (17, .int .i64 ((dEdit D n k_ x).2)), (16, .int .i64 ((D.L.length : Nat) : Int)), (15, .bool D.dead), (14, .pointer (some ⟨p4, 0, none⟩)), (11, .pointer (some ⟨p2, 0, none⟩)), (0, .int .i64 ((nb : Nat) : Int)), (2, .int .i64 n), (3, .int .i64 k_), (4, bv x)] (r7 ++ (([(gr12, .ty 77, bvs (readB D i))] : Hep) ++ (r4 ++ ([] : Hep)))) := H.perm' (((((List.Perm.refl _).append_left r4).trans (List.perm_append_comm_assoc r4 r7 ([] : Hep))).append_left ([(gr12, .ty 77, bvs (readB D i))] : Hep)).trans (List.perm_append_comm_assoc ([(gr12, .ty 77, bvs (readB D i))] : Hep) r7 (r4 ++ ([] : Hep))))
                    refine pl_callX rfl rfl ⟨_, Try.func18, by kernel_rfl⟩ rfl (fun K_ => po_read (hh := (([(gr12, .ty 77, bvs (readB D i))] : Hep) ++ (r4 ++ ([] : Hep)))) hP7 i (by omega) w _ K_) H ?_
                    try clear H a W
                    rintro gr13 a W - H
                    replace H := H.perm' ((List.perm_append_comm_assoc r7 ([(gr12, .ty 77, bvs (readB D i))] : Hep) (r4 ++ ([] : Hep))).append_left ([(gr13, .ty 77, bvs (readB (dEdit D n k_ x).1 i))] : Hep))
                    replace H : St 161 w a W [(109, .tuple #[.slice (some ⟨gr13, 0, none⟩) 512 512, .int .i64 0]), (108, .int .i64 ((i : Nat) : Int)), (107, .pointer (some ⟨p2, 0, none⟩)), (19, .slice (some ⟨gr12, 0, none⟩) 512 512), (105, .int .i64 0), (104, .slice (some ⟨gr12, 0, none⟩) 512 512), (100, .tuple #[.slice (some ⟨gr12, 0, none⟩) 512 512, .int .i64 0]), (103, .tuple #[.slice (some ⟨gr12, 0, none⟩) 512 512, .int .i64 0]), (102, .int .i64 ((i : Nat) : Int)), (101, .pointer (some ⟨p4, 0, none⟩)), (97, .bool true), (96, .int .i64 ((nb : Nat) : Int)), (95, .int .i64 ((i : Nat) : Int)), (18, .int .i64 ((i : Nat) : Int)), (17, .int .i64 ((dEdit D n k_ x).2)), (16, .int .i64 ((D.L.length : Nat) : Int)), (15, .bool D.dead), (14, .pointer (some ⟨p4, 0, none⟩)), (11, .pointer (some ⟨p2, 0, none⟩)), (0, .int .i64 ((nb : Nat) : Int)), (2, .int .i64 n), (3, .int .i64 k_), (4, bv x)] ((gr13, 77, bvs (readB (dEdit D n k_ x).1 i)) :: (gr12, 77, bvs (readB D i)) :: (r7 ++ (r4 ++ ([] : Hep)))) := H
                    refine rgO H gs0 (rS 5 rfl <| rK [0] [] [] <| rZ0 ?_)
                    try clear H a W
                    intro a W H
                    refine hK31 _ _ ?_
                    clear hK31
                    refine wp_seq_k (fun K32 hK32 => ?_)
                    refine sqR H gs0 fun Z_ z_ => rS 2 rfl <| rV rfl (does_binOp rfl rfl rfl (zd_eql_int (k := ((i : Nat) : Int)) (m := n) rfl _ _)) <| rN0 z_ ?_
                    try clear H a W
                    intro a W H
                    cases hq8 : decide (((i : Nat) : Int) = n) with
                    | true =>
                      rw [hq8] at H
                      have hq8p := of_decide_eq_true hq8
                      refine wp_cond_true (H.ev rfl) ?_
                      refine rgP H gs0 (rS 4 rfl <| rV rfl (does_indexAddr rfl rfl (by show some (Value.int .i64 k_) = some (.int .i64 ((k_.toNat : Nat) : Int)); rw [Int.toNat_of_nonneg (by omega)]) (ia_b0 (j := k_.toNat) (by omega))) <| rV rfl (does_loadAt (v := bv ((readB D i).getD k_.toNat 0)) rfl rfl (k := 1) rfl (ld_u8t (bvs_at (by rw [(read_len hP4.ok (by omega))]; omega)))) <| rS 1 rfl <| rV rfl (does_binOp rfl rfl rfl (b_xorP _ _ _ _)) <| rV rfl (does_indexAddr rfl rfl (by show some (Value.int .i64 k_) = some (.int .i64 ((k_.toNat : Nat) : Int)); rw [Int.toNat_of_nonneg (by omega)]) (ia_b0 (j := k_.toNat) (by omega))) <| rX [0, 1] (c := bvs (xorB k_.toNat x (readB D i))) ⟨rfl, rfl⟩ rfl rfl rfl (st_u8t (bvs_at (by rw [(read_len hP4.ok (by omega))]; omega))) (set_xor (by rw [(read_len hP4.ok (by omega))]; omega)) <| rZ0 ?_)
                      try clear H a W
                      intro a W H
                      refine hK32 _ _ ?_
                      clear hK32
                      refine sqR H gs0 fun Z_ z_ => rS 1 rfl <| rOV rfl (fun a W H _ => ob_strP H (wanted_none rfl) rfl rfl (sl_bf (by rw [xor_len]; exact read_len hJ.1.ok (by omega)) (H.blk (k := 1) rfl))) <| rS 1 rfl <| rOV rfl (fun a W H _ => ob_strP H (wanted_none rfl) rfl rfl (sl_bf (read_len hP7.ok (by omega)) (H.blk (k := 0) rfl))) <| rV rfl (does_binOp rfl rfl rfl (sd_neqP (l := xorB k_.toNat x (readB D i)) (m := readB (dEdit D n k_ x).1 i) (decide_eq_false (fun h_ => h_ (by rw [ed_read (by omega), if_pos (by omega)]))) _ _)) <| rN0 z_ ?_
                      try clear H a W
                      intro a W H
                      refine wp_cond_false (H.ev rfl) ?_
                      refine wp_skip ?_
                      refine blk_normal ?_
                      refine hK29 _ _ ?_
                      clear hK29
                      refine rgP H gs0 (rS 1 rfl <| rV rfl (does_binOp rfl rfl rfl (zd_add_int (k := ((i : Nat) : Int)) (m := 1) (c := ((i + 1 : Nat) : Int)) (by omega) (by omega) _ _)) <| rK [1, 1, 1, 1, 1, 1, 1, 1, 1, 1, 1, 1, 1, 1, 1, 1, 1, 1, 1, 1, 1, 1, 1, 1, 1, 1, 1, 1, 1, 1, 1, 1, 1, 1, 1, 1, 0] [] [] <| rS 1 rfl <| rZ0 ?_)
                      try clear H a W
                      intro a W H
                      replace H := H.perm' ((((List.Perm.refl _).append_left r7).trans (List.perm_append_comm_assoc r7 r4 ([] : Hep))).append_left ([(gr13, .ty 77, bvs (readB (dEdit D n k_ x).1 i)), (gr12, .ty 77, bvs (xorB k_.toNat x (readB D i)))] : Hep))
                      replace H : St 161 w a W [(18, .int .i64 ((i + 1 : Nat) : Int)), (99, .int .i64 ((i + 1 : Nat) : Int)), (98, .int .i64 ((i : Nat) : Int)), (128, .bool false), (127, .string (strB (readB (dEdit D n k_ x).1 i))), (126, .slice (some ⟨gr13, 0, none⟩) 512 512), (125, .string (strB (xorB k_.toNat x (readB D i)))), (124, .slice (some ⟨gr12, 0, none⟩) 512 512), (123, .pointer (some ⟨gr12, k_.toNat, none⟩)), (122, bv (((readB D i).getD k_.toNat 0) ^^^ x)), (121, bv x), (120, bv ((readB D i).getD k_.toNat 0)), (119, .pointer (some ⟨gr12, k_.toNat, none⟩)), (118, .int .i64 k_), (117, .slice (some ⟨gr12, 0, none⟩) 512 512), (116, .int .i64 k_), (115, .slice (some ⟨gr12, 0, none⟩) 512 512), (114, .bool true), (113, .int .i64 n), (112, .int .i64 ((i : Nat) : Int)), (21, .slice (some ⟨gr13, 0, none⟩) 512 512), (111, .int .i64 0), (110, .slice (some ⟨gr13, 0, none⟩) 512 512), (106, .tuple #[.slice (some ⟨gr13, 0, none⟩) 512 512, .int .i64 0]), (109, .tuple #[.slice (some ⟨gr13, 0, none⟩) 512 512, .int .i64 0]), (108, .int .i64 ((i : Nat) : Int)), (107, .pointer (some ⟨p2, 0, none⟩)), (19, .slice (some ⟨gr12, 0, none⟩) 512 512), (105, .int .i64 0), (104, .slice (some ⟨gr12, 0, none⟩) 512 512), (100, .tuple #[.slice (some ⟨gr12, 0, none⟩) 512 512, .int .i64 0]), (103, .tuple #[.slice (some ⟨gr12, 0, none⟩) 512 512, .int .i64 0]), (102, .int .i64 ((i : Nat) : Int)), (101, .pointer (some ⟨p4, 0, none⟩)), (97, .bool true), (96, .int .i64 ((nb : Nat) : Int)), (95, .int .i64 ((i : Nat) : Int)), (17, .int .i64 ((dEdit D n k_ x).2)), (16, .int .i64 ((D.L.length : Nat) : Int)), (15, .bool D.dead), (14, .pointer (some ⟨p4, 0, none⟩)), (11, .pointer (some ⟨p2, 0, none⟩)), (0, .int .i64 ((nb : Nat) : Int)), (2, .int .i64 n), (3, .int .i64 k_), (4, bv x)] ((gr13, 77, bvs (readB (dEdit D n k_ x).1 i)) :: (gr12, 77, bvs (xorB k_.toNat x (readB D i))) :: (r4 ++ (r7 ++ ([] : Hep)))) := H
                      replace H := H.perm' ((((List.Perm.refl _).append_left r4).trans (List.perm_append_comm_assoc r4 r7 ([] : Hep))).append_left ([(gr13, .ty 77, bvs (readB (dEdit D n k_ x).1 i)), (gr12, .ty 77, bvs (xorB k_.toNat x (readB D i)))] : Hep))
                      replace H : St 161 w a W [(18, .int .i64 ((i + 1 : Nat) : Int)), (99, .int .i64 ((i + 1 : Nat) : Int)), (98, .int .i64 ((i : Nat) : Int)), (128, .bool false), (127, .string (strB (readB (dEdit D n k_ x).1 i))), (126, .slice (some ⟨gr13, 0, none⟩) 512 512), (125, .string (strB (xorB k_.toNat x (readB D i)))), (124, .slice (some ⟨gr12, 0, none⟩) 512 512), (123, .pointer (some ⟨gr12, k_.toNat, none⟩)), (122, bv (((readB D i).getD k_.toNat 0) ^^^ x)), (121, bv x), (120, bv ((readB D i).getD k_.toNat 0)), (119, .pointer (some ⟨gr12, k_.toNat, none⟩)), (118, .int .i64 k_), (117, .slice (some ⟨gr12, 0, none⟩) 512 512), (116, .int .i64 k_), (115, .slice (some ⟨gr12, 0, none⟩) 512 512), (114, .bool true), (113, .int .i64 n), (112, .int .i64 ((i : Nat) : Int)), (21, .slice (some ⟨gr13, 0, none⟩) 512 512), (111, .int .i64 0), (110, .slice (some ⟨gr13, 0, none⟩) 512 512), (106, .tuple #[.slice (some ⟨gr13, 0, none⟩) 512 512, .int .i64 0]), (109, .tuple #[.slice (some ⟨gr13, 0, none⟩) 512 512, .int .i64 0]), (108, .int .i64 ((i : Nat) : Int)), (107, .pointer (some ⟨p2, 0, none⟩)), (19, .slice (some ⟨gr12, 0, none⟩) 512 512), (105, .int .i64 0), (104, .slice (some ⟨gr12, 0, none⟩) 512 512), (100, .tuple #[.slice (some ⟨gr12, 0, none⟩) 512 512, .int .i64 0]), (103, .tuple #[.slice (some ⟨gr12, 0, none⟩) 512 512, .int .i64 0]), (102, .int .i64 ((i : Nat) : Int)), (101, .pointer (some ⟨p4, 0, none⟩)), (97, .bool true), (96, .int .i64 ((nb : Nat) : Int)), (95, .int .i64 ((i : Nat) : Int)), (17, .int .i64 ((dEdit D n k_ x).2)), (16, .int .i64 ((D.L.length : Nat) : Int)), (15, .bool D.dead), (14, .pointer (some ⟨p4, 0, none⟩)), (11, .pointer (some ⟨p2, 0, none⟩)), (0, .int .i64 ((nb : Nat) : Int)), (2, .int .i64 n), (3, .int .i64 k_), (4, bv x)] ((gr13, 77, bvs (readB (dEdit D n k_ x).1 i)) :: (gr12, 77, bvs (xorB k_.toNat x (readB D i))) :: (r7 ++ (r4 ++ ([] : Hep)))) := H
                      refine ⟨i + 1, by omega, by omega, 0, rfl, ?_⟩
                      exact H.pickF (h := [(gr13, 77, bvs (readB (dEdit D n k_ x).1 i)), (gr12, 77, bvs (xorB k_.toNat x (readB D i)))]) (t := (r7 ++ (r4 ++ ([] : Hep)))) [0, 37, 38, 39, 40, 41, 42, 43, 44, 45] [] rfl
                    | false =>
                      rw [hq8] at H
                      have hq8p := of_decide_eq_false hq8
                      refine wp_cond_false (H.ev rfl) ?_
                      refine wp_skip ?_
                      refine hK32 _ _ ?_
                      clear hK32
                      refine sqR H gs0 fun Z_ z_ => rS 1 rfl <| rOV rfl (fun a W H _ => ob_strP H (wanted_none rfl) rfl rfl (sl_bf (read_len hP4.ok (by omega)) (H.blk (k := 1) rfl))) <| rS 1 rfl <| rOV rfl (fun a W H _ => ob_strP H (wanted_none rfl) rfl rfl (sl_bf (read_len hP7.ok (by omega)) (H.blk (k := 0) rfl))) <| rV rfl (does_binOp rfl rfl rfl (sd_neqP (l := readB D i) (m := readB (dEdit D n k_ x).1 i) (decide_eq_false (fun h_ => h_ (by rw [ed_read (by omega), if_neg (by omega)]))) _ _)) <| rN0 z_ ?_
                      try clear H a W
                      intro a W H
                      refine wp_cond_false (H.ev rfl) ?_
                      refine wp_skip ?_
                      refine blk_normal ?_
                      refine hK29 _ _ ?_
                      clear hK29
                      refine rgP H gs0 (rS 1 rfl <| rV rfl (does_binOp rfl rfl rfl (zd_add_int (k := ((i : Nat) : Int)) (m := 1) (c := ((i + 1 : Nat) : Int)) (by omega) (by omega) _ _)) <| rK [1, 1, 1, 1, 1, 1, 1, 1, 1, 1, 1, 1, 1, 1, 1, 1, 1, 1, 1, 1, 1, 1, 1, 1, 1, 1, 1, 0] [] [] <| rS 1 rfl <| rZ0 ?_)
                      try clear H a W
                      intro a W H
                      replace H := H.perm' ((((List.Perm.refl _).append_left r7).trans (List.perm_append_comm_assoc r7 r4 ([] : Hep))).append_left ([(gr13, .ty 77, bvs (readB (dEdit D n k_ x).1 i)), (gr12, .ty 77, bvs (readB D i))] : Hep))
                      replace H : St 161 w a W [(18, .int .i64 ((i + 1 : Nat) : Int)), (99, .int .i64 ((i + 1 : Nat) : Int)), (98, .int .i64 ((i : Nat) : Int)), (128, .bool false), (127, .string (strB (readB (dEdit D n k_ x).1 i))), (126, .slice (some ⟨gr13, 0, none⟩) 512 512), (125, .string (strB (readB D i))), (124, .slice (some ⟨gr12, 0, none⟩) 512 512), (114, .bool false), (113, .int .i64 n), (112, .int .i64 ((i : Nat) : Int)), (21, .slice (some ⟨gr13, 0, none⟩) 512 512), (111, .int .i64 0), (110, .slice (some ⟨gr13, 0, none⟩) 512 512), (106, .tuple #[.slice (some ⟨gr13, 0, none⟩) 512 512, .int .i64 0]), (109, .tuple #[.slice (some ⟨gr13, 0, none⟩) 512 512, .int .i64 0]), (108, .int .i64 ((i : Nat) : Int)), (107, .pointer (some ⟨p2, 0, none⟩)), (19, .slice (some ⟨gr12, 0, none⟩) 512 512), (105, .int .i64 0), (104, .slice (some ⟨gr12, 0, none⟩) 512 512), (100, .tuple #[.slice (some ⟨gr12, 0, none⟩) 512 512, .int .i64 0]), (103, .tuple #[.slice (some ⟨gr12, 0, none⟩) 512 512, .int .i64 0]), (102, .int .i64 ((i : Nat) : Int)), (101, .pointer (some ⟨p4, 0, none⟩)), (97, .bool true), (96, .int .i64 ((nb : Nat) : Int)), (95, .int .i64 ((i : Nat) : Int)), (17, .int .i64 ((dEdit D n k_ x).2)), (16, .int .i64 ((D.L.length : Nat) : Int)), (15, .bool D.dead), (14, .pointer (some ⟨p4, 0, none⟩)), (11, .pointer (some ⟨p2, 0, none⟩)), (0, .int .i64 ((nb : Nat) : Int)), (2, .int .i64 n), (3, .int .i64 k_), (4, bv x)] ((gr13, 77, bvs (readB (dEdit D n k_ x).1 i)) :: (gr12, 77, bvs (readB D i)) :: (r4 ++ (r7 ++ ([] : Hep)))) := H
                      replace H := H.perm' ((((List.Perm.refl _).append_left r4).trans (List.perm_append_comm_assoc r4 r7 ([] : Hep))).append_left ([(gr13, .ty 77, bvs (readB (dEdit D n k_ x).1 i)), (gr12, .ty 77, bvs (readB D i))] : Hep))
                      replace H : St 161 w a W [(18, .int .i64 ((i + 1 : Nat) : Int)), (99, .int .i64 ((i + 1 : Nat) : Int)), (98, .int .i64 ((i : Nat) : Int)), (128, .bool false), (127, .string (strB (readB (dEdit D n k_ x).1 i))), (126, .slice (some ⟨gr13, 0, none⟩) 512 512), (125, .string (strB (readB D i))), (124, .slice (some ⟨gr12, 0, none⟩) 512 512), (114, .bool false), (113, .int .i64 n), (112, .int .i64 ((i : Nat) : Int)), (21, .slice (some ⟨gr13, 0, none⟩) 512 512), (111, .int .i64 0), (110, .slice (some ⟨gr13, 0, none⟩) 512 512), (106, .tuple #[.slice (some ⟨gr13, 0, none⟩) 512 512, .int .i64 0]), (109, .tuple #[.slice (some ⟨gr13, 0, none⟩) 512 512, .int .i64 0]), (108, .int .i64 ((i : Nat) : Int)), (107, .pointer (some ⟨p2, 0, none⟩)), (19, .slice (some ⟨gr12, 0, none⟩) 512 512), (105, .int .i64 0), (104, .slice (some ⟨gr12, 0, none⟩) 512 512), (100, .tuple #[.slice (some ⟨gr12, 0, none⟩) 512 512, .int .i64 0]), (103, .tuple #[.slice (some ⟨gr12, 0, none⟩) 512 512, .int .i64 0]), (102, .int .i64 ((i : Nat) : Int)), (101, .pointer (some ⟨p4, 0, none⟩)), (97, .bool true), (96, .int .i64 ((nb : Nat) : Int)), (95, .int .i64 ((i : Nat) : Int)), (17, .int .i64 ((dEdit D n k_ x).2)), (16, .int .i64 ((D.L.length : Nat) : Int)), (15, .bool D.dead), (14, .pointer (some ⟨p4, 0, none⟩)), (11, .pointer (some ⟨p2, 0, none⟩)), (0, .int .i64 ((nb : Nat) : Int)), (2, .int .i64 n), (3, .int .i64 k_), (4, bv x)] ((gr13, 77, bvs (readB (dEdit D n k_ x).1 i)) :: (gr12, 77, bvs (readB D i)) :: (r7 ++ (r4 ++ ([] : Hep)))) := H
                      refine ⟨i + 1, by omega, by omega, 0, rfl, ?_⟩
                      exact H.pickF (h := [(gr13, 77, bvs (readB (dEdit D n k_ x).1 i)), (gr12, 77, bvs (readB D i))]) (t := (r7 ++ (r4 ++ ([] : Hep)))) [0, 28, 29, 30, 31, 32, 33, 34, 35, 36] [] rfl
                  · obtain rfl : nb = i := by omega
                    refine wp_seq_k (fun K36 hK36 => ?_)
                    refine sqR H gs0 fun Z_ z_ => rS 2 rfl <| rV rfl (does_binOp rfl rfl rfl (zd_lss_int (k := ((nb : Nat) : Int)) (m := ((nb : Nat) : Int)) (decide_eq_false (by omega)) _ _)) <| rK [1, 0, 0, 1, 1, 1, 1, 1, 1, 0] [] [] <| rN0 z_ ?_
                    try clear H a W
                    intro a W H
                    refine wp_cond_false (H.ev rfl) ?_
                    refine wp_exit ?_
                    repeat (first | (with_reducible refine then_exit ?_) | (with_reducible refine blk_pass (by decide) ?_))
                    refine blk_exit ?_
                    refine hK25 _ _ ?_
                    clear hK25
                    refine wp_seq_k (fun K38 hK38 => ?_)
                    refine rgP H gs0 (rS 1 rfl <| rV rfl (does_call rfl ⟨_, Try.func13, by kernel_rfl⟩ rfl (fun W hb => num_any _ W)) <| rV rfl (does_binOp rfl rfl rfl (zd_eql_int (k := ((dEdit D n k_ x).2)) (m := 0) (decide_eq_true (by omega)) _ _)) <| rS 2 rfl <| rI0 ?_)
                    try clear H a W
                    intro a W H
                    replace H : St 161 w a W [(133, .pointer (some ⟨p2, 0, none⟩)), (132, .bool true), (131, .bool true), (130, .int .i64 ((dEdit D n k_ x).2)), (129, .int .i64 ((dEdit D n k_ x).2)), (97, .bool false), (18, .int .i64 ((nb : Nat) : Int)), (17, .int .i64 ((dEdit D n k_ x).2)), (16, .int .i64 ((D.L.length : Nat) : Int)), (15, .bool D.dead), (14, .pointer (some ⟨p4, 0, none⟩)), (11, .pointer (some ⟨p2, 0, none⟩)), (2, .int .i64 n), (3, .int .i64 k_), (4, bv x)] (r7 ++ (([] : Hep) ++ (r4 ++ ([] : Hep)))) := H.perm' (((List.Perm.refl _).append_left ([] : Hep)).trans (List.perm_append_comm_assoc ([] : Hep) r7 (r4 ++ ([] : Hep))))
                    refine pl_callV rfl rfl ⟨_, Try.func22, by kernel_rfl⟩ rfl (fun K_ => by have h_ := po_dead (hh := (([] : Hep) ++ (r4 ++ ([] : Hep)))) hP7 w _ K_; rw [ed_len.2.2] at h_; exact h_) H ?_
                    try clear H a W
                    intro a W H
                    replace H := H.perm' (List.perm_append_comm_assoc r7 ([] : Hep) (r4 ++ ([] : Hep)))
                    replace H : St 161 w a W [(134, .bool D.dead), (133, .pointer (some ⟨p2, 0, none⟩)), (132, .bool true), (131, .bool true), (130, .int .i64 ((dEdit D n k_ x).2)), (129, .int .i64 ((dEdit D n k_ x).2)), (97, .bool false), (18, .int .i64 ((nb : Nat) : Int)), (17, .int .i64 ((dEdit D n k_ x).2)), (16, .int .i64 ((D.L.length : Nat) : Int)), (15, .bool D.dead), (14, .pointer (some ⟨p4, 0, none⟩)), (11, .pointer (some ⟨p2, 0, none⟩)), (2, .int .i64 n), (3, .int .i64 k_), (4, bv x)] ((r7 ++ (r4 ++ ([] : Hep)))) := H
                    refine rgO H gs0 (rS 1 rfl <| rV rfl (does_binOp rfl rfl rfl (bd_eqlS _ _)) <| rS 3 rfl <| rI0 ?_)
                    try clear H a W
                    intro a W H
                    replace H : St 161 w a W [(139, .pointer (some ⟨p2, 0, none⟩)), (138, .bool true), (137, .bool true), (136, .bool true), (135, .bool D.dead), (134, .bool D.dead), (133, .pointer (some ⟨p2, 0, none⟩)), (132, .bool true), (131, .bool true), (130, .int .i64 ((dEdit D n k_ x).2)), (129, .int .i64 ((dEdit D n k_ x).2)), (97, .bool false), (18, .int .i64 ((nb : Nat) : Int)), (17, .int .i64 ((dEdit D n k_ x).2)), (16, .int .i64 ((D.L.length : Nat) : Int)), (15, .bool D.dead), (14, .pointer (some ⟨p4, 0, none⟩)), (11, .pointer (some ⟨p2, 0, none⟩)), (2, .int .i64 n), (3, .int .i64 k_), (4, bv x)] (r7 ++ (([] : Hep) ++ (r4 ++ ([] : Hep)))) := H.perm' (((List.Perm.refl _).append_left ([] : Hep)).trans (List.perm_append_comm_assoc ([] : Hep) r7 (r4 ++ ([] : Hep))))
                    refine pl_callV rfl rfl ⟨_, Try.func21, by kernel_rfl⟩ rfl (fun K_ => by have h_ := po_unsynced (hh := (([] : Hep) ++ (r4 ++ ([] : Hep)))) hP7 w _ K_; rw [ed_len.2.1] at h_; exact h_) H ?_
                    try clear H a W
                    intro a W H
                    replace H := H.perm' (List.perm_append_comm_assoc r7 ([] : Hep) (r4 ++ ([] : Hep)))
                    replace H : St 161 w a W [(140, .int .i64 ((D.L.length : Nat) : Int)), (139, .pointer (some ⟨p2, 0, none⟩)), (138, .bool true), (137, .bool true), (136, .bool true), (135, .bool D.dead), (134, .bool D.dead), (133, .pointer (some ⟨p2, 0, none⟩)), (132, .bool true), (131, .bool true), (130, .int .i64 ((dEdit D n k_ x).2)), (129, .int .i64 ((dEdit D n k_ x).2)), (97, .bool false), (18, .int .i64 ((nb : Nat) : Int)), (17, .int .i64 ((dEdit D n k_ x).2)), (16, .int .i64 ((D.L.length : Nat) : Int)), (15, .bool D.dead), (14, .pointer (some ⟨p4, 0, none⟩)), (11, .pointer (some ⟨p2, 0, none⟩)), (2, .int .i64 n), (3, .int .i64 k_), (4, bv x)] ((r7 ++ (r4 ++ ([] : Hep)))) := H
                    refine rgO H gs0 (rS 1 rfl <| rV rfl (does_binOp rfl rfl rfl (zd_eql_int (k := ((D.L.length : Nat) : Int)) (m := ((D.L.length : Nat) : Int)) (decide_eq_true (by omega)) _ _)) <| rS 6 rfl <| rI0 ?_)
                    try clear H a W
                    intro a W H
                    replace H : St 161 w a W [(148, bv x), (147, .int .i64 k_), (146, .int .i64 n), (145, .pointer (some ⟨p2, 0, none⟩)), (144, .bool true), (143, .bool true), (142, .bool true), (141, .int .i64 ((D.L.length : Nat) : Int)), (140, .int .i64 ((D.L.length : Nat) : Int)), (139, .pointer (some ⟨p2, 0, none⟩)), (138, .bool true), (137, .bool true), (136, .bool true), (135, .bool D.dead), (134, .bool D.dead), (133, .pointer (some ⟨p2, 0, none⟩)), (132, .bool true), (131, .bool true), (130, .int .i64 ((dEdit D n k_ x).2)), (129, .int .i64 ((dEdit D n k_ x).2)), (97, .bool false), (18, .int .i64 ((nb : Nat) : Int)), (17, .int .i64 ((dEdit D n k_ x).2)), (16, .int .i64 ((D.L.length : Nat) : Int)), (15, .bool D.dead), (14, .pointer (some ⟨p4, 0, none⟩)), (11, .pointer (some ⟨p2, 0, none⟩)), (2, .int .i64 n), (3, .int .i64 k_), (4, bv x)] (r7 ++ (([] : Hep) ++ (r4 ++ ([] : Hep)))) := H.perm' (((List.Perm.refl _).append_left ([] : Hep)).trans (List.perm_append_comm_assoc ([] : Hep) r7 (r4 ++ ([] : Hep))))
                    refine pl_callX rfl rfl ⟨_, Try.func30, by kernel_rfl⟩ rfl (fun K_ => po_edit (hh := (([] : Hep) ++ (r4 ++ ([] : Hep)))) hP7 n k_ x w _ K_) H ?_
                    try clear H a W
                    rintro r16 a W hP16 H
                    replace hP16 : PO p2 (dEdit (dEdit D n k_ x).1 n k_ x).1 r16 := hP16
                    replace H := H.perm' (List.perm_append_comm_assoc r16 ([] : Hep) (r4 ++ ([] : Hep)))
                    replace H : St 161 w a W [(149, .int .i64 ((dEdit (dEdit D n k_ x).1 n k_ x).2)), (148, bv x), (147, .int .i64 k_), (146, .int .i64 n), (145, .pointer (some ⟨p2, 0, none⟩)), (144, .bool true), (143, .bool true), (142, .bool true), (141, .int .i64 ((D.L.length : Nat) : Int)), (140, .int .i64 ((D.L.length : Nat) : Int)), (139, .pointer (some ⟨p2, 0, none⟩)), (138, .bool true), (137, .bool true), (136, .bool true), (135, .bool D.dead), (134, .bool D.dead), (133, .pointer (some ⟨p2, 0, none⟩)), (132, .bool true), (131, .bool true), (130, .int .i64 ((dEdit D n k_ x).2)), (129, .int .i64 ((dEdit D n k_ x).2)), (97, .bool false), (18, .int .i64 ((nb : Nat) : Int)), (17, .int .i64 ((dEdit D n k_ x).2)), (16, .int .i64 ((D.L.length : Nat) : Int)), (15, .bool D.dead), (14, .pointer (some ⟨p4, 0, none⟩)), (11, .pointer (some ⟨p2, 0, none⟩)), (2, .int .i64 n), (3, .int .i64 k_), (4, bv x)] ((r16 ++ (r4 ++ ([] : Hep)))) := H
                    refine rgO H gs0 (rV rfl (does_call rfl ⟨_, Try.func13, by kernel_rfl⟩ rfl (fun W hb => num_any _ W)) <| rV rfl (does_binOp rfl rfl rfl (zd_eql_int (k := ((dEdit (dEdit D n k_ x).1 n k_ x).2)) (m := 0) (decide_eq_true (by omega)) _ _)) <| rS 4 rfl <| rI0 ?_)
                    try clear H a W
                    intro a W H
                    replace H := H.perm' ((((List.Perm.refl _).append_left r16).trans (List.perm_append_comm_assoc r16 r4 ([] : Hep))).append_left ([] : Hep))
                    replace H : St 161 w a W [(155, .pointer (some ⟨p4, 0, none⟩)), (154, .pointer (some ⟨p2, 0, none⟩)), (153, .bool true), (152, .bool true), (151, .bool true), (150, .int .i64 ((dEdit (dEdit D n k_ x).1 n k_ x).2)), (149, .int .i64 ((dEdit (dEdit D n k_ x).1 n k_ x).2)), (148, bv x), (147, .int .i64 k_), (146, .int .i64 n), (145, .pointer (some ⟨p2, 0, none⟩)), (144, .bool true), (143, .bool true), (142, .bool true), (141, .int .i64 ((D.L.length : Nat) : Int)), (140, .int .i64 ((D.L.length : Nat) : Int)), (139, .pointer (some ⟨p2, 0, none⟩)), (138, .bool true), (137, .bool true), (136, .bool true), (135, .bool D.dead), (134, .bool D.dead), (133, .pointer (some ⟨p2, 0, none⟩)), (132, .bool true), (131, .bool true), (130, .int .i64 ((dEdit D n k_ x).2)), (129, .int .i64 ((dEdit D n k_ x).2)), (97, .bool false), (18, .int .i64 ((nb : Nat) : Int)), (17, .int .i64 ((dEdit D n k_ x).2)), (16, .int .i64 ((D.L.length : Nat) : Int)), (15, .bool D.dead), (14, .pointer (some ⟨p4, 0, none⟩)), (11, .pointer (some ⟨p2, 0, none⟩)), (2, .int .i64 n), (3, .int .i64 k_), (4, bv x)] ((r4 ++ (r16 ++ ([] : Hep)))) := H
                    replace H := H.perm' ((((List.Perm.refl _).append_left r4).trans (List.perm_append_comm_assoc r4 r16 ([] : Hep))).append_left ([] : Hep))
                    replace H : St 161 w a W [(155, .pointer (some ⟨p4, 0, none⟩)), (154, .pointer (some ⟨p2, 0, none⟩)), (153, .bool true), (152, .bool true), (151, .bool true), (150, .int .i64 ((dEdit (dEdit D n k_ x).1 n k_ x).2)), (149, .int .i64 ((dEdit (dEdit D n k_ x).1 n k_ x).2)), (148, bv x), (147, .int .i64 k_), (146, .int .i64 n), (145, .pointer (some ⟨p2, 0, none⟩)), (144, .bool true), (143, .bool true), (142, .bool true), (141, .int .i64 ((D.L.length : Nat) : Int)), (140, .int .i64 ((D.L.length : Nat) : Int)), (139, .pointer (some ⟨p2, 0, none⟩)), (138, .bool true), (137, .bool true), (136, .bool true), (135, .bool D.dead), (134, .bool D.dead), (133, .pointer (some ⟨p2, 0, none⟩)), (132, .bool true), (131, .bool true), (130, .int .i64 ((dEdit D n k_ x).2)), (129, .int .i64 ((dEdit D n k_ x).2)), (97, .bool false), (18, .int .i64 ((nb : Nat) : Int)), (17, .int .i64 ((dEdit D n k_ x).2)), (16, .int .i64 ((D.L.length : Nat) : Int)), (15, .bool D.dead), (14, .pointer (some ⟨p4, 0, none⟩)), (11, .pointer (some ⟨p2, 0, none⟩)), (2, .int .i64 n), (3, .int .i64 k_), (4, bv x)] ((r16 ++ (r4 ++ ([] : Hep)))) := H
                    replace H : St 161 w a W [(155, .pointer (some ⟨p4, 0, none⟩)), (154, .pointer (some ⟨p2, 0, none⟩)), (153, .bool true), (152, .bool true), (151, .bool true), (150, .int .i64 ((dEdit (dEdit D n k_ x).1 n k_ x).2)), (149, .int .i64 ((dEdit (dEdit D n k_ x).1 n k_ x).2)), (148, bv x), (147, .int .i64 k_), (146, .int .i64 n), (145, .pointer (some ⟨p2, 0, none⟩)), (144, .bool true), (143, .bool true), (142, .bool true), (141, .int .i64 ((D.L.length : Nat) : Int)), (140, .int .i64 ((D.L.length : Nat) : Int)), (139, .pointer (some ⟨p2, 0, none⟩)), (138, .bool true), (137, .bool true), (136, .bool true), (135, .bool D.dead), (134, .bool D.dead), (133, .pointer (some ⟨p2, 0, none⟩)), (132, .bool true), (131, .bool true), (130, .int .i64 ((dEdit D n k_ x).2)), (129, .int .i64 ((dEdit D n k_ x).2)), (97, .bool false), (18, .int .i64 ((nb : Nat) : Int)), (17, .int .i64 ((dEdit D n k_ x).2)), (16, .int .i64 ((D.L.length : Nat) : Int)), (15, .bool D.dead), (14, .pointer (some ⟨p4, 0, none⟩)), (11, .pointer (some ⟨p2, 0, none⟩)), (2, .int .i64 n), (3, .int .i64 k_), (4, bv x)] (r16 ++ (r4 ++ (([] : Hep) ++ ([] : Hep)))) := H.perm' ((List.perm_append_comm_assoc ([] : Hep) r16 (r4 ++ ([] : Hep))).trans ((List.perm_append_comm_assoc ([] : Hep) r4 ([] : Hep)).append_left r16))
                    refine pl_callV rfl rfl ⟨_, Try.func20, by kernel_rfl⟩ rfl (fun K_ => po_same (hh := (([] : Hep) ++ ([] : Hep))) hP16 hP4 (by first | rfl | exact ed_len.1.symm | exact (ed_len.1.trans ed_len.1).symm) (fun m => ed_same2 (by omega) m) w _ K_) H ?_
                    try clear H a W
                    intro a W H
                    replace H := H.perm' (((List.perm_append_comm_assoc r4 ([] : Hep) ([] : Hep)).append_left r16).trans (List.perm_append_comm_assoc r16 ([] : Hep) (r4 ++ ([] : Hep))))
                    replace H : St 161 w a W [(156, .bool true), (155, .pointer (some ⟨p4, 0, none⟩)), (154, .pointer (some ⟨p2, 0, none⟩)), (153, .bool true), (152, .bool true), (151, .bool true), (150, .int .i64 ((dEdit (dEdit D n k_ x).1 n k_ x).2)), (149, .int .i64 ((dEdit (dEdit D n k_ x).1 n k_ x).2)), (148, bv x), (147, .int .i64 k_), (146, .int .i64 n), (145, .pointer (some ⟨p2, 0, none⟩)), (144, .bool true), (143, .bool true), (142, .bool true), (141, .int .i64 ((D.L.length : Nat) : Int)), (140, .int .i64 ((D.L.length : Nat) : Int)), (139, .pointer (some ⟨p2, 0, none⟩)), (138, .bool true), (137, .bool true), (136, .bool true), (135, .bool D.dead), (134, .bool D.dead), (133, .pointer (some ⟨p2, 0, none⟩)), (132, .bool true), (131, .bool true), (130, .int .i64 ((dEdit D n k_ x).2)), (129, .int .i64 ((dEdit D n k_ x).2)), (97, .bool false), (18, .int .i64 ((nb : Nat) : Int)), (17, .int .i64 ((dEdit D n k_ x).2)), (16, .int .i64 ((D.L.length : Nat) : Int)), (15, .bool D.dead), (14, .pointer (some ⟨p4, 0, none⟩)), (11, .pointer (some ⟨p2, 0, none⟩)), (2, .int .i64 n), (3, .int .i64 k_), (4, bv x)] ((r16 ++ (r4 ++ ([] : Hep)))) := H
                    refine rgO H gs0 (rS 2 rfl <| rV rfl (does_call rfl ⟨_, Try.func11, by kernel_rfl⟩ rfl (fun W hb => known_any W)) <| rS 2 rfl <| rK [1, 0, 0, 0, 0, 0, 0, 0, 0, 0, 0, 0, 0, 0, 0, 0, 0, 0, 0, 0, 0, 0, 0, 0, 0, 0, 0, 0, 0, 0, 0, 0, 0, 0, 0, 0, 0, 0, 0, 0, 0, 0, 0] [] [] <| rZ0 ?_)
                    try clear H a W
                    intro a W H
                    refine hK38 _ _ ?_
                    clear hK38
                    refine wp_ret ?_
                    repeat (first | (with_reducible refine then_ret ?_) | (with_reducible refine blk_ret ?_))
                    refine end_tmp (p := 10) rfl rfl H (fun hb => ?_)
                    exact ⟨rfl, hb⟩
theorem law_edits {A : Option Addr} {len cap gl ol : Nat} {sub : Nat → SH} (bl n k_ : Int) (x : UInt8) (w : World) (hL : SL w A len cap gl ol sub) (hn : -9223372036854775808 ≤ n ∧ n < 9223372036854775808) (hk : -9223372036854775808 ≤ k_ ∧ k_ < 9223372036854775808) : Calls Try.prog 9 #[.int .i64 bl, .slice A len cap, .int .i64 n, .int .i64 k_, bv x] w (fun rr w' => rr = .returned (.bool true) ∧ Below w.heap.size w w') := by
  by_cases h : bl < 1
  · exact law_edits_neg n k_ x w hL hn hk bl (decide_eq_true h)
  · obtain ⟨nb, rfl⟩ := Int.eq_ofNat_of_zero_le (show 0 ≤ bl by omega)
    exact law_edits_nat n k_ x w hL hn hk nb
end Go.Proofs.Ytiebelmglchbdaa
