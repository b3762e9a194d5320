/- Layer 14's laws: DiskApart. -/
import Derived.Test.YtiebelmglchbdaaPt
namespace Go.Proofs.Ytiebelmglchbdaa
set_option linter.unusedVariables false
set_option linter.unusedSimpArgs false
set_option maxRecDepth 100000
open Go Go.RowKit

theorem info_step (x : SH) : (Try.prog.info? 35).map (·.size) = some x.cs.size := by rw [x.size]; kernel_rfl
theorem bd_neqS {f : Bool} (p q : Operand) (W : World) : (do eqGuard .neq 4 p q (.bool f) (.bool f); binOp .neq 4 (.bool f) (.bool f) : Sem Value).run Try.prog W = .ok (.bool false) W := by
  cases f <;> kernel_rfl
attribute [local irreducible] dwa entsI zeroB lastsB stepP lastN xorB rb dWrite dSync dFuse dCrash dEdit dDo readB
set_option maxHeartbeats 32000000 in
theorem law_apart_neg {A : Option Addr} {len cap gl ol : Nat} {sub : Nat → SH} (at_ : Int) (x : SH) (w : World) (hL : SL w A len cap gl ol sub) (hx : SOk w w.heap.size x) (bl : Int) (hneg : decide (bl < 1) = true) : Calls Try.prog 4 #[.int .i64 bl, .slice A len cap, .int .i64 at_, .agg (x.cs)] w (fun rr w' => rr = .returned (.bool true) ∧ Below w.heap.size w w') := by
  have hmax := hL.max_
  have hbig := max_big
  have hxp := hx.ip.max_
  refine calls_st (vs := [.int .i64 bl, .slice A len cap, .int .i64 at_, .agg (x.cs)]) 166 Try.func4 rfl Try.ntmps4 rfl (fun a W H => ?_)
  replace H : St 166 w a W [(0, .int .i64 bl), (1, .slice A len cap), (2, .int .i64 at_), (3, .agg (x.cs))] (([] : Hep)) := H
  refine sqR H gs0 fun Z_ z_ => rB rfl rfl rfl (bx_step _) fun g1 => rS 1 rfl <| rK [1, 1, 1, 1, 1, 0] [] [] <| rN0 z_ ?_
  try clear H a W
  intro a W H
  refine wp_seq_k (fun K2 hK2 => ?_)
  refine wp_seq_k (fun K3 hK3 => ?_)
  refine rg_plain ?_
  refine rgO H gs0 (rS 1 rfl <| rI0 ?_)
  try clear H a W
  intro a W H
  refine pl_callX rfl rfl ⟨_, Try.func10, by kernel_rfl⟩ rfl (fun K_ => much_K (M := 80) w _ hL (by decide) K_) H ?_
  try clear H a W
  rintro b1 a W hb1 H
  replace H : St 166 w a W [(21, .bool b1), (20, .slice A len cap), (8, .bool false), (7, .pointer (some ⟨g1, 0, none⟩)), (0, .int .i64 bl), (1, .slice A len cap), (2, .int .i64 at_)] ((g1, 35, x.cs) :: ([] : Hep)) := H
  cases hq1 : b1 with
  | true =>
    rw [hq1] at H
    refine rgO H gs0 (rS 24 rfl <| rK [1, 0, 0, 0, 0, 0, 0, 0, 0, 0, 0, 0, 0, 0, 0, 0, 0, 0, 0, 0, 0, 0, 0, 0, 0, 0, 1, 1, 1, 1, 0] [] [] <| rZ0 ?_)
    try clear H a W
    intro a W H
    refine hK3 _ _ ?_
    clear hK3
    refine wp_cond_true (H.ev rfl) ?_
    refine sqR H gs0 fun Z_ z_ => rV rfl (does_call rfl ⟨_, Try.func11, by kernel_rfl⟩ rfl (fun W hb => known_any W)) <| rK [1, 1, 0] [] [] <| rS 1 rfl <| rK [1, 0, 0] [] [] <| rN0 z_ ?_
    try clear H a W
    intro a W H
    refine wp_ret ?_
    repeat (first | (with_reducible refine then_ret ?_) | (with_reducible refine blk_ret ?_))
    refine end_tmp (p := 8) rfl rfl H (fun hb => ?_)
    exact ⟨rfl, hb⟩
  | false =>
    rw [hq1] at H
    have hlen := hb1 hq1
    refine rgO H gs0 (rS 2 rfl <| rV rfl (does_binOp rfl rfl rfl (zd_lss_int (k := bl) (m := 1) hneg _ _)) <| rS 21 rfl <| rK [1, 0, 0, 0, 0, 0, 0, 0, 0, 0, 0, 0, 0, 0, 0, 0, 0, 0, 0, 0, 0, 0, 0, 0, 0, 0, 1, 1, 1, 1, 0] [] [] <| rZ0 ?_)
    try clear H a W
    intro a W H
    refine hK3 _ _ ?_
    clear hK3
    refine wp_cond_true (H.ev rfl) ?_
    refine sqR H gs0 fun Z_ z_ => rV rfl (does_call rfl ⟨_, Try.func11, by kernel_rfl⟩ rfl (fun W hb => known_any W)) <| rK [1, 1, 0] [] [] <| rS 1 rfl <| rK [1, 0, 0] [] [] <| rN0 z_ ?_
    try clear H a W
    intro a W H
    refine wp_ret ?_
    repeat (first | (with_reducible refine then_ret ?_) | (with_reducible refine blk_ret ?_))
    refine end_tmp (p := 8) rfl rfl H (fun hb => ?_)
    exact ⟨rfl, hb⟩
set_option maxHeartbeats 32000000 in
theorem law_apart_nat {A : Option Addr} {len cap gl ol : Nat} {sub : Nat → SH} (at_ : Int) (x : SH) (w : World) (hL : SL w A len cap gl ol sub) (hx : SOk w w.heap.size x) (nb : Nat) : Calls Try.prog 4 #[.int .i64 ((nb : Nat) : Int), .slice A len cap, .int .i64 at_, .agg (x.cs)] w (fun rr w' => rr = .returned (.bool true) ∧ Below w.heap.size w w') := by
  have hmax := hL.max_
  have hbig := max_big
  have hxp := hx.ip.max_
  refine calls_st (vs := [.int .i64 ((nb : Nat) : Int), .slice A len cap, .int .i64 at_, .agg (x.cs)]) 166 Try.func4 rfl Try.ntmps4 rfl (fun a W H => ?_)
  replace H : St 166 w a W [(0, .int .i64 ((nb : Nat) : Int)), (1, .slice A len cap), (2, .int .i64 at_), (3, .agg (x.cs))] (([] : Hep)) := H
  refine sqR H gs0 fun Z_ z_ => rB rfl rfl rfl (bx_step _) fun g1 => rS 1 rfl <| rK [1, 1, 1, 1, 1, 0] [] [] <| rN0 z_ ?_
  try clear H a W
  intro a W H
  refine wp_seq_k (fun K2 hK2 => ?_)
  refine wp_seq_k (fun K3 hK3 => ?_)
  refine rg_plain ?_
  refine rgO H gs0 (rS 1 rfl <| rI0 ?_)
  try clear H a W
  intro a W H
  refine pl_callX rfl rfl ⟨_, Try.func10, by kernel_rfl⟩ rfl (fun K_ => much_K (M := 80) w _ hL (by decide) K_) H ?_
  try clear H a W
  rintro b1 a W hb1 H
  replace H : St 166 w a W [(21, .bool b1), (20, .slice A len cap), (8, .bool false), (7, .pointer (some ⟨g1, 0, none⟩)), (0, .int .i64 ((nb : Nat) : Int)), (1, .slice A len cap), (2, .int .i64 at_)] ((g1, 35, x.cs) :: ([] : Hep)) := H
  cases hq1 : b1 with
  | true =>
    rw [hq1] at H
    refine rgO H gs0 (rS 24 rfl <| rK [1, 0, 0, 0, 0, 0, 0, 0, 0, 0, 0, 0, 0, 0, 0, 0, 0, 0, 0, 0, 0, 0, 0, 0, 0, 0, 1, 1, 1, 1, 0] [] [] <| rZ0 ?_)
    try clear H a W
    intro a W H
    refine hK3 _ _ ?_
    clear hK3
    refine wp_cond_true (H.ev rfl) ?_
    refine sqR H gs0 fun Z_ z_ => rV rfl (does_call rfl ⟨_, Try.func11, by kernel_rfl⟩ rfl (fun W hb => known_any W)) <| rK [1, 1, 0] [] [] <| rS 1 rfl <| rK [1, 0, 0] [] [] <| rN0 z_ ?_
    try clear H a W
    intro a W H
    refine wp_ret ?_
    repeat (first | (with_reducible refine then_ret ?_) | (with_reducible refine blk_ret ?_))
    refine end_tmp (p := 8) rfl rfl H (fun hb => ?_)
    exact ⟨rfl, hb⟩
  | false =>
    rw [hq1] at H
    have hlen := hb1 hq1
    cases hq2 : decide (((nb : Nat) : Int) < 1) with
    | true =>
      have hq2p := of_decide_eq_true hq2
      refine rgO H gs0 (rS 2 rfl <| rV rfl (does_binOp rfl rfl rfl (zd_lss_int (k := ((nb : Nat) : Int)) (m := 1) hq2 _ _)) <| rS 21 rfl <| rK [1, 0, 0, 0, 0, 0, 0, 0, 0, 0, 0, 0, 0, 0, 0, 0, 0, 0, 0, 0, 0, 0, 0, 0, 0, 0, 1, 1, 1, 1, 0] [] [] <| rZ0 ?_)
      try clear H a W
      intro a W H
      refine hK3 _ _ ?_
      clear hK3
      refine wp_cond_true (H.ev rfl) ?_
      refine sqR H gs0 fun Z_ z_ => rV rfl (does_call rfl ⟨_, Try.func11, by kernel_rfl⟩ rfl (fun W hb => known_any W)) <| rK [1, 1, 0] [] [] <| rS 1 rfl <| rK [1, 0, 0] [] [] <| rN0 z_ ?_
      try clear H a W
      intro a W H
      refine wp_ret ?_
      repeat (first | (with_reducible refine then_ret ?_) | (with_reducible refine blk_ret ?_))
      refine end_tmp (p := 8) rfl rfl H (fun hb => ?_)
      exact ⟨rfl, hb⟩
    | false =>
      have hq2p := of_decide_eq_false hq2
      cases hq3 : decide (40 < ((nb : Nat) : Int)) with
      | true =>
        have hq3p := of_decide_eq_true hq3
        refine rgO H gs0 (rS 2 rfl <| rV rfl (does_binOp rfl rfl rfl (zd_lss_int (k := ((nb : Nat) : Int)) (m := 1) hq2 _ _)) <| rS 3 rfl <| rV rfl (does_binOp rfl rfl rfl (zd_gtr_int (k := ((nb : Nat) : Int)) (m := 40) hq3 _ _)) <| rS 17 rfl <| rK [1, 0, 0, 0, 0, 0, 0, 0, 0, 0, 0, 0, 0, 0, 0, 0, 0, 0, 0, 0, 0, 0, 0, 0, 0, 0, 1, 1, 1, 1, 0] [] [] <| rZ0 ?_)
        try clear H a W
        intro a W H
        refine hK3 _ _ ?_
        clear hK3
        refine wp_cond_true (H.ev rfl) ?_
        refine sqR H gs0 fun Z_ z_ => rV rfl (does_call rfl ⟨_, Try.func11, by kernel_rfl⟩ rfl (fun W hb => known_any W)) <| rK [1, 1, 0] [] [] <| rS 1 rfl <| rK [1, 0, 0] [] [] <| rN0 z_ ?_
        try clear H a W
        intro a W H
        refine wp_ret ?_
        repeat (first | (with_reducible refine then_ret ?_) | (with_reducible refine blk_ret ?_))
        refine end_tmp (p := 8) rfl rfl H (fun hb => ?_)
        exact ⟨rfl, hb⟩
      | false =>
        have hq3p := of_decide_eq_false hq3
        cases hq4 : decide (1000 < ((x.s.ps.length : Nat) : Int)) with
        | true =>
          have hq4p := of_decide_eq_true hq4
          refine rgO H gs0 (rS 2 rfl <| rV rfl (does_binOp rfl rfl rfl (zd_lss_int (k := ((nb : Nat) : Int)) (m := 1) hq2 _ _)) <| rS 3 rfl <| rV rfl (does_binOp rfl rfl rfl (zd_gtr_int (k := ((nb : Nat) : Int)) (m := 40) hq3 _ _)) <| rS 2 rfl <| rV rfl (does_fieldAddr rfl rfl (fa_step 4 (by decide))) <| rV rfl (does_loadAt (v := .slice x.A x.s.ps.length x.cp) rfl rfl (k := 0) rfl ld_step4) <| rV rfl (does_len Try.underlying33 rfl rfl) <| rV rfl (does_binOp rfl rfl rfl (zd_gtr_int (k := ((x.s.ps.length : Nat) : Int)) (m := 1000) hq4 _ _)) <| rS 11 rfl <| rK [1, 0, 0, 0, 0, 0, 0, 0, 0, 0, 0, 0, 0, 0, 0, 0, 0, 0, 0, 0, 0, 0, 0, 0, 0, 0, 1, 1, 1, 1, 0] [] [] <| rZ0 ?_)
          try clear H a W
          intro a W H
          refine hK3 _ _ ?_
          clear hK3
          refine wp_cond_true (H.ev rfl) ?_
          refine sqR H gs0 fun Z_ z_ => rV rfl (does_call rfl ⟨_, Try.func11, by kernel_rfl⟩ rfl (fun W hb => known_any W)) <| rK [1, 1, 0] [] [] <| rS 1 rfl <| rK [1, 0, 0] [] [] <| rN0 z_ ?_
          try clear H a W
          intro a W H
          refine wp_ret ?_
          repeat (first | (with_reducible refine then_ret ?_) | (with_reducible refine blk_ret ?_))
          refine end_tmp (p := 8) rfl rfl H (fun hb => ?_)
          exact ⟨rfl, hb⟩
        | false =>
          have hq4p := of_decide_eq_false hq4
          cases hq5 : decide (at_ < 0) with
          | true =>
            have hq5p := of_decide_eq_true hq5
            refine rgO H gs0 (rS 2 rfl <| rV rfl (does_binOp rfl rfl rfl (zd_lss_int (k := ((nb : Nat) : Int)) (m := 1) hq2 _ _)) <| rS 3 rfl <| rV rfl (does_binOp rfl rfl rfl (zd_gtr_int (k := ((nb : Nat) : Int)) (m := 40) hq3 _ _)) <| rS 2 rfl <| rV rfl (does_fieldAddr rfl rfl (fa_step 4 (by decide))) <| rV rfl (does_loadAt (v := .slice x.A x.s.ps.length x.cp) rfl rfl (k := 0) rfl ld_step4) <| rV rfl (does_len Try.underlying33 rfl rfl) <| rV rfl (does_binOp rfl rfl rfl (zd_gtr_int (k := ((x.s.ps.length : Nat) : Int)) (m := 1000) hq4 _ _)) <| rS 3 rfl <| rV rfl (does_binOp rfl rfl rfl (zd_lss_int (k := at_) (m := 0) hq5 _ _)) <| rS 7 rfl <| rK [1, 0, 0, 0, 0, 0, 0, 0, 0, 0, 0, 0, 0, 0, 0, 0, 0, 0, 0, 0, 0, 0, 0, 0, 0, 0, 1, 1, 1, 1, 0] [] [] <| rZ0 ?_)
            try clear H a W
            intro a W H
            refine hK3 _ _ ?_
            clear hK3
            refine wp_cond_true (H.ev rfl) ?_
            refine sqR H gs0 fun Z_ z_ => rV rfl (does_call rfl ⟨_, Try.func11, by kernel_rfl⟩ rfl (fun W hb => known_any W)) <| rK [1, 1, 0] [] [] <| rS 1 rfl <| rK [1, 0, 0] [] [] <| rN0 z_ ?_
            try clear H a W
            intro a W H
            refine wp_ret ?_
            repeat (first | (with_reducible refine then_ret ?_) | (with_reducible refine blk_ret ?_))
            refine end_tmp (p := 8) rfl rfl H (fun hb => ?_)
            exact ⟨rfl, hb⟩
          | false =>
            have hq5p := of_decide_eq_false hq5
            refine rgO H gs0 (rS 2 rfl <| rV rfl (does_binOp rfl rfl rfl (zd_lss_int (k := ((nb : Nat) : Int)) (m := 1) hq2 _ _)) <| rS 3 rfl <| rV rfl (does_binOp rfl rfl rfl (zd_gtr_int (k := ((nb : Nat) : Int)) (m := 40) hq3 _ _)) <| rS 2 rfl <| rV rfl (does_fieldAddr rfl rfl (fa_step 4 (by decide))) <| rV rfl (does_loadAt (v := .slice x.A x.s.ps.length x.cp) rfl rfl (k := 0) rfl ld_step4) <| rV rfl (does_len Try.underlying33 rfl rfl) <| rV rfl (does_binOp rfl rfl rfl (zd_gtr_int (k := ((x.s.ps.length : Nat) : Int)) (m := 1000) hq4 _ _)) <| rS 3 rfl <| rV rfl (does_binOp rfl rfl rfl (zd_lss_int (k := at_) (m := 0) hq5 _ _)) <| rS 4 rfl <| rV rfl (does_len Try.underlying22 rfl rfl) <| rV rfl (does_binOp rfl rfl rfl (zd_gtr_int (k := at_) (m := ((len : Nat) : Int)) rfl _ _)) <| rS 1 rfl <| rK [1, 0, 0, 0, 0, 0, 0, 0, 0, 0, 0, 0, 0, 0, 0, 0, 0, 0, 0, 0, 0, 0, 0, 0, 0, 0, 1, 1, 1, 1, 0] [] [] <| rZ0 ?_)
            try clear H a W
            intro a W H
            refine hK3 _ _ ?_
            clear hK3
            cases hq6 : decide (((len : Nat) : Int) < at_) with
            | true =>
              rw [hq6] at H
              have hq6p := of_decide_eq_true hq6
              refine wp_cond_true (H.ev rfl) ?_
              refine sqR H gs0 fun Z_ z_ => rV rfl (does_call rfl ⟨_, Try.func11, by kernel_rfl⟩ rfl (fun W hb => known_any W)) <| rK [1, 1, 0] [] [] <| rS 1 rfl <| rK [1, 0, 0] [] [] <| rN0 z_ ?_
              try clear H a W
              intro a W H
              refine wp_ret ?_
              repeat (first | (with_reducible refine then_ret ?_) | (with_reducible refine blk_ret ?_))
              refine end_tmp (p := 8) rfl rfl H (fun hb => ?_)
              exact ⟨rfl, hb⟩
            | false =>
              rw [hq6] at H
              have hq6p := of_decide_eq_false hq6
              refine wp_cond_false (H.ev rfl) ?_
              refine wp_skip ?_
              refine hK2 _ _ ?_
              clear hK2
              refine wp_seq_k (fun K10 hK10 => ?_)
              refine rgP H gs0 (rS 1 rfl <| rI0 ?_)
              try clear H a W
              intro a W H
              replace H : St 166 w a W [(48, .int .i64 ((nb : Nat) : Int)), (45, .bool false), (8, .bool false), (7, .pointer (some ⟨g1, 0, none⟩)), (0, .int .i64 ((nb : Nat) : Int)), (1, .slice A len cap)] (([(g1, .ty 35, x.cs)] : Hep) ++ ([] : Hep)) := H
              refine pl_callX rfl rfl ⟨_, Try.func12, by kernel_rfl⟩ rfl (fun K_ => po_new (hh := (([(g1, .ty 35, x.cs)] : Hep) ++ ([] : Hep))) nb (by omega) w _ K_) H ?_
              try clear H a W
              rintro ⟨p2, r2⟩ a W hP2 H
              replace hP2 : PO p2 (dNew nb) r2 := hP2
              replace H := H.perm' (List.perm_append_comm_assoc r2 ([(g1, .ty 35, x.cs)] : Hep) ([] : Hep))
              replace H : St 166 w a W [(49, .tuple #[.pointer (some ⟨p2, 0, none⟩), .int .i64 0]), (48, .int .i64 ((nb : Nat) : Int)), (45, .bool false), (8, .bool false), (7, .pointer (some ⟨g1, 0, none⟩)), (0, .int .i64 ((nb : Nat) : Int)), (1, .slice A len cap)] ((g1, 35, x.cs) :: (r2 ++ ([] : Hep))) := H
              refine rgO H gs0 (rS 5 rfl <| rK [0, 1, 0, 0, 0, 0, 0, 0] [] [] <| rZ0 ?_)
              try clear H a W
              intro a W H
              refine hK10 _ _ ?_
              clear hK10
              refine wp_seq_k (fun K11 hK11 => ?_)
              refine rgP H gs0 (rS 1 rfl <| rI0 ?_)
              try clear H a W
              intro a W H
              replace H : St 166 w a W [(53, .int .i64 ((nb : Nat) : Int)), (9, .pointer (some ⟨p2, 0, none⟩)), (8, .bool false), (7, .pointer (some ⟨g1, 0, none⟩)), (0, .int .i64 ((nb : Nat) : Int)), (1, .slice A len cap)] (([(g1, .ty 35, x.cs)] : Hep) ++ (r2 ++ ([] : Hep))) := H
              refine pl_callX rfl rfl ⟨_, Try.func12, by kernel_rfl⟩ rfl (fun K_ => po_new (hh := (([(g1, .ty 35, x.cs)] : Hep) ++ (r2 ++ ([] : Hep)))) nb (by omega) w _ K_) H ?_
              try clear H a W
              rintro ⟨p3, r3⟩ a W hP3 H
              replace hP3 : PO p3 (dNew nb) r3 := hP3
              replace H := H.perm' (List.perm_append_comm_assoc r3 ([(g1, .ty 35, x.cs)] : Hep) (r2 ++ ([] : Hep)))
              replace H : St 166 w a W [(54, .tuple #[.pointer (some ⟨p3, 0, none⟩), .int .i64 0]), (53, .int .i64 ((nb : Nat) : Int)), (9, .pointer (some ⟨p2, 0, none⟩)), (8, .bool false), (7, .pointer (some ⟨g1, 0, none⟩)), (0, .int .i64 ((nb : Nat) : Int)), (1, .slice A len cap)] ((g1, 35, x.cs) :: (r3 ++ (r2 ++ ([] : Hep)))) := H
              refine rgO H gs0 (rS 5 rfl <| rK [0, 1, 0, 0, 0, 0, 0, 1, 1, 1, 0] [] [] <| rZ0 ?_)
              try clear H a W
              intro a W H
              refine hK11 _ _ ?_
              clear hK11
              refine wp_seq_k (fun K12 hK12 => ?_)
              refine sqR H gs0 fun Z_ z_ => rS 1 rfl <| rV rfl (does_binOp rfl rfl rfl (fun W => ptr_nil W)) <| rS 2 rfl <| rV rfl (does_binOp rfl rfl rfl (fun W => ptr_nil W)) <| rS 1 rfl <| rK [1, 0, 0, 0, 0, 0] [] [] <| rN0 z_ ?_
              try clear H a W
              intro a W H
              refine wp_cond_false (H.ev rfl) ?_
              refine wp_skip ?_
              refine hK12 _ _ ?_
              clear hK12
              refine wp_seq_k (fun K14 hK14 => ?_)
              refine sqR H gs0 fun Z_ z_ => rS 1 rfl <| rK [1, 0] [] [] <| rN0 z_ ?_
              try clear H a W
              intro a W H
              refine wp_block ?_
              replace H := H.perm' ((((List.Perm.refl _).append_left r3).trans (List.perm_append_comm_assoc r3 r2 ([] : Hep))).append_left ([(g1, .ty 35, x.cs)] : Hep))
              replace H : St 166 w a W [(13, .int .i64 0), (11, .pointer (some ⟨p3, 0, none⟩)), (9, .pointer (some ⟨p2, 0, none⟩)), (8, .bool false), (7, .pointer (some ⟨g1, 0, none⟩)), (1, .slice A len cap)] ((g1, 35, x.cs) :: (r2 ++ (r3 ++ ([] : Hep)))) := H
              replace H : St 166 w a W [(13, .int .i64 0), (11, .pointer (some ⟨p3, 0, none⟩)), (9, .pointer (some ⟨p2, 0, none⟩)), (7, .pointer (some ⟨g1, 0, none⟩)), (1, .slice A len cap)] ((g1, 35, x.cs) :: (r2 ++ (r3 ++ ([] : Hep)))) := H.pickF (h := [(g1, 35, x.cs)]) (t := (r2 ++ (r3 ++ ([] : Hep)))) [0, 1, 2, 4, 5] [0] rfl
              refine wp_rounds len (fun k a W => ∃ D r1 r2, (PO p2 D r1 ∧ PO p3 D r2 ∧ D.B.length = nb ∧ D.L.length ≤ k) ∧ St 166 w a W [(13, .int .i64 ((k : Nat) : Int)), (11, .pointer (some ⟨p3, 0, none⟩)), (9, .pointer (some ⟨p2, 0, none⟩)), (7, .pointer (some ⟨g1, 0, none⟩)), (1, .slice A len cap)] ((g1, 35, x.cs) :: (r1 ++ (r2 ++ ([] : Hep))))) (k0 := 0) ⟨(dNew nb), r2, r3, ⟨hP2, hP3, List.length_replicate, Nat.zero_le _⟩, H⟩ (by omega) ?_
              try clear H a W
              rintro k a W hk ⟨D, r1, r2, hJ, H⟩
              by_cases hk2 : k < len
              · have hDl := hJ.2.2
                refine wp_seq_k (fun K16 hK16 => ?_)
                refine sqR H gs0 fun Z_ z_ => rS 2 rfl <| rV rfl (does_len Try.underlying22 rfl rfl) <| rV rfl (does_binOp rfl rfl rfl (zd_lss_int (k := ((k : Nat) : Int)) (m := ((len : Nat) : Int)) (decide_eq_true (by omega)) _ _)) <| rN0 z_ ?_
                try clear H a W
                intro a W H
                refine wp_cond_true (H.ev rfl) ?_
                refine wp_skip ?_
                refine hK16 _ _ ?_
                clear hK16
                refine wp_seq_k (fun K18 hK18 => ?_)
                refine wp_block ?_
                refine wp_seq_k (fun K19 hK19 => ?_)
                refine rgP H gs0 (rS 3 rfl <| rV rfl (does_indexAddr rfl rfl rfl (ia_steps (j := k) (hL.at_ (by omega)).1 (by omega))) <| rV rfl (does_stepO (y := sub k) rfl rfl (hL.at_ (by omega)).2.1 ((hL.at_ (by omega)).2.2 k (by omega))) <| rI0 ?_)
                try clear H a W
                intro a W H
                replace H : St 166 w a W [(73, .agg ((sub k).cs)), (72, .pointer (some ⟨gl, ol + k * 5, none⟩)), (71, .int .i64 ((k : Nat) : Int)), (70, .slice A len cap), (69, .pointer (some ⟨p2, 0, none⟩)), (66, .bool true), (65, .int .i64 ((len : Nat) : Int)), (64, .slice A len cap), (63, .int .i64 ((k : Nat) : Int)), (13, .int .i64 ((k : Nat) : Int)), (11, .pointer (some ⟨p3, 0, none⟩)), (9, .pointer (some ⟨p2, 0, none⟩)), (7, .pointer (some ⟨g1, 0, none⟩)), (1, .slice A len cap)] (r1 ++ (([(g1, .ty 35, x.cs)] : Hep) ++ (r2 ++ ([] : Hep)))) := H.perm' (((List.Perm.refl _).append_left ([(g1, .ty 35, x.cs)] : Hep)).trans (List.perm_append_comm_assoc ([(g1, .ty 35, x.cs)] : Hep) r1 (r2 ++ ([] : Hep))))
                refine pl_callX rfl rfl ⟨_, Try.func15, by kernel_rfl⟩ rfl (fun K_ => do_K (hh := (([(g1, .ty 35, x.cs)] : Hep) ++ (r2 ++ ([] : Hep)))) w _ hJ.1 (sub k) (hL.ok k (by omega)) (by omega) K_) H ?_
                try clear H a W
                rintro r4 a W hP4 H
                replace hP4 : PO p2 (dDo D (sub k).s).1 r4 := hP4
                replace H := H.perm' (List.perm_append_comm_assoc r4 ([(g1, .ty 35, x.cs)] : Hep) (r2 ++ ([] : Hep)))
                replace H : St 166 w a W [(74, .int .i64 ((dDo D (sub k).s).2)), (73, .agg ((sub k).cs)), (72, .pointer (some ⟨gl, ol + k * 5, none⟩)), (71, .int .i64 ((k : Nat) : Int)), (70, .slice A len cap), (69, .pointer (some ⟨p2, 0, none⟩)), (66, .bool true), (65, .int .i64 ((len : Nat) : Int)), (64, .slice A len cap), (63, .int .i64 ((k : Nat) : Int)), (13, .int .i64 ((k : Nat) : Int)), (11, .pointer (some ⟨p3, 0, none⟩)), (9, .pointer (some ⟨p2, 0, none⟩)), (7, .pointer (some ⟨g1, 0, none⟩)), (1, .slice A len cap)] ((g1, 35, x.cs) :: (r4 ++ (r2 ++ ([] : Hep)))) := H
                refine rgO H gs0 (rK [0] [] [] <| rZ0 ?_)
                try clear H a W
                intro a W H
                refine hK19 _ _ ?_
                clear hK19
                refine rgP H gs0 (rS 3 rfl <| rV rfl (does_indexAddr rfl rfl rfl (ia_steps (j := k) (hL.at_ (by omega)).1 (by omega))) <| rV rfl (does_stepO (y := sub k) rfl rfl (hL.at_ (by omega)).2.1 ((hL.at_ (by omega)).2.2 k (by omega))) <| rI0 ?_)
                try clear H a W
                intro a W H
                replace H : St 166 w a W [(79, .agg ((sub k).cs)), (78, .pointer (some ⟨gl, ol + k * 5, none⟩)), (77, .int .i64 ((k : Nat) : Int)), (76, .slice A len cap), (75, .pointer (some ⟨p3, 0, none⟩)), (73, .agg ((sub k).cs)), (72, .pointer (some ⟨gl, ol + k * 5, none⟩)), (71, .int .i64 ((k : Nat) : Int)), (70, .slice A len cap), (69, .pointer (some ⟨p2, 0, none⟩)), (66, .bool true), (65, .int .i64 ((len : Nat) : Int)), (64, .slice A len cap), (63, .int .i64 ((k : Nat) : Int)), (13, .int .i64 ((k : Nat) : Int)), (11, .pointer (some ⟨p3, 0, none⟩)), (9, .pointer (some ⟨p2, 0, none⟩)), (7, .pointer (some ⟨g1, 0, none⟩)), (1, .slice A len cap)] (r2 ++ (([(g1, .ty 35, x.cs)] : Hep) ++ (r4 ++ ([] : Hep)))) := H.perm' (((((List.Perm.refl _).append_left r4).trans (List.perm_append_comm_assoc r4 r2 ([] : Hep))).append_left ([(g1, .ty 35, x.cs)] : Hep)).trans (List.perm_append_comm_assoc ([(g1, .ty 35, x.cs)] : Hep) r2 (r4 ++ ([] : Hep))))
                refine pl_callX rfl rfl ⟨_, Try.func15, by kernel_rfl⟩ rfl (fun K_ => do_K (hh := (([(g1, .ty 35, x.cs)] : Hep) ++ (r4 ++ ([] : Hep)))) w _ hJ.2.1 (sub k) (hL.ok k (by omega)) (by omega) K_) H ?_
                try clear H a W
                rintro r5 a W hP5 H
                replace hP5 : PO p3 (dDo D (sub k).s).1 r5 := hP5
                replace H := H.perm' (List.perm_append_comm_assoc r5 ([(g1, .ty 35, x.cs)] : Hep) (r4 ++ ([] : Hep)))
                replace H : St 166 w a W [(80, .int .i64 ((dDo D (sub k).s).2)), (79, .agg ((sub k).cs)), (78, .pointer (some ⟨gl, ol + k * 5, none⟩)), (77, .int .i64 ((k : Nat) : Int)), (76, .slice A len cap), (75, .pointer (some ⟨p3, 0, none⟩)), (73, .agg ((sub k).cs)), (72, .pointer (some ⟨gl, ol + k * 5, none⟩)), (71, .int .i64 ((k : Nat) : Int)), (70, .slice A len cap), (69, .pointer (some ⟨p2, 0, none⟩)), (66, .bool true), (65, .int .i64 ((len : Nat) : Int)), (64, .slice A len cap), (63, .int .i64 ((k : Nat) : Int)), (13, .int .i64 ((k : Nat) : Int)), (11, .pointer (some ⟨p3, 0, none⟩)), (9, .pointer (some ⟨p2, 0, none⟩)), (7, .pointer (some ⟨g1, 0, none⟩)), (1, .slice A len cap)] ((g1, 35, x.cs) :: (r5 ++ (r4 ++ ([] : Hep)))) := H
                refine rgO H gs0 (rK [0] [] [] <| rZ0 ?_)
                try clear H a W
                intro a W H
                refine blk_normal ?_
                refine hK18 _ _ ?_
                clear hK18
                refine rgP H gs0 (rS 1 rfl <| rV rfl (does_binOp rfl rfl rfl (zd_add_int (k := ((k : Nat) : Int)) (m := 1) (c := ((k + 1 : Nat) : Int)) (by omega) (by omega) _ _)) <| rK [1, 1, 1, 1, 1, 1, 1, 1, 1, 1, 1, 1, 1, 1, 1, 1, 0] [] [] <| rS 1 rfl <| rZ0 ?_)
                try clear H a W
                intro a W H
                replace H := H.perm' ((((List.Perm.refl _).append_left r5).trans (List.perm_append_comm_assoc r5 r4 ([] : Hep))).append_left ([(g1, .ty 35, x.cs)] : Hep))
                replace H : St 166 w a W [(13, .int .i64 ((k + 1 : Nat) : Int)), (68, .int .i64 ((k + 1 : Nat) : Int)), (67, .int .i64 ((k : Nat) : Int)), (79, .agg ((sub k).cs)), (78, .pointer (some ⟨gl, ol + k * 5, none⟩)), (77, .int .i64 ((k : Nat) : Int)), (76, .slice A len cap), (75, .pointer (some ⟨p3, 0, none⟩)), (73, .agg ((sub k).cs)), (72, .pointer (some ⟨gl, ol + k * 5, none⟩)), (71, .int .i64 ((k : Nat) : Int)), (70, .slice A len cap), (69, .pointer (some ⟨p2, 0, none⟩)), (66, .bool true), (65, .int .i64 ((len : Nat) : Int)), (64, .slice A len cap), (63, .int .i64 ((k : Nat) : Int)), (11, .pointer (some ⟨p3, 0, none⟩)), (9, .pointer (some ⟨p2, 0, none⟩)), (7, .pointer (some ⟨g1, 0, none⟩)), (1, .slice A len cap)] ((g1, 35, x.cs) :: (r4 ++ (r5 ++ ([] : Hep)))) := H
                refine ⟨k + 1, by omega, by omega, (dDo D (sub k).s).1, r4, r5, ⟨hP4, hP5, (do_len _ _).1.trans hJ.2.2.1, Nat.le_trans (do_len _ _).2 (by omega)⟩, ?_⟩
                exact H.pickF (h := [(g1, 35, x.cs)]) (t := (r4 ++ (r5 ++ ([] : Hep)))) [0, 17, 18, 19, 20] [0] rfl
              · obtain rfl : len = k := by omega
                refine wp_seq_k (fun K20 hK20 => ?_)
                refine sqR H gs0 fun Z_ z_ => rS 2 rfl <| rV rfl (does_len Try.underlying22 rfl rfl) <| rV rfl (does_binOp rfl rfl rfl (zd_lss_int (k := ((len : Nat) : Int)) (m := ((len : Nat) : Int)) (decide_eq_false (by omega)) _ _)) <| rK [1, 0, 0, 0] [] [] <| rN0 z_ ?_
                try clear H a W
                intro a W H
                refine wp_cond_false (H.ev rfl) ?_
                refine wp_exit ?_
                repeat (first | (with_reducible refine then_exit ?_) | (with_reducible refine blk_pass (by decide) ?_))
                refine blk_exit ?_
                have hDl := hJ.2.2
                refine hK14 _ _ ?_
                clear hK14
                refine wp_seq_k (fun K22 hK22 => ?_)
                refine rgP H gs0 (rS 1 rfl <| rI0 ?_)
                try clear H a W
                intro a W H
                replace H : St 166 w a W [(82, .pointer (some ⟨p2, 0, none⟩)), (66, .bool false), (13, .int .i64 ((len : Nat) : Int)), (11, .pointer (some ⟨p3, 0, none⟩)), (9, .pointer (some ⟨p2, 0, none⟩)), (7, .pointer (some ⟨g1, 0, none⟩)), (1, .slice A len cap)] (r1 ++ (([(g1, .ty 35, x.cs)] : Hep) ++ (r2 ++ ([] : Hep)))) := H.perm' (((List.Perm.refl _).append_left ([(g1, .ty 35, x.cs)] : Hep)).trans (List.perm_append_comm_assoc ([(g1, .ty 35, x.cs)] : Hep) r1 (r2 ++ ([] : Hep))))
                refine pl_callX rfl rfl ⟨_, Try.func18, by kernel_rfl⟩ rfl (fun K_ => po_read (hh := (([(g1, .ty 35, x.cs)] : Hep) ++ (r2 ++ ([] : Hep)))) hJ.1 0 (by omega) w _ K_) H ?_
                try clear H a W
                rintro gr6 a W - H
                replace H := H.perm' ((List.perm_append_comm_assoc r1 ([(g1, .ty 35, x.cs)] : Hep) (r2 ++ ([] : Hep))).append_left ([(gr6, .ty 77, bvs (readB D 0))] : Hep))
                replace H : St 166 w a W [(83, .tuple #[.slice (some ⟨gr6, 0, none⟩) 512 512, .int .i64 0]), (82, .pointer (some ⟨p2, 0, none⟩)), (66, .bool false), (13, .int .i64 ((len : Nat) : Int)), (11, .pointer (some ⟨p3, 0, none⟩)), (9, .pointer (some ⟨p2, 0, none⟩)), (7, .pointer (some ⟨g1, 0, none⟩)), (1, .slice A len cap)] ((gr6, 77, bvs (readB D 0)) :: (g1, 35, x.cs) :: (r1 ++ (r2 ++ ([] : Hep)))) := H
                refine rgO H gs0 (rS 5 rfl <| rK [0, 1, 0, 0, 0, 0, 0, 0, 0, 1, 1, 1, 0] [] [] <| rZ0 ?_)
                try clear H a W
                intro a W H
                refine hK22 _ _ ?_
                clear hK22
                refine wp_seq_k (fun K23 hK23 => ?_)
                refine sqR H gs0 fun Z_ z_ => rS 1 rfl <| rN0 z_ ?_
                try clear H a W
                intro a W H
                refine wp_block ?_
                replace H := H.perm' ((((List.Perm.refl _).append_left r1).trans (List.perm_append_comm_assoc r1 r2 ([] : Hep))).append_left ([(gr6, .ty 77, bvs (readB D 0)), (g1, .ty 35, x.cs)] : Hep))
                replace H : St 166 w a W [(16, .int .i64 0), (14, .slice (some ⟨gr6, 0, none⟩) 512 512), (11, .pointer (some ⟨p3, 0, none⟩)), (9, .pointer (some ⟨p2, 0, none⟩)), (7, .pointer (some ⟨g1, 0, none⟩))] ((gr6, 77, bvs (readB D 0)) :: (g1, 35, x.cs) :: (r2 ++ (r1 ++ ([] : Hep)))) := H
                replace H := H.perm' ((((List.Perm.refl _).append_left r2).trans (List.perm_append_comm_assoc r2 r1 ([] : Hep))).append_left ([(gr6, .ty 77, bvs (readB D 0)), (g1, .ty 35, x.cs)] : Hep))
                replace H : St 166 w a W [(16, .int .i64 0), (14, .slice (some ⟨gr6, 0, none⟩) 512 512), (11, .pointer (some ⟨p3, 0, none⟩)), (9, .pointer (some ⟨p2, 0, none⟩)), (7, .pointer (some ⟨g1, 0, none⟩))] ((gr6, 77, bvs (readB D 0)) :: (g1, 35, x.cs) :: (r1 ++ (r2 ++ ([] : Hep)))) := H
                replace H : St 166 w a W [(16, .int .i64 0), (14, .slice (some ⟨gr6, 0, none⟩) 512 512), (11, .pointer (some ⟨p3, 0, none⟩)), (9, .pointer (some ⟨p2, 0, none⟩)), (7, .pointer (some ⟨g1, 0, none⟩))] ((gr6, 77, bvs (readB D 0)) :: (g1, 35, x.cs) :: (r1 ++ (r2 ++ ([] : Hep)))) := H.pickF (h := [(gr6, 77, bvs (readB D 0)), (g1, 35, x.cs)]) (t := (r1 ++ (r2 ++ ([] : Hep)))) [0, 1, 2, 3, 4] [0, 1] rfl
                refine wp_rounds 512 (fun i a W => ∃ bb, (bb.length = 512 ∧ True) ∧ St 166 w a W [(16, .int .i64 ((i : Nat) : Int)), (14, .slice (some ⟨gr6, 0, none⟩) 512 512), (11, .pointer (some ⟨p3, 0, none⟩)), (9, .pointer (some ⟨p2, 0, none⟩)), (7, .pointer (some ⟨g1, 0, none⟩))] ((gr6, 77, bvs bb) :: (g1, 35, x.cs) :: (r1 ++ (r2 ++ ([] : Hep))))) (k0 := 0) ⟨(readB D 0), ⟨read_len hJ.1.ok (by omega), trivial⟩, H⟩ (by omega) ?_
                try clear H a W
                rintro i a W hi ⟨bb, hbb, H⟩
                by_cases hi2 : i < 512
                · have hb512 := hbb.1
                  refine wp_seq_k (fun K25 hK25 => ?_)
                  refine sqR H gs0 fun Z_ z_ => rS 2 rfl <| rV rfl (does_len Try.underlying39 rfl rfl) <| rV rfl (does_binOp rfl rfl rfl (zd_lss_int (k := ((i : Nat) : Int)) (m := ((512 : Nat) : Int)) (decide_eq_true (by omega)) _ _)) <| rN0 z_ ?_
                  try clear H a W
                  intro a W H
                  refine wp_cond_true (H.ev rfl) ?_
                  refine wp_skip ?_
                  refine hK25 _ _ ?_
                  clear hK25
                  refine wp_seq_k (fun K27 hK27 => ?_)
                  refine wp_block ?_
                  refine rgP H gs0 (rS 4 rfl <| rV rfl (does_indexAddr rfl rfl rfl (ia_b0 (j := i) (by omega))) <| rV rfl (does_loadAt (v := bv (bb.getD i 0)) rfl rfl (k := 0) rfl (ld_u8t (bvs_at (by rw [hbb.1]; omega)))) <| rV rfl (does_binOp rfl rfl rfl (b_addP (bb.getD i 0) 1 _ _)) <| rV rfl (does_indexAddr rfl rfl rfl (ia_b0 (j := i) (by omega))) <| rX [1] (c := bvs (bb.set i ((bb.getD i 0) + 1))) ⟨rfl, rfl⟩ rfl rfl rfl (st_u8t (bvs_at (by omega))) (bvs_set _ _ _) <| rZ0 ?_)
                  try clear H a W
                  intro a W H
                  refine blk_normal ?_
                  refine hK27 _ _ ?_
                  clear hK27
                  refine rgP H gs0 (rS 1 rfl <| rV rfl (does_binOp rfl rfl rfl (zd_add_int (k := ((i : Nat) : Int)) (m := 1) (c := ((i + 1 : Nat) : Int)) (by omega) (by omega) _ _)) <| rK [1, 1, 1, 1, 1, 1, 1, 1, 1, 1, 1, 1, 1, 1, 0] [] [] <| rS 1 rfl <| rZ0 ?_)
                  try clear H a W
                  intro a W H
                  replace H := H.perm' ((((List.Perm.refl _).append_left r1).trans (List.perm_append_comm_assoc r1 r2 ([] : Hep))).append_left ([(gr6, .ty 77, bvs (bb.set i ((bb.getD i 0) + 1))), (g1, .ty 35, x.cs)] : Hep))
                  replace H : St 166 w a W [(16, .int .i64 ((i + 1 : Nat) : Int)), (91, .int .i64 ((i + 1 : Nat) : Int)), (90, .int .i64 ((i : Nat) : Int)), (99, .pointer (some ⟨gr6, i, none⟩)), (98, bv ((bb.getD i 0) + 1)), (97, bv (bb.getD i 0)), (96, .pointer (some ⟨gr6, i, none⟩)), (95, .int .i64 ((i : Nat) : Int)), (94, .slice (some ⟨gr6, 0, none⟩) 512 512), (93, .int .i64 ((i : Nat) : Int)), (92, .slice (some ⟨gr6, 0, none⟩) 512 512), (89, .bool true), (88, .int .i64 ((512 : Nat) : Int)), (87, .slice (some ⟨gr6, 0, none⟩) 512 512), (86, .int .i64 ((i : Nat) : Int)), (14, .slice (some ⟨gr6, 0, none⟩) 512 512), (11, .pointer (some ⟨p3, 0, none⟩)), (9, .pointer (some ⟨p2, 0, none⟩)), (7, .pointer (some ⟨g1, 0, none⟩))] ((gr6, 77, bvs (bb.set i ((bb.getD i 0) + 1))) :: (g1, 35, x.cs) :: (r2 ++ (r1 ++ ([] : Hep)))) := H
                  replace H := H.perm' ((((List.Perm.refl _).append_left r2).trans (List.perm_append_comm_assoc r2 r1 ([] : Hep))).append_left ([(gr6, .ty 77, bvs (bb.set i ((bb.getD i 0) + 1))), (g1, .ty 35, x.cs)] : Hep))
                  replace H : St 166 w a W [(16, .int .i64 ((i + 1 : Nat) : Int)), (91, .int .i64 ((i + 1 : Nat) : Int)), (90, .int .i64 ((i : Nat) : Int)), (99, .pointer (some ⟨gr6, i, none⟩)), (98, bv ((bb.getD i 0) + 1)), (97, bv (bb.getD i 0)), (96, .pointer (some ⟨gr6, i, none⟩)), (95, .int .i64 ((i : Nat) : Int)), (94, .slice (some ⟨gr6, 0, none⟩) 512 512), (93, .int .i64 ((i : Nat) : Int)), (92, .slice (some ⟨gr6, 0, none⟩) 512 512), (89, .bool true), (88, .int .i64 ((512 : Nat) : Int)), (87, .slice (some ⟨gr6, 0, none⟩) 512 512), (86, .int .i64 ((i : Nat) : Int)), (14, .slice (some ⟨gr6, 0, none⟩) 512 512), (11, .pointer (some ⟨p3, 0, none⟩)), (9, .pointer (some ⟨p2, 0, none⟩)), (7, .pointer (some ⟨g1, 0, none⟩))] ((gr6, 77, bvs (bb.set i ((bb.getD i 0) + 1))) :: (g1, 35, x.cs) :: (r1 ++ (r2 ++ ([] : Hep)))) := H
                  refine ⟨i + 1, by omega, by omega, (bb.set i ((bb.getD i 0) + 1)), ⟨by rw [List.length_set]; exact hbb.1, trivial⟩, ?_⟩
                  exact H.pickF (h := [(gr6, 77, bvs (bb.set i ((bb.getD i 0) + 1))), (g1, 35, x.cs)]) (t := (r1 ++ (r2 ++ ([] : Hep)))) [0, 15, 16, 17, 18] [0, 1] rfl
                · obtain rfl : 512 = i := by omega
                  refine wp_seq_k (fun K28 hK28 => ?_)
                  refine sqR H gs0 fun Z_ z_ => rS 2 rfl <| rV rfl (does_len Try.underlying39 rfl rfl) <| rV rfl (does_binOp rfl rfl rfl (zd_lss_int (k := ((512 : Nat) : Int)) (m := ((512 : Nat) : Int)) (decide_eq_false (by omega)) _ _)) <| rK [1, 0, 0, 0] [] [] <| rN0 z_ ?_
                  try clear H a W
                  intro a W H
                  refine wp_cond_false (H.ev rfl) ?_
                  refine wp_exit ?_
                  repeat (first | (with_reducible refine then_exit ?_) | (with_reducible refine blk_pass (by decide) ?_))
                  refine blk_exit ?_
                  refine hK23 _ _ ?_
                  clear hK23
                  refine wp_seq_k (fun K30 hK30 => ?_)
                  refine rgP H gs0 (rS 1 rfl <| rI0 ?_)
                  try clear H a W
                  intro a W H
                  replace H : St 166 w a W [(100, .pointer (some ⟨p2, 0, none⟩)), (89, .bool false), (16, .int .i64 ((512 : Nat) : Int)), (14, .slice (some ⟨gr6, 0, none⟩) 512 512), (11, .pointer (some ⟨p3, 0, none⟩)), (9, .pointer (some ⟨p2, 0, none⟩)), (7, .pointer (some ⟨g1, 0, none⟩))] (r1 ++ (([(gr6, .ty 77, bvs bb), (g1, .ty 35, x.cs)] : Hep) ++ (r2 ++ ([] : Hep)))) := H.perm' (((List.Perm.refl _).append_left ([(gr6, .ty 77, bvs bb), (g1, .ty 35, x.cs)] : Hep)).trans (List.perm_append_comm_assoc ([(gr6, .ty 77, bvs bb), (g1, .ty 35, x.cs)] : Hep) r1 (r2 ++ ([] : Hep))))
                  refine pl_callX rfl rfl ⟨_, Try.func19, by kernel_rfl⟩ rfl (fun K_ => po_copy (hh := (([(gr6, .ty 77, bvs bb), (g1, .ty 35, x.cs)] : Hep) ++ (r2 ++ ([] : Hep)))) hJ.1 w _ K_) H ?_
                  try clear H a W
                  rintro ⟨p7, r7⟩ a W hP7 H
                  replace hP7 : PO p7 D r7 := hP7
                  replace H := H.perm' (((List.perm_append_comm_assoc r1 ([(gr6, .ty 77, bvs bb), (g1, .ty 35, x.cs)] : Hep) (r2 ++ ([] : Hep))).append_left r7).trans (List.perm_append_comm_assoc r7 ([(gr6, .ty 77, bvs bb), (g1, .ty 35, x.cs)] : Hep) (r1 ++ (r2 ++ ([] : Hep)))))
                  replace H : St 166 w a W [(101, .pointer (some ⟨p7, 0, none⟩)), (100, .pointer (some ⟨p2, 0, none⟩)), (89, .bool false), (16, .int .i64 ((512 : Nat) : Int)), (14, .slice (some ⟨gr6, 0, none⟩) 512 512), (11, .pointer (some ⟨p3, 0, none⟩)), (9, .pointer (some ⟨p2, 0, none⟩)), (7, .pointer (some ⟨g1, 0, none⟩))] ((gr6, 77, bvs bb) :: (g1, 35, x.cs) :: (r7 ++ (r1 ++ (r2 ++ ([] : Hep))))) := H
                  refine rgO H gs0 (rS 1 rfl <| rK [1, 0, 0, 0, 0, 0] [] [] <| rZ0 ?_)
                  try clear H a W
                  intro a W H
                  refine hK30 _ _ ?_
                  clear hK30
                  refine wp_seq_k (fun K31 hK31 => ?_)
                  refine wp_seq_k (fun K32 hK32 => ?_)
                  refine rgP H gs0 (rS 1 rfl <| rV rfl (does_binOp rfl rfl rfl (fun W => ptr_nil W)) <| rS 3 rfl <| rI0 ?_)
                  try clear H a W
                  intro a W H
                  replace H := H.perm' ((((((List.Perm.refl _).append_left r1).trans (List.perm_append_comm_assoc r1 r2 ([] : Hep))).append_left r7).trans (List.perm_append_comm_assoc r7 r2 (r1 ++ ([] : Hep)))).append_left ([(gr6, .ty 77, bvs bb), (g1, .ty 35, x.cs)] : Hep))
                  replace H : St 166 w a W [(106, .pointer (some ⟨p3, 0, none⟩)), (105, .pointer (some ⟨p7, 0, none⟩)), (104, .bool false), (103, .bool false), (102, .pointer (some ⟨p7, 0, none⟩)), (17, .pointer (some ⟨p7, 0, none⟩)), (11, .pointer (some ⟨p3, 0, none⟩)), (9, .pointer (some ⟨p2, 0, none⟩)), (7, .pointer (some ⟨g1, 0, none⟩))] ((gr6, 77, bvs bb) :: (g1, 35, x.cs) :: (r2 ++ (r7 ++ (r1 ++ ([] : Hep))))) := H
                  replace H := H.perm' ((((List.Perm.refl _).append_left r2).trans (List.perm_append_comm_assoc r2 r7 (r1 ++ ([] : Hep)))).append_left ([(gr6, .ty 77, bvs bb), (g1, .ty 35, x.cs)] : Hep))
                  replace H : St 166 w a W [(106, .pointer (some ⟨p3, 0, none⟩)), (105, .pointer (some ⟨p7, 0, none⟩)), (104, .bool false), (103, .bool false), (102, .pointer (some ⟨p7, 0, none⟩)), (17, .pointer (some ⟨p7, 0, none⟩)), (11, .pointer (some ⟨p3, 0, none⟩)), (9, .pointer (some ⟨p2, 0, none⟩)), (7, .pointer (some ⟨g1, 0, none⟩))] ((gr6, 77, bvs bb) :: (g1, 35, x.cs) :: (r7 ++ (r2 ++ (r1 ++ ([] : Hep))))) := H
                  replace H : St 166 w a W [(106, .pointer (some ⟨p3, 0, none⟩)), (105, .pointer (some ⟨p7, 0, none⟩)), (104, .bool false), (103, .bool false), (102, .pointer (some ⟨p7, 0, none⟩)), (17, .pointer (some ⟨p7, 0, none⟩)), (11, .pointer (some ⟨p3, 0, none⟩)), (9, .pointer (some ⟨p2, 0, none⟩)), (7, .pointer (some ⟨g1, 0, none⟩))] (r7 ++ (r2 ++ (([(gr6, .ty 77, bvs bb), (g1, .ty 35, x.cs)] : Hep) ++ (r1 ++ ([] : Hep))))) := H.perm' ((List.perm_append_comm_assoc ([(gr6, .ty 77, bvs bb), (g1, .ty 35, x.cs)] : Hep) r7 (r2 ++ (r1 ++ ([] : Hep)))).trans ((List.perm_append_comm_assoc ([(gr6, .ty 77, bvs bb), (g1, .ty 35, x.cs)] : Hep) r2 (r1 ++ ([] : Hep))).append_left r7))
                  refine pl_callV rfl rfl ⟨_, Try.func20, by kernel_rfl⟩ rfl (fun K_ => po_same (hh := (([(gr6, .ty 77, bvs bb), (g1, .ty 35, x.cs)] : Hep) ++ (r1 ++ ([] : Hep)))) hP7 hJ.2.1 rfl (fun m => rfl) w _ K_) H ?_
                  try clear H a W
                  intro a W H
                  replace H := H.perm' (((List.perm_append_comm_assoc r2 ([(gr6, .ty 77, bvs bb), (g1, .ty 35, x.cs)] : Hep) (r1 ++ ([] : Hep))).append_left r7).trans (List.perm_append_comm_assoc r7 ([(gr6, .ty 77, bvs bb), (g1, .ty 35, x.cs)] : Hep) (r2 ++ (r1 ++ ([] : Hep)))))
                  replace H : St 166 w a W [(107, .bool true), (106, .pointer (some ⟨p3, 0, none⟩)), (105, .pointer (some ⟨p7, 0, none⟩)), (104, .bool false), (103, .bool false), (102, .pointer (some ⟨p7, 0, none⟩)), (17, .pointer (some ⟨p7, 0, none⟩)), (11, .pointer (some ⟨p3, 0, none⟩)), (9, .pointer (some ⟨p2, 0, none⟩)), (7, .pointer (some ⟨g1, 0, none⟩))] ((gr6, 77, bvs bb) :: (g1, 35, x.cs) :: (r7 ++ (r2 ++ (r1 ++ ([] : Hep))))) := H
                  refine rgO H gs0 (rS 5 rfl <| rI0 ?_)
                  try clear H a W
                  intro a W H
                  replace H := H.perm' ((((((List.Perm.refl _).append_left r2).trans (List.perm_append_comm_assoc r2 r1 ([] : Hep))).append_left r7).trans (List.perm_append_comm_assoc r7 r1 (r2 ++ ([] : Hep)))).append_left ([(gr6, .ty 77, bvs bb), (g1, .ty 35, x.cs)] : Hep))
                  replace H : St 166 w a W [(112, .pointer (some ⟨p2, 0, none⟩)), (111, .pointer (some ⟨p3, 0, none⟩)), (110, .bool false), (109, .bool false), (108, .bool false), (107, .bool true), (106, .pointer (some ⟨p3, 0, none⟩)), (105, .pointer (some ⟨p7, 0, none⟩)), (104, .bool false), (103, .bool false), (102, .pointer (some ⟨p7, 0, none⟩)), (17, .pointer (some ⟨p7, 0, none⟩)), (11, .pointer (some ⟨p3, 0, none⟩)), (9, .pointer (some ⟨p2, 0, none⟩)), (7, .pointer (some ⟨g1, 0, none⟩))] ((gr6, 77, bvs bb) :: (g1, 35, x.cs) :: (r1 ++ (r7 ++ (r2 ++ ([] : Hep))))) := H
                  replace H := H.perm' ((((((List.Perm.refl _).append_left r7).trans (List.perm_append_comm_assoc r7 r2 ([] : Hep))).append_left r1).trans (List.perm_append_comm_assoc r1 r2 (r7 ++ ([] : Hep)))).append_left ([(gr6, .ty 77, bvs bb), (g1, .ty 35, x.cs)] : Hep))
                  replace H : St 166 w a W [(112, .pointer (some ⟨p2, 0, none⟩)), (111, .pointer (some ⟨p3, 0, none⟩)), (110, .bool false), (109, .bool false), (108, .bool false), (107, .bool true), (106, .pointer (some ⟨p3, 0, none⟩)), (105, .pointer (some ⟨p7, 0, none⟩)), (104, .bool false), (103, .bool false), (102, .pointer (some ⟨p7, 0, none⟩)), (17, .pointer (some ⟨p7, 0, none⟩)), (11, .pointer (some ⟨p3, 0, none⟩)), (9, .pointer (some ⟨p2, 0, none⟩)), (7, .pointer (some ⟨g1, 0, none⟩))] ((gr6, 77, bvs bb) :: (g1, 35, x.cs) :: (r2 ++ (r1 ++ (r7 ++ ([] : Hep))))) := H
                  replace H : St 166 w a W [(112, .pointer (some ⟨p2, 0, none⟩)), (111, .pointer (some ⟨p3, 0, none⟩)), (110, .bool false), (109, .bool false), (108, .bool false), (107, .bool true), (106, .pointer (some ⟨p3, 0, none⟩)), (105, .pointer (some ⟨p7, 0, none⟩)), (104, .bool false), (103, .bool false), (102, .pointer (some ⟨p7, 0, none⟩)), (17, .pointer (some ⟨p7, 0, none⟩)), (11, .pointer (some ⟨p3, 0, none⟩)), (9, .pointer (some ⟨p2, 0, none⟩)), (7, .pointer (some ⟨g1, 0, none⟩))] (r2 ++ (r1 ++ (([(gr6, .ty 77, bvs bb), (g1, .ty 35, x.cs)] : Hep) ++ (r7 ++ ([] : Hep))))) := H.perm' ((List.perm_append_comm_assoc ([(gr6, .ty 77, bvs bb), (g1, .ty 35, x.cs)] : Hep) r2 (r1 ++ (r7 ++ ([] : Hep)))).trans ((List.perm_append_comm_assoc ([(gr6, .ty 77, bvs bb), (g1, .ty 35, x.cs)] : Hep) r1 (r7 ++ ([] : Hep))).append_left r2))
                  refine pl_callV rfl rfl ⟨_, Try.func20, by kernel_rfl⟩ rfl (fun K_ => po_same (hh := (([(gr6, .ty 77, bvs bb), (g1, .ty 35, x.cs)] : Hep) ++ (r7 ++ ([] : Hep)))) hJ.2.1 hJ.1 rfl (fun m => rfl) w _ K_) H ?_
                  try clear H a W
                  intro a W H
                  replace H := H.perm' (((List.perm_append_comm_assoc r1 ([(gr6, .ty 77, bvs bb), (g1, .ty 35, x.cs)] : Hep) (r7 ++ ([] : Hep))).append_left r2).trans (List.perm_append_comm_assoc r2 ([(gr6, .ty 77, bvs bb), (g1, .ty 35, x.cs)] : Hep) (r1 ++ (r7 ++ ([] : Hep)))))
                  replace H : St 166 w a W [(113, .bool true), (112, .pointer (some ⟨p2, 0, none⟩)), (111, .pointer (some ⟨p3, 0, none⟩)), (110, .bool false), (109, .bool false), (108, .bool false), (107, .bool true), (106, .pointer (some ⟨p3, 0, none⟩)), (105, .pointer (some ⟨p7, 0, none⟩)), (104, .bool false), (103, .bool false), (102, .pointer (some ⟨p7, 0, none⟩)), (17, .pointer (some ⟨p7, 0, none⟩)), (11, .pointer (some ⟨p3, 0, none⟩)), (9, .pointer (some ⟨p2, 0, none⟩)), (7, .pointer (some ⟨g1, 0, none⟩))] ((gr6, 77, bvs bb) :: (g1, 35, x.cs) :: (r2 ++ (r1 ++ (r7 ++ ([] : Hep))))) := H
                  refine rgO H gs0 (rS 4 rfl <| rI0 ?_)
                  try clear H a W
                  intro a W H
                  replace H : St 166 w a W [(117, .pointer (some ⟨p7, 0, none⟩)), (116, .bool false), (115, .bool false), (114, .bool false), (113, .bool true), (112, .pointer (some ⟨p2, 0, none⟩)), (111, .pointer (some ⟨p3, 0, none⟩)), (110, .bool false), (109, .bool false), (108, .bool false), (107, .bool true), (106, .pointer (some ⟨p3, 0, none⟩)), (105, .pointer (some ⟨p7, 0, none⟩)), (104, .bool false), (103, .bool false), (102, .pointer (some ⟨p7, 0, none⟩)), (17, .pointer (some ⟨p7, 0, none⟩)), (11, .pointer (some ⟨p3, 0, none⟩)), (9, .pointer (some ⟨p2, 0, none⟩)), (7, .pointer (some ⟨g1, 0, none⟩))] (r7 ++ (([(gr6, .ty 77, bvs bb), (g1, .ty 35, x.cs)] : Hep) ++ (r2 ++ (r1 ++ ([] : Hep))))) := H.perm' (((((((List.Perm.refl _).append_left r1).trans (List.perm_append_comm_assoc r1 r7 ([] : Hep))).append_left r2).trans (List.perm_append_comm_assoc r2 r7 (r1 ++ ([] : Hep)))).append_left ([(gr6, .ty 77, bvs bb), (g1, .ty 35, x.cs)] : Hep)).trans (List.perm_append_comm_assoc ([(gr6, .ty 77, bvs bb), (g1, .ty 35, x.cs)] : Hep) r7 (r2 ++ (r1 ++ ([] : Hep)))))
                  refine pl_callV rfl rfl ⟨_, Try.func21, by kernel_rfl⟩ rfl (fun K_ => po_unsynced (hh := (([(gr6, .ty 77, bvs bb), (g1, .ty 35, x.cs)] : Hep) ++ (r2 ++ (r1 ++ ([] : Hep))))) hP7 w _ K_) H ?_
                  try clear H a W
                  intro a W H
                  replace H := H.perm' (List.perm_append_comm_assoc r7 ([(gr6, .ty 77, bvs bb), (g1, .ty 35, x.cs)] : Hep) (r2 ++ (r1 ++ ([] : Hep))))
                  replace H : St 166 w a W [(118, .int .i64 ((D.L.length : Nat) : Int)), (117, .pointer (some ⟨p7, 0, none⟩)), (116, .bool false), (115, .bool false), (114, .bool false), (113, .bool true), (112, .pointer (some ⟨p2, 0, none⟩)), (111, .pointer (some ⟨p3, 0, none⟩)), (110, .bool false), (109, .bool false), (108, .bool false), (107, .bool true), (106, .pointer (some ⟨p3, 0, none⟩)), (105, .pointer (some ⟨p7, 0, none⟩)), (104, .bool false), (103, .bool false), (102, .pointer (some ⟨p7, 0, none⟩)), (17, .pointer (some ⟨p7, 0, none⟩)), (11, .pointer (some ⟨p3, 0, none⟩)), (9, .pointer (some ⟨p2, 0, none⟩)), (7, .pointer (some ⟨g1, 0, none⟩))] ((gr6, 77, bvs bb) :: (g1, 35, x.cs) :: (r7 ++ (r2 ++ (r1 ++ ([] : Hep))))) := H
                  refine rgO H gs0 (rS 1 rfl <| rI0 ?_)
                  try clear H a W
                  intro a W H
                  replace H : St 166 w a W [(119, .pointer (some ⟨p3, 0, none⟩)), (118, .int .i64 ((D.L.length : Nat) : Int)), (117, .pointer (some ⟨p7, 0, none⟩)), (116, .bool false), (115, .bool false), (114, .bool false), (113, .bool true), (112, .pointer (some ⟨p2, 0, none⟩)), (111, .pointer (some ⟨p3, 0, none⟩)), (110, .bool false), (109, .bool false), (108, .bool false), (107, .bool true), (106, .pointer (some ⟨p3, 0, none⟩)), (105, .pointer (some ⟨p7, 0, none⟩)), (104, .bool false), (103, .bool false), (102, .pointer (some ⟨p7, 0, none⟩)), (17, .pointer (some ⟨p7, 0, none⟩)), (11, .pointer (some ⟨p3, 0, none⟩)), (9, .pointer (some ⟨p2, 0, none⟩)), (7, .pointer (some ⟨g1, 0, none⟩))] (r2 ++ (([(gr6, .ty 77, bvs bb), (g1, .ty 35, x.cs)] : Hep) ++ (r7 ++ (r1 ++ ([] : Hep))))) := H.perm' (((((List.Perm.refl _).append_left r7).trans (List.perm_append_comm_assoc r7 r2 (r1 ++ ([] : Hep)))).append_left ([(gr6, .ty 77, bvs bb), (g1, .ty 35, x.cs)] : Hep)).trans (List.perm_append_comm_assoc ([(gr6, .ty 77, bvs bb), (g1, .ty 35, x.cs)] : Hep) r2 (r7 ++ (r1 ++ ([] : Hep)))))
                  refine pl_callV rfl rfl ⟨_, Try.func21, by kernel_rfl⟩ rfl (fun K_ => po_unsynced (hh := (([(gr6, .ty 77, bvs bb), (g1, .ty 35, x.cs)] : Hep) ++ (r7 ++ (r1 ++ ([] : Hep))))) hJ.2.1 w _ K_) H ?_
                  try clear H a W
                  intro a W H
                  replace H := H.perm' (List.perm_append_comm_assoc r2 ([(gr6, .ty 77, bvs bb), (g1, .ty 35, x.cs)] : Hep) (r7 ++ (r1 ++ ([] : Hep))))
                  replace H : St 166 w a W [(120, .int .i64 ((D.L.length : Nat) : Int)), (119, .pointer (some ⟨p3, 0, none⟩)), (118, .int .i64 ((D.L.length : Nat) : Int)), (117, .pointer (some ⟨p7, 0, none⟩)), (116, .bool false), (115, .bool false), (114, .bool false), (113, .bool true), (112, .pointer (some ⟨p2, 0, none⟩)), (111, .pointer (some ⟨p3, 0, none⟩)), (110, .bool false), (109, .bool false), (108, .bool false), (107, .bool true), (106, .pointer (some ⟨p3, 0, none⟩)), (105, .pointer (some ⟨p7, 0, none⟩)), (104, .bool false), (103, .bool false), (102, .pointer (some ⟨p7, 0, none⟩)), (17, .pointer (some ⟨p7, 0, none⟩)), (11, .pointer (some ⟨p3, 0, none⟩)), (9, .pointer (some ⟨p2, 0, none⟩)), (7, .pointer (some ⟨g1, 0, none⟩))] ((gr6, 77, bvs bb) :: (g1, 35, x.cs) :: (r2 ++ (r7 ++ (r1 ++ ([] : Hep))))) := H
                  refine rgO H gs0 (rV rfl (does_binOp rfl rfl rfl (zd_neq_int (k := ((D.L.length : Nat) : Int)) (m := ((D.L.length : Nat) : Int)) (decide_eq_false (by omega)) _ _)) <| rS 3 rfl <| rI0 ?_)
                  try clear H a W
                  intro a W H
                  replace H : St 166 w a W [(124, .pointer (some ⟨p7, 0, none⟩)), (123, .bool false), (122, .bool false), (121, .bool false), (120, .int .i64 ((D.L.length : Nat) : Int)), (119, .pointer (some ⟨p3, 0, none⟩)), (118, .int .i64 ((D.L.length : Nat) : Int)), (117, .pointer (some ⟨p7, 0, none⟩)), (116, .bool false), (115, .bool false), (114, .bool false), (113, .bool true), (112, .pointer (some ⟨p2, 0, none⟩)), (111, .pointer (some ⟨p3, 0, none⟩)), (110, .bool false), (109, .bool false), (108, .bool false), (107, .bool true), (106, .pointer (some ⟨p3, 0, none⟩)), (105, .pointer (some ⟨p7, 0, none⟩)), (104, .bool false), (103, .bool false), (102, .pointer (some ⟨p7, 0, none⟩)), (17, .pointer (some ⟨p7, 0, none⟩)), (11, .pointer (some ⟨p3, 0, none⟩)), (9, .pointer (some ⟨p2, 0, none⟩)), (7, .pointer (some ⟨g1, 0, none⟩))] (r7 ++ (([(gr6, .ty 77, bvs bb), (g1, .ty 35, x.cs)] : Hep) ++ (r2 ++ (r1 ++ ([] : Hep))))) := H.perm' (((((List.Perm.refl _).append_left r2).trans (List.perm_append_comm_assoc r2 r7 (r1 ++ ([] : Hep)))).append_left ([(gr6, .ty 77, bvs bb), (g1, .ty 35, x.cs)] : Hep)).trans (List.perm_append_comm_assoc ([(gr6, .ty 77, bvs bb), (g1, .ty 35, x.cs)] : Hep) r7 (r2 ++ (r1 ++ ([] : Hep)))))
                  refine pl_callV rfl rfl ⟨_, Try.func22, by kernel_rfl⟩ rfl (fun K_ => po_dead (hh := (([(gr6, .ty 77, bvs bb), (g1, .ty 35, x.cs)] : Hep) ++ (r2 ++ (r1 ++ ([] : Hep))))) hP7 w _ K_) H ?_
                  try clear H a W
                  intro a W H
                  replace H := H.perm' (List.perm_append_comm_assoc r7 ([(gr6, .ty 77, bvs bb), (g1, .ty 35, x.cs)] : Hep) (r2 ++ (r1 ++ ([] : Hep))))
                  replace H : St 166 w a W [(125, .bool D.dead), (124, .pointer (some ⟨p7, 0, none⟩)), (123, .bool false), (122, .bool false), (121, .bool false), (120, .int .i64 ((D.L.length : Nat) : Int)), (119, .pointer (some ⟨p3, 0, none⟩)), (118, .int .i64 ((D.L.length : Nat) : Int)), (117, .pointer (some ⟨p7, 0, none⟩)), (116, .bool false), (115, .bool false), (114, .bool false), (113, .bool true), (112, .pointer (some ⟨p2, 0, none⟩)), (111, .pointer (some ⟨p3, 0, none⟩)), (110, .bool false), (109, .bool false), (108, .bool false), (107, .bool true), (106, .pointer (some ⟨p3, 0, none⟩)), (105, .pointer (some ⟨p7, 0, none⟩)), (104, .bool false), (103, .bool false), (102, .pointer (some ⟨p7, 0, none⟩)), (17, .pointer (some ⟨p7, 0, none⟩)), (11, .pointer (some ⟨p3, 0, none⟩)), (9, .pointer (some ⟨p2, 0, none⟩)), (7, .pointer (some ⟨g1, 0, none⟩))] ((gr6, 77, bvs bb) :: (g1, 35, x.cs) :: (r7 ++ (r2 ++ (r1 ++ ([] : Hep))))) := H
                  refine rgO H gs0 (rS 1 rfl <| rI0 ?_)
                  try clear H a W
                  intro a W H
                  replace H : St 166 w a W [(126, .pointer (some ⟨p3, 0, none⟩)), (125, .bool D.dead), (124, .pointer (some ⟨p7, 0, none⟩)), (123, .bool false), (122, .bool false), (121, .bool false), (120, .int .i64 ((D.L.length : Nat) : Int)), (119, .pointer (some ⟨p3, 0, none⟩)), (118, .int .i64 ((D.L.length : Nat) : Int)), (117, .pointer (some ⟨p7, 0, none⟩)), (116, .bool false), (115, .bool false), (114, .bool false), (113, .bool true), (112, .pointer (some ⟨p2, 0, none⟩)), (111, .pointer (some ⟨p3, 0, none⟩)), (110, .bool false), (109, .bool false), (108, .bool false), (107, .bool true), (106, .pointer (some ⟨p3, 0, none⟩)), (105, .pointer (some ⟨p7, 0, none⟩)), (104, .bool false), (103, .bool false), (102, .pointer (some ⟨p7, 0, none⟩)), (17, .pointer (some ⟨p7, 0, none⟩)), (11, .pointer (some ⟨p3, 0, none⟩)), (9, .pointer (some ⟨p2, 0, none⟩)), (7, .pointer (some ⟨g1, 0, none⟩))] (r2 ++ (([(gr6, .ty 77, bvs bb), (g1, .ty 35, x.cs)] : Hep) ++ (r7 ++ (r1 ++ ([] : Hep))))) := H.perm' (((((List.Perm.refl _).append_left r7).trans (List.perm_append_comm_assoc r7 r2 (r1 ++ ([] : Hep)))).append_left ([(gr6, .ty 77, bvs bb), (g1, .ty 35, x.cs)] : Hep)).trans (List.perm_append_comm_assoc ([(gr6, .ty 77, bvs bb), (g1, .ty 35, x.cs)] : Hep) r2 (r7 ++ (r1 ++ ([] : Hep)))))
                  refine pl_callV rfl rfl ⟨_, Try.func22, by kernel_rfl⟩ rfl (fun K_ => po_dead (hh := (([(gr6, .ty 77, bvs bb), (g1, .ty 35, x.cs)] : Hep) ++ (r7 ++ (r1 ++ ([] : Hep))))) hJ.2.1 w _ K_) H ?_
                  try clear H a W
                  intro a W H
                  replace H := H.perm' (List.perm_append_comm_assoc r2 ([(gr6, .ty 77, bvs bb), (g1, .ty 35, x.cs)] : Hep) (r7 ++ (r1 ++ ([] : Hep))))
                  replace H : St 166 w a W [(127, .bool D.dead), (126, .pointer (some ⟨p3, 0, none⟩)), (125, .bool D.dead), (124, .pointer (some ⟨p7, 0, none⟩)), (123, .bool false), (122, .bool false), (121, .bool false), (120, .int .i64 ((D.L.length : Nat) : Int)), (119, .pointer (some ⟨p3, 0, none⟩)), (118, .int .i64 ((D.L.length : Nat) : Int)), (117, .pointer (some ⟨p7, 0, none⟩)), (116, .bool false), (115, .bool false), (114, .bool false), (113, .bool true), (112, .pointer (some ⟨p2, 0, none⟩)), (111, .pointer (some ⟨p3, 0, none⟩)), (110, .bool false), (109, .bool false), (108, .bool false), (107, .bool true), (106, .pointer (some ⟨p3, 0, none⟩)), (105, .pointer (some ⟨p7, 0, none⟩)), (104, .bool false), (103, .bool false), (102, .pointer (some ⟨p7, 0, none⟩)), (17, .pointer (some ⟨p7, 0, none⟩)), (11, .pointer (some ⟨p3, 0, none⟩)), (9, .pointer (some ⟨p2, 0, none⟩)), (7, .pointer (some ⟨g1, 0, none⟩))] ((gr6, 77, bvs bb) :: (g1, 35, x.cs) :: (r2 ++ (r7 ++ (r1 ++ ([] : Hep))))) := H
                  refine rgO H gs0 (rV rfl (does_binOp rfl rfl rfl (bd_neqS _ _)) <| rS 1 rfl <| rK [1, 0, 0, 0, 0, 0, 0, 0, 0, 0, 0, 0, 0, 0, 0, 0, 0, 0, 0, 0, 0, 0, 0, 0, 0, 0, 0, 0] [] [] <| rZ0 ?_)
                  try clear H a W
                  intro a W H
                  refine hK32 _ _ ?_
                  clear hK32
                  refine wp_cond_false (H.ev rfl) ?_
                  refine wp_skip ?_
                  refine hK31 _ _ ?_
                  clear hK31
                  refine wp_seq_k (fun K33 hK33 => ?_)
                  refine rgP H gs0 (rS 1 rfl <| rV rfl (does_load rfl rfl (k := 1) rfl Try.underlying35 rfl (info_step _)) <| rI0 ?_)
                  try clear H a W
                  intro a W H
                  replace H : St 166 w a W [(131, .agg (x.cs)), (130, .pointer (some ⟨p7, 0, none⟩)), (129, .bool false), (17, .pointer (some ⟨p7, 0, none⟩)), (11, .pointer (some ⟨p3, 0, none⟩)), (9, .pointer (some ⟨p2, 0, none⟩)), (7, .pointer (some ⟨g1, 0, none⟩))] (r7 ++ (([(gr6, .ty 77, bvs bb), (g1, .ty 35, x.cs)] : Hep) ++ (r2 ++ (r1 ++ ([] : Hep))))) := H.perm' (((((List.Perm.refl _).append_left r2).trans (List.perm_append_comm_assoc r2 r7 (r1 ++ ([] : Hep)))).append_left ([(gr6, .ty 77, bvs bb), (g1, .ty 35, x.cs)] : Hep)).trans (List.perm_append_comm_assoc ([(gr6, .ty 77, bvs bb), (g1, .ty 35, x.cs)] : Hep) r7 (r2 ++ (r1 ++ ([] : Hep)))))
                  refine pl_callX rfl rfl ⟨_, Try.func15, by kernel_rfl⟩ rfl (fun K_ => do_K (hh := (([(gr6, .ty 77, bvs bb), (g1, .ty 35, x.cs)] : Hep) ++ (r2 ++ (r1 ++ ([] : Hep))))) w _ hP7 x hx (by omega) K_) H ?_
                  try clear H a W
                  rintro r14 a W hP14 H
                  replace hP14 : PO p7 (dDo D x.s).1 r14 := hP14
                  replace H := H.perm' (List.perm_append_comm_assoc r14 ([(gr6, .ty 77, bvs bb), (g1, .ty 35, x.cs)] : Hep) (r2 ++ (r1 ++ ([] : Hep))))
                  replace H : St 166 w a W [(132, .int .i64 ((dDo D x.s).2)), (131, .agg (x.cs)), (130, .pointer (some ⟨p7, 0, none⟩)), (129, .bool false), (17, .pointer (some ⟨p7, 0, none⟩)), (11, .pointer (some ⟨p3, 0, none⟩)), (9, .pointer (some ⟨p2, 0, none⟩)), (7, .pointer (some ⟨g1, 0, none⟩))] ((gr6, 77, bvs bb) :: (g1, 35, x.cs) :: (r14 ++ (r2 ++ (r1 ++ ([] : Hep))))) := H
                  refine rgO H gs0 (rS 2 rfl <| rK [1, 1, 0, 0, 0, 0] [] [] <| rZ0 ?_)
                  try clear H a W
                  intro a W H
                  refine hK33 _ _ ?_
                  clear hK33
                  refine wp_seq_k (fun K34 hK34 => ?_)
                  refine wp_seq_k (fun K35 hK35 => ?_)
                  refine rgP H gs0 (rS 2 rfl <| rI0 ?_)
                  try clear H a W
                  intro a W H
                  replace H := H.perm' ((((List.Perm.refl _).append_left r14).trans (List.perm_append_comm_assoc r14 r2 (r1 ++ ([] : Hep)))).append_left ([(gr6, .ty 77, bvs bb), (g1, .ty 35, x.cs)] : Hep))
                  replace H : St 166 w a W [(134, .pointer (some ⟨p3, 0, none⟩)), (133, .pointer (some ⟨p2, 0, none⟩)), (19, .int .i64 0), (18, .int .i64 ((dDo D x.s).2)), (17, .pointer (some ⟨p7, 0, none⟩)), (11, .pointer (some ⟨p3, 0, none⟩)), (9, .pointer (some ⟨p2, 0, none⟩)), (7, .pointer (some ⟨g1, 0, none⟩))] ((gr6, 77, bvs bb) :: (g1, 35, x.cs) :: (r2 ++ (r14 ++ (r1 ++ ([] : Hep))))) := H
                  replace H := H.perm' ((((((List.Perm.refl _).append_left r14).trans (List.perm_append_comm_assoc r14 r1 ([] : Hep))).append_left r2).trans (List.perm_append_comm_assoc r2 r1 (r14 ++ ([] : Hep)))).append_left ([(gr6, .ty 77, bvs bb), (g1, .ty 35, x.cs)] : Hep))
                  replace H : St 166 w a W [(134, .pointer (some ⟨p3, 0, none⟩)), (133, .pointer (some ⟨p2, 0, none⟩)), (19, .int .i64 0), (18, .int .i64 ((dDo D x.s).2)), (17, .pointer (some ⟨p7, 0, none⟩)), (11, .pointer (some ⟨p3, 0, none⟩)), (9, .pointer (some ⟨p2, 0, none⟩)), (7, .pointer (some ⟨g1, 0, none⟩))] ((gr6, 77, bvs bb) :: (g1, 35, x.cs) :: (r1 ++ (r2 ++ (r14 ++ ([] : Hep))))) := H
                  replace H : St 166 w a W [(134, .pointer (some ⟨p3, 0, none⟩)), (133, .pointer (some ⟨p2, 0, none⟩)), (19, .int .i64 0), (18, .int .i64 ((dDo D x.s).2)), (17, .pointer (some ⟨p7, 0, none⟩)), (11, .pointer (some ⟨p3, 0, none⟩)), (9, .pointer (some ⟨p2, 0, none⟩)), (7, .pointer (some ⟨g1, 0, none⟩))] (r1 ++ (r2 ++ (([(gr6, .ty 77, bvs bb), (g1, .ty 35, x.cs)] : Hep) ++ (r14 ++ ([] : Hep))))) := H.perm' ((List.perm_append_comm_assoc ([(gr6, .ty 77, bvs bb), (g1, .ty 35, x.cs)] : Hep) r1 (r2 ++ (r14 ++ ([] : Hep)))).trans ((List.perm_append_comm_assoc ([(gr6, .ty 77, bvs bb), (g1, .ty 35, x.cs)] : Hep) r2 (r14 ++ ([] : Hep))).append_left r1))
                  refine pl_callV rfl rfl ⟨_, Try.func20, by kernel_rfl⟩ rfl (fun K_ => po_same (hh := (([(gr6, .ty 77, bvs bb), (g1, .ty 35, x.cs)] : Hep) ++ (r14 ++ ([] : Hep)))) hJ.1 hJ.2.1 rfl (fun m => rfl) w _ K_) H ?_
                  try clear H a W
                  intro a W H
                  replace H := H.perm' (((List.perm_append_comm_assoc r2 ([(gr6, .ty 77, bvs bb), (g1, .ty 35, x.cs)] : Hep) (r14 ++ ([] : Hep))).append_left r1).trans (List.perm_append_comm_assoc r1 ([(gr6, .ty 77, bvs bb), (g1, .ty 35, x.cs)] : Hep) (r2 ++ (r14 ++ ([] : Hep)))))
                  replace H : St 166 w a W [(135, .bool true), (134, .pointer (some ⟨p3, 0, none⟩)), (133, .pointer (some ⟨p2, 0, none⟩)), (19, .int .i64 0), (18, .int .i64 ((dDo D x.s).2)), (17, .pointer (some ⟨p7, 0, none⟩)), (11, .pointer (some ⟨p3, 0, none⟩)), (9, .pointer (some ⟨p2, 0, none⟩)), (7, .pointer (some ⟨g1, 0, none⟩))] ((gr6, 77, bvs bb) :: (g1, 35, x.cs) :: (r1 ++ (r2 ++ (r14 ++ ([] : Hep))))) := H
                  refine rgO H gs0 (rS 1 rfl <| rK [1, 0, 0, 0, 1, 1, 1, 1, 0] [] [] <| rZ0 ?_)
                  try clear H a W
                  intro a W H
                  refine hK35 _ _ ?_
                  clear hK35
                  refine wp_cond_false (H.ev rfl) ?_
                  refine wp_skip ?_
                  refine hK34 _ _ ?_
                  clear hK34
                  refine wp_seq_k (fun K36 hK36 => ?_)
                  refine rgP H gs0 (rS 1 rfl <| rV rfl (does_load rfl rfl (k := 1) rfl Try.underlying35 rfl (info_step _)) <| rI0 ?_)
                  try clear H a W
                  intro a W H
                  replace H : St 166 w a W [(138, .agg (x.cs)), (137, .pointer (some ⟨p3, 0, none⟩)), (136, .bool false), (19, .int .i64 0), (18, .int .i64 ((dDo D x.s).2)), (17, .pointer (some ⟨p7, 0, none⟩)), (11, .pointer (some ⟨p3, 0, none⟩)), (7, .pointer (some ⟨g1, 0, none⟩))] (r2 ++ (([(gr6, .ty 77, bvs bb), (g1, .ty 35, x.cs)] : Hep) ++ (r1 ++ (r14 ++ ([] : Hep))))) := H.perm' (((((List.Perm.refl _).append_left r1).trans (List.perm_append_comm_assoc r1 r2 (r14 ++ ([] : Hep)))).append_left ([(gr6, .ty 77, bvs bb), (g1, .ty 35, x.cs)] : Hep)).trans (List.perm_append_comm_assoc ([(gr6, .ty 77, bvs bb), (g1, .ty 35, x.cs)] : Hep) r2 (r1 ++ (r14 ++ ([] : Hep)))))
                  refine pl_callX rfl rfl ⟨_, Try.func15, by kernel_rfl⟩ rfl (fun K_ => do_K (hh := (([(gr6, .ty 77, bvs bb), (g1, .ty 35, x.cs)] : Hep) ++ (r1 ++ (r14 ++ ([] : Hep))))) w _ hJ.2.1 x hx (by omega) K_) H ?_
                  try clear H a W
                  rintro r16 a W hP16 H
                  replace hP16 : PO p3 (dDo D x.s).1 r16 := hP16
                  replace H := H.perm' (List.perm_append_comm_assoc r16 ([(gr6, .ty 77, bvs bb), (g1, .ty 35, x.cs)] : Hep) (r1 ++ (r14 ++ ([] : Hep))))
                  replace H : St 166 w a W [(139, .int .i64 ((dDo D x.s).2)), (138, .agg (x.cs)), (137, .pointer (some ⟨p3, 0, none⟩)), (136, .bool false), (19, .int .i64 0), (18, .int .i64 ((dDo D x.s).2)), (17, .pointer (some ⟨p7, 0, none⟩)), (11, .pointer (some ⟨p3, 0, none⟩)), (7, .pointer (some ⟨g1, 0, none⟩))] ((gr6, 77, bvs bb) :: (g1, 35, x.cs) :: (r16 ++ (r1 ++ (r14 ++ ([] : Hep))))) := H
                  refine rgO H gs0 (rK [1, 1, 1, 1, 0] [] [] <| rS 1 rfl <| rK [1, 0, 0, 0, 0, 1, 1, 1, 0] [] [] <| rZ0 ?_)
                  try clear H a W
                  intro a W H
                  refine hK36 _ _ ?_
                  clear hK36
                  refine wp_seq_k (fun K37 hK37 => ?_)
                  refine rgP H gs0 (rS 2 rfl <| rV rfl (does_binOp rfl rfl rfl (zd_eql_int (k := ((dDo D x.s).2)) (m := ((dDo D x.s).2)) (decide_eq_true (by omega)) _ _)) <| rS 3 rfl <| rI0 ?_)
                  try clear H a W
                  intro a W H
                  replace H := H.perm' ((((((List.Perm.refl _).append_left r1).trans (List.perm_append_comm_assoc r1 r14 ([] : Hep))).append_left r16).trans (List.perm_append_comm_assoc r16 r14 (r1 ++ ([] : Hep)))).append_left ([(gr6, .ty 77, bvs bb), (g1, .ty 35, x.cs)] : Hep))
                  replace H : St 166 w a W [(145, .pointer (some ⟨p3, 0, none⟩)), (144, .pointer (some ⟨p7, 0, none⟩)), (143, .bool true), (142, .bool true), (141, .int .i64 ((dDo D x.s).2)), (140, .int .i64 ((dDo D x.s).2)), (19, .int .i64 ((dDo D x.s).2)), (18, .int .i64 ((dDo D x.s).2)), (17, .pointer (some ⟨p7, 0, none⟩)), (11, .pointer (some ⟨p3, 0, none⟩))] ((gr6, 77, bvs bb) :: (g1, 35, x.cs) :: (r14 ++ (r16 ++ (r1 ++ ([] : Hep))))) := H
                  replace H : St 166 w a W [(145, .pointer (some ⟨p3, 0, none⟩)), (144, .pointer (some ⟨p7, 0, none⟩)), (143, .bool true), (142, .bool true), (141, .int .i64 ((dDo D x.s).2)), (140, .int .i64 ((dDo D x.s).2)), (19, .int .i64 ((dDo D x.s).2)), (18, .int .i64 ((dDo D x.s).2)), (17, .pointer (some ⟨p7, 0, none⟩)), (11, .pointer (some ⟨p3, 0, none⟩))] (r14 ++ (r16 ++ (([(gr6, .ty 77, bvs bb), (g1, .ty 35, x.cs)] : Hep) ++ (r1 ++ ([] : Hep))))) := H.perm' ((List.perm_append_comm_assoc ([(gr6, .ty 77, bvs bb), (g1, .ty 35, x.cs)] : Hep) r14 (r16 ++ (r1 ++ ([] : Hep)))).trans ((List.perm_append_comm_assoc ([(gr6, .ty 77, bvs bb), (g1, .ty 35, x.cs)] : Hep) r16 (r1 ++ ([] : Hep))).append_left r14))
                  refine pl_callV rfl rfl ⟨_, Try.func20, by kernel_rfl⟩ rfl (fun K_ => po_same (hh := (([(gr6, .ty 77, bvs bb), (g1, .ty 35, x.cs)] : Hep) ++ (r1 ++ ([] : Hep)))) hP14 hP16 rfl (fun m => rfl) w _ K_) H ?_
                  try clear H a W
                  intro a W H
                  replace H := H.perm' (((List.perm_append_comm_assoc r16 ([(gr6, .ty 77, bvs bb), (g1, .ty 35, x.cs)] : Hep) (r1 ++ ([] : Hep))).append_left r14).trans (List.perm_append_comm_assoc r14 ([(gr6, .ty 77, bvs bb), (g1, .ty 35, x.cs)] : Hep) (r16 ++ (r1 ++ ([] : Hep)))))
                  replace H : St 166 w a W [(146, .bool true), (145, .pointer (some ⟨p3, 0, none⟩)), (144, .pointer (some ⟨p7, 0, none⟩)), (143, .bool true), (142, .bool true), (141, .int .i64 ((dDo D x.s).2)), (140, .int .i64 ((dDo D x.s).2)), (19, .int .i64 ((dDo D x.s).2)), (18, .int .i64 ((dDo D x.s).2)), (17, .pointer (some ⟨p7, 0, none⟩)), (11, .pointer (some ⟨p3, 0, none⟩))] ((gr6, 77, bvs bb) :: (g1, 35, x.cs) :: (r14 ++ (r16 ++ (r1 ++ ([] : Hep))))) := H
                  refine rgO H gs0 (rS 3 rfl <| rI0 ?_)
                  try clear H a W
                  intro a W H
                  replace H : St 166 w a W [(149, .pointer (some ⟨p7, 0, none⟩)), (148, .bool true), (147, .bool true), (146, .bool true), (145, .pointer (some ⟨p3, 0, none⟩)), (144, .pointer (some ⟨p7, 0, none⟩)), (143, .bool true), (142, .bool true), (141, .int .i64 ((dDo D x.s).2)), (140, .int .i64 ((dDo D x.s).2)), (19, .int .i64 ((dDo D x.s).2)), (18, .int .i64 ((dDo D x.s).2)), (17, .pointer (some ⟨p7, 0, none⟩)), (11, .pointer (some ⟨p3, 0, none⟩))] (r14 ++ (([(gr6, .ty 77, bvs bb), (g1, .ty 35, x.cs)] : Hep) ++ (r16 ++ (r1 ++ ([] : Hep))))) := H.perm' (((List.Perm.refl _).append_left ([(gr6, .ty 77, bvs bb), (g1, .ty 35, x.cs)] : Hep)).trans (List.perm_append_comm_assoc ([(gr6, .ty 77, bvs bb), (g1, .ty 35, x.cs)] : Hep) r14 (r16 ++ (r1 ++ ([] : Hep)))))
                  refine pl_callX rfl rfl ⟨_, Try.func23, by kernel_rfl⟩ rfl (fun K_ => po_crash (hh := (([(gr6, .ty 77, bvs bb), (g1, .ty 35, x.cs)] : Hep) ++ (r16 ++ (r1 ++ ([] : Hep))))) w hP14 (PK.nil _ _) (by omega) _ K_) H ?_
                  try clear H a W
                  rintro r18 a W hP18 H
                  replace hP18 : PO p7 (dCrash (dDo D x.s).1 ([] : List Int)) r18 := hP18
                  replace H := H.perm' (List.perm_append_comm_assoc r18 ([(gr6, .ty 77, bvs bb), (g1, .ty 35, x.cs)] : Hep) (r16 ++ (r1 ++ ([] : Hep))))
                  replace H : St 166 w a W [(150, .int .i64 0), (149, .pointer (some ⟨p7, 0, none⟩)), (148, .bool true), (147, .bool true), (146, .bool true), (145, .pointer (some ⟨p3, 0, none⟩)), (144, .pointer (some ⟨p7, 0, none⟩)), (143, .bool true), (142, .bool true), (141, .int .i64 ((dDo D x.s).2)), (140, .int .i64 ((dDo D x.s).2)), (19, .int .i64 ((dDo D x.s).2)), (18, .int .i64 ((dDo D x.s).2)), (17, .pointer (some ⟨p7, 0, none⟩)), (11, .pointer (some ⟨p3, 0, none⟩))] ((gr6, 77, bvs bb) :: (g1, 35, x.cs) :: (r18 ++ (r16 ++ (r1 ++ ([] : Hep))))) := H
                  refine rgO H gs0 (rV rfl (does_call rfl ⟨_, Try.func13, by kernel_rfl⟩ rfl (fun W hb => num_any _ W)) <| rS 1 rfl <| rI0 ?_)
                  try clear H a W
                  intro a W H
                  replace H : St 166 w a W [(152, .pointer (some ⟨p3, 0, none⟩)), (151, .int .i64 0), (150, .int .i64 0), (149, .pointer (some ⟨p7, 0, none⟩)), (148, .bool true), (147, .bool true), (146, .bool true), (145, .pointer (some ⟨p3, 0, none⟩)), (144, .pointer (some ⟨p7, 0, none⟩)), (143, .bool true), (142, .bool true), (141, .int .i64 ((dDo D x.s).2)), (140, .int .i64 ((dDo D x.s).2)), (19, .int .i64 ((dDo D x.s).2)), (18, .int .i64 ((dDo D x.s).2)), (17, .pointer (some ⟨p7, 0, none⟩)), (11, .pointer (some ⟨p3, 0, none⟩))] (r16 ++ (([(gr6, .ty 77, bvs bb), (g1, .ty 35, x.cs)] : Hep) ++ (r18 ++ (r1 ++ ([] : Hep))))) := H.perm' (((((List.Perm.refl _).append_left r18).trans (List.perm_append_comm_assoc r18 r16 (r1 ++ ([] : Hep)))).append_left ([(gr6, .ty 77, bvs bb), (g1, .ty 35, x.cs)] : Hep)).trans (List.perm_append_comm_assoc ([(gr6, .ty 77, bvs bb), (g1, .ty 35, x.cs)] : Hep) r16 (r18 ++ (r1 ++ ([] : Hep)))))
                  refine pl_callX rfl rfl ⟨_, Try.func23, by kernel_rfl⟩ rfl (fun K_ => po_crash (hh := (([(gr6, .ty 77, bvs bb), (g1, .ty 35, x.cs)] : Hep) ++ (r18 ++ (r1 ++ ([] : Hep))))) w hP16 (PK.nil _ _) (by omega) _ K_) H ?_
                  try clear H a W
                  rintro r19 a W hP19 H
                  replace hP19 : PO p3 (dCrash (dDo D x.s).1 ([] : List Int)) r19 := hP19
                  replace H := H.perm' (List.perm_append_comm_assoc r19 ([(gr6, .ty 77, bvs bb), (g1, .ty 35, x.cs)] : Hep) (r18 ++ (r1 ++ ([] : Hep))))
                  replace H : St 166 w a W [(153, .int .i64 0), (152, .pointer (some ⟨p3, 0, none⟩)), (151, .int .i64 0), (150, .int .i64 0), (149, .pointer (some ⟨p7, 0, none⟩)), (148, .bool true), (147, .bool true), (146, .bool true), (145, .pointer (some ⟨p3, 0, none⟩)), (144, .pointer (some ⟨p7, 0, none⟩)), (143, .bool true), (142, .bool true), (141, .int .i64 ((dDo D x.s).2)), (140, .int .i64 ((dDo D x.s).2)), (19, .int .i64 ((dDo D x.s).2)), (18, .int .i64 ((dDo D x.s).2)), (17, .pointer (some ⟨p7, 0, none⟩)), (11, .pointer (some ⟨p3, 0, none⟩))] ((gr6, 77, bvs bb) :: (g1, 35, x.cs) :: (r19 ++ (r18 ++ (r1 ++ ([] : Hep))))) := H
                  refine rgO H gs0 (rV rfl (does_call rfl ⟨_, Try.func13, by kernel_rfl⟩ rfl (fun W hb => num_any _ W)) <| rV rfl (does_binOp rfl rfl rfl (zd_add_int (k := 0) (m := 0) (c := 0 + 0) rfl (by omega) _ _)) <| rV rfl (does_binOp rfl rfl rfl (zd_eql_int (k := (0 + 0)) (m := 0) (decide_eq_true (by omega)) _ _)) <| rS 4 rfl <| rI0 ?_)
                  try clear H a W
                  intro a W H
                  replace H := H.perm' ((((List.Perm.refl _).append_left r19).trans (List.perm_append_comm_assoc r19 r18 (r1 ++ ([] : Hep)))).append_left ([(gr6, .ty 77, bvs bb), (g1, .ty 35, x.cs)] : Hep))
                  replace H : St 166 w a W [(160, .pointer (some ⟨p3, 0, none⟩)), (159, .pointer (some ⟨p7, 0, none⟩)), (158, .bool true), (157, .bool true), (156, .bool true), (155, .int .i64 (0 + 0)), (154, .int .i64 0), (153, .int .i64 0), (152, .pointer (some ⟨p3, 0, none⟩)), (151, .int .i64 0), (150, .int .i64 0), (149, .pointer (some ⟨p7, 0, none⟩)), (148, .bool true), (147, .bool true), (146, .bool true), (145, .pointer (some ⟨p3, 0, none⟩)), (144, .pointer (some ⟨p7, 0, none⟩)), (143, .bool true), (142, .bool true), (141, .int .i64 ((dDo D x.s).2)), (140, .int .i64 ((dDo D x.s).2)), (19, .int .i64 ((dDo D x.s).2)), (18, .int .i64 ((dDo D x.s).2)), (17, .pointer (some ⟨p7, 0, none⟩)), (11, .pointer (some ⟨p3, 0, none⟩))] ((gr6, 77, bvs bb) :: (g1, 35, x.cs) :: (r18 ++ (r19 ++ (r1 ++ ([] : Hep))))) := H
                  replace H : St 166 w a W [(160, .pointer (some ⟨p3, 0, none⟩)), (159, .pointer (some ⟨p7, 0, none⟩)), (158, .bool true), (157, .bool true), (156, .bool true), (155, .int .i64 (0 + 0)), (154, .int .i64 0), (153, .int .i64 0), (152, .pointer (some ⟨p3, 0, none⟩)), (151, .int .i64 0), (150, .int .i64 0), (149, .pointer (some ⟨p7, 0, none⟩)), (148, .bool true), (147, .bool true), (146, .bool true), (145, .pointer (some ⟨p3, 0, none⟩)), (144, .pointer (some ⟨p7, 0, none⟩)), (143, .bool true), (142, .bool true), (141, .int .i64 ((dDo D x.s).2)), (140, .int .i64 ((dDo D x.s).2)), (19, .int .i64 ((dDo D x.s).2)), (18, .int .i64 ((dDo D x.s).2)), (17, .pointer (some ⟨p7, 0, none⟩)), (11, .pointer (some ⟨p3, 0, none⟩))] (r18 ++ (r19 ++ (([(gr6, .ty 77, bvs bb), (g1, .ty 35, x.cs)] : Hep) ++ (r1 ++ ([] : Hep))))) := H.perm' ((List.perm_append_comm_assoc ([(gr6, .ty 77, bvs bb), (g1, .ty 35, x.cs)] : Hep) r18 (r19 ++ (r1 ++ ([] : Hep)))).trans ((List.perm_append_comm_assoc ([(gr6, .ty 77, bvs bb), (g1, .ty 35, x.cs)] : Hep) r19 (r1 ++ ([] : Hep))).append_left r18))
                  refine pl_callV rfl rfl ⟨_, Try.func20, by kernel_rfl⟩ rfl (fun K_ => po_same (hh := (([(gr6, .ty 77, bvs bb), (g1, .ty 35, x.cs)] : Hep) ++ (r1 ++ ([] : Hep)))) hP18 hP19 rfl (fun m => rfl) w _ K_) H ?_
                  try clear H a W
                  intro a W H
                  replace H := H.perm' (((List.perm_append_comm_assoc r19 ([(gr6, .ty 77, bvs bb), (g1, .ty 35, x.cs)] : Hep) (r1 ++ ([] : Hep))).append_left r18).trans (List.perm_append_comm_assoc r18 ([(gr6, .ty 77, bvs bb), (g1, .ty 35, x.cs)] : Hep) (r19 ++ (r1 ++ ([] : Hep)))))
                  replace H : St 166 w a W [(161, .bool true), (160, .pointer (some ⟨p3, 0, none⟩)), (159, .pointer (some ⟨p7, 0, none⟩)), (158, .bool true), (157, .bool true), (156, .bool true), (155, .int .i64 (0 + 0)), (154, .int .i64 0), (153, .int .i64 0), (152, .pointer (some ⟨p3, 0, none⟩)), (151, .int .i64 0), (150, .int .i64 0), (149, .pointer (some ⟨p7, 0, none⟩)), (148, .bool true), (147, .bool true), (146, .bool true), (145, .pointer (some ⟨p3, 0, none⟩)), (144, .pointer (some ⟨p7, 0, none⟩)), (143, .bool true), (142, .bool true), (141, .int .i64 ((dDo D x.s).2)), (140, .int .i64 ((dDo D x.s).2)), (19, .int .i64 ((dDo D x.s).2)), (18, .int .i64 ((dDo D x.s).2)), (17, .pointer (some ⟨p7, 0, none⟩)), (11, .pointer (some ⟨p3, 0, none⟩))] ((gr6, 77, bvs bb) :: (g1, 35, x.cs) :: (r18 ++ (r19 ++ (r1 ++ ([] : Hep))))) := H
                  refine rgO H gs0 (rS 2 rfl <| rV rfl (does_call rfl ⟨_, Try.func11, by kernel_rfl⟩ rfl (fun W hb => known_any W)) <| rS 2 rfl <| rK [1, 0, 0, 0, 0, 0, 0, 0, 0, 0, 0, 0, 0, 0, 0, 0, 0, 0, 0, 0, 0, 0, 0, 0, 0, 0, 0, 0, 0, 0, 0] [] [] <| rZ0 ?_)
                  try clear H a W
                  intro a W H
                  refine hK37 _ _ ?_
                  clear hK37
                  refine wp_ret ?_
                  repeat (first | (with_reducible refine then_ret ?_) | (with_reducible refine blk_ret ?_))
                  refine end_tmp (p := 8) rfl rfl H (fun hb => ?_)
                  exact ⟨rfl, hb⟩
theorem law_apart {A : Option Addr} {len cap gl ol : Nat} {sub : Nat → SH} (bl : Int) (at_ : Int) (x : SH) (w : World) (hL : SL w A len cap gl ol sub) (hx : SOk w w.heap.size x) : Calls Try.prog 4 #[.int .i64 bl, .slice A len cap, .int .i64 at_, .agg x.cs] w (fun rr w' => rr = .returned (.bool true) ∧ Below w.heap.size w w') := by
  by_cases h : bl < 1
  · exact law_apart_neg at_ x w hL hx bl (decide_eq_true h)
  · obtain ⟨nb, rfl⟩ := Int.eq_ofNat_of_zero_le (show 0 ≤ bl by omega)
    exact law_apart_nat at_ x w hL hx nb
end Go.Proofs.Ytiebelmglchbdaa
