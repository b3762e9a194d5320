/- Layer 14's laws: DiskMeans. -/
import Derived.Test.YtiebelmglchbdaaRh
import Derived.Test.YtiebelmglchbdaaRj
namespace Go.Proofs.Ytiebelmglchbdaa
set_option linter.unusedVariables false
set_option linter.unusedSimpArgs false
set_option maxRecDepth 100000
open Go Go.RowKit

theorem crash_Ln (D : Dk) (l : List Int) : (dCrash D l).L.length = 0 := rfl
theorem crash_Bn (D : Dk) (l : List Int) : (dCrash D l).B.length = D.B.length := crash_len _ _ _ _
theorem crash_rd (D : Dk) (l : List Int) (n : Nat) : readB (dCrash D l) n = (dCrash D l).B.getD n [] := rfl
theorem crash_meansR {D : Dk} (h : D.ok) (picks : List Int) (n : Nat) : LeftB D.B D.L n (readB (dCrash D picks) n) ∨ ∃ q k old, D.L.getLast? = some (n, q) ∧ k ≤ 512 ∧ LeftB D.B D.L n old ∧ readB (dCrash D picks) n = tornB k q old := crash_means h picks n
/-- How many blocks of the first k are torn: at most one, the last write's. -/
def TornOk (D : Dk) (k t : Nat) : Prop := t = 0 ∨ (t = 1 ∧ ∃ m q, m < k ∧ D.L.getLast? = some (m, q))
theorem TornOk.le {D : Dk} {k t : Nat} (h : TornOk D k t) : t ≤ 1 := by
  rcases h with h | h
  · omega
  · exact Nat.le_of_eq h.1
theorem TornOk.same {D : Dk} {k t : Nat} (h : TornOk D k t) : TornOk D (k + 1) t := h.imp id fun ⟨h1, m, q, h2, h3⟩ => ⟨h1, m, q, by omega, h3⟩
theorem TornOk.more {D : Dk} {k t : Nat} {q : List UInt8} (h : TornOk D k t) (hl : D.L.getLast? = some (k, q)) : TornOk D (k + 1) (t + 1) := by
  rcases h with h | ⟨_, m, q', hm, hl'⟩
  · exact .inr ⟨by omega, k, q, by omega, hl⟩
  · rw [hl] at hl'
    injection hl' with h1
    injection h1 with h1 _
    omega
attribute [local irreducible] bvs dwa entsI zeroB lastsB stepP lastN xorB rb dWrite dSync dFuse dCrash dEdit dDo readB tornB
set_option maxHeartbeats 32000000 in
theorem law_means_neg {A A3 : Option Addr} {len cap gl ol n3 c3 : Nat} {sub : Nat → SH} {picks : List Int} (w : World) (hL : SL w A len cap gl ol sub) (hQ : IP w w.heap.size A3 n3 picks) (bl : Int) (hneg : decide (bl < 1) = true) : Calls Try.prog 5 #[.int .i64 bl, .slice A len cap, .slice A3 n3 c3] w (fun rr w' => rr = .returned (.bool true) ∧ Below w.heap.size w w') := by
  have hmax := hL.max_
  have hbig := max_big
  have hmax3 := hQ.max_
  refine calls_st (vs := [.int .i64 bl, .slice A len cap, .slice A3 n3 c3]) 114 Try.func5 rfl Try.ntmps5 rfl (fun a W H => ?_)
  replace H : St 114 w a W [(0, .int .i64 bl), (1, .slice A len cap), (2, .slice A3 n3 c3)] (([] : Hep)) := H
  refine sqR H gs0 fun Z_ z_ => rS 1 rfl <| rN0 z_ ?_
  try clear H a W
  intro a W H
  refine wp_seq_k (fun K2 hK2 => ?_)
  refine sqR H gs0 fun Z_ z_ => rV rfl (does_call rfl ⟨_, Try.func11, by kernel_rfl⟩ rfl (fun W hb => known_any W)) <| rS 1 rfl <| rK [1, 0] [] [] <| rN0 z_ ?_
  try clear H a W
  intro a W H
  refine wp_cond_false (H.ev rfl) ?_
  refine wp_skip ?_
  refine hK2 _ _ ?_
  clear hK2
  refine wp_seq_k (fun K4 hK4 => ?_)
  refine wp_seq_k (fun K5 hK5 => ?_)
  refine rg_plain ?_
  refine rgO H gs0 (rS 1 rfl <| rI0 ?_)
  try clear H a W
  intro a W H
  refine pl_callX rfl rfl ⟨_, Try.func10, by kernel_rfl⟩ rfl (fun K_ => much_K (M := 80) w _ hL (by decide) K_) H ?_
  try clear H a W
  rintro b1 a W hb1 H
  replace H : St 114 w a W [(18, .bool b1), (17, .slice A len cap), (16, .bool false), (6, .bool false), (0, .int .i64 bl), (1, .slice A len cap), (2, .slice A3 n3 c3)] (([] : Hep)) := H
  cases hq1 : b1 with
  | true =>
    rw [hq1] at H
    refine rgO H gs0 (rS 13 rfl <| rK [1, 0, 0, 0, 0, 0, 0, 0, 0, 0, 0, 0, 0, 0, 0, 0] [] [] <| rZ0 ?_)
    try clear H a W
    intro a W H
    refine hK5 _ _ ?_
    clear hK5
    refine wp_cond_true (H.ev rfl) ?_
    refine sqR H gs0 fun Z_ z_ => rK [1, 0] [] [] <| rS 1 rfl <| rK [1, 0] [] [] <| rN0 z_ ?_
    try clear H a W
    intro a W H
    refine wp_ret ?_
    repeat (first | (with_reducible refine then_ret ?_) | (with_reducible refine blk_ret ?_))
    refine end_tmp (p := 6) rfl rfl H (fun hb => ?_)
    exact ⟨rfl, hb⟩
  | false =>
    rw [hq1] at H
    have hlen := hb1 hq1
    refine rgO H gs0 (rS 2 rfl <| rV rfl (does_binOp rfl rfl rfl (zd_lss_int (k := bl) (m := 1) hneg _ _)) <| rS 10 rfl <| rK [1, 0, 0, 0, 0, 0, 0, 0, 0, 0, 0, 0, 0, 0, 0, 0] [] [] <| rZ0 ?_)
    try clear H a W
    intro a W H
    refine hK5 _ _ ?_
    clear hK5
    refine wp_cond_true (H.ev rfl) ?_
    refine sqR H gs0 fun Z_ z_ => rK [1, 0] [] [] <| rS 1 rfl <| rK [1, 0] [] [] <| rN0 z_ ?_
    try clear H a W
    intro a W H
    refine wp_ret ?_
    repeat (first | (with_reducible refine then_ret ?_) | (with_reducible refine blk_ret ?_))
    refine end_tmp (p := 6) rfl rfl H (fun hb => ?_)
    exact ⟨rfl, hb⟩
set_option maxHeartbeats 32000000 in
theorem law_means_nat {A A3 : Option Addr} {len cap gl ol n3 c3 : Nat} {sub : Nat → SH} {picks : List Int} (w : World) (hL : SL w A len cap gl ol sub) (hQ : IP w w.heap.size A3 n3 picks) (nb : Nat) : Calls Try.prog 5 #[.int .i64 ((nb : Nat) : Int), .slice A len cap, .slice A3 n3 c3] w (fun rr w' => rr = .returned (.bool true) ∧ Below w.heap.size w w') := by
  have hmax := hL.max_
  have hbig := max_big
  have hmax3 := hQ.max_
  refine calls_st (vs := [.int .i64 ((nb : Nat) : Int), .slice A len cap, .slice A3 n3 c3]) 114 Try.func5 rfl Try.ntmps5 rfl (fun a W H => ?_)
  replace H : St 114 w a W [(0, .int .i64 ((nb : Nat) : Int)), (1, .slice A len cap), (2, .slice A3 n3 c3)] (([] : Hep)) := H
  refine sqR H gs0 fun Z_ z_ => rS 1 rfl <| rN0 z_ ?_
  try clear H a W
  intro a W H
  refine wp_seq_k (fun K2 hK2 => ?_)
  refine sqR H gs0 fun Z_ z_ => rV rfl (does_call rfl ⟨_, Try.func11, by kernel_rfl⟩ rfl (fun W hb => known_any W)) <| rS 1 rfl <| rK [1, 0] [] [] <| rN0 z_ ?_
  try clear H a W
  intro a W H
  refine wp_cond_false (H.ev rfl) ?_
  refine wp_skip ?_
  refine hK2 _ _ ?_
  clear hK2
  refine wp_seq_k (fun K4 hK4 => ?_)
  refine wp_seq_k (fun K5 hK5 => ?_)
  refine rg_plain ?_
  refine rgO H gs0 (rS 1 rfl <| rI0 ?_)
  try clear H a W
  intro a W H
  refine pl_callX rfl rfl ⟨_, Try.func10, by kernel_rfl⟩ rfl (fun K_ => much_K (M := 80) w _ hL (by decide) K_) H ?_
  try clear H a W
  rintro b1 a W hb1 H
  replace H : St 114 w a W [(18, .bool b1), (17, .slice A len cap), (16, .bool false), (6, .bool false), (0, .int .i64 ((nb : Nat) : Int)), (1, .slice A len cap), (2, .slice A3 n3 c3)] (([] : Hep)) := H
  cases hq1 : b1 with
  | true =>
    rw [hq1] at H
    refine rgO H gs0 (rS 13 rfl <| rK [1, 0, 0, 0, 0, 0, 0, 0, 0, 0, 0, 0, 0, 0, 0, 0] [] [] <| rZ0 ?_)
    try clear H a W
    intro a W H
    refine hK5 _ _ ?_
    clear hK5
    refine wp_cond_true (H.ev rfl) ?_
    refine sqR H gs0 fun Z_ z_ => rK [1, 0] [] [] <| rS 1 rfl <| rK [1, 0] [] [] <| rN0 z_ ?_
    try clear H a W
    intro a W H
    refine wp_ret ?_
    repeat (first | (with_reducible refine then_ret ?_) | (with_reducible refine blk_ret ?_))
    refine end_tmp (p := 6) rfl rfl H (fun hb => ?_)
    exact ⟨rfl, hb⟩
  | false =>
    rw [hq1] at H
    have hlen := hb1 hq1
    cases hq2 : decide (((nb : Nat) : Int) < 1) with
    | true =>
      have hq2p := of_decide_eq_true hq2
      refine rgO H gs0 (rS 2 rfl <| rV rfl (does_binOp rfl rfl rfl (zd_lss_int (k := ((nb : Nat) : Int)) (m := 1) hq2 _ _)) <| rS 10 rfl <| rK [1, 0, 0, 0, 0, 0, 0, 0, 0, 0, 0, 0, 0, 0, 0, 0] [] [] <| rZ0 ?_)
      try clear H a W
      intro a W H
      refine hK5 _ _ ?_
      clear hK5
      refine wp_cond_true (H.ev rfl) ?_
      refine sqR H gs0 fun Z_ z_ => rK [1, 0] [] [] <| rS 1 rfl <| rK [1, 0] [] [] <| rN0 z_ ?_
      try clear H a W
      intro a W H
      refine wp_ret ?_
      repeat (first | (with_reducible refine then_ret ?_) | (with_reducible refine blk_ret ?_))
      refine end_tmp (p := 6) rfl rfl H (fun hb => ?_)
      exact ⟨rfl, hb⟩
    | false =>
      have hq2p := of_decide_eq_false hq2
      cases hq3 : decide (40 < ((nb : Nat) : Int)) with
      | true =>
        have hq3p := of_decide_eq_true hq3
        refine rgO H gs0 (rS 2 rfl <| rV rfl (does_binOp rfl rfl rfl (zd_lss_int (k := ((nb : Nat) : Int)) (m := 1) hq2 _ _)) <| rS 3 rfl <| rV rfl (does_binOp rfl rfl rfl (zd_gtr_int (k := ((nb : Nat) : Int)) (m := 40) hq3 _ _)) <| rS 6 rfl <| rK [1, 0, 0, 0, 0, 0, 0, 0, 0, 0, 0, 0, 0, 0, 0, 0] [] [] <| rZ0 ?_)
        try clear H a W
        intro a W H
        refine hK5 _ _ ?_
        clear hK5
        refine wp_cond_true (H.ev rfl) ?_
        refine sqR H gs0 fun Z_ z_ => rK [1, 0] [] [] <| rS 1 rfl <| rK [1, 0] [] [] <| rN0 z_ ?_
        try clear H a W
        intro a W H
        refine wp_ret ?_
        repeat (first | (with_reducible refine then_ret ?_) | (with_reducible refine blk_ret ?_))
        refine end_tmp (p := 6) rfl rfl H (fun hb => ?_)
        exact ⟨rfl, hb⟩
      | false =>
        have hq3p := of_decide_eq_false hq3
        refine rgO H gs0 (rS 2 rfl <| rV rfl (does_binOp rfl rfl rfl (zd_lss_int (k := ((nb : Nat) : Int)) (m := 1) hq2 _ _)) <| rS 3 rfl <| rV rfl (does_binOp rfl rfl rfl (zd_gtr_int (k := ((nb : Nat) : Int)) (m := 40) hq3 _ _)) <| rS 3 rfl <| rV rfl (does_len Try.underlying33 rfl rfl) <| rV rfl (does_binOp rfl rfl rfl (zd_gtr_int (k := ((n3 : Nat) : Int)) (m := 1000) rfl _ _)) <| rS 1 rfl <| rK [1, 0, 0, 0, 0, 0, 0, 0, 0, 0, 0, 0, 0, 0, 0, 0] [] [] <| rZ0 ?_)
        try clear H a W
        intro a W H
        refine hK5 _ _ ?_
        clear hK5
        cases hq4 : decide (1000 < ((n3 : Nat) : Int)) with
        | true =>
          rw [hq4] at H
          have hq4p := of_decide_eq_true hq4
          refine wp_cond_true (H.ev rfl) ?_
          refine sqR H gs0 fun Z_ z_ => rK [1, 0] [] [] <| rS 1 rfl <| rK [1, 0] [] [] <| rN0 z_ ?_
          try clear H a W
          intro a W H
          refine wp_ret ?_
          repeat (first | (with_reducible refine then_ret ?_) | (with_reducible refine blk_ret ?_))
          refine end_tmp (p := 6) rfl rfl H (fun hb => ?_)
          exact ⟨rfl, hb⟩
        | false =>
          rw [hq4] at H
          have hq4p := of_decide_eq_false hq4
          refine wp_cond_false (H.ev rfl) ?_
          refine wp_skip ?_
          refine hK4 _ _ ?_
          clear hK4
          refine wp_seq_k (fun K10 hK10 => ?_)
          refine rgP H gs0 (rS 1 rfl <| rI0 ?_)
          try clear H a W
          intro a W H
          replace H : St 114 w a W [(33, .int .i64 ((nb : Nat) : Int)), (31, .bool false), (6, .bool false), (0, .int .i64 ((nb : Nat) : Int)), (1, .slice A len cap), (2, .slice A3 n3 c3)] (([] : Hep) ++ ([] : Hep)) := H
          refine pl_callX rfl rfl ⟨_, Try.func12, by kernel_rfl⟩ rfl (fun K_ => po_new (hh := (([] : Hep) ++ ([] : Hep))) nb (by omega) w _ K_) H ?_
          try clear H a W
          rintro ⟨p2, r2⟩ a W hP2 H
          replace hP2 : PO p2 (dNew nb) r2 := hP2
          replace H := H.perm' (List.perm_append_comm_assoc r2 ([] : Hep) ([] : Hep))
          replace H : St 114 w a W [(34, .tuple #[.pointer (some ⟨p2, 0, none⟩), .int .i64 0]), (33, .int .i64 ((nb : Nat) : Int)), (31, .bool false), (6, .bool false), (0, .int .i64 ((nb : Nat) : Int)), (1, .slice A len cap), (2, .slice A3 n3 c3)] ((r2 ++ ([] : Hep))) := H
          refine rgO H gs0 (rS 5 rfl <| rK [0, 1, 0, 0, 0, 0, 0, 0] [] [] <| rZ0 ?_)
          try clear H a W
          intro a W H
          refine hK10 _ _ ?_
          clear hK10
          refine wp_seq_k (fun K11 hK11 => ?_)
          refine rgP H gs0 (rS 1 rfl <| rI0 ?_)
          try clear H a W
          intro a W H
          replace H : St 114 w a W [(37, .int .i64 ((nb : Nat) : Int)), (7, .pointer (some ⟨p2, 0, none⟩)), (6, .bool false), (0, .int .i64 ((nb : Nat) : Int)), (1, .slice A len cap), (2, .slice A3 n3 c3)] (([] : Hep) ++ (r2 ++ ([] : Hep))) := H
          refine pl_callX rfl rfl ⟨_, Try.func14, by kernel_rfl⟩ rfl (fun K_ => ro_new (hh := (([] : Hep) ++ (r2 ++ ([] : Hep)))) nb (by omega) w _ K_) H ?_
          try clear H a W
          rintro ⟨p3, r3⟩ a W hP3 H
          replace hP3 : RO p3 (dNew nb) r3 := hP3
          replace H := H.perm' (List.perm_append_comm_assoc r3 ([] : Hep) (r2 ++ ([] : Hep)))
          replace H : St 114 w a W [(38, .pointer (some ⟨p3, 0, none⟩)), (37, .int .i64 ((nb : Nat) : Int)), (7, .pointer (some ⟨p2, 0, none⟩)), (6, .bool false), (0, .int .i64 ((nb : Nat) : Int)), (1, .slice A len cap), (2, .slice A3 n3 c3)] ((r3 ++ (r2 ++ ([] : Hep)))) := H
          refine rgO H gs0 (rS 1 rfl <| rK [1, 0, 0] [] [] <| rZ0 ?_)
          try clear H a W
          intro a W H
          refine hK11 _ _ ?_
          clear hK11
          refine wp_seq_k (fun K12 hK12 => ?_)
          refine sqR H gs0 fun Z_ z_ => rS 1 rfl <| rV rfl (does_binOp rfl rfl rfl (fun W => ptr_nil W)) <| rK [1, 0] [] [] <| rN0 z_ ?_
          try clear H a W
          intro a W H
          refine wp_cond_false (H.ev rfl) ?_
          refine wp_skip ?_
          refine hK12 _ _ ?_
          clear hK12
          refine wp_seq_k (fun K14 hK14 => ?_)
          refine sqR H gs0 fun Z_ z_ => rS 1 rfl <| rK [1, 0] [] [] <| rN0 z_ ?_
          try clear H a W
          intro a W H
          refine wp_block ?_
          replace H := H.perm' ((((List.Perm.refl _).append_left r3).trans (List.perm_append_comm_assoc r3 r2 ([] : Hep))).append_left ([] : Hep))
          replace H : St 114 w a W [(10, .int .i64 0), (9, .pointer (some ⟨p3, 0, none⟩)), (7, .pointer (some ⟨p2, 0, none⟩)), (6, .bool false), (0, .int .i64 ((nb : Nat) : Int)), (1, .slice A len cap), (2, .slice A3 n3 c3)] ((r2 ++ (r3 ++ ([] : Hep)))) := H
          replace H : St 114 w a W [(10, .int .i64 0), (9, .pointer (some ⟨p3, 0, none⟩)), (7, .pointer (some ⟨p2, 0, none⟩)), (0, .int .i64 ((nb : Nat) : Int)), (1, .slice A len cap), (2, .slice A3 n3 c3)] ((r2 ++ (r3 ++ ([] : Hep)))) := H.pickF (h := []) (t := (r2 ++ (r3 ++ ([] : Hep)))) [0, 1, 2, 4, 5, 6] [] rfl
          refine wp_rounds len (fun k a W => ∃ D r1 r2, (PO p2 D r1 ∧ RO p3 D r2 ∧ D.B.length = nb ∧ D.L.length ≤ k) ∧ St 114 w a W [(10, .int .i64 ((k : Nat) : Int)), (9, .pointer (some ⟨p3, 0, none⟩)), (7, .pointer (some ⟨p2, 0, none⟩)), (0, .int .i64 ((nb : Nat) : Int)), (1, .slice A len cap), (2, .slice A3 n3 c3)] ((r1 ++ (r2 ++ ([] : Hep))))) (k0 := 0) ⟨(dNew nb), r2, r3, ⟨hP2, hP3, List.length_replicate, Nat.zero_le _⟩, H⟩ (by omega) ?_
          try clear H a W
          rintro k a W hk ⟨D, r1, r2, hJ, H⟩
          by_cases hk2 : k < len
          · have hDl := hJ.2.2.2
            refine wp_seq_k (fun K16 hK16 => ?_)
            refine sqR H gs0 fun Z_ z_ => rS 2 rfl <| rV rfl (does_len Try.underlying22 rfl rfl) <| rV rfl (does_binOp rfl rfl rfl (zd_lss_int (k := ((k : Nat) : Int)) (m := ((len : Nat) : Int)) (decide_eq_true (by omega)) _ _)) <| rN0 z_ ?_
            try clear H a W
            intro a W H
            refine wp_cond_true (H.ev rfl) ?_
            refine wp_skip ?_
            refine hK16 _ _ ?_
            clear hK16
            refine wp_seq_k (fun K18 hK18 => ?_)
            refine wp_block ?_
            refine wp_seq_k (fun K19 hK19 => ?_)
            refine wp_seq_k (fun K20 hK20 => ?_)
            cases hq5 : decide (((sub k).s.k) = 4) with
            | true =>
              have hq5p := of_decide_eq_true hq5
              refine rgP H gs0 (rS 2 rfl <| rV rfl (does_indexAddr rfl rfl rfl (ia_steps (j := k) (hL.at_ (by omega)).1 (by omega))) <| rV rfl (does_fieldAddr rfl rfl fa_step0) <| rV rfl (does_loadCell (v := .int .i64 ((sub k).s.k)) rfl rfl ((hL.at_ (by omega)).2.2 k (by omega) 0 _ rfl) (hL.at_ (by omega)).2.1 ld_intP) <| rV rfl (does_binOp rfl rfl rfl (zd_eql_int (k := ((sub k).s.k)) (m := 4) hq5 _ _)) <| rS 8 rfl <| rZ0 ?_)
              try clear H a W
              intro a W H
              refine hK20 _ _ ?_
              clear hK20
              refine wp_cond_true (H.ev rfl) ?_
              refine sqR H gs0 fun Z_ z_ => rS 1 rfl <| rN0 z_ ?_
              try clear H a W
              intro a W H
              refine wp_ret ?_
              repeat (first | (with_reducible refine then_ret ?_) | (with_reducible refine blk_ret ?_))
              refine end_tmp (p := 6) rfl rfl H (fun hb => ?_)
              exact ⟨rfl, hb⟩
            | false =>
              have hq5p := of_decide_eq_false hq5
              refine rgP H gs0 (rS 2 rfl <| rV rfl (does_indexAddr rfl rfl rfl (ia_steps (j := k) (hL.at_ (by omega)).1 (by omega))) <| rV rfl (does_fieldAddr rfl rfl fa_step0) <| rV rfl (does_loadCell (v := .int .i64 ((sub k).s.k)) rfl rfl ((hL.at_ (by omega)).2.2 k (by omega) 0 _ rfl) (hL.at_ (by omega)).2.1 ld_intP) <| rV rfl (does_binOp rfl rfl rfl (zd_eql_int (k := ((sub k).s.k)) (m := 4) hq5 _ _)) <| rS 3 rfl <| rV rfl (does_indexAddr rfl rfl rfl (ia_steps (j := k) (hL.at_ (by omega)).1 (by omega))) <| rV rfl (does_fieldAddr rfl rfl fa_step0) <| rV rfl (does_loadCell (v := .int .i64 ((sub k).s.k)) rfl rfl ((hL.at_ (by omega)).2.2 k (by omega) 0 _ rfl) (hL.at_ (by omega)).2.1 ld_intP) <| rV rfl (does_binOp rfl rfl rfl (zd_eql_int (k := ((sub k).s.k)) (m := 5) rfl _ _)) <| rS 1 rfl <| rZ0 ?_)
              try clear H a W
              intro a W H
              refine hK20 _ _ ?_
              clear hK20
              cases hq6 : decide (((sub k).s.k) = 5) with
              | true =>
                rw [hq6] at H
                have hq6p := of_decide_eq_true hq6
                refine wp_cond_true (H.ev rfl) ?_
                refine sqR H gs0 fun Z_ z_ => rS 1 rfl <| rN0 z_ ?_
                try clear H a W
                intro a W H
                refine wp_ret ?_
                repeat (first | (with_reducible refine then_ret ?_) | (with_reducible refine blk_ret ?_))
                refine end_tmp (p := 6) rfl rfl H (fun hb => ?_)
                exact ⟨rfl, hb⟩
              | false =>
                rw [hq6] at H
                have hq6p := of_decide_eq_false hq6
                refine wp_cond_false (H.ev rfl) ?_
                refine wp_skip ?_
                refine hK19 _ _ ?_
                clear hK19
                refine wp_seq_k (fun K23 hK23 => ?_)
                refine rgP H gs0 (rS 3 rfl <| rV rfl (does_indexAddr rfl rfl rfl (ia_steps (j := k) (hL.at_ (by omega)).1 (by omega))) <| rV rfl (does_stepO (y := sub k) rfl rfl (hL.at_ (by omega)).2.1 ((hL.at_ (by omega)).2.2 k (by omega))) <| rI0 ?_)
                try clear H a W
                intro a W H
                replace H : St 114 w a W [(65, .agg ((sub k).cs)), (64, .pointer (some ⟨gl, ol + k * 5, none⟩)), (63, .int .i64 ((k : Nat) : Int)), (62, .slice A len cap), (61, .pointer (some ⟨p2, 0, none⟩)), (60, .bool false), (59, .bool false), (58, .int .i64 ((sub k).s.k)), (57, .pointer (some ⟨gl, ol + k * 5, none⟩)), (56, .pointer (some ⟨gl, ol + k * 5, none⟩)), (55, .int .i64 ((k : Nat) : Int)), (54, .slice A len cap), (53, .bool false), (52, .bool false), (51, .int .i64 ((sub k).s.k)), (50, .pointer (some ⟨gl, ol + k * 5, none⟩)), (49, .pointer (some ⟨gl, ol + k * 5, none⟩)), (48, .int .i64 ((k : Nat) : Int)), (47, .slice A len cap), (44, .bool true), (43, .int .i64 ((len : Nat) : Int)), (42, .slice A len cap), (41, .int .i64 ((k : Nat) : Int)), (10, .int .i64 ((k : Nat) : Int)), (9, .pointer (some ⟨p3, 0, none⟩)), (7, .pointer (some ⟨p2, 0, none⟩)), (0, .int .i64 ((nb : Nat) : Int)), (1, .slice A len cap), (2, .slice A3 n3 c3)] (r1 ++ (([] : Hep) ++ (r2 ++ ([] : Hep)))) := H.perm' (((List.Perm.refl _).append_left ([] : Hep)).trans (List.perm_append_comm_assoc ([] : Hep) r1 (r2 ++ ([] : Hep))))
                refine pl_callX rfl rfl ⟨_, Try.func15, by kernel_rfl⟩ rfl (fun K_ => do_K (hh := (([] : Hep) ++ (r2 ++ ([] : Hep)))) w _ hJ.1 (sub k) (hL.ok k (by omega)) (by omega) K_) H ?_
                try clear H a W
                rintro r4 a W hP4 H
                replace hP4 : PO p2 (dDo D (sub k).s).1 r4 := hP4
                replace H := H.perm' (List.perm_append_comm_assoc r4 ([] : Hep) (r2 ++ ([] : Hep)))
                replace H : St 114 w a W [(66, .int .i64 ((dDo D (sub k).s).2)), (65, .agg ((sub k).cs)), (64, .pointer (some ⟨gl, ol + k * 5, none⟩)), (63, .int .i64 ((k : Nat) : Int)), (62, .slice A len cap), (61, .pointer (some ⟨p2, 0, none⟩)), (60, .bool false), (59, .bool false), (58, .int .i64 ((sub k).s.k)), (57, .pointer (some ⟨gl, ol + k * 5, none⟩)), (56, .pointer (some ⟨gl, ol + k * 5, none⟩)), (55, .int .i64 ((k : Nat) : Int)), (54, .slice A len cap), (53, .bool false), (52, .bool false), (51, .int .i64 ((sub k).s.k)), (50, .pointer (some ⟨gl, ol + k * 5, none⟩)), (49, .pointer (some ⟨gl, ol + k * 5, none⟩)), (48, .int .i64 ((k : Nat) : Int)), (47, .slice A len cap), (44, .bool true), (43, .int .i64 ((len : Nat) : Int)), (42, .slice A len cap), (41, .int .i64 ((k : Nat) : Int)), (10, .int .i64 ((k : Nat) : Int)), (9, .pointer (some ⟨p3, 0, none⟩)), (7, .pointer (some ⟨p2, 0, none⟩)), (0, .int .i64 ((nb : Nat) : Int)), (1, .slice A len cap), (2, .slice A3 n3 c3)] ((r4 ++ (r2 ++ ([] : Hep)))) := H
                refine rgO H gs0 (rK [0] [] [] <| rZ0 ?_)
                try clear H a W
                intro a W H
                refine hK23 _ _ ?_
                clear hK23
                refine rgP H gs0 (rS 3 rfl <| rV rfl (does_indexAddr rfl rfl rfl (ia_steps (j := k) (hL.at_ (by omega)).1 (by omega))) <| rV rfl (does_stepO (y := sub k) rfl rfl (hL.at_ (by omega)).2.1 ((hL.at_ (by omega)).2.2 k (by omega))) <| rI0 ?_)
                try clear H a W
                intro a W H
                replace H : St 114 w a W [(71, .agg ((sub k).cs)), (70, .pointer (some ⟨gl, ol + k * 5, none⟩)), (69, .int .i64 ((k : Nat) : Int)), (68, .slice A len cap), (67, .pointer (some ⟨p3, 0, none⟩)), (65, .agg ((sub k).cs)), (64, .pointer (some ⟨gl, ol + k * 5, none⟩)), (63, .int .i64 ((k : Nat) : Int)), (62, .slice A len cap), (61, .pointer (some ⟨p2, 0, none⟩)), (60, .bool false), (59, .bool false), (58, .int .i64 ((sub k).s.k)), (57, .pointer (some ⟨gl, ol + k * 5, none⟩)), (56, .pointer (some ⟨gl, ol + k * 5, none⟩)), (55, .int .i64 ((k : Nat) : Int)), (54, .slice A len cap), (53, .bool false), (52, .bool false), (51, .int .i64 ((sub k).s.k)), (50, .pointer (some ⟨gl, ol + k * 5, none⟩)), (49, .pointer (some ⟨gl, ol + k * 5, none⟩)), (48, .int .i64 ((k : Nat) : Int)), (47, .slice A len cap), (44, .bool true), (43, .int .i64 ((len : Nat) : Int)), (42, .slice A len cap), (41, .int .i64 ((k : Nat) : Int)), (10, .int .i64 ((k : Nat) : Int)), (9, .pointer (some ⟨p3, 0, none⟩)), (7, .pointer (some ⟨p2, 0, none⟩)), (0, .int .i64 ((nb : Nat) : Int)), (1, .slice A len cap), (2, .slice A3 n3 c3)] (r2 ++ (([] : Hep) ++ (r4 ++ ([] : Hep)))) := H.perm' (((((List.Perm.refl _).append_left r4).trans (List.perm_append_comm_assoc r4 r2 ([] : Hep))).append_left ([] : Hep)).trans (List.perm_append_comm_assoc ([] : Hep) r2 (r4 ++ ([] : Hep))))
                refine pl_callX rfl rfl ⟨_, Try.func16, by kernel_rfl⟩ rfl (fun K_ => do_R (hh := (([] : Hep) ++ (r4 ++ ([] : Hep)))) w _ hJ.2.1 (sub k) (hL.ok k (by omega)) (by omega) K_) H ?_
                try clear H a W
                rintro r5 a W hP5 H
                replace hP5 : RO p3 (dDo D (sub k).s).1 r5 := hP5
                replace H := H.perm' (List.perm_append_comm_assoc r5 ([] : Hep) (r4 ++ ([] : Hep)))
                replace H : St 114 w a W [(72, .int .i64 ((dDo D (sub k).s).2)), (71, .agg ((sub k).cs)), (70, .pointer (some ⟨gl, ol + k * 5, none⟩)), (69, .int .i64 ((k : Nat) : Int)), (68, .slice A len cap), (67, .pointer (some ⟨p3, 0, none⟩)), (65, .agg ((sub k).cs)), (64, .pointer (some ⟨gl, ol + k * 5, none⟩)), (63, .int .i64 ((k : Nat) : Int)), (62, .slice A len cap), (61, .pointer (some ⟨p2, 0, none⟩)), (60, .bool false), (59, .bool false), (58, .int .i64 ((sub k).s.k)), (57, .pointer (some ⟨gl, ol + k * 5, none⟩)), (56, .pointer (some ⟨gl, ol + k * 5, none⟩)), (55, .int .i64 ((k : Nat) : Int)), (54, .slice A len cap), (53, .bool false), (52, .bool false), (51, .int .i64 ((sub k).s.k)), (50, .pointer (some ⟨gl, ol + k * 5, none⟩)), (49, .pointer (some ⟨gl, ol + k * 5, none⟩)), (48, .int .i64 ((k : Nat) : Int)), (47, .slice A len cap), (44, .bool true), (43, .int .i64 ((len : Nat) : Int)), (42, .slice A len cap), (41, .int .i64 ((k : Nat) : Int)), (10, .int .i64 ((k : Nat) : Int)), (9, .pointer (some ⟨p3, 0, none⟩)), (7, .pointer (some ⟨p2, 0, none⟩)), (0, .int .i64 ((nb : Nat) : Int)), (1, .slice A len cap), (2, .slice A3 n3 c3)] ((r5 ++ (r4 ++ ([] : Hep)))) := H
                refine rgO H gs0 (rK [0] [] [] <| rZ0 ?_)
                try clear H a W
                intro a W H
                refine blk_normal ?_
                refine hK18 _ _ ?_
                clear hK18
                refine rgP H gs0 (rS 1 rfl <| rV rfl (does_binOp rfl rfl rfl (zd_add_int (k := ((k : Nat) : Int)) (m := 1) (c := ((k + 1 : Nat) : Int)) (by omega) (by omega) _ _)) <| rK [1, 1, 1, 1, 1, 1, 1, 1, 1, 1, 1, 1, 1, 1, 1, 1, 1, 1, 1, 1, 1, 1, 1, 1, 1, 1, 1, 1, 1, 1, 0] [] [] <| rS 1 rfl <| rZ0 ?_)
                try clear H a W
                intro a W H
                replace H := H.perm' ((((List.Perm.refl _).append_left r5).trans (List.perm_append_comm_assoc r5 r4 ([] : Hep))).append_left ([] : Hep))
                replace H : St 114 w a W [(10, .int .i64 ((k + 1 : Nat) : Int)), (46, .int .i64 ((k + 1 : Nat) : Int)), (45, .int .i64 ((k : Nat) : Int)), (71, .agg ((sub k).cs)), (70, .pointer (some ⟨gl, ol + k * 5, none⟩)), (69, .int .i64 ((k : Nat) : Int)), (68, .slice A len cap), (67, .pointer (some ⟨p3, 0, none⟩)), (65, .agg ((sub k).cs)), (64, .pointer (some ⟨gl, ol + k * 5, none⟩)), (63, .int .i64 ((k : Nat) : Int)), (62, .slice A len cap), (61, .pointer (some ⟨p2, 0, none⟩)), (60, .bool false), (59, .bool false), (58, .int .i64 ((sub k).s.k)), (57, .pointer (some ⟨gl, ol + k * 5, none⟩)), (56, .pointer (some ⟨gl, ol + k * 5, none⟩)), (55, .int .i64 ((k : Nat) : Int)), (54, .slice A len cap), (53, .bool false), (52, .bool false), (51, .int .i64 ((sub k).s.k)), (50, .pointer (some ⟨gl, ol + k * 5, none⟩)), (49, .pointer (some ⟨gl, ol + k * 5, none⟩)), (48, .int .i64 ((k : Nat) : Int)), (47, .slice A len cap), (44, .bool true), (43, .int .i64 ((len : Nat) : Int)), (42, .slice A len cap), (41, .int .i64 ((k : Nat) : Int)), (9, .pointer (some ⟨p3, 0, none⟩)), (7, .pointer (some ⟨p2, 0, none⟩)), (0, .int .i64 ((nb : Nat) : Int)), (1, .slice A len cap), (2, .slice A3 n3 c3)] ((r4 ++ (r5 ++ ([] : Hep)))) := H
                refine ⟨k + 1, by omega, by omega, (dDo D (sub k).s).1, r4, r5, ⟨hP4, hP5, (do_len _ _).1.trans hJ.2.2.1, Nat.le_trans (do_len _ _).2 (by omega)⟩, ?_⟩
                exact H.pickF (h := []) (t := (r4 ++ (r5 ++ ([] : Hep)))) [0, 31, 32, 33, 34, 35] [] rfl
          · obtain rfl : len = k := by omega
            refine wp_seq_k (fun K24 hK24 => ?_)
            refine sqR H gs0 fun Z_ z_ => rS 2 rfl <| rV rfl (does_len Try.underlying22 rfl rfl) <| rV rfl (does_binOp rfl rfl rfl (zd_lss_int (k := ((len : Nat) : Int)) (m := ((len : Nat) : Int)) (decide_eq_false (by omega)) _ _)) <| rK [1, 0, 0, 0] [] [] <| rN0 z_ ?_
            try clear H a W
            intro a W H
            refine wp_cond_false (H.ev rfl) ?_
            refine wp_exit ?_
            repeat (first | (with_reducible refine then_exit ?_) | (with_reducible refine blk_pass (by decide) ?_))
            refine blk_exit ?_
            have hDl := hJ.2.2.2
            have hDn := hJ.2.2.1
            have hcl := crash_Ln D picks
            have hcb := crash_Bn D picks
            refine hK14 _ _ ?_
            clear hK14
            refine wp_seq_k (fun K26 hK26 => ?_)
            refine wp_seq_k (fun K27 hK27 => ?_)
            refine rgP H gs0 (rS 2 rfl <| rI0 ?_)
            try clear H a W
            intro a W H
            replace H : St 114 w a W [(74, .slice A3 n3 c3), (73, .pointer (some ⟨p2, 0, none⟩)), (44, .bool false), (10, .int .i64 ((len : Nat) : Int)), (9, .pointer (some ⟨p3, 0, none⟩)), (7, .pointer (some ⟨p2, 0, none⟩)), (0, .int .i64 ((nb : Nat) : Int)), (1, .slice A len cap), (2, .slice A3 n3 c3)] (r1 ++ (([] : Hep) ++ (r2 ++ ([] : Hep)))) := H.perm' (((List.Perm.refl _).append_left ([] : Hep)).trans (List.perm_append_comm_assoc ([] : Hep) r1 (r2 ++ ([] : Hep))))
            refine pl_callX rfl rfl ⟨_, Try.func23, by kernel_rfl⟩ rfl (fun K_ => po_crash (hh := (([] : Hep) ++ (r2 ++ ([] : Hep)))) w hJ.1 (hQ.pk _) (by omega) _ K_) H ?_
            try clear H a W
            rintro r6 a W hP6 H
            replace hP6 : PO p2 (dCrash D picks) r6 := hP6
            replace H := H.perm' (List.perm_append_comm_assoc r6 ([] : Hep) (r2 ++ ([] : Hep)))
            replace H : St 114 w a W [(75, .int .i64 0), (74, .slice A3 n3 c3), (73, .pointer (some ⟨p2, 0, none⟩)), (44, .bool false), (10, .int .i64 ((len : Nat) : Int)), (9, .pointer (some ⟨p3, 0, none⟩)), (7, .pointer (some ⟨p2, 0, none⟩)), (0, .int .i64 ((nb : Nat) : Int)), (1, .slice A len cap), (2, .slice A3 n3 c3)] ((r6 ++ (r2 ++ ([] : Hep)))) := H
            refine rgO H gs0 (rV rfl (does_call rfl ⟨_, Try.func13, by kernel_rfl⟩ rfl (fun W hb => num_any _ W)) <| rV rfl (does_binOp rfl rfl rfl (zd_neq_int (k := 0) (m := 0) (decide_eq_false (by omega)) _ _)) <| rS 2 rfl <| rI0 ?_)
            try clear H a W
            intro a W H
            replace H : St 114 w a W [(79, .pointer (some ⟨p2, 0, none⟩)), (78, .bool false), (77, .bool false), (76, .int .i64 0), (75, .int .i64 0), (74, .slice A3 n3 c3), (73, .pointer (some ⟨p2, 0, none⟩)), (44, .bool false), (10, .int .i64 ((len : Nat) : Int)), (9, .pointer (some ⟨p3, 0, none⟩)), (7, .pointer (some ⟨p2, 0, none⟩)), (0, .int .i64 ((nb : Nat) : Int)), (1, .slice A len cap), (2, .slice A3 n3 c3)] (r6 ++ (([] : Hep) ++ (r2 ++ ([] : Hep)))) := H.perm' (((List.Perm.refl _).append_left ([] : Hep)).trans (List.perm_append_comm_assoc ([] : Hep) r6 (r2 ++ ([] : Hep))))
            refine pl_callV rfl rfl ⟨_, Try.func22, by kernel_rfl⟩ rfl (fun K_ => by have h_ := po_dead (hh := (([] : Hep) ++ (r2 ++ ([] : Hep)))) hP6 w _ K_; rw [(crash_dead _ _)] at h_; exact h_) H ?_
            try clear H a W
            intro a W H
            replace H := H.perm' (List.perm_append_comm_assoc r6 ([] : Hep) (r2 ++ ([] : Hep)))
            replace H : St 114 w a W [(80, .bool false), (79, .pointer (some ⟨p2, 0, none⟩)), (78, .bool false), (77, .bool false), (76, .int .i64 0), (75, .int .i64 0), (74, .slice A3 n3 c3), (73, .pointer (some ⟨p2, 0, none⟩)), (44, .bool false), (10, .int .i64 ((len : Nat) : Int)), (9, .pointer (some ⟨p3, 0, none⟩)), (7, .pointer (some ⟨p2, 0, none⟩)), (0, .int .i64 ((nb : Nat) : Int)), (1, .slice A len cap), (2, .slice A3 n3 c3)] ((r6 ++ (r2 ++ ([] : Hep)))) := H
            refine rgO H gs0 (rS 3 rfl <| rI0 ?_)
            try clear H a W
            intro a W H
            replace H : St 114 w a W [(83, .pointer (some ⟨p2, 0, none⟩)), (82, .bool false), (81, .bool false), (80, .bool false), (79, .pointer (some ⟨p2, 0, none⟩)), (78, .bool false), (77, .bool false), (76, .int .i64 0), (75, .int .i64 0), (74, .slice A3 n3 c3), (73, .pointer (some ⟨p2, 0, none⟩)), (44, .bool false), (10, .int .i64 ((len : Nat) : Int)), (9, .pointer (some ⟨p3, 0, none⟩)), (7, .pointer (some ⟨p2, 0, none⟩)), (0, .int .i64 ((nb : Nat) : Int)), (1, .slice A len cap), (2, .slice A3 n3 c3)] (r6 ++ (([] : Hep) ++ (r2 ++ ([] : Hep)))) := H.perm' (((List.Perm.refl _).append_left ([] : Hep)).trans (List.perm_append_comm_assoc ([] : Hep) r6 (r2 ++ ([] : Hep))))
            refine pl_callV rfl rfl ⟨_, Try.func21, by kernel_rfl⟩ rfl (fun K_ => po_unsynced (hh := (([] : Hep) ++ (r2 ++ ([] : Hep)))) hP6 w _ K_) H ?_
            try clear H a W
            intro a W H
            replace H := H.perm' (List.perm_append_comm_assoc r6 ([] : Hep) (r2 ++ ([] : Hep)))
            replace H : St 114 w a W [(84, .int .i64 (((dCrash D picks).L.length : Nat) : Int)), (83, .pointer (some ⟨p2, 0, none⟩)), (82, .bool false), (81, .bool false), (80, .bool false), (79, .pointer (some ⟨p2, 0, none⟩)), (78, .bool false), (77, .bool false), (76, .int .i64 0), (75, .int .i64 0), (74, .slice A3 n3 c3), (73, .pointer (some ⟨p2, 0, none⟩)), (44, .bool false), (10, .int .i64 ((len : Nat) : Int)), (9, .pointer (some ⟨p3, 0, none⟩)), (7, .pointer (some ⟨p2, 0, none⟩)), (0, .int .i64 ((nb : Nat) : Int)), (1, .slice A len cap), (2, .slice A3 n3 c3)] ((r6 ++ (r2 ++ ([] : Hep)))) := H
            refine rgO H gs0 (rV rfl (does_binOp rfl rfl rfl (zd_neq_int (k := (((dCrash D picks).L.length : Nat) : Int)) (m := 0) (decide_eq_false (by omega)) _ _)) <| rS 1 rfl <| rK [1, 0, 0, 0, 0, 0, 0, 0, 0, 0, 0, 0, 0, 0, 0, 0, 1, 1, 1, 0, 0] [] [] <| rZ0 ?_)
            try clear H a W
            intro a W H
            refine hK27 _ _ ?_
            clear hK27
            refine wp_cond_false (H.ev rfl) ?_
            refine wp_skip ?_
            refine hK26 _ _ ?_
            clear hK26
            refine sqR H gs0 fun Z_ z_ => rS 1 rfl <| rK [1, 0] [] [] <| rN0 z_ ?_
            try clear H a W
            intro a W H
            refine wp_seq_k (fun K29 hK29 => ?_)
            refine sqR H gs0 fun Z_ z_ => rS 1 rfl <| rN0 z_ ?_
            try clear H a W
            intro a W H
            refine wp_block ?_
            replace H := H.perm' ((((List.Perm.refl _).append_left r6).trans (List.perm_append_comm_assoc r6 r2 ([] : Hep))).append_left ([] : Hep))
            replace H : St 114 w a W [(12, .int .i64 0), (11, .int .i64 0), (9, .pointer (some ⟨p3, 0, none⟩)), (7, .pointer (some ⟨p2, 0, none⟩)), (0, .int .i64 ((nb : Nat) : Int))] ((r2 ++ (r6 ++ ([] : Hep)))) := H
            replace H := H.perm' ((((List.Perm.refl _).append_left r2).trans (List.perm_append_comm_assoc r2 r6 ([] : Hep))).append_left ([] : Hep))
            replace H : St 114 w a W [(12, .int .i64 0), (11, .int .i64 0), (9, .pointer (some ⟨p3, 0, none⟩)), (7, .pointer (some ⟨p2, 0, none⟩)), (0, .int .i64 ((nb : Nat) : Int))] ((r6 ++ (r2 ++ ([] : Hep)))) := H
            replace H : St 114 w a W [(12, .int .i64 0), (11, .int .i64 0), (9, .pointer (some ⟨p3, 0, none⟩)), (7, .pointer (some ⟨p2, 0, none⟩)), (0, .int .i64 ((nb : Nat) : Int))] ((r6 ++ (r2 ++ ([] : Hep)))) := H.pickF (h := []) (t := (r6 ++ (r2 ++ ([] : Hep)))) [0, 1, 2, 3, 4] [] rfl
            refine wp_rounds nb (fun n a W => ∃ t, (TornOk D n t ∧ True) ∧ St 114 w a W [(12, .int .i64 ((n : Nat) : Int)), (11, .int .i64 ((t : Nat) : Int)), (9, .pointer (some ⟨p3, 0, none⟩)), (7, .pointer (some ⟨p2, 0, none⟩)), (0, .int .i64 ((nb : Nat) : Int))] ((r6 ++ (r2 ++ ([] : Hep))))) (k0 := 0) ⟨0, ⟨.inl rfl, trivial⟩, H⟩ (by omega) ?_
            try clear H a W
            rintro n a W hn ⟨t, hT, H⟩
            by_cases hn2 : n < nb
            · have htl := hT.1.le
              refine wp_seq_k (fun K31 hK31 => ?_)
              refine sqR H gs0 fun Z_ z_ => rS 2 rfl <| rV rfl (does_binOp rfl rfl rfl (zd_lss_int (k := ((n : Nat) : Int)) (m := ((nb : Nat) : Int)) (decide_eq_true (by omega)) _ _)) <| rN0 z_ ?_
              try clear H a W
              intro a W H
              refine wp_cond_true (H.ev rfl) ?_
              refine wp_skip ?_
              refine hK31 _ _ ?_
              clear hK31
              refine wp_seq_k (fun K33 hK33 => ?_)
              refine wp_block ?_
              refine wp_seq_k (fun K34 hK34 => ?_)
              refine rgP H gs0 (rS 2 rfl <| rI0 ?_)
              try clear H a W
              intro a W H
              replace H : St 114 w a W [(94, .int .i64 ((n : Nat) : Int)), (93, .pointer (some ⟨p2, 0, none⟩)), (89, .bool true), (88, .int .i64 ((nb : Nat) : Int)), (87, .int .i64 ((n : Nat) : Int)), (12, .int .i64 ((n : Nat) : Int)), (11, .int .i64 ((t : Nat) : Int)), (9, .pointer (some ⟨p3, 0, none⟩)), (7, .pointer (some ⟨p2, 0, none⟩)), (0, .int .i64 ((nb : Nat) : Int))] (r6 ++ (([] : Hep) ++ (r2 ++ ([] : Hep)))) := H.perm' (((List.Perm.refl _).append_left ([] : Hep)).trans (List.perm_append_comm_assoc ([] : Hep) r6 (r2 ++ ([] : Hep))))
              refine pl_callX rfl rfl ⟨_, Try.func18, by kernel_rfl⟩ rfl (fun K_ => po_read (hh := (([] : Hep) ++ (r2 ++ ([] : Hep)))) hP6 n (by omega) w _ K_) H ?_
              try clear H a W
              rintro gr9 a W - H
              replace H := H.perm' ((List.perm_append_comm_assoc r6 ([] : Hep) (r2 ++ ([] : Hep))).append_left ([(gr9, .ty 77, bvs (readB (dCrash D picks) n))] : Hep))
              replace H : St 114 w a W [(95, .tuple #[.slice (some ⟨gr9, 0, none⟩) 512 512, .int .i64 0]), (94, .int .i64 ((n : Nat) : Int)), (93, .pointer (some ⟨p2, 0, none⟩)), (89, .bool true), (88, .int .i64 ((nb : Nat) : Int)), (87, .int .i64 ((n : Nat) : Int)), (12, .int .i64 ((n : Nat) : Int)), (11, .int .i64 ((t : Nat) : Int)), (9, .pointer (some ⟨p3, 0, none⟩)), (7, .pointer (some ⟨p2, 0, none⟩)), (0, .int .i64 ((nb : Nat) : Int))] ((gr9, 77, bvs (readB (dCrash D picks) n)) :: (r6 ++ (r2 ++ ([] : Hep)))) := H
              refine rgO H gs0 (rS 5 rfl <| rZ0 ?_)
              try clear H a W
              intro a W H
              refine hK34 _ _ ?_
              clear hK34
              refine wp_seq_k (fun K35 hK35 => ?_)
              refine sqR H gs0 fun Z_ z_ => rS 1 rfl <| rV rfl (does_call rfl ⟨_, Try.func13, by kernel_rfl⟩ rfl (fun W hb => num_any _ W)) <| rV rfl (does_binOp rfl rfl rfl (zd_neq_int (k := 0) (m := 0) (decide_eq_false (by omega)) _ _)) <| rN0 z_ ?_
              try clear H a W
              intro a W H
              refine wp_cond_false (H.ev rfl) ?_
              refine wp_skip ?_
              refine hK35 _ _ ?_
              clear hK35
              refine wp_seq_k (fun K37 hK37 => ?_)
              refine wp_seq_k (fun K38 hK38 => ?_)
              refine rgP H gs0 (rS 3 rfl <| rI0 ?_)
              try clear H a W
              intro a W H
              replace H : St 114 w a W [(103, .slice (some ⟨gr9, 0, none⟩) 512 512), (102, .int .i64 ((n : Nat) : Int)), (101, .pointer (some ⟨p3, 0, none⟩)), (100, .bool false), (99, .int .i64 0), (98, .int .i64 0), (14, .int .i64 0), (13, .slice (some ⟨gr9, 0, none⟩) 512 512), (97, .int .i64 0), (96, .slice (some ⟨gr9, 0, none⟩) 512 512), (92, .tuple #[.slice (some ⟨gr9, 0, none⟩) 512 512, .int .i64 0]), (95, .tuple #[.slice (some ⟨gr9, 0, none⟩) 512 512, .int .i64 0]), (94, .int .i64 ((n : Nat) : Int)), (93, .pointer (some ⟨p2, 0, none⟩)), (89, .bool true), (88, .int .i64 ((nb : Nat) : Int)), (87, .int .i64 ((n : Nat) : Int)), (12, .int .i64 ((n : Nat) : Int)), (11, .int .i64 ((t : Nat) : Int)), (9, .pointer (some ⟨p3, 0, none⟩)), (7, .pointer (some ⟨p2, 0, none⟩)), (0, .int .i64 ((nb : Nat) : Int))] (r2 ++ (([(gr9, .ty 77, bvs (readB (dCrash D picks) n))] : Hep) ++ (r6 ++ ([] : Hep)))) := H.perm' (((((List.Perm.refl _).append_left r6).trans (List.perm_append_comm_assoc r6 r2 ([] : Hep))).append_left ([(gr9, .ty 77, bvs (readB (dCrash D picks) n))] : Hep)).trans (List.perm_append_comm_assoc ([(gr9, .ty 77, bvs (readB (dCrash D picks) n))] : Hep) r2 (r6 ++ ([] : Hep))))
              refine pl_callX rfl rfl ⟨_, Try.func24, by kernel_rfl⟩ rfl (fun K_ => ro_one (hh := (([(gr9, .ty 77, bvs (readB (dCrash D picks) n))] : Hep) ++ (r6 ++ ([] : Hep)))) (b := readB (dCrash D picks) n) hJ.2.1 n (by omega) (read_len hP6.ok (by omega)) (List.mem_append_left _ (List.mem_iff_getElem?.2 ⟨0, rfl⟩)) w _ K_) H ?_
              try clear H a W
              rintro ob10 a W hob10 H
              replace H := H.perm' (List.perm_append_comm_assoc r2 ([(gr9, .ty 77, bvs (readB (dCrash D picks) n))] : Hep) (r6 ++ ([] : Hep)))
              replace H : St 114 w a W [(104, .bool ob10), (103, .slice (some ⟨gr9, 0, none⟩) 512 512), (102, .int .i64 ((n : Nat) : Int)), (101, .pointer (some ⟨p3, 0, none⟩)), (100, .bool false), (99, .int .i64 0), (98, .int .i64 0), (14, .int .i64 0), (13, .slice (some ⟨gr9, 0, none⟩) 512 512), (97, .int .i64 0), (96, .slice (some ⟨gr9, 0, none⟩) 512 512), (92, .tuple #[.slice (some ⟨gr9, 0, none⟩) 512 512, .int .i64 0]), (95, .tuple #[.slice (some ⟨gr9, 0, none⟩) 512 512, .int .i64 0]), (94, .int .i64 ((n : Nat) : Int)), (93, .pointer (some ⟨p2, 0, none⟩)), (89, .bool true), (88, .int .i64 ((nb : Nat) : Int)), (87, .int .i64 ((n : Nat) : Int)), (12, .int .i64 ((n : Nat) : Int)), (11, .int .i64 ((t : Nat) : Int)), (9, .pointer (some ⟨p3, 0, none⟩)), (7, .pointer (some ⟨p2, 0, none⟩)), (0, .int .i64 ((nb : Nat) : Int))] ((gr9, 77, bvs (readB (dCrash D picks) n)) :: (r2 ++ (r6 ++ ([] : Hep)))) := H
              refine rgO H gs0 (rZ0 ?_)
              try clear H a W
              intro a W H
              refine hK38 _ _ ?_
              clear hK38
              cases hq7 : ob10 with
              | true =>
                rw [hq7] at H
                refine wp_cond_true (H.ev rfl) ?_
                refine wp_exit ?_
                repeat (first | (with_reducible refine then_exit ?_) | (with_reducible refine blk_pass (by decide) ?_))
                refine blk_exit ?_
                refine hK33 _ _ ?_
                clear hK33
                refine rgP H gs0 (rS 1 rfl <| rV rfl (does_binOp rfl rfl rfl (zd_add_int (k := ((n : Nat) : Int)) (m := 1) (c := ((n + 1 : Nat) : Int)) (by omega) (by omega) _ _)) <| rK [1, 1, 1, 1, 1, 1, 1, 1, 1, 1, 1, 1, 1, 1, 1, 1, 1, 1, 1, 1, 0] [] [] <| rS 1 rfl <| rZ0 ?_)
                try clear H a W
                intro a W H
                replace H := H.perm' ((((List.Perm.refl _).append_left r2).trans (List.perm_append_comm_assoc r2 r6 ([] : Hep))).append_left ([(gr9, .ty 77, bvs (readB (dCrash D picks) n))] : Hep))
                replace H : St 114 w a W [(12, .int .i64 ((n + 1 : Nat) : Int)), (91, .int .i64 ((n + 1 : Nat) : Int)), (90, .int .i64 ((n : Nat) : Int)), (104, .bool true), (103, .slice (some ⟨gr9, 0, none⟩) 512 512), (102, .int .i64 ((n : Nat) : Int)), (101, .pointer (some ⟨p3, 0, none⟩)), (100, .bool false), (99, .int .i64 0), (98, .int .i64 0), (14, .int .i64 0), (13, .slice (some ⟨gr9, 0, none⟩) 512 512), (97, .int .i64 0), (96, .slice (some ⟨gr9, 0, none⟩) 512 512), (92, .tuple #[.slice (some ⟨gr9, 0, none⟩) 512 512, .int .i64 0]), (95, .tuple #[.slice (some ⟨gr9, 0, none⟩) 512 512, .int .i64 0]), (94, .int .i64 ((n : Nat) : Int)), (93, .pointer (some ⟨p2, 0, none⟩)), (89, .bool true), (88, .int .i64 ((nb : Nat) : Int)), (87, .int .i64 ((n : Nat) : Int)), (11, .int .i64 ((t : Nat) : Int)), (9, .pointer (some ⟨p3, 0, none⟩)), (7, .pointer (some ⟨p2, 0, none⟩)), (0, .int .i64 ((nb : Nat) : Int))] ((gr9, 77, bvs (readB (dCrash D picks) n)) :: (r6 ++ (r2 ++ ([] : Hep)))) := H
                refine ⟨n + 1, by omega, by omega, t, ⟨hT.1.same, trivial⟩, ?_⟩
                exact H.pickF (h := [(gr9, 77, bvs (readB (dCrash D picks) n))]) (t := (r6 ++ (r2 ++ ([] : Hep)))) [0, 21, 22, 23, 24] [] rfl
              | false =>
                rw [hq7] at H
                obtain ⟨q, kk, old, hlq, hkk, hold, he⟩ := (crash_meansR hJ.1.ok picks n).resolve_left (fun h_ => by have h1_ := hob10.2 h_; rw [hq7] at h1_; cases h1_)
                refine wp_cond_false (H.ev rfl) ?_
                refine wp_skip ?_
                refine hK37 _ _ ?_
                clear hK37
                refine sqR H gs0 fun Z_ z_ => rS 1 rfl <| rV rfl (does_binOp rfl rfl rfl (zd_add_int (k := ((t : Nat) : Int)) (m := 1) (c := ((t + 1 : Nat) : Int)) (by omega) (by omega) _ _)) <| rK [1, 1, 1, 1, 1, 1, 1, 1, 1, 1, 1, 1, 1, 1, 1, 1, 1, 1, 1, 1, 1, 0] [] [] <| rS 1 rfl <| rN0 z_ ?_
                try clear H a W
                intro a W H
                refine wp_seq_k (fun K40 hK40 => ?_)
                refine rgP H gs0 (rS 3 rfl <| rI0 ?_)
                try clear H a W
                intro a W H
                replace H : St 114 w a W [(109, .slice (some ⟨gr9, 0, none⟩) 512 512), (108, .int .i64 ((n : Nat) : Int)), (107, .pointer (some ⟨p3, 0, none⟩)), (11, .int .i64 ((t + 1 : Nat) : Int)), (106, .int .i64 ((t + 1 : Nat) : Int)), (105, .int .i64 ((t : Nat) : Int)), (104, .bool false), (103, .slice (some ⟨gr9, 0, none⟩) 512 512), (102, .int .i64 ((n : Nat) : Int)), (101, .pointer (some ⟨p3, 0, none⟩)), (100, .bool false), (99, .int .i64 0), (98, .int .i64 0), (14, .int .i64 0), (13, .slice (some ⟨gr9, 0, none⟩) 512 512), (97, .int .i64 0), (96, .slice (some ⟨gr9, 0, none⟩) 512 512), (92, .tuple #[.slice (some ⟨gr9, 0, none⟩) 512 512, .int .i64 0]), (95, .tuple #[.slice (some ⟨gr9, 0, none⟩) 512 512, .int .i64 0]), (94, .int .i64 ((n : Nat) : Int)), (93, .pointer (some ⟨p2, 0, none⟩)), (89, .bool true), (88, .int .i64 ((nb : Nat) : Int)), (87, .int .i64 ((n : Nat) : Int)), (12, .int .i64 ((n : Nat) : Int)), (9, .pointer (some ⟨p3, 0, none⟩)), (7, .pointer (some ⟨p2, 0, none⟩)), (0, .int .i64 ((nb : Nat) : Int))] (r2 ++ (([(gr9, .ty 77, bvs (readB (dCrash D picks) n))] : Hep) ++ (r6 ++ ([] : Hep)))) := H.perm' (((List.Perm.refl _).append_left ([(gr9, .ty 77, bvs (readB (dCrash D picks) n))] : Hep)).trans (List.perm_append_comm_assoc ([(gr9, .ty 77, bvs (readB (dCrash D picks) n))] : Hep) r2 (r6 ++ ([] : Hep))))
                refine pl_callV rfl rfl ⟨_, Try.func25, by kernel_rfl⟩ rfl (fun K_ => ro_tears (hh := (([(gr9, .ty 77, bvs (readB (dCrash D picks) n))] : Hep) ++ (r6 ++ ([] : Hep)))) (b := readB (dCrash D picks) n) hJ.2.1 n (by omega) (read_len hP6.ok (by omega)) (List.mem_append_left _ (List.mem_iff_getElem?.2 ⟨0, rfl⟩)) hlq hkk hold he w _ K_) H ?_
                try clear H a W
                intro a W H
                replace H := H.perm' (List.perm_append_comm_assoc r2 ([(gr9, .ty 77, bvs (readB (dCrash D picks) n))] : Hep) (r6 ++ ([] : Hep)))
                replace H : St 114 w a W [(110, .bool true), (109, .slice (some ⟨gr9, 0, none⟩) 512 512), (108, .int .i64 ((n : Nat) : Int)), (107, .pointer (some ⟨p3, 0, none⟩)), (11, .int .i64 ((t + 1 : Nat) : Int)), (106, .int .i64 ((t + 1 : Nat) : Int)), (105, .int .i64 ((t : Nat) : Int)), (104, .bool false), (103, .slice (some ⟨gr9, 0, none⟩) 512 512), (102, .int .i64 ((n : Nat) : Int)), (101, .pointer (some ⟨p3, 0, none⟩)), (100, .bool false), (99, .int .i64 0), (98, .int .i64 0), (14, .int .i64 0), (13, .slice (some ⟨gr9, 0, none⟩) 512 512), (97, .int .i64 0), (96, .slice (some ⟨gr9, 0, none⟩) 512 512), (92, .tuple #[.slice (some ⟨gr9, 0, none⟩) 512 512, .int .i64 0]), (95, .tuple #[.slice (some ⟨gr9, 0, none⟩) 512 512, .int .i64 0]), (94, .int .i64 ((n : Nat) : Int)), (93, .pointer (some ⟨p2, 0, none⟩)), (89, .bool true), (88, .int .i64 ((nb : Nat) : Int)), (87, .int .i64 ((n : Nat) : Int)), (12, .int .i64 ((n : Nat) : Int)), (9, .pointer (some ⟨p3, 0, none⟩)), (7, .pointer (some ⟨p2, 0, none⟩)), (0, .int .i64 ((nb : Nat) : Int))] ((gr9, 77, bvs (readB (dCrash D picks) n)) :: (r2 ++ (r6 ++ ([] : Hep)))) := H
                refine rgO H gs0 (rS 1 rfl <| rZ0 ?_)
                try clear H a W
                intro a W H
                refine hK40 _ _ ?_
                clear hK40
                refine wp_cond_false (H.ev rfl) ?_
                refine wp_skip ?_
                refine blk_normal ?_
                refine hK33 _ _ ?_
                clear hK33
                refine rgP H gs0 (rS 1 rfl <| rV rfl (does_binOp rfl rfl rfl (zd_add_int (k := ((n : Nat) : Int)) (m := 1) (c := ((n + 1 : Nat) : Int)) (by omega) (by omega) _ _)) <| rK [1, 1, 1, 1, 1, 1, 1, 1, 1, 1, 1, 1, 1, 1, 1, 1, 1, 1, 1, 1, 1, 1, 1, 1, 1, 1, 1, 1, 0] [] [] <| rS 1 rfl <| rZ0 ?_)
                try clear H a W
                intro a W H
                replace H := H.perm' ((((List.Perm.refl _).append_left r2).trans (List.perm_append_comm_assoc r2 r6 ([] : Hep))).append_left ([(gr9, .ty 77, bvs (readB (dCrash D picks) n))] : Hep))
                replace H : St 114 w a W [(12, .int .i64 ((n + 1 : Nat) : Int)), (91, .int .i64 ((n + 1 : Nat) : Int)), (90, .int .i64 ((n : Nat) : Int)), (111, .bool false), (110, .bool true), (109, .slice (some ⟨gr9, 0, none⟩) 512 512), (108, .int .i64 ((n : Nat) : Int)), (107, .pointer (some ⟨p3, 0, none⟩)), (11, .int .i64 ((t + 1 : Nat) : Int)), (106, .int .i64 ((t + 1 : Nat) : Int)), (105, .int .i64 ((t : Nat) : Int)), (104, .bool false), (103, .slice (some ⟨gr9, 0, none⟩) 512 512), (102, .int .i64 ((n : Nat) : Int)), (101, .pointer (some ⟨p3, 0, none⟩)), (100, .bool false), (99, .int .i64 0), (98, .int .i64 0), (14, .int .i64 0), (13, .slice (some ⟨gr9, 0, none⟩) 512 512), (97, .int .i64 0), (96, .slice (some ⟨gr9, 0, none⟩) 512 512), (92, .tuple #[.slice (some ⟨gr9, 0, none⟩) 512 512, .int .i64 0]), (95, .tuple #[.slice (some ⟨gr9, 0, none⟩) 512 512, .int .i64 0]), (94, .int .i64 ((n : Nat) : Int)), (93, .pointer (some ⟨p2, 0, none⟩)), (89, .bool true), (88, .int .i64 ((nb : Nat) : Int)), (87, .int .i64 ((n : Nat) : Int)), (9, .pointer (some ⟨p3, 0, none⟩)), (7, .pointer (some ⟨p2, 0, none⟩)), (0, .int .i64 ((nb : Nat) : Int))] ((gr9, 77, bvs (readB (dCrash D picks) n)) :: (r6 ++ (r2 ++ ([] : Hep)))) := H
                refine ⟨n + 1, by omega, by omega, t + 1, ⟨hT.1.more hlq, trivial⟩, ?_⟩
                exact H.pickF (h := [(gr9, 77, bvs (readB (dCrash D picks) n))]) (t := (r6 ++ (r2 ++ ([] : Hep)))) [0, 8, 29, 30, 31] [] rfl
            · obtain rfl : nb = n := by omega
              refine wp_seq_k (fun K41 hK41 => ?_)
              refine sqR H gs0 fun Z_ z_ => rS 2 rfl <| rV rfl (does_binOp rfl rfl rfl (zd_lss_int (k := ((nb : Nat) : Int)) (m := ((nb : Nat) : Int)) (decide_eq_false (by omega)) _ _)) <| rK [1, 0, 0, 1, 1, 1, 1, 0] [] [] <| rN0 z_ ?_
              try clear H a W
              intro a W H
              refine wp_cond_false (H.ev rfl) ?_
              refine wp_exit ?_
              repeat (first | (with_reducible refine then_exit ?_) | (with_reducible refine blk_pass (by decide) ?_))
              refine blk_exit ?_
              have htl := hT.1.le
              refine hK29 _ _ ?_
              clear hK29
              refine sqR H gs0 fun Z_ z_ => rS 1 rfl <| rV rfl (does_binOp rfl rfl rfl (zd_leq_int (k := ((t : Nat) : Int)) (m := 1) (decide_eq_true (by omega)) _ _)) <| rS 1 rfl <| rK [1, 0, 0, 0, 0, 0, 0, 0] [] [] <| rN0 z_ ?_
              try clear H a W
              intro a W H
              refine wp_ret ?_
              repeat (first | (with_reducible refine then_ret ?_) | (with_reducible refine blk_ret ?_))
              refine end_tmp (p := 6) rfl rfl H (fun hb => ?_)
              exact ⟨rfl, hb⟩
theorem law_means {A A3 : Option Addr} {len cap gl ol n3 c3 : Nat} {sub : Nat → SH} {picks : List Int} (bl : Int) (w : World) (hL : SL w A len cap gl ol sub) (hQ : IP w w.heap.size A3 n3 picks) : Calls Try.prog 5 #[.int .i64 bl, .slice A len cap, .slice A3 n3 c3] w (fun rr w' => rr = .returned (.bool true) ∧ Below w.heap.size w w') := by
  by_cases h : bl < 1
  · exact law_means_neg w hL hQ bl (decide_eq_true h)
  · obtain ⟨nb, rfl⟩ := Int.eq_ofNat_of_zero_le (show 0 ≤ bl by omega)
    exact law_means_nat w hL hQ nb
end Go.Proofs.Ytiebelmglchbdaa
