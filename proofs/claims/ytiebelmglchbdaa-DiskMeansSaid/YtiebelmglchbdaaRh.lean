/- Layer 14's laws: a step of the document's disk; do two disks look the same? -/
import Derived.Test.YtiebelmglchbdaaRf
namespace Go.Proofs.Ytiebelmglchbdaa
set_option linter.unusedVariables false
set_option linter.unusedSimpArgs false
set_option maxRecDepth 100000
open Go Go.RowKit

theorem bd_neqS {f : Bool} (p q : Operand) (W : World) : (do eqGuard .neq 4 p q (.bool f) (.bool f); binOp .neq 4 (.bool f) (.bool f) : Sem Value).run Try.prog W = .ok (.bool false) W := by
  cases f <;> kernel_rfl
theorem do_len (D : Dk) (s : St5) : (dDo D s).1.B.length = D.B.length ∧ (dDo D s).1.L.length ≤ D.L.length + 1 := by
  obtain ⟨hB, hL⟩ := step_same D
  have hw : ∀ n b, (dWrite D n b).1.B.length = D.B.length ∧ (dWrite D n b).1.L.length ≤ D.L.length + 1 := fun n b => by
    unfold dWrite
    split
    · split
      · rw [hB, hL]; exact ⟨rfl, Nat.le_succ _⟩
      · refine ⟨by show (dStep D).1.B.length = _; rw [hB], ?_⟩
        show (D.L ++ [(n.toNat, b)]).length ≤ _
        rw [List.length_append]
        exact Nat.le_refl _
    · exact ⟨rfl, Nat.le_succ _⟩
  unfold dDo
  repeat' split
  · exact hw _ _
  · unfold dSync
    split
    · exact ⟨settle_len _ _, Nat.zero_le _⟩
    · rw [hB, hL]; exact ⟨rfl, Nat.le_succ _⟩
  · unfold dFuse
    split <;> exact ⟨rfl, Nat.le_succ _⟩
  · exact ⟨crash_len _ _ _ _, Nat.zero_le _⟩
  · unfold dEdit
    split
    · exact ⟨List.length_modify _ _ _, by show (editL _ _ _ D.L).length ≤ _; simp [editL]⟩
    · exact ⟨rfl, Nat.le_succ _⟩
  · exact hw _ _
  · exact ⟨rfl, Nat.le_succ _⟩
theorem crash_dead (D : Dk) (l : List Int) : (dCrash D l).dead = false := rfl
attribute [local irreducible] bvs dwa entsI zeroB lastsB stepP lastN xorB rb dWrite dSync dFuse dCrash dEdit readB
set_option maxHeartbeats 8000000 in
theorem do_R {p : Nat} {D : Dk} {r hh : Hep} (w0 w : World) (hP : RO p D r) (x : SH) (hx : SOk w0 w0.heap.size x) (hl : D.L.length < 10000) (K : Kn w0 w (r ++ hh)) : Calls Try.prog 16 #[.pointer (some ⟨p, 0, none⟩), .agg (x.cs)] w (fun rr w' => ∃ r', rr = .returned (.int .i64 (dDo D x.s).2) ∧ RO p (dDo D x.s).1 r' ∧ Kn w0 w' (r' ++ hh)) := by
  have hxn := hx.n
  have hmx := hx.ip.max_
  have hbig := max_big
  have hb6 := blkN_le x.s.m
  refine calls_kn (vs := [.pointer (some ⟨p, 0, none⟩), .agg (x.cs)]) 55 Try.func16 rfl Try.ntmps16 rfl K (fun a W H => ?_)
  replace H : St 55 w0 a W [(0, .pointer (some ⟨p, 0, none⟩)), (1, .agg (x.cs))] ((r ++ hh)) := H
  refine sqR H gs0 fun Z_ z_ => rB rfl rfl rfl (bx_step _) fun g1 => rS 1 rfl <| rK [1, 1, 1, 0] [] [] <| rN0 z_ ?_
  try clear H a W
  intro a W H
  refine wp_seq_k (fun K2 hK2 => ?_)
  refine sqR H gs0 fun Z_ z_ => rV rfl (does_fieldAddr rfl rfl (fa_step 0 (by decide))) <| rV rfl (does_loadAt (v := .int .i64 x.s.k) rfl rfl (k := 0) rfl ld_step0) <| rK [1, 0] [] [] <| rN0 z_ ?_
  try clear H a W
  intro a W H
  refine wp_block ?_
  refine sqR H gs0 fun Z_ z_ => rV rfl (does_binOp rfl rfl rfl (zd_eql_int (k := x.s.k) (m := 1) rfl _ _)) <| rS 1 rfl <| rK [1, 0] [] [] <| rN0 z_ ?_
  try clear H a W
  intro a W H
  cases hq1 : decide (x.s.k = 1) with
  | true =>
    rw [hq1] at H
    have hq1p := of_decide_eq_true hq1
    refine wp_cond_true (H.ev rfl) ?_
    refine wp_seq_k (fun K5 hK5 => ?_)
    refine d2 [.v 9 _ [], .v 10 _ [], .v 11 _ [1], .v 12 _ [], .v 13 _ [3], .f 14 _ [4]] (by kernel_rfl) (by kernel_rfl) H gs0 ⟨oS rfl rfl, oV rfl (does_fieldAddr rfl rfl (fa_step 1 (by decide))), oV rfl (does_loadAt (v := .int .i64 x.s.n) rfl rfl (k := 0) rfl ld_step1), oV rfl (does_fieldAddr rfl rfl (fa_step 3 (by decide))), oV rfl (does_loadAt (v := bv x.s.f) rfl rfl (k := 0) rfl ld_step3), ⟨oC rfl rfl ⟨_, Try.func33, by kernel_rfl⟩ rfl (fun a w H _ => blk_fact (x := x.s.f) (k := 512) (by have h_ := blkN_le x.s.m; omega) H), fun _ => inferInstance⟩, trivial⟩ (rNwS fun g2 => rI0 ?_)
    try clear H a W
    intro a W H
    replace H : St 55 w0 a W [(14, .slice (some ⟨g2, 0, none⟩) 512 512), (13, bv x.s.f), (12, .pointer (some ⟨g1, 3, none⟩)), (11, .int .i64 x.s.n), (10, .pointer (some ⟨g1, 1, none⟩)), (9, .pointer (some ⟨p, 0, none⟩)), (7, .bool true), (6, .int .i64 x.s.k), (4, .int .i64 0), (3, .pointer (some ⟨g1, 0, none⟩)), (0, .pointer (some ⟨p, 0, none⟩))] (r ++ (([(g2, .ty 5, bvs (blkB x.s.f 512)), (g1, .ty 35, x.cs)] : Hep) ++ hh)) := H.perm' (((List.Perm.refl _).append_left ([(g2, .ty 5, bvs (blkB x.s.f 512)), (g1, .ty 35, x.cs)] : Hep)).trans (List.perm_append_comm_assoc ([(g2, .ty 5, bvs (blkB x.s.f 512)), (g1, .ty 35, x.cs)] : Hep) r hh))
    refine pl_callX rfl rfl ⟨_, Try.func34, by kernel_rfl⟩ rfl (fun K_ => by have h_ := ro_write (hh := (([(g2, .ty 5, bvs (blkB x.s.f 512)), (g1, .ty 35, x.cs)] : Hep) ++ hh)) (b := blkB x.s.f 512) (gb := g2) hP x.s.n (by rw [blk_len _ _]; omega) (List.mem_append_left _ (List.mem_iff_getElem?.2 ⟨0, rfl⟩)) hl w0 _ K_; rw [show (blkB x.s.f 512).length = 512 from (blk_len _ _)] at h_; exact h_) H ?_
    try clear H a W
    rintro r1 a W hP1 H
    replace hP1 : RO p (dWrite D x.s.n (blkB x.s.f 512)).1 r1 := hP1
    replace H := H.perm' (List.perm_append_comm_assoc r1 ([(g2, .ty 5, bvs (blkB x.s.f 512)), (g1, .ty 35, x.cs)] : Hep) hh)
    replace H : St 55 w0 a W [(15, .int .i64 ((dWrite D x.s.n (blkB x.s.f 512)).2)), (14, .slice (some ⟨g2, 0, none⟩) 512 512), (13, bv x.s.f), (12, .pointer (some ⟨g1, 3, none⟩)), (11, .int .i64 x.s.n), (10, .pointer (some ⟨g1, 1, none⟩)), (9, .pointer (some ⟨p, 0, none⟩)), (7, .bool true), (6, .int .i64 x.s.k), (4, .int .i64 0), (3, .pointer (some ⟨g1, 0, none⟩)), (0, .pointer (some ⟨p, 0, none⟩))] ((g2, 5, bvs (blkB x.s.f 512)) :: (g1, 35, x.cs) :: (r1 ++ hh)) := H
    refine rgO H gs0 (rK [1, 1, 1, 1, 1, 1, 1, 1, 1, 0] [] [] <| rS 1 rfl <| rK [1, 0, 0, 0, 0, 0, 0, 0, 0, 0, 0, 0] [1, 0] [] <| rZ0 ?_)
    try clear H a W
    intro a W H
    refine hK5 _ _ ?_
    clear hK5
    refine wp_ret ?_
    repeat (first | (with_reducible refine then_ret ?_) | (with_reducible refine blk_ret ?_))
    refine end_tmp (p := 4) rfl rfl H (fun hb => ?_)
    have hd : dDo D x.s = dWrite D x.s.n (blkB x.s.f 512) := by
      unfold dDo
      rw [if_pos hq1p]
    rw [hd]
    refine ⟨r1, rfl, hP1, ?_⟩
    show Kn w0 W (r1 ++ hh)
    have H_ := H.pickF (h := [(g2, .ty 5, bvs (blkB x.s.f 512))]) (t := (r1 ++ hh)) [] [] rfl
    exact H_.kn
  | false =>
    rw [hq1] at H
    have hq1p := of_decide_eq_false hq1
    refine wp_cond_false (H.ev rfl) ?_
    refine sqR H gs0 fun Z_ z_ => rV rfl (does_binOp rfl rfl rfl (zd_eql_int (k := x.s.k) (m := 2) rfl _ _)) <| rS 1 rfl <| rK [1, 0, 0] [] [] <| rN0 z_ ?_
    try clear H a W
    intro a W H
    cases hq2 : decide (x.s.k = 2) with
    | true =>
      rw [hq2] at H
      have hq2p := of_decide_eq_true hq2
      refine wp_cond_true (H.ev rfl) ?_
      refine wp_seq_k (fun K7 hK7 => ?_)
      refine rgP H gs0 (rS 1 rfl <| rI0 ?_)
      try clear H a W
      intro a W H
      replace H : St 55 w0 a W [(18, .pointer (some ⟨p, 0, none⟩)), (16, .bool true), (6, .int .i64 x.s.k), (4, .int .i64 0), (3, .pointer (some ⟨g1, 0, none⟩)), (0, .pointer (some ⟨p, 0, none⟩))] (r ++ (([(g1, .ty 35, x.cs)] : Hep) ++ hh)) := H.perm' (((List.Perm.refl _).append_left ([(g1, .ty 35, x.cs)] : Hep)).trans (List.perm_append_comm_assoc ([(g1, .ty 35, x.cs)] : Hep) r hh))
      refine pl_callX rfl rfl ⟨_, Try.func35, by kernel_rfl⟩ rfl (fun K_ => ro_sync (hh := (([(g1, .ty 35, x.cs)] : Hep) ++ hh)) hP w0 _ K_) H ?_
      try clear H a W
      rintro r2 a W hP2 H
      replace hP2 : RO p (dSync D).1 r2 := hP2
      replace H := H.perm' (List.perm_append_comm_assoc r2 ([(g1, .ty 35, x.cs)] : Hep) hh)
      replace H : St 55 w0 a W [(19, .int .i64 ((dSync D).2)), (18, .pointer (some ⟨p, 0, none⟩)), (16, .bool true), (6, .int .i64 x.s.k), (4, .int .i64 0), (3, .pointer (some ⟨g1, 0, none⟩)), (0, .pointer (some ⟨p, 0, none⟩))] ((g1, 35, x.cs) :: (r2 ++ hh)) := H
      refine rgO H gs0 (rK [1, 1, 1, 1, 0] [] [] <| rS 1 rfl <| rK [1, 0, 0, 0, 0, 0, 0] [0] [] <| rZ0 ?_)
      try clear H a W
      intro a W H
      refine hK7 _ _ ?_
      clear hK7
      refine wp_ret ?_
      repeat (first | (with_reducible refine then_ret ?_) | (with_reducible refine blk_ret ?_))
      refine end_tmp (p := 4) rfl rfl H (fun hb => ?_)
      have hd : dDo D x.s = dSync D := by
        unfold dDo
        rw [if_neg hq1p, if_pos hq2p]
      rw [hd]
      refine ⟨r2, rfl, hP2, ?_⟩
      show Kn w0 W (r2 ++ hh)
      exact H.kn
    | false =>
      rw [hq2] at H
      have hq2p := of_decide_eq_false hq2
      refine wp_cond_false (H.ev rfl) ?_
      refine sqR H gs0 fun Z_ z_ => rV rfl (does_binOp rfl rfl rfl (zd_eql_int (k := x.s.k) (m := 3) rfl _ _)) <| rS 1 rfl <| rK [1, 0, 0] [] [] <| rN0 z_ ?_
      try clear H a W
      intro a W H
      cases hq3 : decide (x.s.k = 3) with
      | true =>
        rw [hq3] at H
        have hq3p := of_decide_eq_true hq3
        refine wp_cond_true (H.ev rfl) ?_
        refine wp_seq_k (fun K9 hK9 => ?_)
        refine rgP H gs0 (rS 1 rfl <| rV rfl (does_fieldAddr rfl rfl (fa_step 1 (by decide))) <| rV rfl (does_loadAt (v := .int .i64 x.s.n) rfl rfl (k := 0) rfl ld_step1) <| rI0 ?_)
        try clear H a W
        intro a W H
        replace H : St 55 w0 a W [(24, .int .i64 x.s.n), (23, .pointer (some ⟨g1, 1, none⟩)), (22, .pointer (some ⟨p, 0, none⟩)), (20, .bool true), (6, .int .i64 x.s.k), (4, .int .i64 0), (3, .pointer (some ⟨g1, 0, none⟩)), (0, .pointer (some ⟨p, 0, none⟩))] (r ++ (([(g1, .ty 35, x.cs)] : Hep) ++ hh)) := H.perm' (((List.Perm.refl _).append_left ([(g1, .ty 35, x.cs)] : Hep)).trans (List.perm_append_comm_assoc ([(g1, .ty 35, x.cs)] : Hep) r hh))
        refine pl_callX rfl rfl ⟨_, Try.func36, by kernel_rfl⟩ rfl (fun K_ => ro_fuse (hh := (([(g1, .ty 35, x.cs)] : Hep) ++ hh)) hP x.s.n (by omega) w0 _ K_) H ?_
        try clear H a W
        rintro r3 a W hP3 H
        replace hP3 : RO p (dFuse D x.s.n).1 r3 := hP3
        replace H := H.perm' (List.perm_append_comm_assoc r3 ([(g1, .ty 35, x.cs)] : Hep) hh)
        replace H : St 55 w0 a W [(25, .int .i64 ((dFuse D x.s.n).2)), (24, .int .i64 x.s.n), (23, .pointer (some ⟨g1, 1, none⟩)), (22, .pointer (some ⟨p, 0, none⟩)), (20, .bool true), (6, .int .i64 x.s.k), (4, .int .i64 0), (3, .pointer (some ⟨g1, 0, none⟩)), (0, .pointer (some ⟨p, 0, none⟩))] ((g1, 35, x.cs) :: (r3 ++ hh)) := H
        refine rgO H gs0 (rK [1, 1, 1, 1, 1, 1, 0] [] [] <| rS 1 rfl <| rK [1, 0, 0, 0, 0, 0, 0, 0, 0] [0] [] <| rZ0 ?_)
        try clear H a W
        intro a W H
        refine hK9 _ _ ?_
        clear hK9
        refine wp_ret ?_
        repeat (first | (with_reducible refine then_ret ?_) | (with_reducible refine blk_ret ?_))
        refine end_tmp (p := 4) rfl rfl H (fun hb => ?_)
        have hd : dDo D x.s = dFuse D x.s.n := by
          unfold dDo
          rw [if_neg hq1p, if_neg hq2p, if_pos hq3p]
        rw [hd]
        refine ⟨r3, rfl, hP3, ?_⟩
        show Kn w0 W (r3 ++ hh)
        exact H.kn
      | false =>
        rw [hq3] at H
        have hq3p := of_decide_eq_false hq3
        refine wp_cond_false (H.ev rfl) ?_
        refine sqR H gs0 fun Z_ z_ => rV rfl (does_binOp rfl rfl rfl (zd_eql_int (k := x.s.k) (m := 4) rfl _ _)) <| rS 1 rfl <| rK [1, 0, 0] [] [] <| rN0 z_ ?_
        try clear H a W
        intro a W H
        cases hq4 : decide (x.s.k = 4) with
        | true =>
          rw [hq4] at H
          have hq4p := of_decide_eq_true hq4
          refine wp_cond_true (H.ev rfl) ?_
          refine rgP H gs0 (rS 1 rfl <| rV rfl (does_fieldAddr rfl rfl (fa_step 4 (by decide))) <| rV rfl (does_loadAt (v := .slice x.A x.s.ps.length x.cp) rfl rfl (k := 0) rfl ld_step4) <| rI0 ?_)
          try clear H a W
          intro a W H
          replace H : St 55 w0 a W [(30, .slice x.A x.s.ps.length x.cp), (29, .pointer (some ⟨g1, 4, none⟩)), (28, .pointer (some ⟨p, 0, none⟩)), (26, .bool true), (6, .int .i64 x.s.k), (4, .int .i64 0), (3, .pointer (some ⟨g1, 0, none⟩)), (0, .pointer (some ⟨p, 0, none⟩))] (r ++ (([(g1, .ty 35, x.cs)] : Hep) ++ hh)) := H.perm' (((List.Perm.refl _).append_left ([(g1, .ty 35, x.cs)] : Hep)).trans (List.perm_append_comm_assoc ([(g1, .ty 35, x.cs)] : Hep) r hh))
          refine pl_callX rfl rfl ⟨_, Try.func37, by kernel_rfl⟩ rfl (fun K_ => ro_crash (hh := (([(g1, .ty 35, x.cs)] : Hep) ++ hh)) w0 hP (hx.ip.pk _) (by omega) _ K_) H ?_
          try clear H a W
          rintro r4 a W hP4 H
          replace hP4 : RO p (dCrash D x.s.ps) r4 := hP4
          replace H := H.perm' (List.perm_append_comm_assoc r4 ([(g1, .ty 35, x.cs)] : Hep) hh)
          replace H : St 55 w0 a W [(31, .tuple #[]), (30, .slice x.A x.s.ps.length x.cp), (29, .pointer (some ⟨g1, 4, none⟩)), (28, .pointer (some ⟨p, 0, none⟩)), (26, .bool true), (6, .int .i64 x.s.k), (4, .int .i64 0), (3, .pointer (some ⟨g1, 0, none⟩)), (0, .pointer (some ⟨p, 0, none⟩))] ((g1, 35, x.cs) :: (r4 ++ hh)) := H
          refine rgO H gs0 (rK [0, 0, 0, 0, 0, 0, 1, 0, 0] [0] [] <| rZ0 ?_)
          try clear H a W
          intro a W H
          refine blk_normal ?_
          refine hK2 _ _ ?_
          clear hK2
          refine sqR H gs0 fun Z_ z_ => rK [0] [] [] <| rS 1 rfl <| rN0 z_ ?_
          try clear H a W
          intro a W H
          refine wp_ret ?_
          repeat (first | (with_reducible refine then_ret ?_) | (with_reducible refine blk_ret ?_))
          refine end_tmp (p := 4) rfl rfl H (fun hb => ?_)
          have hd : dDo D x.s = (dCrash D x.s.ps, 0) := by
            unfold dDo
            rw [if_neg hq1p, if_neg hq2p, if_neg hq3p, if_pos hq4p]
          rw [hd]
          refine ⟨r4, rfl, hP4, ?_⟩
          show Kn w0 W (r4 ++ hh)
          exact H.kn
        | false =>
          rw [hq4] at H
          have hq4p := of_decide_eq_false hq4
          refine wp_cond_false (H.ev rfl) ?_
          refine sqR H gs0 fun Z_ z_ => rV rfl (does_binOp rfl rfl rfl (zd_eql_int (k := x.s.k) (m := 5) rfl _ _)) <| rS 1 rfl <| rK [1, 0, 0] [] [] <| rN0 z_ ?_
          try clear H a W
          intro a W H
          cases hq5 : decide (x.s.k = 5) with
          | true =>
            rw [hq5] at H
            have hq5p := of_decide_eq_true hq5
            refine wp_cond_true (H.ev rfl) ?_
            refine wp_seq_k (fun K13 hK13 => ?_)
            refine rgP H gs0 (rS 1 rfl <| rV rfl (does_fieldAddr rfl rfl (fa_step 1 (by decide))) <| rV rfl (does_loadAt (v := .int .i64 x.s.n) rfl rfl (k := 0) rfl ld_step1) <| rV rfl (does_fieldAddr rfl rfl (fa_step 2 (by decide))) <| rV rfl (does_loadAt (v := .int .i64 x.s.m) rfl rfl (k := 0) rfl ld_step2) <| rV rfl (does_fieldAddr rfl rfl (fa_step 3 (by decide))) <| rV rfl (does_loadAt (v := bv x.s.f) rfl rfl (k := 0) rfl ld_step3) <| rI0 ?_)
            try clear H a W
            intro a W H
            replace H : St 55 w0 a W [(40, bv x.s.f), (39, .pointer (some ⟨g1, 3, none⟩)), (38, .int .i64 x.s.m), (37, .pointer (some ⟨g1, 2, none⟩)), (36, .int .i64 x.s.n), (35, .pointer (some ⟨g1, 1, none⟩)), (34, .pointer (some ⟨p, 0, none⟩)), (32, .bool true), (6, .int .i64 x.s.k), (4, .int .i64 0), (3, .pointer (some ⟨g1, 0, none⟩)), (0, .pointer (some ⟨p, 0, none⟩))] (r ++ (([(g1, .ty 35, x.cs)] : Hep) ++ hh)) := H.perm' (((List.Perm.refl _).append_left ([(g1, .ty 35, x.cs)] : Hep)).trans (List.perm_append_comm_assoc ([(g1, .ty 35, x.cs)] : Hep) r hh))
            refine pl_callX rfl rfl ⟨_, Try.func38, by kernel_rfl⟩ rfl (fun K_ => ro_edit (hh := (([(g1, .ty 35, x.cs)] : Hep) ++ hh)) hP x.s.n x.s.m x.s.f w0 _ K_) H ?_
            try clear H a W
            rintro r5 a W hP5 H
            replace hP5 : RO p (dEdit D x.s.n x.s.m x.s.f).1 r5 := hP5
            replace H := H.perm' (List.perm_append_comm_assoc r5 ([(g1, .ty 35, x.cs)] : Hep) hh)
            replace H : St 55 w0 a W [(41, .int .i64 ((dEdit D x.s.n x.s.m x.s.f).2)), (40, bv x.s.f), (39, .pointer (some ⟨g1, 3, none⟩)), (38, .int .i64 x.s.m), (37, .pointer (some ⟨g1, 2, none⟩)), (36, .int .i64 x.s.n), (35, .pointer (some ⟨g1, 1, none⟩)), (34, .pointer (some ⟨p, 0, none⟩)), (32, .bool true), (6, .int .i64 x.s.k), (4, .int .i64 0), (3, .pointer (some ⟨g1, 0, none⟩)), (0, .pointer (some ⟨p, 0, none⟩))] ((g1, 35, x.cs) :: (r5 ++ hh)) := H
            refine rgO H gs0 (rK [1, 1, 1, 1, 1, 1, 1, 1, 1, 1, 0] [] [] <| rS 1 rfl <| rK [1, 0, 0, 0, 0, 0, 0, 0, 0, 0, 0, 0, 0] [0] [] <| rZ0 ?_)
            try clear H a W
            intro a W H
            refine hK13 _ _ ?_
            clear hK13
            refine wp_ret ?_
            repeat (first | (with_reducible refine then_ret ?_) | (with_reducible refine blk_ret ?_))
            refine end_tmp (p := 4) rfl rfl H (fun hb => ?_)
            have hd : dDo D x.s = dEdit D x.s.n x.s.m x.s.f := by
              unfold dDo
              rw [if_neg hq1p, if_neg hq2p, if_neg hq3p, if_neg hq4p, if_pos hq5p]
            rw [hd]
            refine ⟨r5, rfl, hP5, ?_⟩
            show Kn w0 W (r5 ++ hh)
            exact H.kn
          | false =>
            rw [hq5] at H
            have hq5p := of_decide_eq_false hq5
            refine wp_cond_false (H.ev rfl) ?_
            refine sqR H gs0 fun Z_ z_ => rV rfl (does_binOp rfl rfl rfl (zd_eql_int (k := x.s.k) (m := 6) rfl _ _)) <| rS 1 rfl <| rK [1, 0, 0, 0] [] [] <| rN0 z_ ?_
            try clear H a W
            intro a W H
            cases hq6 : decide (x.s.k = 6) with
            | true =>
              rw [hq6] at H
              have hq6p := of_decide_eq_true hq6
              refine wp_cond_true (H.ev rfl) ?_
              refine wp_seq_k (fun K15 hK15 => ?_)
              refine d2 [.v 44 _ [], .v 45 _ [], .v 46 _ [1], .v 47 _ [], .v 48 _ [3], .v 49 _ [], .v 50 _ [5], .v 51 _ [6], .v 52 _ [7], .f 53 _ [4, 8]] (by kernel_rfl) (by kernel_rfl) H gs0 ⟨oS rfl rfl, oV rfl (does_fieldAddr rfl rfl (fa_step 1 (by decide))), oV rfl (does_loadAt (v := .int .i64 x.s.n) rfl rfl (k := 0) rfl ld_step1), oV rfl (does_fieldAddr rfl rfl (fa_step 3 (by decide))), oV rfl (does_loadAt (v := bv x.s.f) rfl rfl (k := 0) rfl ld_step3), oV rfl (does_fieldAddr rfl rfl (fa_step 2 (by decide))), oV rfl (does_loadAt (v := .int .i64 x.s.m) rfl rfl (k := 0) rfl ld_step2), oV rfl (does_minI (k := x.s.m) (m := 2000) rfl rfl rfl), oV rfl (does_maxI (m := x.s.m) rfl rfl rfl), ⟨oC rfl rfl ⟨_, Try.func33, by kernel_rfl⟩ rfl (fun a w H _ => blk_fact (x := x.s.f) (k := (blkN x.s.m)) (by have h_ := blkN_le x.s.m; omega) H), fun _ => inferInstance⟩, trivial⟩ (rNwS fun g3 => rI0 ?_)
              try clear H a W
              intro a W H
              replace H : St 55 w0 a W [(53, .slice (some ⟨g3, 0, none⟩) (blkN x.s.m) (blkN x.s.m)), (52, .int .i64 ((blkN x.s.m : Nat) : Int)), (51, .int .i64 (min x.s.m 2000)), (50, .int .i64 x.s.m), (49, .pointer (some ⟨g1, 2, none⟩)), (48, bv x.s.f), (47, .pointer (some ⟨g1, 3, none⟩)), (46, .int .i64 x.s.n), (45, .pointer (some ⟨g1, 1, none⟩)), (44, .pointer (some ⟨p, 0, none⟩)), (42, .bool true), (4, .int .i64 0), (3, .pointer (some ⟨g1, 0, none⟩)), (0, .pointer (some ⟨p, 0, none⟩))] (r ++ (([(g3, .ty 5, bvs (blkB x.s.f (blkN x.s.m))), (g1, .ty 35, x.cs)] : Hep) ++ hh)) := H.perm' (((List.Perm.refl _).append_left ([(g3, .ty 5, bvs (blkB x.s.f (blkN x.s.m))), (g1, .ty 35, x.cs)] : Hep)).trans (List.perm_append_comm_assoc ([(g3, .ty 5, bvs (blkB x.s.f (blkN x.s.m))), (g1, .ty 35, x.cs)] : Hep) r hh))
              refine pl_callX rfl rfl ⟨_, Try.func34, by kernel_rfl⟩ rfl (fun K_ => by have h_ := ro_write (hh := (([(g3, .ty 5, bvs (blkB x.s.f (blkN x.s.m))), (g1, .ty 35, x.cs)] : Hep) ++ hh)) (b := blkB x.s.f (blkN x.s.m)) (gb := g3) hP x.s.n (by rw [blk_len _ _]; omega) (List.mem_append_left _ (List.mem_iff_getElem?.2 ⟨0, rfl⟩)) hl w0 _ K_; rw [show (blkB x.s.f (blkN x.s.m)).length = (blkN x.s.m) from (blk_len _ _)] at h_; exact h_) H ?_
              try clear H a W
              rintro r6 a W hP6 H
              replace hP6 : RO p (dWrite D x.s.n (blkB x.s.f (blkN x.s.m))).1 r6 := hP6
              replace H := H.perm' (List.perm_append_comm_assoc r6 ([(g3, .ty 5, bvs (blkB x.s.f (blkN x.s.m))), (g1, .ty 35, x.cs)] : Hep) hh)
              replace H : St 55 w0 a W [(54, .int .i64 ((dWrite D x.s.n (blkB x.s.f (blkN x.s.m))).2)), (53, .slice (some ⟨g3, 0, none⟩) (blkN x.s.m) (blkN x.s.m)), (52, .int .i64 ((blkN x.s.m : Nat) : Int)), (51, .int .i64 (min x.s.m 2000)), (50, .int .i64 x.s.m), (49, .pointer (some ⟨g1, 2, none⟩)), (48, bv x.s.f), (47, .pointer (some ⟨g1, 3, none⟩)), (46, .int .i64 x.s.n), (45, .pointer (some ⟨g1, 1, none⟩)), (44, .pointer (some ⟨p, 0, none⟩)), (42, .bool true), (4, .int .i64 0), (3, .pointer (some ⟨g1, 0, none⟩)), (0, .pointer (some ⟨p, 0, none⟩))] ((g3, 5, bvs (blkB x.s.f (blkN x.s.m))) :: (g1, 35, x.cs) :: (r6 ++ hh)) := H
              refine rgO H gs0 (rK [1, 1, 1, 1, 1, 1, 1, 1, 1, 1, 1, 1, 0] [] [] <| rS 1 rfl <| rK [1, 0, 0, 0, 0, 0, 0, 0, 0, 0, 0, 0, 0, 0, 0] [1, 0] [] <| rZ0 ?_)
              try clear H a W
              intro a W H
              refine hK15 _ _ ?_
              clear hK15
              refine wp_ret ?_
              repeat (first | (with_reducible refine then_ret ?_) | (with_reducible refine blk_ret ?_))
              refine end_tmp (p := 4) rfl rfl H (fun hb => ?_)
              have hd : dDo D x.s = dWrite D x.s.n (blkB x.s.f (blkN x.s.m)) := by
                unfold dDo
                rw [if_neg hq1p, if_neg hq2p, if_neg hq3p, if_neg hq4p, if_neg hq5p, if_pos hq6p]
              rw [hd]
              refine ⟨r6, rfl, hP6, ?_⟩
              show Kn w0 W (r6 ++ hh)
              have H_ := H.pickF (h := [(g3, .ty 5, bvs (blkB x.s.f (blkN x.s.m)))]) (t := (r6 ++ hh)) [] [] rfl
              exact H_.kn
            | false =>
              rw [hq6] at H
              have hq6p := of_decide_eq_false hq6
              refine wp_cond_false (H.ev rfl) ?_
              refine wp_skip ?_
              refine blk_normal ?_
              refine hK2 _ _ ?_
              clear hK2
              refine sqR H gs0 fun Z_ z_ => rK [1, 0] [] [] <| rS 1 rfl <| rK [1, 0, 0, 0] [0] [] <| rN0 z_ ?_
              try clear H a W
              intro a W H
              refine wp_ret ?_
              repeat (first | (with_reducible refine then_ret ?_) | (with_reducible refine blk_ret ?_))
              refine end_tmp (p := 4) rfl rfl H (fun hb => ?_)
              have hd : dDo D x.s = (D, 0) := by
                unfold dDo
                rw [if_neg hq1p, if_neg hq2p, if_neg hq3p, if_neg hq4p, if_neg hq5p, if_neg hq6p]
              rw [hd]
              refine ⟨r, rfl, hP, ?_⟩
              show Kn w0 W (r ++ hh)
              exact H.kn
set_option maxHeartbeats 4000000 in
theorem isNone_b {p : Nat} {nb lf : Int} {vM vQ : Value} {A : Option Addr} {n c : Nat} {hf dd : Bool} {w : World} (hrow : Blk w p (.ty 58) (dkC nb vM (.slice A n c) vQ hf lf dd)) (hnb : 0 < nb) : Calls Try.prog 40 #[.pointer (some ⟨p, 0, none⟩)] w (fun rr w' => rr = .returned (.bool false) ∧ Below w.heap.size w w') := by
  have h0 : decide (nb = 0) = false := decide_eq_false (by omega)
  refine calls_st (vs := [.pointer (some ⟨p, 0, none⟩)]) 12 Try.func40 rfl Try.ntmps40 rfl (fun a W H => ?_)
  replace H : St 12 w a W [(0, .pointer (some ⟨p, 0, none⟩))] [] := H
  refine sqR H gs0 fun Z_ z_ => rS 1 rfl <| rN0 z_ ?_
  try clear H a W
  intro a W H
  refine sqR H gs0 fun Z_ z_ => rS 1 rfl <| rV rfl (does_binOp rfl rfl rfl (fun W => ptr_nil W)) <| rS 2 rfl <| rV rfl (does_nilCheckQ rfl rfl) <| rV rfl (does_fieldAddr rfl rfl (fa_dk 0 (by decide))) <| rV rfl (does_oldAt (v := .int .i64 nb) rfl rfl hrow ld_dk0) <| rV rfl (does_binOp rfl rfl rfl (zd_eql_int (k := nb) (m := 0) h0 _ _)) <| rS 1 rfl <| rK [1, 1, 1, 1, 1, 1, 1, 1, 1, 0] [] [] <| rS 1 rfl <| rK [1, 0, 0, 0, 0, 0, 0, 0, 0, 0, 0] [] [] <| rN0 z_ ?_
  try clear H a W
  intro a W H
  refine wp_ret ?_
  repeat (first | (with_reducible refine then_ret ?_) | (with_reducible refine blk_ret ?_))
  refine end_tmp (p := 2) rfl rfl H (fun hb => ?_)
  exact ⟨rfl, hb⟩
set_option maxHeartbeats 4000000 in
theorem blocks_b {p : Nat} {nb lf : Int} {vM vQ : Value} {A : Option Addr} {n c : Nat} {hf dd : Bool} {w : World} (hrow : Blk w p (.ty 58) (dkC nb vM (.slice A n c) vQ hf lf dd)) (hnb : 0 < nb) : Calls Try.prog 31 #[.pointer (some ⟨p, 0, none⟩)] w (fun rr w' => rr = .returned (.int .i64 nb) ∧ Below w.heap.size w w') := by
  have h0 : decide (nb = 0) = false := decide_eq_false (by omega)
  refine calls_st (vs := [.pointer (some ⟨p, 0, none⟩)]) 9 Try.func31 rfl Try.ntmps31 rfl (fun a W H => ?_)
  replace H : St 9 w a W [(0, .pointer (some ⟨p, 0, none⟩))] [] := H
  refine sqR H gs0 fun Z_ z_ => rS 1 rfl <| rN0 z_ ?_
  try clear H a W
  intro a W H
  refine wp_seq_k (fun K2 hK2 => ?_)
  refine sqR H gs0 fun Z_ z_ => rS 1 rfl <| rV rfl (does_call rfl ⟨_, Try.func40, by kernel_rfl⟩ rfl (fun W hb => isNone_b (hrow.below hb hrow.lt) hnb)) <| rK [1, 0] [] [] <| rN0 z_ ?_
  try clear H a W
  intro a W H
  refine wp_cond_false (H.ev rfl) ?_
  refine wp_skip ?_
  refine hK2 _ _ ?_
  clear hK2
  refine sqR H gs0 fun Z_ z_ => rS 1 rfl <| rV rfl (does_nilCheckQ rfl rfl) <| rV rfl (does_fieldAddr rfl rfl (fa_dk 0 (by decide))) <| rV rfl (does_oldAt (v := .int .i64 nb) rfl rfl hrow ld_dk0) <| rK [1, 1, 1, 1, 1, 0] [] [] <| rS 1 rfl <| rK [1, 0, 0, 0, 0, 0, 0] [] [] <| rN0 z_ ?_
  try clear H a W
  intro a W H
  refine wp_ret ?_
  repeat (first | (with_reducible refine then_ret ?_) | (with_reducible refine blk_ret ?_))
  refine end_tmp (p := 2) rfl rfl H (fun hb => ?_)
  exact ⟨rfl, hb⟩
set_option maxHeartbeats 4000000 in
theorem dead_b {p : Nat} {nb lf : Int} {vM vQ : Value} {A : Option Addr} {n c : Nat} {hf dd : Bool} {w : World} (hrow : Blk w p (.ty 58) (dkC nb vM (.slice A n c) vQ hf lf dd)) (hnb : 0 < nb) : Calls Try.prog 22 #[.pointer (some ⟨p, 0, none⟩)] w (fun rr w' => rr = .returned (.bool dd) ∧ Below w.heap.size w w') := by
  have h0 : decide (nb = 0) = false := decide_eq_false (by omega)
  refine calls_st (vs := [.pointer (some ⟨p, 0, none⟩)]) 12 Try.func22 rfl Try.ntmps22 rfl (fun a W H => ?_)
  replace H : St 12 w a W [(0, .pointer (some ⟨p, 0, none⟩))] [] := H
  refine sqR H gs0 fun Z_ z_ => rS 1 rfl <| rN0 z_ ?_
  try clear H a W
  intro a W H
  refine sqR H gs0 fun Z_ z_ => rS 1 rfl <| rV rfl (does_call rfl ⟨_, Try.func40, by kernel_rfl⟩ rfl (fun W hb => isNone_b (hrow.below hb hrow.lt) hnb)) <| rS 3 rfl <| rV rfl (does_nilCheckQ rfl rfl) <| rV rfl (does_fieldAddr rfl rfl (fa_dk 6 (by decide))) <| rV rfl (does_oldAt (v := .bool dd) rfl rfl hrow ld_dk6) <| rS 1 rfl <| rK [1, 1, 1, 1, 1, 1, 1, 1, 1, 0] [] [] <| rS 1 rfl <| rK [1, 0, 0, 0, 0, 0, 0, 0, 0, 0, 0] [] [] <| rN0 z_ ?_
  try clear H a W
  intro a W H
  refine wp_ret ?_
  repeat (first | (with_reducible refine then_ret ?_) | (with_reducible refine blk_ret ?_))
  refine end_tmp (p := 2) rfl rfl H (fun hb => ?_)
  exact ⟨rfl, hb⟩
set_option maxHeartbeats 4000000 in
theorem unsynced_b {p : Nat} {nb lf : Int} {vM vQ : Value} {A : Option Addr} {n c : Nat} {hf dd : Bool} {w : World} (hrow : Blk w p (.ty 58) (dkC nb vM (.slice A n c) vQ hf lf dd)) (hnb : 0 < nb) : Calls Try.prog 21 #[.pointer (some ⟨p, 0, none⟩)] w (fun rr w' => rr = .returned (.int .i64 ((n : Nat) : Int)) ∧ Below w.heap.size w w') := by
  have h0 : decide (nb = 0) = false := decide_eq_false (by omega)
  refine calls_st (vs := [.pointer (some ⟨p, 0, none⟩)]) 10 Try.func21 rfl Try.ntmps21 rfl (fun a W H => ?_)
  replace H : St 10 w a W [(0, .pointer (some ⟨p, 0, none⟩))] [] := H
  refine sqR H gs0 fun Z_ z_ => rS 1 rfl <| rN0 z_ ?_
  try clear H a W
  intro a W H
  refine wp_seq_k (fun K2 hK2 => ?_)
  refine sqR H gs0 fun Z_ z_ => rS 1 rfl <| rV rfl (does_call rfl ⟨_, Try.func40, by kernel_rfl⟩ rfl (fun W hb => isNone_b (hrow.below hb hrow.lt) hnb)) <| rK [1, 0] [] [] <| rN0 z_ ?_
  try clear H a W
  intro a W H
  refine wp_cond_false (H.ev rfl) ?_
  refine wp_skip ?_
  refine hK2 _ _ ?_
  clear hK2
  refine sqR H gs0 fun Z_ z_ => rS 1 rfl <| rV rfl (does_nilCheckQ rfl rfl) <| rV rfl (does_fieldAddr rfl rfl (fa_dk 2 (by decide))) <| rV rfl (does_oldAt (v := .slice A n c) rfl rfl hrow ld_dk2) <| rV rfl (does_len Try.underlying55 rfl rfl) <| rK [1, 1, 1, 1, 1, 1, 0] [] [] <| rS 1 rfl <| rK [1, 0, 0, 0, 0, 0, 0, 0] [] [] <| rN0 z_ ?_
  try clear H a W
  intro a W H
  refine wp_ret ?_
  repeat (first | (with_reducible refine then_ret ?_) | (with_reducible refine blk_ret ?_))
  refine end_tmp (p := 2) rfl rfl H (fun hb => ?_)
  exact ⟨rfl, hb⟩
set_option maxHeartbeats 8000000 in
theorem looks_K {p1 p2 : Nat} {D : Dk} {r1 r2 hh : Hep} (hP1 : PO p1 D r1) (hP2 : RO p2 D r2) (w0 w : World) (K : Kn w0 w (r1 ++ (r2 ++ hh))) : Calls Try.prog 17 #[.pointer (some ⟨p1, 0, none⟩), .pointer (some ⟨p2, 0, none⟩)] w (fun rr w' => rr = .returned (.bool true) ∧ Kn w0 w' (r1 ++ (r2 ++ hh))) := by
  have hnb := hP1.nb
  obtain ⟨vM, A1, c1, vQ, hf, lf, hm1, hpos⟩ := hP1.row
  obtain ⟨gB, cB, A2, cL, hm2⟩ := hP2.row
  refine calls_kn (vs := [.pointer (some ⟨p1, 0, none⟩), .pointer (some ⟨p2, 0, none⟩)]) 69 Try.func17 rfl Try.ntmps17 rfl K (fun a W H => ?_)
  replace H : St 69 w0 a W [(0, .pointer (some ⟨p1, 0, none⟩)), (1, .pointer (some ⟨p2, 0, none⟩))] ((r1 ++ (r2 ++ hh))) := H
  refine sqR H gs0 fun Z_ z_ => rS 1 rfl <| rN0 z_ ?_
  try clear H a W
  intro a W H
  refine wp_seq_k (fun K2 hK2 => ?_)
  refine sqD (.v 10 _ [] :: .v 11 _ [0] :: .v 12 _ [] :: .v 13 _ [2] :: .v 14 _ [3] :: .v 15 _ [4] :: .v 16 _ [5] :: .v 17 _ [1, 6] :: .v 18 _ [7] :: .v 19 _ [8] :: .v 20 _ [9, 8] :: .v 21 _ [8] :: .v 22 _ [11, 8] :: .v 23 _ [12, 8] :: .v 24 _ [13, 8] :: .v 25 _ [10, 14, 8] :: .v 26 _ [8, 15] :: .v 27 _ [16] :: .v 28 _ [17] :: .v 29 _ [18, 17] :: .v 30 _ [17] :: .v 31 _ [20, 17] :: .v 32 _ [21, 17] :: .v 33 _ [22, 17] :: .v 34 _ [23, 17] :: .v 35 _ [19, 24, 17] :: .v 36 _ [17, 25] :: []) (by kernel_rfl) (by kernel_rfl) H gs0 (fun _ => ⟨oS rfl rfl, oCV rfl rfl ⟨_, Try.func31, by kernel_rfl⟩ rfl (fun a W H _ => (blocks_b (H.heap _ (List.mem_append_left _ hm1)) (by omega))), oS rfl rfl, oV rfl (does_nilCheckQ rfl rfl), oV rfl (does_fieldAddr rfl rfl (fa_rd 0 (by decide))), oV rfl (does_loadMem (v := .slice (some ⟨gB, 0, none⟩) D.B.length cB) rfl rfl (List.mem_append_right _ (List.mem_append_left _ hm2)) ld_rd0), oV rfl (does_len Try.underlying64 rfl rfl), oV rfl (does_binOp rfl rfl rfl (zd_neq_int (k := ((D.B.length : Nat) : Int)) (m := ((D.B.length : Nat) : Int)) (decide_eq_false (by omega)) _ _)), oS rfl rfl, oS rfl rfl, oCV rfl rfl ⟨_, Try.func22, by kernel_rfl⟩ rfl (fun a W H _ => (dead_b (H.heap _ (List.mem_append_left _ hm1)) (by omega))), oS rfl rfl, oV rfl (does_nilCheckQ rfl rfl), oV rfl (does_fieldAddr rfl rfl (fa_rd 3 (by decide))), oV rfl (does_loadMem (v := .bool D.dead) rfl rfl (List.mem_append_right _ (List.mem_append_left _ hm2)) ld_rd3), oV rfl (does_binOp rfl rfl rfl (bd_neqS _ _)), oS rfl rfl, oS rfl rfl, oS rfl rfl, oCV rfl rfl ⟨_, Try.func21, by kernel_rfl⟩ rfl (fun a W H _ => (unsynced_b (H.heap _ (List.mem_append_left _ hm1)) (by omega))), oS rfl rfl, oV rfl (does_nilCheckQ rfl rfl), oV rfl (does_fieldAddr rfl rfl (fa_rd 1 (by decide))), oV rfl (does_loadMem (v := .slice A2 D.L.length cL) rfl rfl (List.mem_append_right _ (List.mem_append_left _ hm2)) ld_rd1), oV rfl (does_len Try.underlying65 rfl rfl), oV rfl (does_binOp rfl rfl rfl (zd_neq_int (k := ((D.L.length : Nat) : Int)) (m := ((D.L.length : Nat) : Int)) (decide_eq_false (by omega)) _ _)), oS rfl rfl, trivial⟩) fun Z_ z_ => rK [1, 0, 0, 0, 0, 0, 0, 0, 0, 0, 0, 0, 0, 0, 0, 0, 0, 0, 0, 0, 0, 0, 0, 0, 0, 0, 0] [] [] <| rN0 z_ ?_
  try clear H a W
  intro a W H
  refine wp_cond_false (H.ev rfl) ?_
  refine wp_skip ?_
  refine hK2 _ _ ?_
  clear hK2
  refine wp_seq_k (fun K4 hK4 => ?_)
  refine sqR H gs0 fun Z_ z_ => rS 1 rfl <| rK [1, 0] [] [] <| rN0 z_ ?_
  try clear H a W
  intro a W H
  refine wp_block ?_
  replace H := H.perm' ((((List.Perm.refl _).append_left r1).trans (List.perm_append_comm_assoc r1 r2 hh)).append_left ([] : Hep))
  replace H : St 69 w0 a W [(5, .int .i64 (-1)), (4, .bool false), (0, .pointer (some ⟨p1, 0, none⟩)), (1, .pointer (some ⟨p2, 0, none⟩))] ((r2 ++ (r1 ++ hh))) := H
  replace H := H.perm' ((((List.Perm.refl _).append_left r2).trans (List.perm_append_comm_assoc r2 r1 hh)).append_left ([] : Hep))
  replace H : St 69 w0 a W [(5, .int .i64 (-1)), (4, .bool false), (0, .pointer (some ⟨p1, 0, none⟩)), (1, .pointer (some ⟨p2, 0, none⟩))] ((r1 ++ (r2 ++ hh))) := H
  replace H : St 69 w0 a W [(5, .int .i64 (-1)), (0, .pointer (some ⟨p1, 0, none⟩)), (1, .pointer (some ⟨p2, 0, none⟩))] ((r1 ++ (r2 ++ hh))) := H.pickF (h := []) (t := (r1 ++ (r2 ++ hh))) [0, 2, 3] [] rfl
  refine wp_rounds (D.B.length + 2) (fun k a W => ∃ u0, (u0 = 0 ∧ True) ∧ St 69 w0 a W [(5, .int .i64 (((k : Nat) : Int) - 1)), (0, .pointer (some ⟨p1, 0, none⟩)), (1, .pointer (some ⟨p2, 0, none⟩))] ((r1 ++ (r2 ++ hh)))) (k0 := 0) ⟨0, ⟨rfl, trivial⟩, H⟩ (by omega) ?_
  try clear H a W
  rintro k a W hk ⟨u0, hJ, H⟩
  by_cases hk2 : k < (D.B.length + 2)
  · refine wp_seq_k (fun K6 hK6 => ?_)
    refine sqR H gs0 fun Z_ z_ => rS 2 rfl <| rV rfl (does_nilCheckQ rfl rfl) <| rV rfl (does_fieldAddr rfl rfl (fa_rd 0 (by decide))) <| rV rfl (does_loadMem (v := .slice (some ⟨gB, 0, none⟩) D.B.length cB) rfl rfl (List.mem_append_right _ (List.mem_append_left _ hm2)) ld_rd0) <| rV rfl (does_len Try.underlying64 rfl rfl) <| rV rfl (does_binOp rfl rfl rfl (zd_leq_int (k := (((k : Nat) : Int) - 1)) (m := ((D.B.length : Nat) : Int)) (decide_eq_true (by omega)) _ _)) <| rN0 z_ ?_
    try clear H a W
    intro a W H
    refine wp_cond_true (H.ev rfl) ?_
    refine wp_skip ?_
    refine hK6 _ _ ?_
    clear hK6
    refine wp_seq_k (fun K8 hK8 => ?_)
    refine wp_block ?_
    cases hq1 : decide (0 ≤ (((k : Nat) : Int) - 1) ∧ (((k : Nat) : Int) - 1) < ((D.B.length : Nat) : Int)) with
    | true =>
      have hq1p := of_decide_eq_true hq1
      have hqr := hq1p
      obtain ⟨m, hkm⟩ : ∃ m, k = m + 1 := ⟨k - 1, by omega⟩
      rw [show (((k : Nat) : Int) - 1) = ((m : Nat) : Int) by omega] at H
      have hm_ : m < D.B.length := by omega
      replace H : St 69 w0 a W [(43, .bool true), (42, .int .i64 ((D.B.length : Nat) : Int)), (41, .slice (some ⟨gB, 0, none⟩) D.B.length cB), (40, .pointer (some ⟨p2, 0, none⟩)), (39, .pointer (some ⟨p2, 0, none⟩)), (38, .pointer (some ⟨p2, 0, none⟩)), (37, .int .i64 ((m : Nat) : Int)), (5, .int .i64 ((m : Nat) : Int)), (0, .pointer (some ⟨p1, 0, none⟩)), (1, .pointer (some ⟨p2, 0, none⟩))] ((r1 ++ (r2 ++ hh))) := H
      refine wp_seq_k (fun K9 hK9 => ?_)
      refine rgP H gs0 (rS 2 rfl <| rI0 ?_)
      try clear H a W
      intro a W H
      replace H : St 69 w0 a W [(48, .int .i64 ((m : Nat) : Int)), (47, .pointer (some ⟨p1, 0, none⟩)), (43, .bool true), (42, .int .i64 ((D.B.length : Nat) : Int)), (41, .slice (some ⟨gB, 0, none⟩) D.B.length cB), (40, .pointer (some ⟨p2, 0, none⟩)), (39, .pointer (some ⟨p2, 0, none⟩)), (38, .pointer (some ⟨p2, 0, none⟩)), (37, .int .i64 ((m : Nat) : Int)), (5, .int .i64 ((m : Nat) : Int)), (0, .pointer (some ⟨p1, 0, none⟩)), (1, .pointer (some ⟨p2, 0, none⟩))] (r1 ++ (([] : Hep) ++ (r2 ++ hh))) := H.perm' (((List.Perm.refl _).append_left ([] : Hep)).trans (List.perm_append_comm_assoc ([] : Hep) r1 (r2 ++ hh)))
      refine pl_callX rfl rfl ⟨_, Try.func18, by kernel_rfl⟩ rfl (fun K_ => po_read (hh := (([] : Hep) ++ (r2 ++ hh))) hP1 m (by omega) w0 _ K_) H ?_
      try clear H a W
      rintro gr1 a W - H
      replace H := H.perm' ((List.perm_append_comm_assoc r1 ([] : Hep) (r2 ++ hh)).append_left ([(gr1, .ty 77, bvs (readB D m))] : Hep))
      replace H : St 69 w0 a W [(49, .tuple #[.slice (some ⟨gr1, 0, none⟩) 512 512, .int .i64 0]), (48, .int .i64 ((m : Nat) : Int)), (47, .pointer (some ⟨p1, 0, none⟩)), (43, .bool true), (42, .int .i64 ((D.B.length : Nat) : Int)), (41, .slice (some ⟨gB, 0, none⟩) D.B.length cB), (40, .pointer (some ⟨p2, 0, none⟩)), (39, .pointer (some ⟨p2, 0, none⟩)), (38, .pointer (some ⟨p2, 0, none⟩)), (37, .int .i64 ((m : Nat) : Int)), (5, .int .i64 ((m : Nat) : Int)), (0, .pointer (some ⟨p1, 0, none⟩)), (1, .pointer (some ⟨p2, 0, none⟩))] ((gr1, 77, bvs (readB D m)) :: (r1 ++ (r2 ++ hh))) := H
      refine rgO H gs0 (rS 5 rfl <| rZ0 ?_)
      try clear H a W
      intro a W H
      refine hK9 _ _ ?_
      clear hK9
      refine wp_seq_k (fun K10 hK10 => ?_)
      refine rgP H gs0 (rS 2 rfl <| rI0 ?_)
      try clear H a W
      intro a W H
      replace H : St 69 w0 a W [(54, .int .i64 ((m : Nat) : Int)), (53, .pointer (some ⟨p2, 0, none⟩)), (7, .int .i64 0), (6, .slice (some ⟨gr1, 0, none⟩) 512 512), (51, .int .i64 0), (50, .slice (some ⟨gr1, 0, none⟩) 512 512), (46, .tuple #[.slice (some ⟨gr1, 0, none⟩) 512 512, .int .i64 0]), (49, .tuple #[.slice (some ⟨gr1, 0, none⟩) 512 512, .int .i64 0]), (48, .int .i64 ((m : Nat) : Int)), (47, .pointer (some ⟨p1, 0, none⟩)), (43, .bool true), (42, .int .i64 ((D.B.length : Nat) : Int)), (41, .slice (some ⟨gB, 0, none⟩) D.B.length cB), (40, .pointer (some ⟨p2, 0, none⟩)), (39, .pointer (some ⟨p2, 0, none⟩)), (38, .pointer (some ⟨p2, 0, none⟩)), (37, .int .i64 ((m : Nat) : Int)), (5, .int .i64 ((m : Nat) : Int)), (0, .pointer (some ⟨p1, 0, none⟩)), (1, .pointer (some ⟨p2, 0, none⟩))] (r2 ++ (([(gr1, .ty 77, bvs (readB D m))] : Hep) ++ (r1 ++ hh))) := H.perm' (((((List.Perm.refl _).append_left r1).trans (List.perm_append_comm_assoc r1 r2 hh)).append_left ([(gr1, .ty 77, bvs (readB D m))] : Hep)).trans (List.perm_append_comm_assoc ([(gr1, .ty 77, bvs (readB D m))] : Hep) r2 (r1 ++ hh)))
      refine pl_callX rfl rfl ⟨_, Try.func39, by kernel_rfl⟩ rfl (fun K_ => ro_read (hh := (([(gr1, .ty 77, bvs (readB D m))] : Hep) ++ (r1 ++ hh))) hP2 m (by omega) w0 _ K_) H ?_
      try clear H a W
      rintro ⟨gr2, cp2, cu2⟩ a W hu2 H
      replace H := H.perm' ((List.perm_append_comm_assoc r2 ([(gr1, .ty 77, bvs (readB D m))] : Hep) (r1 ++ hh)).append_left ([(gr2, .ty 5, cu2)] : Hep))
      replace H : St 69 w0 a W [(55, .tuple #[.slice (some ⟨gr2, 0, none⟩) 512 cp2, .int .i64 0]), (54, .int .i64 ((m : Nat) : Int)), (53, .pointer (some ⟨p2, 0, none⟩)), (7, .int .i64 0), (6, .slice (some ⟨gr1, 0, none⟩) 512 512), (51, .int .i64 0), (50, .slice (some ⟨gr1, 0, none⟩) 512 512), (46, .tuple #[.slice (some ⟨gr1, 0, none⟩) 512 512, .int .i64 0]), (49, .tuple #[.slice (some ⟨gr1, 0, none⟩) 512 512, .int .i64 0]), (48, .int .i64 ((m : Nat) : Int)), (47, .pointer (some ⟨p1, 0, none⟩)), (43, .bool true), (42, .int .i64 ((D.B.length : Nat) : Int)), (41, .slice (some ⟨gB, 0, none⟩) D.B.length cB), (40, .pointer (some ⟨p2, 0, none⟩)), (39, .pointer (some ⟨p2, 0, none⟩)), (38, .pointer (some ⟨p2, 0, none⟩)), (37, .int .i64 ((m : Nat) : Int)), (5, .int .i64 ((m : Nat) : Int)), (0, .pointer (some ⟨p1, 0, none⟩)), (1, .pointer (some ⟨p2, 0, none⟩))] ((gr2, 5, cu2) :: (gr1, 77, bvs (readB D m)) :: (r2 ++ (r1 ++ hh))) := H
      refine rgO H gs0 (rS 5 rfl <| rZ0 ?_)
      try clear H a W
      intro a W H
      refine hK10 _ _ ?_
      clear hK10
      refine sqR H gs0 fun Z_ z_ => rS 1 rfl <| rOV rfl (fun a W H _ => ob_strP H (wanted_none rfl) rfl rfl (sl_bf (read_len hP1.ok (by omega)) (H.blk (k := 1) rfl))) <| rS 1 rfl <| rOV rfl (fun a W H _ => ob_strP H (wanted_none rfl) rfl rfl (bf_uc (H.blk (k := 0) rfl) hu2)) <| rV rfl (does_binOp rfl rfl rfl (sd_neqP (l := readB D m) (m := readB D m) (decide_eq_false fun h_ => h_ rfl) _ _)) <| rS 2 rfl <| rV rfl (does_call rfl ⟨_, Try.func13, by kernel_rfl⟩ rfl (fun W hb => num_any _ W)) <| rS 1 rfl <| rV rfl (does_binOp rfl rfl rfl (zd_neq_int (k := 0) (m := 0) (decide_eq_false (by omega)) _ _)) <| rS 1 rfl <| rN0 z_ ?_
      try clear H a W
      intro a W H
      refine wp_cond_false (H.ev rfl) ?_
      refine wp_skip ?_
      refine blk_normal ?_
      refine hK8 _ _ ?_
      clear hK8
      rw [show ((m : Nat) : Int) = (((k : Nat) : Int) - 1) by omega] at H
      replace H : St 69 w0 a W [(68, .bool false), (67, .bool false), (66, .int .i64 0), (65, .int .i64 0), (64, .int .i64 0), (63, .bool false), (62, .bool false), (61, .string (strB (readB D m))), (60, .slice (some ⟨gr2, 0, none⟩) 512 cp2), (59, .string (strB (readB D m))), (58, .slice (some ⟨gr1, 0, none⟩) 512 512), (9, .int .i64 0), (8, .slice (some ⟨gr2, 0, none⟩) 512 cp2), (57, .int .i64 0), (56, .slice (some ⟨gr2, 0, none⟩) 512 cp2), (52, .tuple #[.slice (some ⟨gr2, 0, none⟩) 512 cp2, .int .i64 0]), (55, .tuple #[.slice (some ⟨gr2, 0, none⟩) 512 cp2, .int .i64 0]), (54, .int .i64 (((k : Nat) : Int) - 1)), (53, .pointer (some ⟨p2, 0, none⟩)), (7, .int .i64 0), (6, .slice (some ⟨gr1, 0, none⟩) 512 512), (51, .int .i64 0), (50, .slice (some ⟨gr1, 0, none⟩) 512 512), (46, .tuple #[.slice (some ⟨gr1, 0, none⟩) 512 512, .int .i64 0]), (49, .tuple #[.slice (some ⟨gr1, 0, none⟩) 512 512, .int .i64 0]), (48, .int .i64 (((k : Nat) : Int) - 1)), (47, .pointer (some ⟨p1, 0, none⟩)), (43, .bool true), (42, .int .i64 ((D.B.length : Nat) : Int)), (41, .slice (some ⟨gB, 0, none⟩) D.B.length cB), (40, .pointer (some ⟨p2, 0, none⟩)), (39, .pointer (some ⟨p2, 0, none⟩)), (38, .pointer (some ⟨p2, 0, none⟩)), (37, .int .i64 (((k : Nat) : Int) - 1)), (5, .int .i64 (((k : Nat) : Int) - 1)), (0, .pointer (some ⟨p1, 0, none⟩)), (1, .pointer (some ⟨p2, 0, none⟩))] ((gr2, 5, cu2) :: (gr1, 77, bvs (readB D m)) :: (r2 ++ (r1 ++ hh))) := H
      refine rgP H gs0 (rS 1 rfl <| rV rfl (does_binOp rfl rfl rfl (zd_add_int (k := (((k : Nat) : Int) - 1)) (m := 1) (c := (((k + 1 : Nat) : Int) - 1)) (by omega) (by omega) _ _)) <| rK [1, 1, 1, 1, 1, 1, 1, 1, 1, 1, 1, 1, 1, 1, 1, 1, 1, 1, 1, 1, 1, 1, 1, 1, 1, 1, 1, 1, 1, 1, 1, 1, 1, 1, 1, 1, 0] [] [] <| rS 1 rfl <| rZ0 ?_)
      try clear H a W
      intro a W H
      replace H := H.perm' ((((List.Perm.refl _).append_left r2).trans (List.perm_append_comm_assoc r2 r1 hh)).append_left ([(gr2, .ty 5, cu2), (gr1, .ty 77, bvs (readB D m))] : Hep))
      replace H : St 69 w0 a W [(5, .int .i64 (((k + 1 : Nat) : Int) - 1)), (45, .int .i64 (((k + 1 : Nat) : Int) - 1)), (44, .int .i64 (((k : Nat) : Int) - 1)), (68, .bool false), (67, .bool false), (66, .int .i64 0), (65, .int .i64 0), (64, .int .i64 0), (63, .bool false), (62, .bool false), (61, .string (strB (readB D m))), (60, .slice (some ⟨gr2, 0, none⟩) 512 cp2), (59, .string (strB (readB D m))), (58, .slice (some ⟨gr1, 0, none⟩) 512 512), (9, .int .i64 0), (8, .slice (some ⟨gr2, 0, none⟩) 512 cp2), (57, .int .i64 0), (56, .slice (some ⟨gr2, 0, none⟩) 512 cp2), (52, .tuple #[.slice (some ⟨gr2, 0, none⟩) 512 cp2, .int .i64 0]), (55, .tuple #[.slice (some ⟨gr2, 0, none⟩) 512 cp2, .int .i64 0]), (54, .int .i64 (((k : Nat) : Int) - 1)), (53, .pointer (some ⟨p2, 0, none⟩)), (7, .int .i64 0), (6, .slice (some ⟨gr1, 0, none⟩) 512 512), (51, .int .i64 0), (50, .slice (some ⟨gr1, 0, none⟩) 512 512), (46, .tuple #[.slice (some ⟨gr1, 0, none⟩) 512 512, .int .i64 0]), (49, .tuple #[.slice (some ⟨gr1, 0, none⟩) 512 512, .int .i64 0]), (48, .int .i64 (((k : Nat) : Int) - 1)), (47, .pointer (some ⟨p1, 0, none⟩)), (43, .bool true), (42, .int .i64 ((D.B.length : Nat) : Int)), (41, .slice (some ⟨gB, 0, none⟩) D.B.length cB), (40, .pointer (some ⟨p2, 0, none⟩)), (39, .pointer (some ⟨p2, 0, none⟩)), (38, .pointer (some ⟨p2, 0, none⟩)), (37, .int .i64 (((k : Nat) : Int) - 1)), (0, .pointer (some ⟨p1, 0, none⟩)), (1, .pointer (some ⟨p2, 0, none⟩))] ((gr2, 5, cu2) :: (gr1, 77, bvs (readB D m)) :: (r1 ++ (r2 ++ hh))) := H
      refine ⟨k + 1, by omega, by omega, 0, ⟨rfl, trivial⟩, ?_⟩
      exact H.pickF (h := [(gr2, 5, cu2), (gr1, 77, bvs (readB D m))]) (t := (r1 ++ (r2 ++ hh))) [0, 37, 38] [] rfl
    | false =>
      have hq1p := of_decide_eq_false hq1
      have hqr := hq1p
      refine wp_seq_k (fun K12 hK12 => ?_)
      refine rgP H gs0 (rS 2 rfl <| rI0 ?_)
      try clear H a W
      intro a W H
      replace H : St 69 w0 a W [(48, .int .i64 (((k : Nat) : Int) - 1)), (47, .pointer (some ⟨p1, 0, none⟩)), (43, .bool true), (42, .int .i64 ((D.B.length : Nat) : Int)), (41, .slice (some ⟨gB, 0, none⟩) D.B.length cB), (40, .pointer (some ⟨p2, 0, none⟩)), (39, .pointer (some ⟨p2, 0, none⟩)), (38, .pointer (some ⟨p2, 0, none⟩)), (37, .int .i64 (((k : Nat) : Int) - 1)), (5, .int .i64 (((k : Nat) : Int) - 1)), (0, .pointer (some ⟨p1, 0, none⟩)), (1, .pointer (some ⟨p2, 0, none⟩))] (r1 ++ (([] : Hep) ++ (r2 ++ hh))) := H.perm' (((List.Perm.refl _).append_left ([] : Hep)).trans (List.perm_append_comm_assoc ([] : Hep) r1 (r2 ++ hh)))
      refine pl_callV rfl rfl ⟨_, Try.func18, by kernel_rfl⟩ rfl (fun K_ => po_read_no (hh := (([] : Hep) ++ (r2 ++ hh))) hP1 (((k : Nat) : Int) - 1) (by omega) w0 _ K_) H ?_
      try clear H a W
      intro a W H
      replace H := H.perm' (List.perm_append_comm_assoc r1 ([] : Hep) (r2 ++ hh))
      replace H : St 69 w0 a W [(49, .tuple #[.slice none 0 0, .int .i64 2]), (48, .int .i64 (((k : Nat) : Int) - 1)), (47, .pointer (some ⟨p1, 0, none⟩)), (43, .bool true), (42, .int .i64 ((D.B.length : Nat) : Int)), (41, .slice (some ⟨gB, 0, none⟩) D.B.length cB), (40, .pointer (some ⟨p2, 0, none⟩)), (39, .pointer (some ⟨p2, 0, none⟩)), (38, .pointer (some ⟨p2, 0, none⟩)), (37, .int .i64 (((k : Nat) : Int) - 1)), (5, .int .i64 (((k : Nat) : Int) - 1)), (0, .pointer (some ⟨p1, 0, none⟩)), (1, .pointer (some ⟨p2, 0, none⟩))] ((r1 ++ (r2 ++ hh))) := H
      refine rgO H gs0 (rS 5 rfl <| rZ0 ?_)
      try clear H a W
      intro a W H
      refine hK12 _ _ ?_
      clear hK12
      refine wp_seq_k (fun K13 hK13 => ?_)
      refine rgP H gs0 (rS 2 rfl <| rI0 ?_)
      try clear H a W
      intro a W H
      replace H : St 69 w0 a W [(54, .int .i64 (((k : Nat) : Int) - 1)), (53, .pointer (some ⟨p2, 0, none⟩)), (7, .int .i64 2), (6, .slice none 0 0), (51, .int .i64 2), (50, .slice none 0 0), (46, .tuple #[.slice none 0 0, .int .i64 2]), (49, .tuple #[.slice none 0 0, .int .i64 2]), (48, .int .i64 (((k : Nat) : Int) - 1)), (47, .pointer (some ⟨p1, 0, none⟩)), (43, .bool true), (42, .int .i64 ((D.B.length : Nat) : Int)), (41, .slice (some ⟨gB, 0, none⟩) D.B.length cB), (40, .pointer (some ⟨p2, 0, none⟩)), (39, .pointer (some ⟨p2, 0, none⟩)), (38, .pointer (some ⟨p2, 0, none⟩)), (37, .int .i64 (((k : Nat) : Int) - 1)), (5, .int .i64 (((k : Nat) : Int) - 1)), (0, .pointer (some ⟨p1, 0, none⟩)), (1, .pointer (some ⟨p2, 0, none⟩))] (r2 ++ (([] : Hep) ++ (r1 ++ hh))) := H.perm' (((((List.Perm.refl _).append_left r1).trans (List.perm_append_comm_assoc r1 r2 hh)).append_left ([] : Hep)).trans (List.perm_append_comm_assoc ([] : Hep) r2 (r1 ++ hh)))
      refine pl_callV rfl rfl ⟨_, Try.func39, by kernel_rfl⟩ rfl (fun K_ => ro_read_no (hh := (([] : Hep) ++ (r1 ++ hh))) hP2 (((k : Nat) : Int) - 1) (by omega) w0 _ K_) H ?_
      try clear H a W
      intro a W H
      replace H := H.perm' (List.perm_append_comm_assoc r2 ([] : Hep) (r1 ++ hh))
      replace H : St 69 w0 a W [(55, .tuple #[.slice none 0 0, .int .i64 2]), (54, .int .i64 (((k : Nat) : Int) - 1)), (53, .pointer (some ⟨p2, 0, none⟩)), (7, .int .i64 2), (6, .slice none 0 0), (51, .int .i64 2), (50, .slice none 0 0), (46, .tuple #[.slice none 0 0, .int .i64 2]), (49, .tuple #[.slice none 0 0, .int .i64 2]), (48, .int .i64 (((k : Nat) : Int) - 1)), (47, .pointer (some ⟨p1, 0, none⟩)), (43, .bool true), (42, .int .i64 ((D.B.length : Nat) : Int)), (41, .slice (some ⟨gB, 0, none⟩) D.B.length cB), (40, .pointer (some ⟨p2, 0, none⟩)), (39, .pointer (some ⟨p2, 0, none⟩)), (38, .pointer (some ⟨p2, 0, none⟩)), (37, .int .i64 (((k : Nat) : Int) - 1)), (5, .int .i64 (((k : Nat) : Int) - 1)), (0, .pointer (some ⟨p1, 0, none⟩)), (1, .pointer (some ⟨p2, 0, none⟩))] ((r2 ++ (r1 ++ hh))) := H
      refine rgO H gs0 (rS 5 rfl <| rZ0 ?_)
      try clear H a W
      intro a W H
      refine hK13 _ _ ?_
      clear hK13
      refine sqR H gs0 fun Z_ z_ => rS 1 rfl <| rOV rfl (fun a W H _ => ob_strP H (wanted_none rfl) rfl rfl (BF.nil _)) <| rS 1 rfl <| rOV rfl (fun a W H _ => ob_strP H (wanted_none rfl) rfl rfl (BF.nil _)) <| rV rfl (does_binOp rfl rfl rfl (sd_neqP (l := []) (m := []) (decide_eq_false fun h_ => h_ rfl) _ _)) <| rS 2 rfl <| rV rfl (does_call rfl ⟨_, Try.func13, by kernel_rfl⟩ rfl (fun W hb => num_any _ W)) <| rS 1 rfl <| rV rfl (does_binOp rfl rfl rfl (zd_neq_int (k := 2) (m := 2) (decide_eq_false (by omega)) _ _)) <| rS 1 rfl <| rN0 z_ ?_
      try clear H a W
      intro a W H
      refine wp_cond_false (H.ev rfl) ?_
      refine wp_skip ?_
      refine blk_normal ?_
      refine hK8 _ _ ?_
      clear hK8
      refine rgP H gs0 (rS 1 rfl <| rV rfl (does_binOp rfl rfl rfl (zd_add_int (k := (((k : Nat) : Int) - 1)) (m := 1) (c := (((k + 1 : Nat) : Int) - 1)) (by omega) (by omega) _ _)) <| rK [1, 1, 1, 1, 1, 1, 1, 1, 1, 1, 1, 1, 1, 1, 1, 1, 1, 1, 1, 1, 1, 1, 1, 1, 1, 1, 1, 1, 1, 1, 1, 1, 1, 1, 1, 1, 0] [] [] <| rS 1 rfl <| rZ0 ?_)
      try clear H a W
      intro a W H
      replace H := H.perm' ((((List.Perm.refl _).append_left r2).trans (List.perm_append_comm_assoc r2 r1 hh)).append_left ([] : Hep))
      replace H : St 69 w0 a W [(5, .int .i64 (((k + 1 : Nat) : Int) - 1)), (45, .int .i64 (((k + 1 : Nat) : Int) - 1)), (44, .int .i64 (((k : Nat) : Int) - 1)), (68, .bool false), (67, .bool false), (66, .int .i64 2), (65, .int .i64 2), (64, .int .i64 2), (63, .bool false), (62, .bool false), (61, .string (strB [])), (60, .slice none 0 0), (59, .string (strB [])), (58, .slice none 0 0), (9, .int .i64 2), (8, .slice none 0 0), (57, .int .i64 2), (56, .slice none 0 0), (52, .tuple #[.slice none 0 0, .int .i64 2]), (55, .tuple #[.slice none 0 0, .int .i64 2]), (54, .int .i64 (((k : Nat) : Int) - 1)), (53, .pointer (some ⟨p2, 0, none⟩)), (7, .int .i64 2), (6, .slice none 0 0), (51, .int .i64 2), (50, .slice none 0 0), (46, .tuple #[.slice none 0 0, .int .i64 2]), (49, .tuple #[.slice none 0 0, .int .i64 2]), (48, .int .i64 (((k : Nat) : Int) - 1)), (47, .pointer (some ⟨p1, 0, none⟩)), (43, .bool true), (42, .int .i64 ((D.B.length : Nat) : Int)), (41, .slice (some ⟨gB, 0, none⟩) D.B.length cB), (40, .pointer (some ⟨p2, 0, none⟩)), (39, .pointer (some ⟨p2, 0, none⟩)), (38, .pointer (some ⟨p2, 0, none⟩)), (37, .int .i64 (((k : Nat) : Int) - 1)), (0, .pointer (some ⟨p1, 0, none⟩)), (1, .pointer (some ⟨p2, 0, none⟩))] ((r1 ++ (r2 ++ hh))) := H
      refine ⟨k + 1, by omega, by omega, 0, ⟨rfl, trivial⟩, ?_⟩
      exact H.pickF (h := []) (t := (r1 ++ (r2 ++ hh))) [0, 37, 38] [] rfl
  · obtain rfl : (D.B.length + 2) = k := by omega
    refine wp_seq_k (fun K15 hK15 => ?_)
    refine sqR H gs0 fun Z_ z_ => rS 2 rfl <| rV rfl (does_nilCheckQ rfl rfl) <| rV rfl (does_fieldAddr rfl rfl (fa_rd 0 (by decide))) <| rV rfl (does_loadMem (v := .slice (some ⟨gB, 0, none⟩) D.B.length cB) rfl rfl (List.mem_append_right _ (List.mem_append_left _ hm2)) ld_rd0) <| rV rfl (does_len Try.underlying64 rfl rfl) <| rV rfl (does_binOp rfl rfl rfl (zd_leq_int (k := ((((D.B.length + 2) : Nat) : Int) - 1)) (m := ((D.B.length : Nat) : Int)) (decide_eq_false (by omega)) _ _)) <| rK [1, 0, 0, 0, 0, 0, 0] [] [] <| rN0 z_ ?_
    try clear H a W
    intro a W H
    refine wp_cond_false (H.ev rfl) ?_
    refine wp_exit ?_
    repeat (first | (with_reducible refine then_exit ?_) | (with_reducible refine blk_pass (by decide) ?_))
    refine blk_exit ?_
    refine hK4 _ _ ?_
    clear hK4
    refine sqR H gs0 fun Z_ z_ => rS 1 rfl <| rK [1, 0, 0, 0, 0] [] [] <| rN0 z_ ?_
    try clear H a W
    intro a W H
    refine wp_ret ?_
    repeat (first | (with_reducible refine then_ret ?_) | (with_reducible refine blk_ret ?_))
    refine end_tmp (p := 4) rfl rfl H (fun hb => ?_)
    replace H := H.perm' ((((List.Perm.refl _).append_left r1).trans (List.perm_append_comm_assoc r1 r2 hh)).append_left ([] : Hep))
    replace H : St 69 w0 a W [(4, .bool true)] ((r2 ++ (r1 ++ hh))) := H
    replace H := H.perm' ((((List.Perm.refl _).append_left r2).trans (List.perm_append_comm_assoc r2 r1 hh)).append_left ([] : Hep))
    replace H : St 69 w0 a W [(4, .bool true)] ((r1 ++ (r2 ++ hh))) := H
    exact ⟨rfl, H.kn⟩
end Go.Proofs.Ytiebelmglchbdaa
