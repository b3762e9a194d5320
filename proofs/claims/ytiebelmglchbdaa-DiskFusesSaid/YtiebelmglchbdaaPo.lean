/- Layer 14's laws: DiskFuses. -/
import Derived.Test.YtiebelmglchbdaaPn
namespace Go.Proofs.Ytiebelmglchbdaa
set_option linter.unusedVariables false
set_option linter.unusedSimpArgs false
set_option maxRecDepth 100000
open Go Go.RowKit

theorem zd_negT {n : Int} (hn : -9223372036854775808 < n ∧ n < 9223372036854775808) (W : World) : (Op.unary .neg (.int .i64 n)).run Try.prog W = .ok (.int .i64 (-n)) W := by
  have e : IntKind.i64.wrap (-n) = -n := IntWalk.i64_in _ (by omega)
  simp [Op.unary, e, go_sem]
theorem IP.nat {w : World} {A : Option Addr} {n : Nat} {l : List Int} (h : IP w w.heap.size A n l) : ∃ g o, 0 < n → A = some ⟨g, o, none⟩ ∧ g < w.heap.size ∧ ∀ i, i < n → w.cell? ⟨g, o + i, none⟩ = some (.int .i64 (l.getD i 0)) := by
  rcases Nat.eq_zero_or_pos n with h0 | h0
  · exact ⟨0, 0, fun hp => by omega⟩
  · obtain ⟨b, o, e, hb, hc⟩ := h.at_ h0
    exact ⟨b, o, fun _ => ⟨e, hb, fun i hi => hc i _ (getD_some (by have := h.len; omega))⟩⟩
/-- What a step answers, when so many were tried. -/
def errF (fu : Int) (d : Nat) : Int := if (d : Int) ≤ fu then 0 else if (d : Int) = fu + 1 then 17 else 14
theorem errF_is (fu : Int) (d : Nat) : ((d : Int) ≤ fu → errF fu d = 0) ∧ ((d : Int) = fu + 1 → errF fu d = 17) ∧ (fu + 1 < (d : Int) → errF fu d = 14) := by
  unfold errF
  refine ⟨fun h => if_pos h, fun h => ?_, fun h => ?_⟩
  · rw [if_neg (by omega), if_pos h]
  · rw [if_neg (by omega), if_neg (by omega)]
def FD (fu : Int) : Dk := { dNew 8 with fuse := fu }
theorem fd_ok {fu : Int} (h : ¬ fu < 0) : dFuse (dNew 8) fu = (FD fu, 0) := if_neg h
/-- A disk with a fuse, when so many steps were tried. -/
structure JF (fu : Int) (D : Dk) (d : Nat) : Prop where
  nb : D.B.length = 8
  nl : D.L.length ≤ d
  st : ((d : Int) ≤ fu ∧ D.fuse = fu - d ∧ D.dead = false) ∨ (fu < (d : Int) ∧ D.dead = true)
theorem JF.start {fu : Int} (h : 0 ≤ fu) : JF fu (FD fu) 0 := ⟨rfl, Nat.le_refl _, .inl ⟨by omega, by show fu = _; omega, rfl⟩⟩
theorem JF.dead {fu : Int} {D : Dk} {d : Nat} (h : JF fu D d) (hd : fu < (d : Int)) : D.dead = true := by
  rcases h.st with h | h
  · omega
  · exact h.2
theorem JF.step {fu : Int} {D : Dk} {d : Nat} (h : JF fu D d) (h0 : 0 ≤ fu) : (dStep D).2 = errF fu (d + 1) ∧ (((d + 1 : Nat) : Int) ≤ fu ∧ (dStep D).1.fuse = fu - ((d + 1 : Nat) : Int) ∧ (dStep D).1.dead = false ∨ fu < ((d + 1 : Nat) : Int) ∧ (dStep D).1.dead = true) := by
  obtain ⟨e1, e2, e3⟩ := errF_is fu (d + 1)
  rcases h.st with ⟨h1, h2, h3⟩ | ⟨h1, h2⟩
  · by_cases hz : D.fuse = 0
    · have e : dStep D = ({ D with dead := true }, 17) := by unfold dStep; rw [if_neg (by rw [h3]; decide), if_pos hz]
      rw [e]
      exact ⟨(e2 (by omega)).symm, .inr ⟨by omega, rfl⟩⟩
    · have e : dStep D = ({ D with fuse := D.fuse - 1 }, 0) := by unfold dStep; rw [if_neg (by rw [h3]; decide), if_neg hz, if_pos (by omega)]
      rw [e]
      exact ⟨(e1 (by omega)).symm, .inl ⟨by omega, by show D.fuse - 1 = _; omega, h3⟩⟩
  · have e : dStep D = (D, 14) := by unfold dStep; rw [if_pos h2]
    rw [e]
    exact ⟨(e3 (by omega)).symm, .inr ⟨by omega, h2⟩⟩
theorem JF.sync {fu : Int} {D : Dk} {d : Nat} (h : JF fu D d) (h0 : 0 ≤ fu) : JF fu (dSync D).1 (d + 1) ∧ dSync D = ((dSync D).1, errF fu (d + 1)) := by
  obtain ⟨s1, s2⟩ := h.step h0
  obtain ⟨hB, hL⟩ := step_same D
  by_cases hz : (dStep D).2 = 0
  · rw [sync_ok2 hz]
    exact ⟨⟨by show (settle D.L D.B).length = 8; rw [settle_len]; exact h.nb, Nat.zero_le _, s2⟩, by rw [← s1, hz]⟩
  · have e : dSync D = dStep D := by unfold dSync; rw [if_neg hz]
    rw [e]
    exact ⟨⟨by rw [hB]; exact h.nb, by rw [hL]; have := h.nl; omega, s2⟩, by rw [← s1]⟩
theorem JF.write {fu : Int} {D : Dk} {d : Nat} (h : JF fu D d) (h0 : 0 ≤ fu) {n : Int} (hn : 0 ≤ n ∧ n < 8) {b : List UInt8} (hb : b.length = 512) : JF fu (dWrite D n b).1 (d + 1) ∧ dWrite D n b = ((dWrite D n b).1, errF fu (d + 1)) := by
  obtain ⟨s1, s2⟩ := h.step h0
  obtain ⟨hB, hL⟩ := step_same D
  have hh : hasB D n ∧ b.length = 512 := ⟨by unfold hasB; have := h.nb; omega, hb⟩
  by_cases hz : (dStep D).2 = 14
  · have e : dWrite D n b = dStep D := by unfold dWrite; rw [if_pos hh, if_pos hz]
    rw [e]
    exact ⟨⟨by rw [hB]; exact h.nb, by rw [hL]; have := h.nl; omega, s2⟩, by rw [← s1]⟩
  · have e : dWrite D n b = ({ (dStep D).1 with L := D.L ++ [(n.toNat, b)] }, (dStep D).2) := by unfold dWrite; rw [if_pos hh, if_neg hz]
    rw [e]
    exact ⟨⟨by rw [hB]; exact h.nb, by show (D.L ++ [(n.toNat, b)]).length ≤ d + 1; rw [List.length_append]; have := h.nl; show D.L.length + 1 ≤ d + 1; omega, s2⟩, by rw [← s1]⟩
theorem crash_dead (D : Dk) (l : List Int) : (dCrash D l).dead = false := rfl
theorem crash_sync (D : Dk) (l : List Int) : dSync (dCrash D l) = ((dSync (dCrash D l)).1, 0) := rfl
attribute [local irreducible] bvs dwa entsI zeroB lastsB stepP lastN xorB rb dWrite dSync dFuse dCrash dEdit errF FD
set_option maxHeartbeats 16000000 in
theorem law_fuses {A : Option Addr} {n c : Nat} {l : List Int} (fu : Int) (w : World) (hfu : -9223372036854775808 ≤ fu ∧ fu < 9223372036854775808) (hA : IP w w.heap.size A n l) : Calls Try.prog 6 #[.int .i64 fu, .slice A n c] w (fun rr w' => rr = .returned (.bool true) ∧ Below w.heap.size w w') := by
  have hmax := hA.max_
  have hbig := max_big
  obtain ⟨gl, ol, hlA⟩ := hA.nat
  refine calls_st (vs := [.int .i64 fu, .slice A n c]) 133 Try.func6 rfl Try.ntmps6 rfl (fun a W H => ?_)
  replace H : St 133 w a W [(0, .int .i64 fu), (1, .slice A n c)] (([] : Hep)) := H
  refine sqR H gs0 fun Z_ z_ => rS 1 rfl <| rN0 z_ ?_
  try clear H a W
  intro a W H
  refine wp_seq_k (fun K2 hK2 => ?_)
  refine wp_seq_k (fun K3 hK3 => ?_)
  cases hq1 : decide (fu < 0) with
  | true =>
    have hq1p := of_decide_eq_true hq1
    refine rgP H gs0 (rS 1 rfl <| rV rfl (does_binOp rfl rfl rfl (zd_lss_int (k := fu) (m := 0) hq1 _ _)) <| rS 9 rfl <| rK [1, 0, 0, 0, 0, 0, 0, 0, 0, 0, 0] [] [] <| rZ0 ?_)
    try clear H a W
    intro a W H
    refine hK3 _ _ ?_
    clear hK3
    refine wp_cond_true (H.ev rfl) ?_
    refine sqR H gs0 fun Z_ z_ => rV rfl (does_call rfl ⟨_, Try.func11, by kernel_rfl⟩ rfl (fun W hb => known_any W)) <| rK [1, 1, 0] [] [] <| rS 1 rfl <| rK [1, 0, 0] [] [] <| rN0 z_ ?_
    try clear H a W
    intro a W H
    refine wp_ret ?_
    repeat (first | (with_reducible refine then_ret ?_) | (with_reducible refine blk_ret ?_))
    refine end_tmp (p := 4) rfl rfl H (fun hb => ?_)
    exact ⟨rfl, hb⟩
  | false =>
    have hq1p := of_decide_eq_false hq1
    cases hq2 : decide (200 < fu) with
    | true =>
      have hq2p := of_decide_eq_true hq2
      refine rgP H gs0 (rS 1 rfl <| rV rfl (does_binOp rfl rfl rfl (zd_lss_int (k := fu) (m := 0) hq1 _ _)) <| rS 2 rfl <| rV rfl (does_binOp rfl rfl rfl (zd_gtr_int (k := fu) (m := 200) hq2 _ _)) <| rS 6 rfl <| rK [1, 0, 0, 0, 0, 0, 0, 0, 0, 0, 0] [] [] <| rZ0 ?_)
      try clear H a W
      intro a W H
      refine hK3 _ _ ?_
      clear hK3
      refine wp_cond_true (H.ev rfl) ?_
      refine sqR H gs0 fun Z_ z_ => rV rfl (does_call rfl ⟨_, Try.func11, by kernel_rfl⟩ rfl (fun W hb => known_any W)) <| rK [1, 1, 0] [] [] <| rS 1 rfl <| rK [1, 0, 0] [] [] <| rN0 z_ ?_
      try clear H a W
      intro a W H
      refine wp_ret ?_
      repeat (first | (with_reducible refine then_ret ?_) | (with_reducible refine blk_ret ?_))
      refine end_tmp (p := 4) rfl rfl H (fun hb => ?_)
      exact ⟨rfl, hb⟩
    | false =>
      have hq2p := of_decide_eq_false hq2
      refine rgP H gs0 (rS 1 rfl <| rV rfl (does_binOp rfl rfl rfl (zd_lss_int (k := fu) (m := 0) hq1 _ _)) <| rS 2 rfl <| rV rfl (does_binOp rfl rfl rfl (zd_gtr_int (k := fu) (m := 200) hq2 _ _)) <| rS 3 rfl <| rV rfl (does_len Try.underlying33 rfl rfl) <| rV rfl (does_binOp rfl rfl rfl (zd_gtr_int (k := ((n : Nat) : Int)) (m := 80) rfl _ _)) <| rS 1 rfl <| rK [1, 0, 0, 0, 0, 0, 0, 0, 0, 0, 0] [] [] <| rZ0 ?_)
      try clear H a W
      intro a W H
      refine hK3 _ _ ?_
      clear hK3
      cases hq3 : decide (80 < ((n : Nat) : Int)) with
      | true =>
        rw [hq3] at H
        have hq3p := of_decide_eq_true hq3
        refine wp_cond_true (H.ev rfl) ?_
        refine sqR H gs0 fun Z_ z_ => rV rfl (does_call rfl ⟨_, Try.func11, by kernel_rfl⟩ rfl (fun W hb => known_any W)) <| rK [1, 1, 0] [] [] <| rS 1 rfl <| rK [1, 0, 0] [] [] <| rN0 z_ ?_
        try clear H a W
        intro a W H
        refine wp_ret ?_
        repeat (first | (with_reducible refine then_ret ?_) | (with_reducible refine blk_ret ?_))
        refine end_tmp (p := 4) rfl rfl H (fun hb => ?_)
        exact ⟨rfl, hb⟩
      | false =>
        rw [hq3] at H
        have hq3p := of_decide_eq_false hq3
        refine wp_cond_false (H.ev rfl) ?_
        refine wp_skip ?_
        refine hK2 _ _ ?_
        clear hK2
        refine wp_seq_k (fun K7 hK7 => ?_)
        refine rg_plain ?_
        replace H : St 133 w a W [(21, .bool false), (4, .bool false), (0, .int .i64 fu), (1, .slice A n c)] (([] : Hep) ++ ([] : Hep)) := H
        refine pl_callX rfl rfl ⟨_, Try.func12, by kernel_rfl⟩ rfl (fun K_ => po_new (hh := (([] : Hep) ++ ([] : Hep))) 8 (by omega) w _ K_) H ?_
        try clear H a W
        rintro ⟨p1, r1⟩ a W hP1 H
        replace hP1 : PO p1 (dNew 8) r1 := hP1
        replace H := H.perm' (List.perm_append_comm_assoc r1 ([] : Hep) ([] : Hep))
        replace H : St 133 w a W [(24, .tuple #[.pointer (some ⟨p1, 0, none⟩), .int .i64 0]), (21, .bool false), (4, .bool false), (0, .int .i64 fu), (1, .slice A n c)] ((r1 ++ ([] : Hep))) := H
        refine rgO H gs0 (rS 5 rfl <| rK [0, 1, 0, 0, 0, 0, 0] [] [] <| rZ0 ?_)
        try clear H a W
        intro a W H
        refine hK7 _ _ ?_
        clear hK7
        refine wp_seq_k (fun K8 hK8 => ?_)
        refine wp_seq_k (fun K9 hK9 => ?_)
        refine rgP H gs0 (rS 1 rfl <| rV rfl (does_binOp rfl rfl rfl (fun W => ptr_nil W)) <| rS 3 rfl <| rI0 ?_)
        try clear H a W
        intro a W H
        replace H : St 133 w a W [(31, .int .i64 fu), (30, .pointer (some ⟨p1, 0, none⟩)), (29, .bool false), (28, .bool false), (27, .pointer (some ⟨p1, 0, none⟩)), (5, .pointer (some ⟨p1, 0, none⟩)), (4, .bool false), (0, .int .i64 fu), (1, .slice A n c)] (r1 ++ (([] : Hep) ++ ([] : Hep))) := H.perm' (((List.Perm.refl _).append_left ([] : Hep)).trans (List.perm_append_comm_assoc ([] : Hep) r1 ([] : Hep)))
        refine pl_callX rfl rfl ⟨_, Try.func26, by kernel_rfl⟩ rfl (fun K_ => by have h_ := po_fuse (hh := (([] : Hep) ++ ([] : Hep))) hP1 fu (by omega) w _ K_; rw [fd_ok (by omega)] at h_; exact h_) H ?_
        try clear H a W
        rintro r2 a W hP2 H
        replace hP2 : PO p1 (FD fu) r2 := hP2
        replace H := H.perm' (List.perm_append_comm_assoc r2 ([] : Hep) ([] : Hep))
        replace H : St 133 w a W [(32, .int .i64 0), (31, .int .i64 fu), (30, .pointer (some ⟨p1, 0, none⟩)), (29, .bool false), (28, .bool false), (27, .pointer (some ⟨p1, 0, none⟩)), (5, .pointer (some ⟨p1, 0, none⟩)), (4, .bool false), (0, .int .i64 fu), (1, .slice A n c)] ((r2 ++ ([] : Hep))) := H
        refine rgO H gs0 (rV rfl (does_call rfl ⟨_, Try.func13, by kernel_rfl⟩ rfl (fun W hb => num_any _ W)) <| rV rfl (does_binOp rfl rfl rfl (zd_neq_int (k := 0) (m := 0) (decide_eq_false (by omega)) _ _)) <| rS 1 rfl <| rK [1, 0, 0, 0, 0, 0, 0, 0, 0] [] [] <| rZ0 ?_)
        try clear H a W
        intro a W H
        refine hK9 _ _ ?_
        clear hK9
        refine wp_cond_false (H.ev rfl) ?_
        refine wp_skip ?_
        refine hK8 _ _ ?_
        clear hK8
        refine sqR H gs0 fun Z_ z_ => rS 1 rfl <| rK [1, 0] [] [] <| rN0 z_ ?_
        try clear H a W
        intro a W H
        refine wp_seq_k (fun K11 hK11 => ?_)
        refine sqR H gs0 fun Z_ z_ => rS 1 rfl <| rN0 z_ ?_
        try clear H a W
        intro a W H
        refine wp_block ?_
        replace H : St 133 w a W [(8, .int .i64 0), (7, .int .i64 0), (5, .pointer (some ⟨p1, 0, none⟩)), (0, .int .i64 fu), (1, .slice A n c)] ((r2 ++ ([] : Hep))) := H.pickF (h := []) (t := (r2 ++ ([] : Hep))) [0, 1, 2, 4, 5] [] rfl
        refine wp_rounds n (fun k a W => ∃ dn D r, (PO p1 D r ∧ JF fu D dn ∧ dn ≤ 2 * k) ∧ St 133 w a W [(8, .int .i64 ((k : Nat) : Int)), (7, .int .i64 ((dn : Nat) : Int)), (5, .pointer (some ⟨p1, 0, none⟩)), (0, .int .i64 fu), (1, .slice A n c)] ((r ++ ([] : Hep)))) (k0 := 0) ⟨0, (FD fu), r2, ⟨hP2, JF.start (by omega), Nat.le_refl _⟩, H⟩ (by omega) ?_
        try clear H a W
        rintro k a W hk ⟨dn, D, r, hJ, H⟩
        by_cases hk2 : k < n
        · have htm := tmod_in (n := l.getD k 0) (b := 9) (by decide)
          have hdn := hJ.2.2
          refine wp_seq_k (fun K13 hK13 => ?_)
          refine sqR H gs0 fun Z_ z_ => rS 2 rfl <| rV rfl (does_len Try.underlying33 rfl rfl) <| rV rfl (does_binOp rfl rfl rfl (zd_lss_int (k := ((k : Nat) : Int)) (m := ((n : Nat) : Int)) (decide_eq_true (by omega)) _ _)) <| rN0 z_ ?_
          try clear H a W
          intro a W H
          refine wp_cond_true (H.ev rfl) ?_
          refine wp_skip ?_
          refine hK13 _ _ ?_
          clear hK13
          refine wp_seq_k (fun K15 hK15 => ?_)
          refine wp_block ?_
          refine sqR H gs0 fun Z_ z_ => rS 2 rfl <| rV rfl (does_indexAddr rfl rfl rfl (ia_ints (j := k) (hlA (by omega)).1 (by omega))) <| rV rfl (does_loadCell (v := .int .i64 (l.getD k 0)) rfl rfl ((hlA (by omega)).2.2 k (by omega)) (hlA (by omega)).2.1 ld_intP) <| rV rfl (does_binOp rfl rfl rfl (zd_remT (by omega) _ _)) <| rS 1 rfl <| rN0 z_ ?_
          try clear H a W
          intro a W H
          refine wp_seq_k (fun K17 hK17 => ?_)
          refine sqR H gs0 fun Z_ z_ => rS 1 rfl <| rV rfl (does_binOp rfl rfl rfl (zd_lss_int (k := ((l.getD k 0).tmod 9)) (m := 0) rfl _ _)) <| rN0 z_ ?_
          try clear H a W
          intro a W H
          cases hq4 : decide (((l.getD k 0).tmod 9) < 0) with
          | true =>
            rw [hq4] at H
            have hq4p := of_decide_eq_true hq4
            refine wp_cond_true (H.ev rfl) ?_
            refine rgP H gs0 (rS 1 rfl <| rV rfl (does_unOp rfl rfl (zd_negT (by omega))) <| rK [1, 1, 1, 1, 0] [] [] <| rS 1 rfl <| rZ0 ?_)
            try clear H a W
            intro a W H
            refine hK17 _ _ ?_
            clear hK17
            refine wp_seq_k (fun K19 hK19 => ?_)
            refine rgP H gs0 (rS 1 rfl <| rI0 ?_)
            try clear H a W
            intro a W H
            replace H : St 133 w a W [(51, .pointer (some ⟨p1, 0, none⟩)), (9, .int .i64 (-((l.getD k 0).tmod 9))), (50, .int .i64 (-((l.getD k 0).tmod 9))), (49, .int .i64 ((l.getD k 0).tmod 9)), (48, .bool true), (47, .int .i64 ((l.getD k 0).tmod 9)), (46, .int .i64 ((l.getD k 0).tmod 9)), (45, .int .i64 (l.getD k 0)), (44, .pointer (some ⟨gl, ol + k, none⟩)), (43, .int .i64 ((k : Nat) : Int)), (42, .slice A n c), (39, .bool true), (38, .int .i64 ((n : Nat) : Int)), (37, .slice A n c), (36, .int .i64 ((k : Nat) : Int)), (8, .int .i64 ((k : Nat) : Int)), (7, .int .i64 ((dn : Nat) : Int)), (5, .pointer (some ⟨p1, 0, none⟩)), (0, .int .i64 fu), (1, .slice A n c)] (r ++ (([] : Hep) ++ ([] : Hep))) := H.perm' (((List.Perm.refl _).append_left ([] : Hep)).trans (List.perm_append_comm_assoc ([] : Hep) r ([] : Hep)))
            refine pl_callX rfl rfl ⟨_, Try.func27, by kernel_rfl⟩ rfl (fun K_ => by have h_ := po_sync (hh := (([] : Hep) ++ ([] : Hep))) hJ.1 w _ K_; rw [(hJ.2.1.sync (by omega)).2] at h_; exact h_) H ?_
            try clear H a W
            rintro r3 a W hP3 H
            replace hP3 : PO p1 (dSync D).1 r3 := hP3
            replace H := H.perm' (List.perm_append_comm_assoc r3 ([] : Hep) ([] : Hep))
            replace H : St 133 w a W [(52, .int .i64 (errF fu (dn + 1))), (51, .pointer (some ⟨p1, 0, none⟩)), (9, .int .i64 (-((l.getD k 0).tmod 9))), (50, .int .i64 (-((l.getD k 0).tmod 9))), (49, .int .i64 ((l.getD k 0).tmod 9)), (48, .bool true), (47, .int .i64 ((l.getD k 0).tmod 9)), (46, .int .i64 ((l.getD k 0).tmod 9)), (45, .int .i64 (l.getD k 0)), (44, .pointer (some ⟨gl, ol + k, none⟩)), (43, .int .i64 ((k : Nat) : Int)), (42, .slice A n c), (39, .bool true), (38, .int .i64 ((n : Nat) : Int)), (37, .slice A n c), (36, .int .i64 ((k : Nat) : Int)), (8, .int .i64 ((k : Nat) : Int)), (7, .int .i64 ((dn : Nat) : Int)), (5, .pointer (some ⟨p1, 0, none⟩)), (0, .int .i64 fu), (1, .slice A n c)] ((r3 ++ ([] : Hep))) := H
            refine rgO H gs0 (rS 1 rfl <| rZ0 ?_)
            try clear H a W
            intro a W H
            refine hK19 _ _ ?_
            clear hK19
            refine wp_seq_k (fun K20 hK20 => ?_)
            refine sqR H gs0 fun Z_ z_ => rS 1 rfl <| rV rfl (does_binOp rfl rfl rfl (zd_lss_int (k := (-((l.getD k 0).tmod 9))) (m := 8) rfl _ _)) <| rN0 z_ ?_
            try clear H a W
            intro a W H
            cases hq5 : decide ((-((l.getD k 0).tmod 9)) < 8) with
            | true =>
              rw [hq5] at H
              have hq5p := of_decide_eq_true hq5
              refine wp_cond_true (H.ev rfl) ?_
              refine wp_seq_k (fun K22 hK22 => ?_)
              refine rgP H gs0 (rS 3 rfl <| rV rfl (does_convert rfl rfl (cv_ib k)) <| rI0 ?_)
              try clear H a W
              intro a W H
              refine pl_callX rfl rfl ⟨_, Try.func29, by kernel_rfl⟩ rfl (fun K_ => fill_K (UInt8.ofNat k) K_) H ?_
              try clear H a W
              rintro g1 a W - H
              replace H : St 133 w a W [(59, .slice (some ⟨g1, 0, none⟩) 512 512), (58, bv (UInt8.ofNat k)), (57, .int .i64 ((k : Nat) : Int)), (56, .int .i64 (-((l.getD k 0).tmod 9))), (55, .pointer (some ⟨p1, 0, none⟩)), (54, .bool true), (53, .int .i64 (-((l.getD k 0).tmod 9))), (10, .int .i64 (errF fu (dn + 1))), (52, .int .i64 (errF fu (dn + 1))), (51, .pointer (some ⟨p1, 0, none⟩)), (9, .int .i64 (-((l.getD k 0).tmod 9))), (50, .int .i64 (-((l.getD k 0).tmod 9))), (49, .int .i64 ((l.getD k 0).tmod 9)), (48, .bool true), (47, .int .i64 ((l.getD k 0).tmod 9)), (46, .int .i64 ((l.getD k 0).tmod 9)), (45, .int .i64 (l.getD k 0)), (44, .pointer (some ⟨gl, ol + k, none⟩)), (43, .int .i64 ((k : Nat) : Int)), (42, .slice A n c), (39, .bool true), (38, .int .i64 ((n : Nat) : Int)), (37, .slice A n c), (36, .int .i64 ((k : Nat) : Int)), (8, .int .i64 ((k : Nat) : Int)), (7, .int .i64 ((dn : Nat) : Int)), (5, .pointer (some ⟨p1, 0, none⟩)), (0, .int .i64 fu), (1, .slice A n c)] ((g1, 5, bvs (fillB (UInt8.ofNat k))) :: (r3 ++ ([] : Hep))) := H
              replace H : St 133 w a W [(59, .slice (some ⟨g1, 0, none⟩) 512 512), (58, bv (UInt8.ofNat k)), (57, .int .i64 ((k : Nat) : Int)), (56, .int .i64 (-((l.getD k 0).tmod 9))), (55, .pointer (some ⟨p1, 0, none⟩)), (54, .bool true), (53, .int .i64 (-((l.getD k 0).tmod 9))), (10, .int .i64 (errF fu (dn + 1))), (52, .int .i64 (errF fu (dn + 1))), (51, .pointer (some ⟨p1, 0, none⟩)), (9, .int .i64 (-((l.getD k 0).tmod 9))), (50, .int .i64 (-((l.getD k 0).tmod 9))), (49, .int .i64 ((l.getD k 0).tmod 9)), (48, .bool true), (47, .int .i64 ((l.getD k 0).tmod 9)), (46, .int .i64 ((l.getD k 0).tmod 9)), (45, .int .i64 (l.getD k 0)), (44, .pointer (some ⟨gl, ol + k, none⟩)), (43, .int .i64 ((k : Nat) : Int)), (42, .slice A n c), (39, .bool true), (38, .int .i64 ((n : Nat) : Int)), (37, .slice A n c), (36, .int .i64 ((k : Nat) : Int)), (8, .int .i64 ((k : Nat) : Int)), (7, .int .i64 ((dn : Nat) : Int)), (5, .pointer (some ⟨p1, 0, none⟩)), (0, .int .i64 fu), (1, .slice A n c)] (r3 ++ (([(g1, .ty 5, bvs (fillB (UInt8.ofNat k)))] : Hep) ++ ([] : Hep))) := H.perm' (((List.Perm.refl _).append_left ([(g1, .ty 5, bvs (fillB (UInt8.ofNat k)))] : Hep)).trans (List.perm_append_comm_assoc ([(g1, .ty 5, bvs (fillB (UInt8.ofNat k)))] : Hep) r3 ([] : Hep)))
              refine pl_callX rfl rfl ⟨_, Try.func28, by kernel_rfl⟩ rfl (fun K_ => by have h_ := po_write (hh := (([(g1, .ty 5, bvs (fillB (UInt8.ofNat k)))] : Hep) ++ ([] : Hep))) (b := fillB (UInt8.ofNat k)) (gb := g1) (cb := 512) hP3 (-((l.getD k 0).tmod 9)) (by rw [fill_len _]; omega) (List.mem_append_left _ (List.mem_iff_getElem?.2 ⟨0, rfl⟩)) (by have h_ := (hJ.2.1.sync (by omega)).1.nl; omega) w _ K_; rw [show (fillB (UInt8.ofNat k)).length = 512 from (fill_len _)] at h_; rw [((hJ.2.1.sync (by omega)).1.write (by omega) (by omega) (fill_len _)).2] at h_; exact h_) H ?_
              try clear H a W
              rintro r4 a W hP4 H
              replace hP4 : PO p1 (dWrite (dSync D).1 (-((l.getD k 0).tmod 9)) (fillB (UInt8.ofNat k))).1 r4 := hP4
              replace H := H.perm' (List.perm_append_comm_assoc r4 ([(g1, .ty 5, bvs (fillB (UInt8.ofNat k)))] : Hep) ([] : Hep))
              replace H : St 133 w a W [(60, .int .i64 (errF fu (dn + 1 + 1))), (59, .slice (some ⟨g1, 0, none⟩) 512 512), (58, bv (UInt8.ofNat k)), (57, .int .i64 ((k : Nat) : Int)), (56, .int .i64 (-((l.getD k 0).tmod 9))), (55, .pointer (some ⟨p1, 0, none⟩)), (54, .bool true), (53, .int .i64 (-((l.getD k 0).tmod 9))), (10, .int .i64 (errF fu (dn + 1))), (52, .int .i64 (errF fu (dn + 1))), (51, .pointer (some ⟨p1, 0, none⟩)), (9, .int .i64 (-((l.getD k 0).tmod 9))), (50, .int .i64 (-((l.getD k 0).tmod 9))), (49, .int .i64 ((l.getD k 0).tmod 9)), (48, .bool true), (47, .int .i64 ((l.getD k 0).tmod 9)), (46, .int .i64 ((l.getD k 0).tmod 9)), (45, .int .i64 (l.getD k 0)), (44, .pointer (some ⟨gl, ol + k, none⟩)), (43, .int .i64 ((k : Nat) : Int)), (42, .slice A n c), (39, .bool true), (38, .int .i64 ((n : Nat) : Int)), (37, .slice A n c), (36, .int .i64 ((k : Nat) : Int)), (8, .int .i64 ((k : Nat) : Int)), (7, .int .i64 ((dn : Nat) : Int)), (5, .pointer (some ⟨p1, 0, none⟩)), (0, .int .i64 fu), (1, .slice A n c)] ((g1, 5, bvs (fillB (UInt8.ofNat k))) :: (r4 ++ ([] : Hep))) := H
              refine rgO H gs0 (rK [1, 1, 1, 1, 1, 1, 1, 1, 0] [] [] <| rS 1 rfl <| rZ0 ?_)
              try clear H a W
              intro a W H
              refine hK22 _ _ ?_
              clear hK22
              refine rgP H gs0 (rS 1 rfl <| rV rfl (does_binOp rfl rfl rfl (zd_add_int (k := ((dn : Nat) : Int)) (m := 1) (c := ((dn + 1 : Nat) : Int)) (by omega) (by omega) _ _)) <| rK [1, 1, 1, 1, 1, 1, 1, 1, 1, 1, 1, 1, 1, 1, 1, 1, 1, 1, 1, 1, 1, 1, 1, 1, 1, 1, 1, 1, 0] [] [] <| rS 1 rfl <| rZ0 ?_)
              try clear H a W
              intro a W H
              refine hK20 _ _ ?_
              clear hK20
              refine sqR H gs0 fun Z_ z_ => rS 1 rfl <| rV rfl (does_binOp rfl rfl rfl (zd_add_int (k := ((dn + 1 : Nat) : Int)) (m := 1) (c := ((dn + 1 + 1 : Nat) : Int)) (by omega) (by omega) _ _)) <| rK [1, 1, 0] [] [] <| rS 1 rfl <| rN0 z_ ?_
              try clear H a W
              intro a W H
              have hE1_0 := errF_is fu (dn + 1 + 1)
              have hE1_1 := errF_is fu (dn + 1 + 1 + 1)
              have hE1_2 := errF_is fu (dn + 1 + 1 + 1 + 1)
              refine wp_seq_k (fun K24 hK24 => ?_)
              have hE2_0 := errF_is fu (dn + 1 + 1)
              have hE2_1 := errF_is fu (dn + 1 + 1 + 1)
              have hE2_2 := errF_is fu (dn + 1 + 1 + 1 + 1)
              cases hq6 : decide (((dn + 1 + 1 : Nat) : Int) ≤ fu) with
              | true =>
                have hq6p := of_decide_eq_true hq6
                have hE3_0 := errF_is fu (dn + 1 + 1)
                have hE3_1 := errF_is fu (dn + 1 + 1 + 1)
                have hE3_2 := errF_is fu (dn + 1 + 1 + 1 + 1)
                cases hq7 : decide ((fu + 2) < ((dn + 1 + 1 : Nat) : Int)) with
                | true =>
                  have hq7p := of_decide_eq_true hq7
                  have hE4_0 := errF_is fu (dn + 1 + 1)
                  have hE4_1 := errF_is fu (dn + 1 + 1 + 1)
                  have hE4_2 := errF_is fu (dn + 1 + 1 + 1 + 1)
                  refine rgP H gs0 (rS 2 rfl <| rV rfl (does_binOp rfl rfl rfl (zd_leq_int (k := ((dn + 1 + 1 : Nat) : Int)) (m := fu) hq6 _ _)) <| rS 2 rfl <| rV rfl (does_call rfl ⟨_, Try.func13, by kernel_rfl⟩ rfl (fun W hb => num_any _ W)) <| rV rfl (does_binOp rfl rfl rfl (zd_neq_int (k := (errF fu (dn + 1 + 1))) (m := 0) (decide_eq_false (by omega)) _ _)) <| rS 4 rfl <| rV rfl (does_binOp rfl rfl rfl (zd_add_int (k := fu) (m := 2) (c := fu + 2) rfl (by omega) _ _)) <| rV rfl (does_binOp rfl rfl rfl (zd_gtr_int (k := ((dn + 1 + 1 : Nat) : Int)) (m := (fu + 2)) hq7 _ _)) <| rS 2 rfl <| rV rfl (does_call rfl ⟨_, Try.func13, by kernel_rfl⟩ rfl (fun W hb => num_any _ W)) <| rV rfl (does_binOp rfl rfl rfl (zd_neq_int (k := (errF fu (dn + 1 + 1))) (m := 14) (decide_eq_false (by omega)) _ _)) <| rS 5 rfl <| rV rfl (does_binOp rfl rfl rfl (zd_gtr_int (k := ((dn + 1 + 1 : Nat) : Int)) (m := fu) (decide_eq_false (by omega)) _ _)) <| rS 6 rfl <| rZ0 ?_)
                  try clear H a W
                  intro a W H
                  refine hK24 _ _ ?_
                  clear hK24
                  refine wp_cond_false (H.ev rfl) ?_
                  refine wp_skip ?_
                  refine blk_normal ?_
                  refine hK15 _ _ ?_
                  clear hK15
                  refine rgP H gs0 (rS 1 rfl <| rV rfl (does_binOp rfl rfl rfl (zd_add_int (k := ((k : Nat) : Int)) (m := 1) (c := ((k + 1 : Nat) : Int)) (by omega) (by omega) _ _)) <| rK [1, 1, 1, 1, 1, 1, 1, 1, 1, 1, 1, 1, 1, 1, 1, 1, 1, 1, 1, 1, 1, 1, 1, 1, 1, 1, 1, 1, 1, 1, 1, 1, 1, 1, 1, 1, 1, 1, 1, 1, 1, 1, 1, 1, 1, 1, 1, 1, 1, 1, 1, 1, 1, 1, 1, 1, 1, 1, 1, 1, 1, 0] [] [] <| rS 1 rfl <| rZ0 ?_)
                  try clear H a W
                  intro a W H
                  refine ⟨k + 1, by omega, by omega, dn + 1 + 1, (dWrite (dSync D).1 (-((l.getD k 0).tmod 9)) (fillB (UInt8.ofNat k))).1, r4, ⟨hP4, ((hJ.2.1.sync (by omega)).1.write (by omega) (by omega) (fill_len _)).1, by omega⟩, ?_⟩
                  exact H.pickF (h := [(g1, 5, bvs (fillB (UInt8.ofNat k)))]) (t := (r4 ++ ([] : Hep))) [0, 32, 62, 63, 64] [] rfl
                | false =>
                  have hq7p := of_decide_eq_false hq7
                  have hE5_0 := errF_is fu (dn + 1 + 1)
                  have hE5_1 := errF_is fu (dn + 1 + 1 + 1)
                  have hE5_2 := errF_is fu (dn + 1 + 1 + 1 + 1)
                  refine rgP H gs0 (rS 2 rfl <| rV rfl (does_binOp rfl rfl rfl (zd_leq_int (k := ((dn + 1 + 1 : Nat) : Int)) (m := fu) hq6 _ _)) <| rS 2 rfl <| rV rfl (does_call rfl ⟨_, Try.func13, by kernel_rfl⟩ rfl (fun W hb => num_any _ W)) <| rV rfl (does_binOp rfl rfl rfl (zd_neq_int (k := (errF fu (dn + 1 + 1))) (m := 0) (decide_eq_false (by omega)) _ _)) <| rS 4 rfl <| rV rfl (does_binOp rfl rfl rfl (zd_add_int (k := fu) (m := 2) (c := fu + 2) rfl (by omega) _ _)) <| rV rfl (does_binOp rfl rfl rfl (zd_gtr_int (k := ((dn + 1 + 1 : Nat) : Int)) (m := (fu + 2)) hq7 _ _)) <| rS 9 rfl <| rV rfl (does_binOp rfl rfl rfl (zd_gtr_int (k := ((dn + 1 + 1 : Nat) : Int)) (m := fu) (decide_eq_false (by omega)) _ _)) <| rS 6 rfl <| rZ0 ?_)
                  try clear H a W
                  intro a W H
                  refine hK24 _ _ ?_
                  clear hK24
                  refine wp_cond_false (H.ev rfl) ?_
                  refine wp_skip ?_
                  refine blk_normal ?_
                  refine hK15 _ _ ?_
                  clear hK15
                  refine rgP H gs0 (rS 1 rfl <| rV rfl (does_binOp rfl rfl rfl (zd_add_int (k := ((k : Nat) : Int)) (m := 1) (c := ((k + 1 : Nat) : Int)) (by omega) (by omega) _ _)) <| rK [1, 1, 1, 1, 1, 1, 1, 1, 1, 1, 1, 1, 1, 1, 1, 1, 1, 1, 1, 1, 1, 1, 1, 1, 1, 1, 1, 1, 1, 1, 1, 1, 1, 1, 1, 1, 1, 1, 1, 1, 1, 1, 1, 1, 1, 1, 1, 1, 1, 1, 1, 1, 1, 1, 1, 1, 1, 1, 1, 1, 1, 0] [] [] <| rS 1 rfl <| rZ0 ?_)
                  try clear H a W
                  intro a W H
                  refine ⟨k + 1, by omega, by omega, dn + 1 + 1, (dWrite (dSync D).1 (-((l.getD k 0).tmod 9)) (fillB (UInt8.ofNat k))).1, r4, ⟨hP4, ((hJ.2.1.sync (by omega)).1.write (by omega) (by omega) (fill_len _)).1, by omega⟩, ?_⟩
                  exact H.pickF (h := [(g1, 5, bvs (fillB (UInt8.ofNat k)))]) (t := (r4 ++ ([] : Hep))) [0, 32, 62, 63, 64] [] rfl
              | false =>
                have hq6p := of_decide_eq_false hq6
                have hE6_0 := errF_is fu (dn + 1 + 1)
                have hE6_1 := errF_is fu (dn + 1 + 1 + 1)
                have hE6_2 := errF_is fu (dn + 1 + 1 + 1 + 1)
                cases hq8 : decide ((fu + 2) < ((dn + 1 + 1 : Nat) : Int)) with
                | true =>
                  have hq8p := of_decide_eq_true hq8
                  have hE7_0 := errF_is fu (dn + 1 + 1)
                  have hE7_1 := errF_is fu (dn + 1 + 1 + 1)
                  have hE7_2 := errF_is fu (dn + 1 + 1 + 1 + 1)
                  refine rgP H gs0 (rS 2 rfl <| rV rfl (does_binOp rfl rfl rfl (zd_leq_int (k := ((dn + 1 + 1 : Nat) : Int)) (m := fu) hq6 _ _)) <| rS 8 rfl <| rV rfl (does_binOp rfl rfl rfl (zd_add_int (k := fu) (m := 2) (c := fu + 2) rfl (by omega) _ _)) <| rV rfl (does_binOp rfl rfl rfl (zd_gtr_int (k := ((dn + 1 + 1 : Nat) : Int)) (m := (fu + 2)) hq8 _ _)) <| rS 2 rfl <| rV rfl (does_call rfl ⟨_, Try.func13, by kernel_rfl⟩ rfl (fun W hb => num_any _ W)) <| rV rfl (does_binOp rfl rfl rfl (zd_neq_int (k := (errF fu (dn + 1 + 1))) (m := 14) (decide_eq_false (by omega)) _ _)) <| rS 5 rfl <| rV rfl (does_binOp rfl rfl rfl (zd_gtr_int (k := ((dn + 1 + 1 : Nat) : Int)) (m := fu) (decide_eq_true (by omega)) _ _)) <| rS 2 rfl <| rI0 ?_)
                  try clear H a W
                  intro a W H
                  replace H : St 133 w a W [(89, .pointer (some ⟨p1, 0, none⟩)), (88, .bool true), (87, .bool true), (86, .int .i64 fu), (85, .int .i64 ((dn + 1 + 1 : Nat) : Int)), (84, .bool false), (83, .bool false), (82, .bool false), (81, .bool false), (80, .int .i64 (errF fu (dn + 1 + 1))), (79, .int .i64 (errF fu (dn + 1 + 1))), (78, .bool true), (77, .bool true), (76, .int .i64 (fu + 2)), (75, .int .i64 fu), (74, .int .i64 ((dn + 1 + 1 : Nat) : Int)), (73, .bool false), (72, .bool false), (71, undef), (70, undef), (69, undef), (68, .bool false), (67, .bool false), (66, .int .i64 fu), (65, .int .i64 ((dn + 1 + 1 : Nat) : Int)), (7, .int .i64 ((dn + 1 + 1 : Nat) : Int)), (64, .int .i64 ((dn + 1 + 1 : Nat) : Int)), (63, .int .i64 ((dn + 1 : Nat) : Int)), (62, .int .i64 ((dn + 1 : Nat) : Int)), (61, .int .i64 ((dn : Nat) : Int)), (10, .int .i64 (errF fu (dn + 1 + 1))), (60, .int .i64 (errF fu (dn + 1 + 1))), (59, .slice (some ⟨g1, 0, none⟩) 512 512), (58, bv (UInt8.ofNat k)), (57, .int .i64 ((k : Nat) : Int)), (56, .int .i64 (-((l.getD k 0).tmod 9))), (55, .pointer (some ⟨p1, 0, none⟩)), (54, .bool true), (53, .int .i64 (-((l.getD k 0).tmod 9))), (52, .int .i64 (errF fu (dn + 1))), (51, .pointer (some ⟨p1, 0, none⟩)), (9, .int .i64 (-((l.getD k 0).tmod 9))), (50, .int .i64 (-((l.getD k 0).tmod 9))), (49, .int .i64 ((l.getD k 0).tmod 9)), (48, .bool true), (47, .int .i64 ((l.getD k 0).tmod 9)), (46, .int .i64 ((l.getD k 0).tmod 9)), (45, .int .i64 (l.getD k 0)), (44, .pointer (some ⟨gl, ol + k, none⟩)), (43, .int .i64 ((k : Nat) : Int)), (42, .slice A n c), (39, .bool true), (38, .int .i64 ((n : Nat) : Int)), (37, .slice A n c), (36, .int .i64 ((k : Nat) : Int)), (8, .int .i64 ((k : Nat) : Int)), (5, .pointer (some ⟨p1, 0, none⟩)), (0, .int .i64 fu), (1, .slice A n c)] (r4 ++ (([(g1, .ty 5, bvs (fillB (UInt8.ofNat k)))] : Hep) ++ ([] : Hep))) := H.perm' (((List.Perm.refl _).append_left ([(g1, .ty 5, bvs (fillB (UInt8.ofNat k)))] : Hep)).trans (List.perm_append_comm_assoc ([(g1, .ty 5, bvs (fillB (UInt8.ofNat k)))] : Hep) r4 ([] : Hep)))
                  refine pl_callV rfl rfl ⟨_, Try.func22, by kernel_rfl⟩ rfl (fun K_ => by have h_ := po_dead (hh := (([(g1, .ty 5, bvs (fillB (UInt8.ofNat k)))] : Hep) ++ ([] : Hep))) hP4 w _ K_; rw [(((hJ.2.1.sync (by omega)).1.write (by omega) (by omega) (fill_len _)).1.dead (by omega))] at h_; exact h_) H ?_
                  try clear H a W
                  intro a W H
                  replace H := H.perm' (List.perm_append_comm_assoc r4 ([(g1, .ty 5, bvs (fillB (UInt8.ofNat k)))] : Hep) ([] : Hep))
                  replace H : St 133 w a W [(90, .bool true), (89, .pointer (some ⟨p1, 0, none⟩)), (88, .bool true), (87, .bool true), (86, .int .i64 fu), (85, .int .i64 ((dn + 1 + 1 : Nat) : Int)), (84, .bool false), (83, .bool false), (82, .bool false), (81, .bool false), (80, .int .i64 (errF fu (dn + 1 + 1))), (79, .int .i64 (errF fu (dn + 1 + 1))), (78, .bool true), (77, .bool true), (76, .int .i64 (fu + 2)), (75, .int .i64 fu), (74, .int .i64 ((dn + 1 + 1 : Nat) : Int)), (73, .bool false), (72, .bool false), (71, undef), (70, undef), (69, undef), (68, .bool false), (67, .bool false), (66, .int .i64 fu), (65, .int .i64 ((dn + 1 + 1 : Nat) : Int)), (7, .int .i64 ((dn + 1 + 1 : Nat) : Int)), (64, .int .i64 ((dn + 1 + 1 : Nat) : Int)), (63, .int .i64 ((dn + 1 : Nat) : Int)), (62, .int .i64 ((dn + 1 : Nat) : Int)), (61, .int .i64 ((dn : Nat) : Int)), (10, .int .i64 (errF fu (dn + 1 + 1))), (60, .int .i64 (errF fu (dn + 1 + 1))), (59, .slice (some ⟨g1, 0, none⟩) 512 512), (58, bv (UInt8.ofNat k)), (57, .int .i64 ((k : Nat) : Int)), (56, .int .i64 (-((l.getD k 0).tmod 9))), (55, .pointer (some ⟨p1, 0, none⟩)), (54, .bool true), (53, .int .i64 (-((l.getD k 0).tmod 9))), (52, .int .i64 (errF fu (dn + 1))), (51, .pointer (some ⟨p1, 0, none⟩)), (9, .int .i64 (-((l.getD k 0).tmod 9))), (50, .int .i64 (-((l.getD k 0).tmod 9))), (49, .int .i64 ((l.getD k 0).tmod 9)), (48, .bool true), (47, .int .i64 ((l.getD k 0).tmod 9)), (46, .int .i64 ((l.getD k 0).tmod 9)), (45, .int .i64 (l.getD k 0)), (44, .pointer (some ⟨gl, ol + k, none⟩)), (43, .int .i64 ((k : Nat) : Int)), (42, .slice A n c), (39, .bool true), (38, .int .i64 ((n : Nat) : Int)), (37, .slice A n c), (36, .int .i64 ((k : Nat) : Int)), (8, .int .i64 ((k : Nat) : Int)), (5, .pointer (some ⟨p1, 0, none⟩)), (0, .int .i64 fu), (1, .slice A n c)] ((g1, 5, bvs (fillB (UInt8.ofNat k))) :: (r4 ++ ([] : Hep))) := H
                  refine rgO H gs0 (rS 3 rfl <| rZ0 ?_)
                  try clear H a W
                  intro a W H
                  refine hK24 _ _ ?_
                  clear hK24
                  refine wp_cond_false (H.ev rfl) ?_
                  refine wp_skip ?_
                  refine blk_normal ?_
                  refine hK15 _ _ ?_
                  clear hK15
                  refine rgP H gs0 (rS 1 rfl <| rV rfl (does_binOp rfl rfl rfl (zd_add_int (k := ((k : Nat) : Int)) (m := 1) (c := ((k + 1 : Nat) : Int)) (by omega) (by omega) _ _)) <| rK [1, 1, 1, 1, 1, 1, 1, 1, 1, 1, 1, 1, 1, 1, 1, 1, 1, 1, 1, 1, 1, 1, 1, 1, 1, 1, 1, 1, 1, 1, 1, 1, 1, 1, 1, 1, 1, 1, 1, 1, 1, 1, 1, 1, 1, 1, 1, 1, 1, 1, 1, 1, 1, 1, 1, 1, 1, 1, 1, 1, 1, 0] [] [] <| rS 1 rfl <| rZ0 ?_)
                  try clear H a W
                  intro a W H
                  refine ⟨k + 1, by omega, by omega, dn + 1 + 1, (dWrite (dSync D).1 (-((l.getD k 0).tmod 9)) (fillB (UInt8.ofNat k))).1, r4, ⟨hP4, ((hJ.2.1.sync (by omega)).1.write (by omega) (by omega) (fill_len _)).1, by omega⟩, ?_⟩
                  exact H.pickF (h := [(g1, 5, bvs (fillB (UInt8.ofNat k)))]) (t := (r4 ++ ([] : Hep))) [0, 32, 62, 63, 64] [] rfl
                | false =>
                  have hq8p := of_decide_eq_false hq8
                  have hE8_0 := errF_is fu (dn + 1 + 1)
                  have hE8_1 := errF_is fu (dn + 1 + 1 + 1)
                  have hE8_2 := errF_is fu (dn + 1 + 1 + 1 + 1)
                  refine rgP H gs0 (rS 2 rfl <| rV rfl (does_binOp rfl rfl rfl (zd_leq_int (k := ((dn + 1 + 1 : Nat) : Int)) (m := fu) hq6 _ _)) <| rS 8 rfl <| rV rfl (does_binOp rfl rfl rfl (zd_add_int (k := fu) (m := 2) (c := fu + 2) rfl (by omega) _ _)) <| rV rfl (does_binOp rfl rfl rfl (zd_gtr_int (k := ((dn + 1 + 1 : Nat) : Int)) (m := (fu + 2)) hq8 _ _)) <| rS 9 rfl <| rV rfl (does_binOp rfl rfl rfl (zd_gtr_int (k := ((dn + 1 + 1 : Nat) : Int)) (m := fu) (decide_eq_true (by omega)) _ _)) <| rS 2 rfl <| rI0 ?_)
                  try clear H a W
                  intro a W H
                  replace H : St 133 w a W [(89, .pointer (some ⟨p1, 0, none⟩)), (88, .bool true), (87, .bool true), (86, .int .i64 fu), (85, .int .i64 ((dn + 1 + 1 : Nat) : Int)), (84, .bool false), (83, .bool false), (82, .bool false), (81, undef), (80, undef), (79, undef), (78, .bool false), (77, .bool false), (76, .int .i64 (fu + 2)), (75, .int .i64 fu), (74, .int .i64 ((dn + 1 + 1 : Nat) : Int)), (73, .bool false), (72, .bool false), (71, undef), (70, undef), (69, undef), (68, .bool false), (67, .bool false), (66, .int .i64 fu), (65, .int .i64 ((dn + 1 + 1 : Nat) : Int)), (7, .int .i64 ((dn + 1 + 1 : Nat) : Int)), (64, .int .i64 ((dn + 1 + 1 : Nat) : Int)), (63, .int .i64 ((dn + 1 : Nat) : Int)), (62, .int .i64 ((dn + 1 : Nat) : Int)), (61, .int .i64 ((dn : Nat) : Int)), (10, .int .i64 (errF fu (dn + 1 + 1))), (60, .int .i64 (errF fu (dn + 1 + 1))), (59, .slice (some ⟨g1, 0, none⟩) 512 512), (58, bv (UInt8.ofNat k)), (57, .int .i64 ((k : Nat) : Int)), (56, .int .i64 (-((l.getD k 0).tmod 9))), (55, .pointer (some ⟨p1, 0, none⟩)), (54, .bool true), (53, .int .i64 (-((l.getD k 0).tmod 9))), (52, .int .i64 (errF fu (dn + 1))), (51, .pointer (some ⟨p1, 0, none⟩)), (9, .int .i64 (-((l.getD k 0).tmod 9))), (50, .int .i64 (-((l.getD k 0).tmod 9))), (49, .int .i64 ((l.getD k 0).tmod 9)), (48, .bool true), (47, .int .i64 ((l.getD k 0).tmod 9)), (46, .int .i64 ((l.getD k 0).tmod 9)), (45, .int .i64 (l.getD k 0)), (44, .pointer (some ⟨gl, ol + k, none⟩)), (43, .int .i64 ((k : Nat) : Int)), (42, .slice A n c), (39, .bool true), (38, .int .i64 ((n : Nat) : Int)), (37, .slice A n c), (36, .int .i64 ((k : Nat) : Int)), (8, .int .i64 ((k : Nat) : Int)), (5, .pointer (some ⟨p1, 0, none⟩)), (0, .int .i64 fu), (1, .slice A n c)] (r4 ++ (([(g1, .ty 5, bvs (fillB (UInt8.ofNat k)))] : Hep) ++ ([] : Hep))) := H.perm' (((List.Perm.refl _).append_left ([(g1, .ty 5, bvs (fillB (UInt8.ofNat k)))] : Hep)).trans (List.perm_append_comm_assoc ([(g1, .ty 5, bvs (fillB (UInt8.ofNat k)))] : Hep) r4 ([] : Hep)))
                  refine pl_callV rfl rfl ⟨_, Try.func22, by kernel_rfl⟩ rfl (fun K_ => by have h_ := po_dead (hh := (([(g1, .ty 5, bvs (fillB (UInt8.ofNat k)))] : Hep) ++ ([] : Hep))) hP4 w _ K_; rw [(((hJ.2.1.sync (by omega)).1.write (by omega) (by omega) (fill_len _)).1.dead (by omega))] at h_; exact h_) H ?_
                  try clear H a W
                  intro a W H
                  replace H := H.perm' (List.perm_append_comm_assoc r4 ([(g1, .ty 5, bvs (fillB (UInt8.ofNat k)))] : Hep) ([] : Hep))
                  replace H : St 133 w a W [(90, .bool true), (89, .pointer (some ⟨p1, 0, none⟩)), (88, .bool true), (87, .bool true), (86, .int .i64 fu), (85, .int .i64 ((dn + 1 + 1 : Nat) : Int)), (84, .bool false), (83, .bool false), (82, .bool false), (81, undef), (80, undef), (79, undef), (78, .bool false), (77, .bool false), (76, .int .i64 (fu + 2)), (75, .int .i64 fu), (74, .int .i64 ((dn + 1 + 1 : Nat) : Int)), (73, .bool false), (72, .bool false), (71, undef), (70, undef), (69, undef), (68, .bool false), (67, .bool false), (66, .int .i64 fu), (65, .int .i64 ((dn + 1 + 1 : Nat) : Int)), (7, .int .i64 ((dn + 1 + 1 : Nat) : Int)), (64, .int .i64 ((dn + 1 + 1 : Nat) : Int)), (63, .int .i64 ((dn + 1 : Nat) : Int)), (62, .int .i64 ((dn + 1 : Nat) : Int)), (61, .int .i64 ((dn : Nat) : Int)), (10, .int .i64 (errF fu (dn + 1 + 1))), (60, .int .i64 (errF fu (dn + 1 + 1))), (59, .slice (some ⟨g1, 0, none⟩) 512 512), (58, bv (UInt8.ofNat k)), (57, .int .i64 ((k : Nat) : Int)), (56, .int .i64 (-((l.getD k 0).tmod 9))), (55, .pointer (some ⟨p1, 0, none⟩)), (54, .bool true), (53, .int .i64 (-((l.getD k 0).tmod 9))), (52, .int .i64 (errF fu (dn + 1))), (51, .pointer (some ⟨p1, 0, none⟩)), (9, .int .i64 (-((l.getD k 0).tmod 9))), (50, .int .i64 (-((l.getD k 0).tmod 9))), (49, .int .i64 ((l.getD k 0).tmod 9)), (48, .bool true), (47, .int .i64 ((l.getD k 0).tmod 9)), (46, .int .i64 ((l.getD k 0).tmod 9)), (45, .int .i64 (l.getD k 0)), (44, .pointer (some ⟨gl, ol + k, none⟩)), (43, .int .i64 ((k : Nat) : Int)), (42, .slice A n c), (39, .bool true), (38, .int .i64 ((n : Nat) : Int)), (37, .slice A n c), (36, .int .i64 ((k : Nat) : Int)), (8, .int .i64 ((k : Nat) : Int)), (5, .pointer (some ⟨p1, 0, none⟩)), (0, .int .i64 fu), (1, .slice A n c)] ((g1, 5, bvs (fillB (UInt8.ofNat k))) :: (r4 ++ ([] : Hep))) := H
                  refine rgO H gs0 (rS 3 rfl <| rZ0 ?_)
                  try clear H a W
                  intro a W H
                  refine hK24 _ _ ?_
                  clear hK24
                  refine wp_cond_false (H.ev rfl) ?_
                  refine wp_skip ?_
                  refine blk_normal ?_
                  refine hK15 _ _ ?_
                  clear hK15
                  refine rgP H gs0 (rS 1 rfl <| rV rfl (does_binOp rfl rfl rfl (zd_add_int (k := ((k : Nat) : Int)) (m := 1) (c := ((k + 1 : Nat) : Int)) (by omega) (by omega) _ _)) <| rK [1, 1, 1, 1, 1, 1, 1, 1, 1, 1, 1, 1, 1, 1, 1, 1, 1, 1, 1, 1, 1, 1, 1, 1, 1, 1, 1, 1, 1, 1, 1, 1, 1, 1, 1, 1, 1, 1, 1, 1, 1, 1, 1, 1, 1, 1, 1, 1, 1, 1, 1, 1, 1, 1, 1, 1, 1, 1, 1, 1, 1, 0] [] [] <| rS 1 rfl <| rZ0 ?_)
                  try clear H a W
                  intro a W H
                  refine ⟨k + 1, by omega, by omega, dn + 1 + 1, (dWrite (dSync D).1 (-((l.getD k 0).tmod 9)) (fillB (UInt8.ofNat k))).1, r4, ⟨hP4, ((hJ.2.1.sync (by omega)).1.write (by omega) (by omega) (fill_len _)).1, by omega⟩, ?_⟩
                  exact H.pickF (h := [(g1, 5, bvs (fillB (UInt8.ofNat k)))]) (t := (r4 ++ ([] : Hep))) [0, 32, 62, 63, 64] [] rfl
            | false =>
              rw [hq5] at H
              have hq5p := of_decide_eq_false hq5
              refine wp_cond_false (H.ev rfl) ?_
              refine wp_skip ?_
              refine hK20 _ _ ?_
              clear hK20
              refine sqR H gs0 fun Z_ z_ => rS 1 rfl <| rV rfl (does_binOp rfl rfl rfl (zd_add_int (k := ((dn : Nat) : Int)) (m := 1) (c := ((dn + 1 : Nat) : Int)) (by omega) (by omega) _ _)) <| rK [1, 1, 1, 1, 1, 1, 1, 1, 1, 1, 1, 1, 1, 1, 1, 1, 1, 1, 1, 1, 1, 1, 0] [] [] <| rS 1 rfl <| rN0 z_ ?_
              try clear H a W
              intro a W H
              have hE9_0 := errF_is fu (dn + 1)
              have hE9_1 := errF_is fu (dn + 1 + 1)
              have hE9_2 := errF_is fu (dn + 1 + 1 + 1)
              refine wp_seq_k (fun K26 hK26 => ?_)
              have hE10_0 := errF_is fu (dn + 1)
              have hE10_1 := errF_is fu (dn + 1 + 1)
              have hE10_2 := errF_is fu (dn + 1 + 1 + 1)
              cases hq9 : decide (((dn + 1 : Nat) : Int) ≤ fu) with
              | true =>
                have hq9p := of_decide_eq_true hq9
                have hE11_0 := errF_is fu (dn + 1)
                have hE11_1 := errF_is fu (dn + 1 + 1)
                have hE11_2 := errF_is fu (dn + 1 + 1 + 1)
                cases hq10 : decide ((fu + 2) < ((dn + 1 : Nat) : Int)) with
                | true =>
                  have hq10p := of_decide_eq_true hq10
                  have hE12_0 := errF_is fu (dn + 1)
                  have hE12_1 := errF_is fu (dn + 1 + 1)
                  have hE12_2 := errF_is fu (dn + 1 + 1 + 1)
                  refine rgP H gs0 (rS 2 rfl <| rV rfl (does_binOp rfl rfl rfl (zd_leq_int (k := ((dn + 1 : Nat) : Int)) (m := fu) hq9 _ _)) <| rS 2 rfl <| rV rfl (does_call rfl ⟨_, Try.func13, by kernel_rfl⟩ rfl (fun W hb => num_any _ W)) <| rV rfl (does_binOp rfl rfl rfl (zd_neq_int (k := (errF fu (dn + 1))) (m := 0) (decide_eq_false (by omega)) _ _)) <| rS 4 rfl <| rV rfl (does_binOp rfl rfl rfl (zd_add_int (k := fu) (m := 2) (c := fu + 2) rfl (by omega) _ _)) <| rV rfl (does_binOp rfl rfl rfl (zd_gtr_int (k := ((dn + 1 : Nat) : Int)) (m := (fu + 2)) hq10 _ _)) <| rS 2 rfl <| rV rfl (does_call rfl ⟨_, Try.func13, by kernel_rfl⟩ rfl (fun W hb => num_any _ W)) <| rV rfl (does_binOp rfl rfl rfl (zd_neq_int (k := (errF fu (dn + 1))) (m := 14) (decide_eq_false (by omega)) _ _)) <| rS 5 rfl <| rV rfl (does_binOp rfl rfl rfl (zd_gtr_int (k := ((dn + 1 : Nat) : Int)) (m := fu) (decide_eq_false (by omega)) _ _)) <| rS 6 rfl <| rZ0 ?_)
                  try clear H a W
                  intro a W H
                  refine hK26 _ _ ?_
                  clear hK26
                  refine wp_cond_false (H.ev rfl) ?_
                  refine wp_skip ?_
                  refine blk_normal ?_
                  refine hK15 _ _ ?_
                  clear hK15
                  refine rgP H gs0 (rS 1 rfl <| rV rfl (does_binOp rfl rfl rfl (zd_add_int (k := ((k : Nat) : Int)) (m := 1) (c := ((k + 1 : Nat) : Int)) (by omega) (by omega) _ _)) <| rK [1, 1, 1, 1, 1, 1, 1, 1, 1, 1, 1, 1, 1, 1, 1, 1, 1, 1, 1, 1, 1, 1, 1, 1, 1, 1, 1, 1, 1, 1, 1, 1, 1, 1, 1, 1, 1, 1, 1, 1, 1, 1, 1, 1, 1, 1, 1, 1, 1, 1, 1, 1, 1, 0] [] [] <| rS 1 rfl <| rZ0 ?_)
                  try clear H a W
                  intro a W H
                  refine ⟨k + 1, by omega, by omega, dn + 1, (dSync D).1, r3, ⟨hP3, (hJ.2.1.sync (by omega)).1, by omega⟩, ?_⟩
                  exact H.pickF (h := []) (t := (r3 ++ ([] : Hep))) [0, 32, 54, 55, 56] [] rfl
                | false =>
                  have hq10p := of_decide_eq_false hq10
                  have hE13_0 := errF_is fu (dn + 1)
                  have hE13_1 := errF_is fu (dn + 1 + 1)
                  have hE13_2 := errF_is fu (dn + 1 + 1 + 1)
                  refine rgP H gs0 (rS 2 rfl <| rV rfl (does_binOp rfl rfl rfl (zd_leq_int (k := ((dn + 1 : Nat) : Int)) (m := fu) hq9 _ _)) <| rS 2 rfl <| rV rfl (does_call rfl ⟨_, Try.func13, by kernel_rfl⟩ rfl (fun W hb => num_any _ W)) <| rV rfl (does_binOp rfl rfl rfl (zd_neq_int (k := (errF fu (dn + 1))) (m := 0) (decide_eq_false (by omega)) _ _)) <| rS 4 rfl <| rV rfl (does_binOp rfl rfl rfl (zd_add_int (k := fu) (m := 2) (c := fu + 2) rfl (by omega) _ _)) <| rV rfl (does_binOp rfl rfl rfl (zd_gtr_int (k := ((dn + 1 : Nat) : Int)) (m := (fu + 2)) hq10 _ _)) <| rS 9 rfl <| rV rfl (does_binOp rfl rfl rfl (zd_gtr_int (k := ((dn + 1 : Nat) : Int)) (m := fu) (decide_eq_false (by omega)) _ _)) <| rS 6 rfl <| rZ0 ?_)
                  try clear H a W
                  intro a W H
                  refine hK26 _ _ ?_
                  clear hK26
                  refine wp_cond_false (H.ev rfl) ?_
                  refine wp_skip ?_
                  refine blk_normal ?_
                  refine hK15 _ _ ?_
                  clear hK15
                  refine rgP H gs0 (rS 1 rfl <| rV rfl (does_binOp rfl rfl rfl (zd_add_int (k := ((k : Nat) : Int)) (m := 1) (c := ((k + 1 : Nat) : Int)) (by omega) (by omega) _ _)) <| rK [1, 1, 1, 1, 1, 1, 1, 1, 1, 1, 1, 1, 1, 1, 1, 1, 1, 1, 1, 1, 1, 1, 1, 1, 1, 1, 1, 1, 1, 1, 1, 1, 1, 1, 1, 1, 1, 1, 1, 1, 1, 1, 1, 1, 1, 1, 1, 1, 1, 1, 1, 1, 1, 0] [] [] <| rS 1 rfl <| rZ0 ?_)
                  try clear H a W
                  intro a W H
                  refine ⟨k + 1, by omega, by omega, dn + 1, (dSync D).1, r3, ⟨hP3, (hJ.2.1.sync (by omega)).1, by omega⟩, ?_⟩
                  exact H.pickF (h := []) (t := (r3 ++ ([] : Hep))) [0, 32, 54, 55, 56] [] rfl
              | false =>
                have hq9p := of_decide_eq_false hq9
                have hE14_0 := errF_is fu (dn + 1)
                have hE14_1 := errF_is fu (dn + 1 + 1)
                have hE14_2 := errF_is fu (dn + 1 + 1 + 1)
                cases hq11 : decide ((fu + 2) < ((dn + 1 : Nat) : Int)) with
                | true =>
                  have hq11p := of_decide_eq_true hq11
                  have hE15_0 := errF_is fu (dn + 1)
                  have hE15_1 := errF_is fu (dn + 1 + 1)
                  have hE15_2 := errF_is fu (dn + 1 + 1 + 1)
                  refine rgP H gs0 (rS 2 rfl <| rV rfl (does_binOp rfl rfl rfl (zd_leq_int (k := ((dn + 1 : Nat) : Int)) (m := fu) hq9 _ _)) <| rS 8 rfl <| rV rfl (does_binOp rfl rfl rfl (zd_add_int (k := fu) (m := 2) (c := fu + 2) rfl (by omega) _ _)) <| rV rfl (does_binOp rfl rfl rfl (zd_gtr_int (k := ((dn + 1 : Nat) : Int)) (m := (fu + 2)) hq11 _ _)) <| rS 2 rfl <| rV rfl (does_call rfl ⟨_, Try.func13, by kernel_rfl⟩ rfl (fun W hb => num_any _ W)) <| rV rfl (does_binOp rfl rfl rfl (zd_neq_int (k := (errF fu (dn + 1))) (m := 14) (decide_eq_false (by omega)) _ _)) <| rS 5 rfl <| rV rfl (does_binOp rfl rfl rfl (zd_gtr_int (k := ((dn + 1 : Nat) : Int)) (m := fu) (decide_eq_true (by omega)) _ _)) <| rS 2 rfl <| rI0 ?_)
                  try clear H a W
                  intro a W H
                  replace H : St 133 w a W [(89, .pointer (some ⟨p1, 0, none⟩)), (88, .bool true), (87, .bool true), (86, .int .i64 fu), (85, .int .i64 ((dn + 1 : Nat) : Int)), (84, .bool false), (83, .bool false), (82, .bool false), (81, .bool false), (80, .int .i64 (errF fu (dn + 1))), (79, .int .i64 (errF fu (dn + 1))), (78, .bool true), (77, .bool true), (76, .int .i64 (fu + 2)), (75, .int .i64 fu), (74, .int .i64 ((dn + 1 : Nat) : Int)), (73, .bool false), (72, .bool false), (71, undef), (70, undef), (69, undef), (68, .bool false), (67, .bool false), (66, .int .i64 fu), (65, .int .i64 ((dn + 1 : Nat) : Int)), (7, .int .i64 ((dn + 1 : Nat) : Int)), (64, .int .i64 ((dn + 1 : Nat) : Int)), (63, .int .i64 ((dn : Nat) : Int)), (54, .bool false), (53, .int .i64 (-((l.getD k 0).tmod 9))), (10, .int .i64 (errF fu (dn + 1))), (52, .int .i64 (errF fu (dn + 1))), (51, .pointer (some ⟨p1, 0, none⟩)), (9, .int .i64 (-((l.getD k 0).tmod 9))), (50, .int .i64 (-((l.getD k 0).tmod 9))), (49, .int .i64 ((l.getD k 0).tmod 9)), (48, .bool true), (47, .int .i64 ((l.getD k 0).tmod 9)), (46, .int .i64 ((l.getD k 0).tmod 9)), (45, .int .i64 (l.getD k 0)), (44, .pointer (some ⟨gl, ol + k, none⟩)), (43, .int .i64 ((k : Nat) : Int)), (42, .slice A n c), (39, .bool true), (38, .int .i64 ((n : Nat) : Int)), (37, .slice A n c), (36, .int .i64 ((k : Nat) : Int)), (8, .int .i64 ((k : Nat) : Int)), (5, .pointer (some ⟨p1, 0, none⟩)), (0, .int .i64 fu), (1, .slice A n c)] (r3 ++ (([] : Hep) ++ ([] : Hep))) := H.perm' (((List.Perm.refl _).append_left ([] : Hep)).trans (List.perm_append_comm_assoc ([] : Hep) r3 ([] : Hep)))
                  refine pl_callV rfl rfl ⟨_, Try.func22, by kernel_rfl⟩ rfl (fun K_ => by have h_ := po_dead (hh := (([] : Hep) ++ ([] : Hep))) hP3 w _ K_; rw [((hJ.2.1.sync (by omega)).1.dead (by omega))] at h_; exact h_) H ?_
                  try clear H a W
                  intro a W H
                  replace H := H.perm' (List.perm_append_comm_assoc r3 ([] : Hep) ([] : Hep))
                  replace H : St 133 w a W [(90, .bool true), (89, .pointer (some ⟨p1, 0, none⟩)), (88, .bool true), (87, .bool true), (86, .int .i64 fu), (85, .int .i64 ((dn + 1 : Nat) : Int)), (84, .bool false), (83, .bool false), (82, .bool false), (81, .bool false), (80, .int .i64 (errF fu (dn + 1))), (79, .int .i64 (errF fu (dn + 1))), (78, .bool true), (77, .bool true), (76, .int .i64 (fu + 2)), (75, .int .i64 fu), (74, .int .i64 ((dn + 1 : Nat) : Int)), (73, .bool false), (72, .bool false), (71, undef), (70, undef), (69, undef), (68, .bool false), (67, .bool false), (66, .int .i64 fu), (65, .int .i64 ((dn + 1 : Nat) : Int)), (7, .int .i64 ((dn + 1 : Nat) : Int)), (64, .int .i64 ((dn + 1 : Nat) : Int)), (63, .int .i64 ((dn : Nat) : Int)), (54, .bool false), (53, .int .i64 (-((l.getD k 0).tmod 9))), (10, .int .i64 (errF fu (dn + 1))), (52, .int .i64 (errF fu (dn + 1))), (51, .pointer (some ⟨p1, 0, none⟩)), (9, .int .i64 (-((l.getD k 0).tmod 9))), (50, .int .i64 (-((l.getD k 0).tmod 9))), (49, .int .i64 ((l.getD k 0).tmod 9)), (48, .bool true), (47, .int .i64 ((l.getD k 0).tmod 9)), (46, .int .i64 ((l.getD k 0).tmod 9)), (45, .int .i64 (l.getD k 0)), (44, .pointer (some ⟨gl, ol + k, none⟩)), (43, .int .i64 ((k : Nat) : Int)), (42, .slice A n c), (39, .bool true), (38, .int .i64 ((n : Nat) : Int)), (37, .slice A n c), (36, .int .i64 ((k : Nat) : Int)), (8, .int .i64 ((k : Nat) : Int)), (5, .pointer (some ⟨p1, 0, none⟩)), (0, .int .i64 fu), (1, .slice A n c)] ((r3 ++ ([] : Hep))) := H
                  refine rgO H gs0 (rS 3 rfl <| rZ0 ?_)
                  try clear H a W
                  intro a W H
                  refine hK26 _ _ ?_
                  clear hK26
                  refine wp_cond_false (H.ev rfl) ?_
                  refine wp_skip ?_
                  refine blk_normal ?_
                  refine hK15 _ _ ?_
                  clear hK15
                  refine rgP H gs0 (rS 1 rfl <| rV rfl (does_binOp rfl rfl rfl (zd_add_int (k := ((k : Nat) : Int)) (m := 1) (c := ((k + 1 : Nat) : Int)) (by omega) (by omega) _ _)) <| rK [1, 1, 1, 1, 1, 1, 1, 1, 1, 1, 1, 1, 1, 1, 1, 1, 1, 1, 1, 1, 1, 1, 1, 1, 1, 1, 1, 1, 1, 1, 1, 1, 1, 1, 1, 1, 1, 1, 1, 1, 1, 1, 1, 1, 1, 1, 1, 1, 1, 1, 1, 1, 1, 0] [] [] <| rS 1 rfl <| rZ0 ?_)
                  try clear H a W
                  intro a W H
                  refine ⟨k + 1, by omega, by omega, dn + 1, (dSync D).1, r3, ⟨hP3, (hJ.2.1.sync (by omega)).1, by omega⟩, ?_⟩
                  exact H.pickF (h := []) (t := (r3 ++ ([] : Hep))) [0, 32, 54, 55, 56] [] rfl
                | false =>
                  have hq11p := of_decide_eq_false hq11
                  have hE16_0 := errF_is fu (dn + 1)
                  have hE16_1 := errF_is fu (dn + 1 + 1)
                  have hE16_2 := errF_is fu (dn + 1 + 1 + 1)
                  refine rgP H gs0 (rS 2 rfl <| rV rfl (does_binOp rfl rfl rfl (zd_leq_int (k := ((dn + 1 : Nat) : Int)) (m := fu) hq9 _ _)) <| rS 8 rfl <| rV rfl (does_binOp rfl rfl rfl (zd_add_int (k := fu) (m := 2) (c := fu + 2) rfl (by omega) _ _)) <| rV rfl (does_binOp rfl rfl rfl (zd_gtr_int (k := ((dn + 1 : Nat) : Int)) (m := (fu + 2)) hq11 _ _)) <| rS 9 rfl <| rV rfl (does_binOp rfl rfl rfl (zd_gtr_int (k := ((dn + 1 : Nat) : Int)) (m := fu) (decide_eq_true (by omega)) _ _)) <| rS 2 rfl <| rI0 ?_)
                  try clear H a W
                  intro a W H
                  replace H : St 133 w a W [(89, .pointer (some ⟨p1, 0, none⟩)), (88, .bool true), (87, .bool true), (86, .int .i64 fu), (85, .int .i64 ((dn + 1 : Nat) : Int)), (84, .bool false), (83, .bool false), (82, .bool false), (81, undef), (80, undef), (79, undef), (78, .bool false), (77, .bool false), (76, .int .i64 (fu + 2)), (75, .int .i64 fu), (74, .int .i64 ((dn + 1 : Nat) : Int)), (73, .bool false), (72, .bool false), (71, undef), (70, undef), (69, undef), (68, .bool false), (67, .bool false), (66, .int .i64 fu), (65, .int .i64 ((dn + 1 : Nat) : Int)), (7, .int .i64 ((dn + 1 : Nat) : Int)), (64, .int .i64 ((dn + 1 : Nat) : Int)), (63, .int .i64 ((dn : Nat) : Int)), (54, .bool false), (53, .int .i64 (-((l.getD k 0).tmod 9))), (10, .int .i64 (errF fu (dn + 1))), (52, .int .i64 (errF fu (dn + 1))), (51, .pointer (some ⟨p1, 0, none⟩)), (9, .int .i64 (-((l.getD k 0).tmod 9))), (50, .int .i64 (-((l.getD k 0).tmod 9))), (49, .int .i64 ((l.getD k 0).tmod 9)), (48, .bool true), (47, .int .i64 ((l.getD k 0).tmod 9)), (46, .int .i64 ((l.getD k 0).tmod 9)), (45, .int .i64 (l.getD k 0)), (44, .pointer (some ⟨gl, ol + k, none⟩)), (43, .int .i64 ((k : Nat) : Int)), (42, .slice A n c), (39, .bool true), (38, .int .i64 ((n : Nat) : Int)), (37, .slice A n c), (36, .int .i64 ((k : Nat) : Int)), (8, .int .i64 ((k : Nat) : Int)), (5, .pointer (some ⟨p1, 0, none⟩)), (0, .int .i64 fu), (1, .slice A n c)] (r3 ++ (([] : Hep) ++ ([] : Hep))) := H.perm' (((List.Perm.refl _).append_left ([] : Hep)).trans (List.perm_append_comm_assoc ([] : Hep) r3 ([] : Hep)))
                  refine pl_callV rfl rfl ⟨_, Try.func22, by kernel_rfl⟩ rfl (fun K_ => by have h_ := po_dead (hh := (([] : Hep) ++ ([] : Hep))) hP3 w _ K_; rw [((hJ.2.1.sync (by omega)).1.dead (by omega))] at h_; exact h_) H ?_
                  try clear H a W
                  intro a W H
                  replace H := H.perm' (List.perm_append_comm_assoc r3 ([] : Hep) ([] : Hep))
                  replace H : St 133 w a W [(90, .bool true), (89, .pointer (some ⟨p1, 0, none⟩)), (88, .bool true), (87, .bool true), (86, .int .i64 fu), (85, .int .i64 ((dn + 1 : Nat) : Int)), (84, .bool false), (83, .bool false), (82, .bool false), (81, undef), (80, undef), (79, undef), (78, .bool false), (77, .bool false), (76, .int .i64 (fu + 2)), (75, .int .i64 fu), (74, .int .i64 ((dn + 1 : Nat) : Int)), (73, .bool false), (72, .bool false), (71, undef), (70, undef), (69, undef), (68, .bool false), (67, .bool false), (66, .int .i64 fu), (65, .int .i64 ((dn + 1 : Nat) : Int)), (7, .int .i64 ((dn + 1 : Nat) : Int)), (64, .int .i64 ((dn + 1 : Nat) : Int)), (63, .int .i64 ((dn : Nat) : Int)), (54, .bool false), (53, .int .i64 (-((l.getD k 0).tmod 9))), (10, .int .i64 (errF fu (dn + 1))), (52, .int .i64 (errF fu (dn + 1))), (51, .pointer (some ⟨p1, 0, none⟩)), (9, .int .i64 (-((l.getD k 0).tmod 9))), (50, .int .i64 (-((l.getD k 0).tmod 9))), (49, .int .i64 ((l.getD k 0).tmod 9)), (48, .bool true), (47, .int .i64 ((l.getD k 0).tmod 9)), (46, .int .i64 ((l.getD k 0).tmod 9)), (45, .int .i64 (l.getD k 0)), (44, .pointer (some ⟨gl, ol + k, none⟩)), (43, .int .i64 ((k : Nat) : Int)), (42, .slice A n c), (39, .bool true), (38, .int .i64 ((n : Nat) : Int)), (37, .slice A n c), (36, .int .i64 ((k : Nat) : Int)), (8, .int .i64 ((k : Nat) : Int)), (5, .pointer (some ⟨p1, 0, none⟩)), (0, .int .i64 fu), (1, .slice A n c)] ((r3 ++ ([] : Hep))) := H
                  refine rgO H gs0 (rS 3 rfl <| rZ0 ?_)
                  try clear H a W
                  intro a W H
                  refine hK26 _ _ ?_
                  clear hK26
                  refine wp_cond_false (H.ev rfl) ?_
                  refine wp_skip ?_
                  refine blk_normal ?_
                  refine hK15 _ _ ?_
                  clear hK15
                  refine rgP H gs0 (rS 1 rfl <| rV rfl (does_binOp rfl rfl rfl (zd_add_int (k := ((k : Nat) : Int)) (m := 1) (c := ((k + 1 : Nat) : Int)) (by omega) (by omega) _ _)) <| rK [1, 1, 1, 1, 1, 1, 1, 1, 1, 1, 1, 1, 1, 1, 1, 1, 1, 1, 1, 1, 1, 1, 1, 1, 1, 1, 1, 1, 1, 1, 1, 1, 1, 1, 1, 1, 1, 1, 1, 1, 1, 1, 1, 1, 1, 1, 1, 1, 1, 1, 1, 1, 1, 0] [] [] <| rS 1 rfl <| rZ0 ?_)
                  try clear H a W
                  intro a W H
                  refine ⟨k + 1, by omega, by omega, dn + 1, (dSync D).1, r3, ⟨hP3, (hJ.2.1.sync (by omega)).1, by omega⟩, ?_⟩
                  exact H.pickF (h := []) (t := (r3 ++ ([] : Hep))) [0, 32, 54, 55, 56] [] rfl
          | false =>
            rw [hq4] at H
            have hq4p := of_decide_eq_false hq4
            refine wp_cond_false (H.ev rfl) ?_
            refine wp_skip ?_
            refine hK17 _ _ ?_
            clear hK17
            refine wp_seq_k (fun K27 hK27 => ?_)
            refine rgP H gs0 (rS 1 rfl <| rI0 ?_)
            try clear H a W
            intro a W H
            replace H : St 133 w a W [(51, .pointer (some ⟨p1, 0, none⟩)), (48, .bool false), (47, .int .i64 ((l.getD k 0).tmod 9)), (9, .int .i64 ((l.getD k 0).tmod 9)), (46, .int .i64 ((l.getD k 0).tmod 9)), (45, .int .i64 (l.getD k 0)), (44, .pointer (some ⟨gl, ol + k, none⟩)), (43, .int .i64 ((k : Nat) : Int)), (42, .slice A n c), (39, .bool true), (38, .int .i64 ((n : Nat) : Int)), (37, .slice A n c), (36, .int .i64 ((k : Nat) : Int)), (8, .int .i64 ((k : Nat) : Int)), (7, .int .i64 ((dn : Nat) : Int)), (5, .pointer (some ⟨p1, 0, none⟩)), (0, .int .i64 fu), (1, .slice A n c)] (r ++ (([] : Hep) ++ ([] : Hep))) := H.perm' (((List.Perm.refl _).append_left ([] : Hep)).trans (List.perm_append_comm_assoc ([] : Hep) r ([] : Hep)))
            refine pl_callX rfl rfl ⟨_, Try.func27, by kernel_rfl⟩ rfl (fun K_ => by have h_ := po_sync (hh := (([] : Hep) ++ ([] : Hep))) hJ.1 w _ K_; rw [(hJ.2.1.sync (by omega)).2] at h_; exact h_) H ?_
            try clear H a W
            rintro r9 a W hP9 H
            replace hP9 : PO p1 (dSync D).1 r9 := hP9
            replace H := H.perm' (List.perm_append_comm_assoc r9 ([] : Hep) ([] : Hep))
            replace H : St 133 w a W [(52, .int .i64 (errF fu (dn + 1))), (51, .pointer (some ⟨p1, 0, none⟩)), (48, .bool false), (47, .int .i64 ((l.getD k 0).tmod 9)), (9, .int .i64 ((l.getD k 0).tmod 9)), (46, .int .i64 ((l.getD k 0).tmod 9)), (45, .int .i64 (l.getD k 0)), (44, .pointer (some ⟨gl, ol + k, none⟩)), (43, .int .i64 ((k : Nat) : Int)), (42, .slice A n c), (39, .bool true), (38, .int .i64 ((n : Nat) : Int)), (37, .slice A n c), (36, .int .i64 ((k : Nat) : Int)), (8, .int .i64 ((k : Nat) : Int)), (7, .int .i64 ((dn : Nat) : Int)), (5, .pointer (some ⟨p1, 0, none⟩)), (0, .int .i64 fu), (1, .slice A n c)] ((r9 ++ ([] : Hep))) := H
            refine rgO H gs0 (rS 1 rfl <| rZ0 ?_)
            try clear H a W
            intro a W H
            refine hK27 _ _ ?_
            clear hK27
            refine wp_seq_k (fun K28 hK28 => ?_)
            refine sqR H gs0 fun Z_ z_ => rS 1 rfl <| rV rfl (does_binOp rfl rfl rfl (zd_lss_int (k := ((l.getD k 0).tmod 9)) (m := 8) rfl _ _)) <| rN0 z_ ?_
            try clear H a W
            intro a W H
            cases hq12 : decide (((l.getD k 0).tmod 9) < 8) with
            | true =>
              rw [hq12] at H
              have hq12p := of_decide_eq_true hq12
              refine wp_cond_true (H.ev rfl) ?_
              refine wp_seq_k (fun K30 hK30 => ?_)
              refine rgP H gs0 (rS 3 rfl <| rV rfl (does_convert rfl rfl (cv_ib k)) <| rI0 ?_)
              try clear H a W
              intro a W H
              refine pl_callX rfl rfl ⟨_, Try.func29, by kernel_rfl⟩ rfl (fun K_ => fill_K (UInt8.ofNat k) K_) H ?_
              try clear H a W
              rintro g2 a W - H
              replace H : St 133 w a W [(59, .slice (some ⟨g2, 0, none⟩) 512 512), (58, bv (UInt8.ofNat k)), (57, .int .i64 ((k : Nat) : Int)), (56, .int .i64 ((l.getD k 0).tmod 9)), (55, .pointer (some ⟨p1, 0, none⟩)), (54, .bool true), (53, .int .i64 ((l.getD k 0).tmod 9)), (10, .int .i64 (errF fu (dn + 1))), (52, .int .i64 (errF fu (dn + 1))), (51, .pointer (some ⟨p1, 0, none⟩)), (48, .bool false), (47, .int .i64 ((l.getD k 0).tmod 9)), (9, .int .i64 ((l.getD k 0).tmod 9)), (46, .int .i64 ((l.getD k 0).tmod 9)), (45, .int .i64 (l.getD k 0)), (44, .pointer (some ⟨gl, ol + k, none⟩)), (43, .int .i64 ((k : Nat) : Int)), (42, .slice A n c), (39, .bool true), (38, .int .i64 ((n : Nat) : Int)), (37, .slice A n c), (36, .int .i64 ((k : Nat) : Int)), (8, .int .i64 ((k : Nat) : Int)), (7, .int .i64 ((dn : Nat) : Int)), (5, .pointer (some ⟨p1, 0, none⟩)), (0, .int .i64 fu), (1, .slice A n c)] ((g2, 5, bvs (fillB (UInt8.ofNat k))) :: (r9 ++ ([] : Hep))) := H
              replace H : St 133 w a W [(59, .slice (some ⟨g2, 0, none⟩) 512 512), (58, bv (UInt8.ofNat k)), (57, .int .i64 ((k : Nat) : Int)), (56, .int .i64 ((l.getD k 0).tmod 9)), (55, .pointer (some ⟨p1, 0, none⟩)), (54, .bool true), (53, .int .i64 ((l.getD k 0).tmod 9)), (10, .int .i64 (errF fu (dn + 1))), (52, .int .i64 (errF fu (dn + 1))), (51, .pointer (some ⟨p1, 0, none⟩)), (48, .bool false), (47, .int .i64 ((l.getD k 0).tmod 9)), (9, .int .i64 ((l.getD k 0).tmod 9)), (46, .int .i64 ((l.getD k 0).tmod 9)), (45, .int .i64 (l.getD k 0)), (44, .pointer (some ⟨gl, ol + k, none⟩)), (43, .int .i64 ((k : Nat) : Int)), (42, .slice A n c), (39, .bool true), (38, .int .i64 ((n : Nat) : Int)), (37, .slice A n c), (36, .int .i64 ((k : Nat) : Int)), (8, .int .i64 ((k : Nat) : Int)), (7, .int .i64 ((dn : Nat) : Int)), (5, .pointer (some ⟨p1, 0, none⟩)), (0, .int .i64 fu), (1, .slice A n c)] (r9 ++ (([(g2, .ty 5, bvs (fillB (UInt8.ofNat k)))] : Hep) ++ ([] : Hep))) := H.perm' (((List.Perm.refl _).append_left ([(g2, .ty 5, bvs (fillB (UInt8.ofNat k)))] : Hep)).trans (List.perm_append_comm_assoc ([(g2, .ty 5, bvs (fillB (UInt8.ofNat k)))] : Hep) r9 ([] : Hep)))
              refine pl_callX rfl rfl ⟨_, Try.func28, by kernel_rfl⟩ rfl (fun K_ => by have h_ := po_write (hh := (([(g2, .ty 5, bvs (fillB (UInt8.ofNat k)))] : Hep) ++ ([] : Hep))) (b := fillB (UInt8.ofNat k)) (gb := g2) (cb := 512) hP9 ((l.getD k 0).tmod 9) (by rw [fill_len _]; omega) (List.mem_append_left _ (List.mem_iff_getElem?.2 ⟨0, rfl⟩)) (by have h_ := (hJ.2.1.sync (by omega)).1.nl; omega) w _ K_; rw [show (fillB (UInt8.ofNat k)).length = 512 from (fill_len _)] at h_; rw [((hJ.2.1.sync (by omega)).1.write (by omega) (by omega) (fill_len _)).2] at h_; exact h_) H ?_
              try clear H a W
              rintro r10 a W hP10 H
              replace hP10 : PO p1 (dWrite (dSync D).1 ((l.getD k 0).tmod 9) (fillB (UInt8.ofNat k))).1 r10 := hP10
              replace H := H.perm' (List.perm_append_comm_assoc r10 ([(g2, .ty 5, bvs (fillB (UInt8.ofNat k)))] : Hep) ([] : Hep))
              replace H : St 133 w a W [(60, .int .i64 (errF fu (dn + 1 + 1))), (59, .slice (some ⟨g2, 0, none⟩) 512 512), (58, bv (UInt8.ofNat k)), (57, .int .i64 ((k : Nat) : Int)), (56, .int .i64 ((l.getD k 0).tmod 9)), (55, .pointer (some ⟨p1, 0, none⟩)), (54, .bool true), (53, .int .i64 ((l.getD k 0).tmod 9)), (10, .int .i64 (errF fu (dn + 1))), (52, .int .i64 (errF fu (dn + 1))), (51, .pointer (some ⟨p1, 0, none⟩)), (48, .bool false), (47, .int .i64 ((l.getD k 0).tmod 9)), (9, .int .i64 ((l.getD k 0).tmod 9)), (46, .int .i64 ((l.getD k 0).tmod 9)), (45, .int .i64 (l.getD k 0)), (44, .pointer (some ⟨gl, ol + k, none⟩)), (43, .int .i64 ((k : Nat) : Int)), (42, .slice A n c), (39, .bool true), (38, .int .i64 ((n : Nat) : Int)), (37, .slice A n c), (36, .int .i64 ((k : Nat) : Int)), (8, .int .i64 ((k : Nat) : Int)), (7, .int .i64 ((dn : Nat) : Int)), (5, .pointer (some ⟨p1, 0, none⟩)), (0, .int .i64 fu), (1, .slice A n c)] ((g2, 5, bvs (fillB (UInt8.ofNat k))) :: (r10 ++ ([] : Hep))) := H
              refine rgO H gs0 (rK [1, 1, 1, 1, 1, 1, 1, 1, 0] [] [] <| rS 1 rfl <| rZ0 ?_)
              try clear H a W
              intro a W H
              refine hK30 _ _ ?_
              clear hK30
              refine rgP H gs0 (rS 1 rfl <| rV rfl (does_binOp rfl rfl rfl (zd_add_int (k := ((dn : Nat) : Int)) (m := 1) (c := ((dn + 1 : Nat) : Int)) (by omega) (by omega) _ _)) <| rK [1, 1, 1, 1, 1, 1, 1, 1, 1, 1, 1, 1, 1, 1, 1, 1, 1, 1, 1, 1, 1, 1, 1, 1, 1, 1, 0] [] [] <| rS 1 rfl <| rZ0 ?_)
              try clear H a W
              intro a W H
              refine hK28 _ _ ?_
              clear hK28
              refine sqR H gs0 fun Z_ z_ => rS 1 rfl <| rV rfl (does_binOp rfl rfl rfl (zd_add_int (k := ((dn + 1 : Nat) : Int)) (m := 1) (c := ((dn + 1 + 1 : Nat) : Int)) (by omega) (by omega) _ _)) <| rK [1, 1, 0] [] [] <| rS 1 rfl <| rN0 z_ ?_
              try clear H a W
              intro a W H
              have hE17_0 := errF_is fu (dn + 1 + 1)
              have hE17_1 := errF_is fu (dn + 1 + 1 + 1)
              have hE17_2 := errF_is fu (dn + 1 + 1 + 1 + 1)
              refine wp_seq_k (fun K32 hK32 => ?_)
              have hE18_0 := errF_is fu (dn + 1 + 1)
              have hE18_1 := errF_is fu (dn + 1 + 1 + 1)
              have hE18_2 := errF_is fu (dn + 1 + 1 + 1 + 1)
              cases hq13 : decide (((dn + 1 + 1 : Nat) : Int) ≤ fu) with
              | true =>
                have hq13p := of_decide_eq_true hq13
                have hE19_0 := errF_is fu (dn + 1 + 1)
                have hE19_1 := errF_is fu (dn + 1 + 1 + 1)
                have hE19_2 := errF_is fu (dn + 1 + 1 + 1 + 1)
                cases hq14 : decide ((fu + 2) < ((dn + 1 + 1 : Nat) : Int)) with
                | true =>
                  have hq14p := of_decide_eq_true hq14
                  have hE20_0 := errF_is fu (dn + 1 + 1)
                  have hE20_1 := errF_is fu (dn + 1 + 1 + 1)
                  have hE20_2 := errF_is fu (dn + 1 + 1 + 1 + 1)
                  refine rgP H gs0 (rS 2 rfl <| rV rfl (does_binOp rfl rfl rfl (zd_leq_int (k := ((dn + 1 + 1 : Nat) : Int)) (m := fu) hq13 _ _)) <| rS 2 rfl <| rV rfl (does_call rfl ⟨_, Try.func13, by kernel_rfl⟩ rfl (fun W hb => num_any _ W)) <| rV rfl (does_binOp rfl rfl rfl (zd_neq_int (k := (errF fu (dn + 1 + 1))) (m := 0) (decide_eq_false (by omega)) _ _)) <| rS 4 rfl <| rV rfl (does_binOp rfl rfl rfl (zd_add_int (k := fu) (m := 2) (c := fu + 2) rfl (by omega) _ _)) <| rV rfl (does_binOp rfl rfl rfl (zd_gtr_int (k := ((dn + 1 + 1 : Nat) : Int)) (m := (fu + 2)) hq14 _ _)) <| rS 2 rfl <| rV rfl (does_call rfl ⟨_, Try.func13, by kernel_rfl⟩ rfl (fun W hb => num_any _ W)) <| rV rfl (does_binOp rfl rfl rfl (zd_neq_int (k := (errF fu (dn + 1 + 1))) (m := 14) (decide_eq_false (by omega)) _ _)) <| rS 5 rfl <| rV rfl (does_binOp rfl rfl rfl (zd_gtr_int (k := ((dn + 1 + 1 : Nat) : Int)) (m := fu) (decide_eq_false (by omega)) _ _)) <| rS 6 rfl <| rZ0 ?_)
                  try clear H a W
                  intro a W H
                  refine hK32 _ _ ?_
                  clear hK32
                  refine wp_cond_false (H.ev rfl) ?_
                  refine wp_skip ?_
                  refine blk_normal ?_
                  refine hK15 _ _ ?_
                  clear hK15
                  refine rgP H gs0 (rS 1 rfl <| rV rfl (does_binOp rfl rfl rfl (zd_add_int (k := ((k : Nat) : Int)) (m := 1) (c := ((k + 1 : Nat) : Int)) (by omega) (by omega) _ _)) <| rK [1, 1, 1, 1, 1, 1, 1, 1, 1, 1, 1, 1, 1, 1, 1, 1, 1, 1, 1, 1, 1, 1, 1, 1, 1, 1, 1, 1, 1, 1, 1, 1, 1, 1, 1, 1, 1, 1, 1, 1, 1, 1, 1, 1, 1, 1, 1, 1, 1, 1, 1, 1, 1, 1, 1, 1, 1, 1, 1, 0] [] [] <| rS 1 rfl <| rZ0 ?_)
                  try clear H a W
                  intro a W H
                  refine ⟨k + 1, by omega, by omega, dn + 1 + 1, (dWrite (dSync D).1 ((l.getD k 0).tmod 9) (fillB (UInt8.ofNat k))).1, r10, ⟨hP10, ((hJ.2.1.sync (by omega)).1.write (by omega) (by omega) (fill_len _)).1, by omega⟩, ?_⟩
                  exact H.pickF (h := [(g2, 5, bvs (fillB (UInt8.ofNat k)))]) (t := (r10 ++ ([] : Hep))) [0, 32, 60, 61, 62] [] rfl
                | false =>
                  have hq14p := of_decide_eq_false hq14
                  have hE21_0 := errF_is fu (dn + 1 + 1)
                  have hE21_1 := errF_is fu (dn + 1 + 1 + 1)
                  have hE21_2 := errF_is fu (dn + 1 + 1 + 1 + 1)
                  refine rgP H gs0 (rS 2 rfl <| rV rfl (does_binOp rfl rfl rfl (zd_leq_int (k := ((dn + 1 + 1 : Nat) : Int)) (m := fu) hq13 _ _)) <| rS 2 rfl <| rV rfl (does_call rfl ⟨_, Try.func13, by kernel_rfl⟩ rfl (fun W hb => num_any _ W)) <| rV rfl (does_binOp rfl rfl rfl (zd_neq_int (k := (errF fu (dn + 1 + 1))) (m := 0) (decide_eq_false (by omega)) _ _)) <| rS 4 rfl <| rV rfl (does_binOp rfl rfl rfl (zd_add_int (k := fu) (m := 2) (c := fu + 2) rfl (by omega) _ _)) <| rV rfl (does_binOp rfl rfl rfl (zd_gtr_int (k := ((dn + 1 + 1 : Nat) : Int)) (m := (fu + 2)) hq14 _ _)) <| rS 9 rfl <| rV rfl (does_binOp rfl rfl rfl (zd_gtr_int (k := ((dn + 1 + 1 : Nat) : Int)) (m := fu) (decide_eq_false (by omega)) _ _)) <| rS 6 rfl <| rZ0 ?_)
                  try clear H a W
                  intro a W H
                  refine hK32 _ _ ?_
                  clear hK32
                  refine wp_cond_false (H.ev rfl) ?_
                  refine wp_skip ?_
                  refine blk_normal ?_
                  refine hK15 _ _ ?_
                  clear hK15
                  refine rgP H gs0 (rS 1 rfl <| rV rfl (does_binOp rfl rfl rfl (zd_add_int (k := ((k : Nat) : Int)) (m := 1) (c := ((k + 1 : Nat) : Int)) (by omega) (by omega) _ _)) <| rK [1, 1, 1, 1, 1, 1, 1, 1, 1, 1, 1, 1, 1, 1, 1, 1, 1, 1, 1, 1, 1, 1, 1, 1, 1, 1, 1, 1, 1, 1, 1, 1, 1, 1, 1, 1, 1, 1, 1, 1, 1, 1, 1, 1, 1, 1, 1, 1, 1, 1, 1, 1, 1, 1, 1, 1, 1, 1, 1, 0] [] [] <| rS 1 rfl <| rZ0 ?_)
                  try clear H a W
                  intro a W H
                  refine ⟨k + 1, by omega, by omega, dn + 1 + 1, (dWrite (dSync D).1 ((l.getD k 0).tmod 9) (fillB (UInt8.ofNat k))).1, r10, ⟨hP10, ((hJ.2.1.sync (by omega)).1.write (by omega) (by omega) (fill_len _)).1, by omega⟩, ?_⟩
                  exact H.pickF (h := [(g2, 5, bvs (fillB (UInt8.ofNat k)))]) (t := (r10 ++ ([] : Hep))) [0, 32, 60, 61, 62] [] rfl
              | false =>
                have hq13p := of_decide_eq_false hq13
                have hE22_0 := errF_is fu (dn + 1 + 1)
                have hE22_1 := errF_is fu (dn + 1 + 1 + 1)
                have hE22_2 := errF_is fu (dn + 1 + 1 + 1 + 1)
                cases hq15 : decide ((fu + 2) < ((dn + 1 + 1 : Nat) : Int)) with
                | true =>
                  have hq15p := of_decide_eq_true hq15
                  have hE23_0 := errF_is fu (dn + 1 + 1)
                  have hE23_1 := errF_is fu (dn + 1 + 1 + 1)
                  have hE23_2 := errF_is fu (dn + 1 + 1 + 1 + 1)
                  refine rgP H gs0 (rS 2 rfl <| rV rfl (does_binOp rfl rfl rfl (zd_leq_int (k := ((dn + 1 + 1 : Nat) : Int)) (m := fu) hq13 _ _)) <| rS 8 rfl <| rV rfl (does_binOp rfl rfl rfl (zd_add_int (k := fu) (m := 2) (c := fu + 2) rfl (by omega) _ _)) <| rV rfl (does_binOp rfl rfl rfl (zd_gtr_int (k := ((dn + 1 + 1 : Nat) : Int)) (m := (fu + 2)) hq15 _ _)) <| rS 2 rfl <| rV rfl (does_call rfl ⟨_, Try.func13, by kernel_rfl⟩ rfl (fun W hb => num_any _ W)) <| rV rfl (does_binOp rfl rfl rfl (zd_neq_int (k := (errF fu (dn + 1 + 1))) (m := 14) (decide_eq_false (by omega)) _ _)) <| rS 5 rfl <| rV rfl (does_binOp rfl rfl rfl (zd_gtr_int (k := ((dn + 1 + 1 : Nat) : Int)) (m := fu) (decide_eq_true (by omega)) _ _)) <| rS 2 rfl <| rI0 ?_)
                  try clear H a W
                  intro a W H
                  replace H : St 133 w a W [(89, .pointer (some ⟨p1, 0, none⟩)), (88, .bool true), (87, .bool true), (86, .int .i64 fu), (85, .int .i64 ((dn + 1 + 1 : Nat) : Int)), (84, .bool false), (83, .bool false), (82, .bool false), (81, .bool false), (80, .int .i64 (errF fu (dn + 1 + 1))), (79, .int .i64 (errF fu (dn + 1 + 1))), (78, .bool true), (77, .bool true), (76, .int .i64 (fu + 2)), (75, .int .i64 fu), (74, .int .i64 ((dn + 1 + 1 : Nat) : Int)), (73, .bool false), (72, .bool false), (71, undef), (70, undef), (69, undef), (68, .bool false), (67, .bool false), (66, .int .i64 fu), (65, .int .i64 ((dn + 1 + 1 : Nat) : Int)), (7, .int .i64 ((dn + 1 + 1 : Nat) : Int)), (64, .int .i64 ((dn + 1 + 1 : Nat) : Int)), (63, .int .i64 ((dn + 1 : Nat) : Int)), (62, .int .i64 ((dn + 1 : Nat) : Int)), (61, .int .i64 ((dn : Nat) : Int)), (10, .int .i64 (errF fu (dn + 1 + 1))), (60, .int .i64 (errF fu (dn + 1 + 1))), (59, .slice (some ⟨g2, 0, none⟩) 512 512), (58, bv (UInt8.ofNat k)), (57, .int .i64 ((k : Nat) : Int)), (56, .int .i64 ((l.getD k 0).tmod 9)), (55, .pointer (some ⟨p1, 0, none⟩)), (54, .bool true), (53, .int .i64 ((l.getD k 0).tmod 9)), (52, .int .i64 (errF fu (dn + 1))), (51, .pointer (some ⟨p1, 0, none⟩)), (48, .bool false), (47, .int .i64 ((l.getD k 0).tmod 9)), (9, .int .i64 ((l.getD k 0).tmod 9)), (46, .int .i64 ((l.getD k 0).tmod 9)), (45, .int .i64 (l.getD k 0)), (44, .pointer (some ⟨gl, ol + k, none⟩)), (43, .int .i64 ((k : Nat) : Int)), (42, .slice A n c), (39, .bool true), (38, .int .i64 ((n : Nat) : Int)), (37, .slice A n c), (36, .int .i64 ((k : Nat) : Int)), (8, .int .i64 ((k : Nat) : Int)), (5, .pointer (some ⟨p1, 0, none⟩)), (0, .int .i64 fu), (1, .slice A n c)] (r10 ++ (([(g2, .ty 5, bvs (fillB (UInt8.ofNat k)))] : Hep) ++ ([] : Hep))) := H.perm' (((List.Perm.refl _).append_left ([(g2, .ty 5, bvs (fillB (UInt8.ofNat k)))] : Hep)).trans (List.perm_append_comm_assoc ([(g2, .ty 5, bvs (fillB (UInt8.ofNat k)))] : Hep) r10 ([] : Hep)))
                  refine pl_callV rfl rfl ⟨_, Try.func22, by kernel_rfl⟩ rfl (fun K_ => by have h_ := po_dead (hh := (([(g2, .ty 5, bvs (fillB (UInt8.ofNat k)))] : Hep) ++ ([] : Hep))) hP10 w _ K_; rw [(((hJ.2.1.sync (by omega)).1.write (by omega) (by omega) (fill_len _)).1.dead (by omega))] at h_; exact h_) H ?_
                  try clear H a W
                  intro a W H
                  replace H := H.perm' (List.perm_append_comm_assoc r10 ([(g2, .ty 5, bvs (fillB (UInt8.ofNat k)))] : Hep) ([] : Hep))
                  replace H : St 133 w a W [(90, .bool true), (89, .pointer (some ⟨p1, 0, none⟩)), (88, .bool true), (87, .bool true), (86, .int .i64 fu), (85, .int .i64 ((dn + 1 + 1 : Nat) : Int)), (84, .bool false), (83, .bool false), (82, .bool false), (81, .bool false), (80, .int .i64 (errF fu (dn + 1 + 1))), (79, .int .i64 (errF fu (dn + 1 + 1))), (78, .bool true), (77, .bool true), (76, .int .i64 (fu + 2)), (75, .int .i64 fu), (74, .int .i64 ((dn + 1 + 1 : Nat) : Int)), (73, .bool false), (72, .bool false), (71, undef), (70, undef), (69, undef), (68, .bool false), (67, .bool false), (66, .int .i64 fu), (65, .int .i64 ((dn + 1 + 1 : Nat) : Int)), (7, .int .i64 ((dn + 1 + 1 : Nat) : Int)), (64, .int .i64 ((dn + 1 + 1 : Nat) : Int)), (63, .int .i64 ((dn + 1 : Nat) : Int)), (62, .int .i64 ((dn + 1 : Nat) : Int)), (61, .int .i64 ((dn : Nat) : Int)), (10, .int .i64 (errF fu (dn + 1 + 1))), (60, .int .i64 (errF fu (dn + 1 + 1))), (59, .slice (some ⟨g2, 0, none⟩) 512 512), (58, bv (UInt8.ofNat k)), (57, .int .i64 ((k : Nat) : Int)), (56, .int .i64 ((l.getD k 0).tmod 9)), (55, .pointer (some ⟨p1, 0, none⟩)), (54, .bool true), (53, .int .i64 ((l.getD k 0).tmod 9)), (52, .int .i64 (errF fu (dn + 1))), (51, .pointer (some ⟨p1, 0, none⟩)), (48, .bool false), (47, .int .i64 ((l.getD k 0).tmod 9)), (9, .int .i64 ((l.getD k 0).tmod 9)), (46, .int .i64 ((l.getD k 0).tmod 9)), (45, .int .i64 (l.getD k 0)), (44, .pointer (some ⟨gl, ol + k, none⟩)), (43, .int .i64 ((k : Nat) : Int)), (42, .slice A n c), (39, .bool true), (38, .int .i64 ((n : Nat) : Int)), (37, .slice A n c), (36, .int .i64 ((k : Nat) : Int)), (8, .int .i64 ((k : Nat) : Int)), (5, .pointer (some ⟨p1, 0, none⟩)), (0, .int .i64 fu), (1, .slice A n c)] ((g2, 5, bvs (fillB (UInt8.ofNat k))) :: (r10 ++ ([] : Hep))) := H
                  refine rgO H gs0 (rS 3 rfl <| rZ0 ?_)
                  try clear H a W
                  intro a W H
                  refine hK32 _ _ ?_
                  clear hK32
                  refine wp_cond_false (H.ev rfl) ?_
                  refine wp_skip ?_
                  refine blk_normal ?_
                  refine hK15 _ _ ?_
                  clear hK15
                  refine rgP H gs0 (rS 1 rfl <| rV rfl (does_binOp rfl rfl rfl (zd_add_int (k := ((k : Nat) : Int)) (m := 1) (c := ((k + 1 : Nat) : Int)) (by omega) (by omega) _ _)) <| rK [1, 1, 1, 1, 1, 1, 1, 1, 1, 1, 1, 1, 1, 1, 1, 1, 1, 1, 1, 1, 1, 1, 1, 1, 1, 1, 1, 1, 1, 1, 1, 1, 1, 1, 1, 1, 1, 1, 1, 1, 1, 1, 1, 1, 1, 1, 1, 1, 1, 1, 1, 1, 1, 1, 1, 1, 1, 1, 1, 0] [] [] <| rS 1 rfl <| rZ0 ?_)
                  try clear H a W
                  intro a W H
                  refine ⟨k + 1, by omega, by omega, dn + 1 + 1, (dWrite (dSync D).1 ((l.getD k 0).tmod 9) (fillB (UInt8.ofNat k))).1, r10, ⟨hP10, ((hJ.2.1.sync (by omega)).1.write (by omega) (by omega) (fill_len _)).1, by omega⟩, ?_⟩
                  exact H.pickF (h := [(g2, 5, bvs (fillB (UInt8.ofNat k)))]) (t := (r10 ++ ([] : Hep))) [0, 32, 60, 61, 62] [] rfl
                | false =>
                  have hq15p := of_decide_eq_false hq15
                  have hE24_0 := errF_is fu (dn + 1 + 1)
                  have hE24_1 := errF_is fu (dn + 1 + 1 + 1)
                  have hE24_2 := errF_is fu (dn + 1 + 1 + 1 + 1)
                  refine rgP H gs0 (rS 2 rfl <| rV rfl (does_binOp rfl rfl rfl (zd_leq_int (k := ((dn + 1 + 1 : Nat) : Int)) (m := fu) hq13 _ _)) <| rS 8 rfl <| rV rfl (does_binOp rfl rfl rfl (zd_add_int (k := fu) (m := 2) (c := fu + 2) rfl (by omega) _ _)) <| rV rfl (does_binOp rfl rfl rfl (zd_gtr_int (k := ((dn + 1 + 1 : Nat) : Int)) (m := (fu + 2)) hq15 _ _)) <| rS 9 rfl <| rV rfl (does_binOp rfl rfl rfl (zd_gtr_int (k := ((dn + 1 + 1 : Nat) : Int)) (m := fu) (decide_eq_true (by omega)) _ _)) <| rS 2 rfl <| rI0 ?_)
                  try clear H a W
                  intro a W H
                  replace H : St 133 w a W [(89, .pointer (some ⟨p1, 0, none⟩)), (88, .bool true), (87, .bool true), (86, .int .i64 fu), (85, .int .i64 ((dn + 1 + 1 : Nat) : Int)), (84, .bool false), (83, .bool false), (82, .bool false), (81, undef), (80, undef), (79, undef), (78, .bool false), (77, .bool false), (76, .int .i64 (fu + 2)), (75, .int .i64 fu), (74, .int .i64 ((dn + 1 + 1 : Nat) : Int)), (73, .bool false), (72, .bool false), (71, undef), (70, undef), (69, undef), (68, .bool false), (67, .bool false), (66, .int .i64 fu), (65, .int .i64 ((dn + 1 + 1 : Nat) : Int)), (7, .int .i64 ((dn + 1 + 1 : Nat) : Int)), (64, .int .i64 ((dn + 1 + 1 : Nat) : Int)), (63, .int .i64 ((dn + 1 : Nat) : Int)), (62, .int .i64 ((dn + 1 : Nat) : Int)), (61, .int .i64 ((dn : Nat) : Int)), (10, .int .i64 (errF fu (dn + 1 + 1))), (60, .int .i64 (errF fu (dn + 1 + 1))), (59, .slice (some ⟨g2, 0, none⟩) 512 512), (58, bv (UInt8.ofNat k)), (57, .int .i64 ((k : Nat) : Int)), (56, .int .i64 ((l.getD k 0).tmod 9)), (55, .pointer (some ⟨p1, 0, none⟩)), (54, .bool true), (53, .int .i64 ((l.getD k 0).tmod 9)), (52, .int .i64 (errF fu (dn + 1))), (51, .pointer (some ⟨p1, 0, none⟩)), (48, .bool false), (47, .int .i64 ((l.getD k 0).tmod 9)), (9, .int .i64 ((l.getD k 0).tmod 9)), (46, .int .i64 ((l.getD k 0).tmod 9)), (45, .int .i64 (l.getD k 0)), (44, .pointer (some ⟨gl, ol + k, none⟩)), (43, .int .i64 ((k : Nat) : Int)), (42, .slice A n c), (39, .bool true), (38, .int .i64 ((n : Nat) : Int)), (37, .slice A n c), (36, .int .i64 ((k : Nat) : Int)), (8, .int .i64 ((k : Nat) : Int)), (5, .pointer (some ⟨p1, 0, none⟩)), (0, .int .i64 fu), (1, .slice A n c)] (r10 ++ (([(g2, .ty 5, bvs (fillB (UInt8.ofNat k)))] : Hep) ++ ([] : Hep))) := H.perm' (((List.Perm.refl _).append_left ([(g2, .ty 5, bvs (fillB (UInt8.ofNat k)))] : Hep)).trans (List.perm_append_comm_assoc ([(g2, .ty 5, bvs (fillB (UInt8.ofNat k)))] : Hep) r10 ([] : Hep)))
                  refine pl_callV rfl rfl ⟨_, Try.func22, by kernel_rfl⟩ rfl (fun K_ => by have h_ := po_dead (hh := (([(g2, .ty 5, bvs (fillB (UInt8.ofNat k)))] : Hep) ++ ([] : Hep))) hP10 w _ K_; rw [(((hJ.2.1.sync (by omega)).1.write (by omega) (by omega) (fill_len _)).1.dead (by omega))] at h_; exact h_) H ?_
                  try clear H a W
                  intro a W H
                  replace H := H.perm' (List.perm_append_comm_assoc r10 ([(g2, .ty 5, bvs (fillB (UInt8.ofNat k)))] : Hep) ([] : Hep))
                  replace H : St 133 w a W [(90, .bool true), (89, .pointer (some ⟨p1, 0, none⟩)), (88, .bool true), (87, .bool true), (86, .int .i64 fu), (85, .int .i64 ((dn + 1 + 1 : Nat) : Int)), (84, .bool false), (83, .bool false), (82, .bool false), (81, undef), (80, undef), (79, undef), (78, .bool false), (77, .bool false), (76, .int .i64 (fu + 2)), (75, .int .i64 fu), (74, .int .i64 ((dn + 1 + 1 : Nat) : Int)), (73, .bool false), (72, .bool false), (71, undef), (70, undef), (69, undef), (68, .bool false), (67, .bool false), (66, .int .i64 fu), (65, .int .i64 ((dn + 1 + 1 : Nat) : Int)), (7, .int .i64 ((dn + 1 + 1 : Nat) : Int)), (64, .int .i64 ((dn + 1 + 1 : Nat) : Int)), (63, .int .i64 ((dn + 1 : Nat) : Int)), (62, .int .i64 ((dn + 1 : Nat) : Int)), (61, .int .i64 ((dn : Nat) : Int)), (10, .int .i64 (errF fu (dn + 1 + 1))), (60, .int .i64 (errF fu (dn + 1 + 1))), (59, .slice (some ⟨g2, 0, none⟩) 512 512), (58, bv (UInt8.ofNat k)), (57, .int .i64 ((k : Nat) : Int)), (56, .int .i64 ((l.getD k 0).tmod 9)), (55, .pointer (some ⟨p1, 0, none⟩)), (54, .bool true), (53, .int .i64 ((l.getD k 0).tmod 9)), (52, .int .i64 (errF fu (dn + 1))), (51, .pointer (some ⟨p1, 0, none⟩)), (48, .bool false), (47, .int .i64 ((l.getD k 0).tmod 9)), (9, .int .i64 ((l.getD k 0).tmod 9)), (46, .int .i64 ((l.getD k 0).tmod 9)), (45, .int .i64 (l.getD k 0)), (44, .pointer (some ⟨gl, ol + k, none⟩)), (43, .int .i64 ((k : Nat) : Int)), (42, .slice A n c), (39, .bool true), (38, .int .i64 ((n : Nat) : Int)), (37, .slice A n c), (36, .int .i64 ((k : Nat) : Int)), (8, .int .i64 ((k : Nat) : Int)), (5, .pointer (some ⟨p1, 0, none⟩)), (0, .int .i64 fu), (1, .slice A n c)] ((g2, 5, bvs (fillB (UInt8.ofNat k))) :: (r10 ++ ([] : Hep))) := H
                  refine rgO H gs0 (rS 3 rfl <| rZ0 ?_)
                  try clear H a W
                  intro a W H
                  refine hK32 _ _ ?_
                  clear hK32
                  refine wp_cond_false (H.ev rfl) ?_
                  refine wp_skip ?_
                  refine blk_normal ?_
                  refine hK15 _ _ ?_
                  clear hK15
                  refine rgP H gs0 (rS 1 rfl <| rV rfl (does_binOp rfl rfl rfl (zd_add_int (k := ((k : Nat) : Int)) (m := 1) (c := ((k + 1 : Nat) : Int)) (by omega) (by omega) _ _)) <| rK [1, 1, 1, 1, 1, 1, 1, 1, 1, 1, 1, 1, 1, 1, 1, 1, 1, 1, 1, 1, 1, 1, 1, 1, 1, 1, 1, 1, 1, 1, 1, 1, 1, 1, 1, 1, 1, 1, 1, 1, 1, 1, 1, 1, 1, 1, 1, 1, 1, 1, 1, 1, 1, 1, 1, 1, 1, 1, 1, 0] [] [] <| rS 1 rfl <| rZ0 ?_)
                  try clear H a W
                  intro a W H
                  refine ⟨k + 1, by omega, by omega, dn + 1 + 1, (dWrite (dSync D).1 ((l.getD k 0).tmod 9) (fillB (UInt8.ofNat k))).1, r10, ⟨hP10, ((hJ.2.1.sync (by omega)).1.write (by omega) (by omega) (fill_len _)).1, by omega⟩, ?_⟩
                  exact H.pickF (h := [(g2, 5, bvs (fillB (UInt8.ofNat k)))]) (t := (r10 ++ ([] : Hep))) [0, 32, 60, 61, 62] [] rfl
            | false =>
              rw [hq12] at H
              have hq12p := of_decide_eq_false hq12
              refine wp_cond_false (H.ev rfl) ?_
              refine wp_skip ?_
              refine hK28 _ _ ?_
              clear hK28
              refine sqR H gs0 fun Z_ z_ => rS 1 rfl <| rV rfl (does_binOp rfl rfl rfl (zd_add_int (k := ((dn : Nat) : Int)) (m := 1) (c := ((dn + 1 : Nat) : Int)) (by omega) (by omega) _ _)) <| rK [1, 1, 1, 1, 1, 1, 1, 1, 1, 1, 1, 1, 1, 1, 1, 1, 1, 1, 1, 1, 0] [] [] <| rS 1 rfl <| rN0 z_ ?_
              try clear H a W
              intro a W H
              have hE25_0 := errF_is fu (dn + 1)
              have hE25_1 := errF_is fu (dn + 1 + 1)
              have hE25_2 := errF_is fu (dn + 1 + 1 + 1)
              refine wp_seq_k (fun K34 hK34 => ?_)
              have hE26_0 := errF_is fu (dn + 1)
              have hE26_1 := errF_is fu (dn + 1 + 1)
              have hE26_2 := errF_is fu (dn + 1 + 1 + 1)
              cases hq16 : decide (((dn + 1 : Nat) : Int) ≤ fu) with
              | true =>
                have hq16p := of_decide_eq_true hq16
                have hE27_0 := errF_is fu (dn + 1)
                have hE27_1 := errF_is fu (dn + 1 + 1)
                have hE27_2 := errF_is fu (dn + 1 + 1 + 1)
                cases hq17 : decide ((fu + 2) < ((dn + 1 : Nat) : Int)) with
                | true =>
                  have hq17p := of_decide_eq_true hq17
                  have hE28_0 := errF_is fu (dn + 1)
                  have hE28_1 := errF_is fu (dn + 1 + 1)
                  have hE28_2 := errF_is fu (dn + 1 + 1 + 1)
                  refine rgP H gs0 (rS 2 rfl <| rV rfl (does_binOp rfl rfl rfl (zd_leq_int (k := ((dn + 1 : Nat) : Int)) (m := fu) hq16 _ _)) <| rS 2 rfl <| rV rfl (does_call rfl ⟨_, Try.func13, by kernel_rfl⟩ rfl (fun W hb => num_any _ W)) <| rV rfl (does_binOp rfl rfl rfl (zd_neq_int (k := (errF fu (dn + 1))) (m := 0) (decide_eq_false (by omega)) _ _)) <| rS 4 rfl <| rV rfl (does_binOp rfl rfl rfl (zd_add_int (k := fu) (m := 2) (c := fu + 2) rfl (by omega) _ _)) <| rV rfl (does_binOp rfl rfl rfl (zd_gtr_int (k := ((dn + 1 : Nat) : Int)) (m := (fu + 2)) hq17 _ _)) <| rS 2 rfl <| rV rfl (does_call rfl ⟨_, Try.func13, by kernel_rfl⟩ rfl (fun W hb => num_any _ W)) <| rV rfl (does_binOp rfl rfl rfl (zd_neq_int (k := (errF fu (dn + 1))) (m := 14) (decide_eq_false (by omega)) _ _)) <| rS 5 rfl <| rV rfl (does_binOp rfl rfl rfl (zd_gtr_int (k := ((dn + 1 : Nat) : Int)) (m := fu) (decide_eq_false (by omega)) _ _)) <| rS 6 rfl <| rZ0 ?_)
                  try clear H a W
                  intro a W H
                  refine hK34 _ _ ?_
                  clear hK34
                  refine wp_cond_false (H.ev rfl) ?_
                  refine wp_skip ?_
                  refine blk_normal ?_
                  refine hK15 _ _ ?_
                  clear hK15
                  refine rgP H gs0 (rS 1 rfl <| rV rfl (does_binOp rfl rfl rfl (zd_add_int (k := ((k : Nat) : Int)) (m := 1) (c := ((k + 1 : Nat) : Int)) (by omega) (by omega) _ _)) <| rK [1, 1, 1, 1, 1, 1, 1, 1, 1, 1, 1, 1, 1, 1, 1, 1, 1, 1, 1, 1, 1, 1, 1, 1, 1, 1, 1, 1, 1, 1, 1, 1, 1, 1, 1, 1, 1, 1, 1, 1, 1, 1, 1, 1, 1, 1, 1, 1, 1, 1, 1, 0] [] [] <| rS 1 rfl <| rZ0 ?_)
                  try clear H a W
                  intro a W H
                  refine ⟨k + 1, by omega, by omega, dn + 1, (dSync D).1, r9, ⟨hP9, (hJ.2.1.sync (by omega)).1, by omega⟩, ?_⟩
                  exact H.pickF (h := []) (t := (r9 ++ ([] : Hep))) [0, 32, 52, 53, 54] [] rfl
                | false =>
                  have hq17p := of_decide_eq_false hq17
                  have hE29_0 := errF_is fu (dn + 1)
                  have hE29_1 := errF_is fu (dn + 1 + 1)
                  have hE29_2 := errF_is fu (dn + 1 + 1 + 1)
                  refine rgP H gs0 (rS 2 rfl <| rV rfl (does_binOp rfl rfl rfl (zd_leq_int (k := ((dn + 1 : Nat) : Int)) (m := fu) hq16 _ _)) <| rS 2 rfl <| rV rfl (does_call rfl ⟨_, Try.func13, by kernel_rfl⟩ rfl (fun W hb => num_any _ W)) <| rV rfl (does_binOp rfl rfl rfl (zd_neq_int (k := (errF fu (dn + 1))) (m := 0) (decide_eq_false (by omega)) _ _)) <| rS 4 rfl <| rV rfl (does_binOp rfl rfl rfl (zd_add_int (k := fu) (m := 2) (c := fu + 2) rfl (by omega) _ _)) <| rV rfl (does_binOp rfl rfl rfl (zd_gtr_int (k := ((dn + 1 : Nat) : Int)) (m := (fu + 2)) hq17 _ _)) <| rS 9 rfl <| rV rfl (does_binOp rfl rfl rfl (zd_gtr_int (k := ((dn + 1 : Nat) : Int)) (m := fu) (decide_eq_false (by omega)) _ _)) <| rS 6 rfl <| rZ0 ?_)
                  try clear H a W
                  intro a W H
                  refine hK34 _ _ ?_
                  clear hK34
                  refine wp_cond_false (H.ev rfl) ?_
                  refine wp_skip ?_
                  refine blk_normal ?_
                  refine hK15 _ _ ?_
                  clear hK15
                  refine rgP H gs0 (rS 1 rfl <| rV rfl (does_binOp rfl rfl rfl (zd_add_int (k := ((k : Nat) : Int)) (m := 1) (c := ((k + 1 : Nat) : Int)) (by omega) (by omega) _ _)) <| rK [1, 1, 1, 1, 1, 1, 1, 1, 1, 1, 1, 1, 1, 1, 1, 1, 1, 1, 1, 1, 1, 1, 1, 1, 1, 1, 1, 1, 1, 1, 1, 1, 1, 1, 1, 1, 1, 1, 1, 1, 1, 1, 1, 1, 1, 1, 1, 1, 1, 1, 1, 0] [] [] <| rS 1 rfl <| rZ0 ?_)
                  try clear H a W
                  intro a W H
                  refine ⟨k + 1, by omega, by omega, dn + 1, (dSync D).1, r9, ⟨hP9, (hJ.2.1.sync (by omega)).1, by omega⟩, ?_⟩
                  exact H.pickF (h := []) (t := (r9 ++ ([] : Hep))) [0, 32, 52, 53, 54] [] rfl
              | false =>
                have hq16p := of_decide_eq_false hq16
                have hE30_0 := errF_is fu (dn + 1)
                have hE30_1 := errF_is fu (dn + 1 + 1)
                have hE30_2 := errF_is fu (dn + 1 + 1 + 1)
                cases hq18 : decide ((fu + 2) < ((dn + 1 : Nat) : Int)) with
                | true =>
                  have hq18p := of_decide_eq_true hq18
                  have hE31_0 := errF_is fu (dn + 1)
                  have hE31_1 := errF_is fu (dn + 1 + 1)
                  have hE31_2 := errF_is fu (dn + 1 + 1 + 1)
                  refine rgP H gs0 (rS 2 rfl <| rV rfl (does_binOp rfl rfl rfl (zd_leq_int (k := ((dn + 1 : Nat) : Int)) (m := fu) hq16 _ _)) <| rS 8 rfl <| rV rfl (does_binOp rfl rfl rfl (zd_add_int (k := fu) (m := 2) (c := fu + 2) rfl (by omega) _ _)) <| rV rfl (does_binOp rfl rfl rfl (zd_gtr_int (k := ((dn + 1 : Nat) : Int)) (m := (fu + 2)) hq18 _ _)) <| rS 2 rfl <| rV rfl (does_call rfl ⟨_, Try.func13, by kernel_rfl⟩ rfl (fun W hb => num_any _ W)) <| rV rfl (does_binOp rfl rfl rfl (zd_neq_int (k := (errF fu (dn + 1))) (m := 14) (decide_eq_false (by omega)) _ _)) <| rS 5 rfl <| rV rfl (does_binOp rfl rfl rfl (zd_gtr_int (k := ((dn + 1 : Nat) : Int)) (m := fu) (decide_eq_true (by omega)) _ _)) <| rS 2 rfl <| rI0 ?_)
                  try clear H a W
                  intro a W H
                  replace H : St 133 w a W [(89, .pointer (some ⟨p1, 0, none⟩)), (88, .bool true), (87, .bool true), (86, .int .i64 fu), (85, .int .i64 ((dn + 1 : Nat) : Int)), (84, .bool false), (83, .bool false), (82, .bool false), (81, .bool false), (80, .int .i64 (errF fu (dn + 1))), (79, .int .i64 (errF fu (dn + 1))), (78, .bool true), (77, .bool true), (76, .int .i64 (fu + 2)), (75, .int .i64 fu), (74, .int .i64 ((dn + 1 : Nat) : Int)), (73, .bool false), (72, .bool false), (71, undef), (70, undef), (69, undef), (68, .bool false), (67, .bool false), (66, .int .i64 fu), (65, .int .i64 ((dn + 1 : Nat) : Int)), (7, .int .i64 ((dn + 1 : Nat) : Int)), (64, .int .i64 ((dn + 1 : Nat) : Int)), (63, .int .i64 ((dn : Nat) : Int)), (54, .bool false), (53, .int .i64 ((l.getD k 0).tmod 9)), (10, .int .i64 (errF fu (dn + 1))), (52, .int .i64 (errF fu (dn + 1))), (51, .pointer (some ⟨p1, 0, none⟩)), (48, .bool false), (47, .int .i64 ((l.getD k 0).tmod 9)), (9, .int .i64 ((l.getD k 0).tmod 9)), (46, .int .i64 ((l.getD k 0).tmod 9)), (45, .int .i64 (l.getD k 0)), (44, .pointer (some ⟨gl, ol + k, none⟩)), (43, .int .i64 ((k : Nat) : Int)), (42, .slice A n c), (39, .bool true), (38, .int .i64 ((n : Nat) : Int)), (37, .slice A n c), (36, .int .i64 ((k : Nat) : Int)), (8, .int .i64 ((k : Nat) : Int)), (5, .pointer (some ⟨p1, 0, none⟩)), (0, .int .i64 fu), (1, .slice A n c)] (r9 ++ (([] : Hep) ++ ([] : Hep))) := H.perm' (((List.Perm.refl _).append_left ([] : Hep)).trans (List.perm_append_comm_assoc ([] : Hep) r9 ([] : Hep)))
                  refine pl_callV rfl rfl ⟨_, Try.func22, by kernel_rfl⟩ rfl (fun K_ => by have h_ := po_dead (hh := (([] : Hep) ++ ([] : Hep))) hP9 w _ K_; rw [((hJ.2.1.sync (by omega)).1.dead (by omega))] at h_; exact h_) H ?_
                  try clear H a W
                  intro a W H
                  replace H := H.perm' (List.perm_append_comm_assoc r9 ([] : Hep) ([] : Hep))
                  replace H : St 133 w a W [(90, .bool true), (89, .pointer (some ⟨p1, 0, none⟩)), (88, .bool true), (87, .bool true), (86, .int .i64 fu), (85, .int .i64 ((dn + 1 : Nat) : Int)), (84, .bool false), (83, .bool false), (82, .bool false), (81, .bool false), (80, .int .i64 (errF fu (dn + 1))), (79, .int .i64 (errF fu (dn + 1))), (78, .bool true), (77, .bool true), (76, .int .i64 (fu + 2)), (75, .int .i64 fu), (74, .int .i64 ((dn + 1 : Nat) : Int)), (73, .bool false), (72, .bool false), (71, undef), (70, undef), (69, undef), (68, .bool false), (67, .bool false), (66, .int .i64 fu), (65, .int .i64 ((dn + 1 : Nat) : Int)), (7, .int .i64 ((dn + 1 : Nat) : Int)), (64, .int .i64 ((dn + 1 : Nat) : Int)), (63, .int .i64 ((dn : Nat) : Int)), (54, .bool false), (53, .int .i64 ((l.getD k 0).tmod 9)), (10, .int .i64 (errF fu (dn + 1))), (52, .int .i64 (errF fu (dn + 1))), (51, .pointer (some ⟨p1, 0, none⟩)), (48, .bool false), (47, .int .i64 ((l.getD k 0).tmod 9)), (9, .int .i64 ((l.getD k 0).tmod 9)), (46, .int .i64 ((l.getD k 0).tmod 9)), (45, .int .i64 (l.getD k 0)), (44, .pointer (some ⟨gl, ol + k, none⟩)), (43, .int .i64 ((k : Nat) : Int)), (42, .slice A n c), (39, .bool true), (38, .int .i64 ((n : Nat) : Int)), (37, .slice A n c), (36, .int .i64 ((k : Nat) : Int)), (8, .int .i64 ((k : Nat) : Int)), (5, .pointer (some ⟨p1, 0, none⟩)), (0, .int .i64 fu), (1, .slice A n c)] ((r9 ++ ([] : Hep))) := H
                  refine rgO H gs0 (rS 3 rfl <| rZ0 ?_)
                  try clear H a W
                  intro a W H
                  refine hK34 _ _ ?_
                  clear hK34
                  refine wp_cond_false (H.ev rfl) ?_
                  refine wp_skip ?_
                  refine blk_normal ?_
                  refine hK15 _ _ ?_
                  clear hK15
                  refine rgP H gs0 (rS 1 rfl <| rV rfl (does_binOp rfl rfl rfl (zd_add_int (k := ((k : Nat) : Int)) (m := 1) (c := ((k + 1 : Nat) : Int)) (by omega) (by omega) _ _)) <| rK [1, 1, 1, 1, 1, 1, 1, 1, 1, 1, 1, 1, 1, 1, 1, 1, 1, 1, 1, 1, 1, 1, 1, 1, 1, 1, 1, 1, 1, 1, 1, 1, 1, 1, 1, 1, 1, 1, 1, 1, 1, 1, 1, 1, 1, 1, 1, 1, 1, 1, 1, 0] [] [] <| rS 1 rfl <| rZ0 ?_)
                  try clear H a W
                  intro a W H
                  refine ⟨k + 1, by omega, by omega, dn + 1, (dSync D).1, r9, ⟨hP9, (hJ.2.1.sync (by omega)).1, by omega⟩, ?_⟩
                  exact H.pickF (h := []) (t := (r9 ++ ([] : Hep))) [0, 32, 52, 53, 54] [] rfl
                | false =>
                  have hq18p := of_decide_eq_false hq18
                  have hE32_0 := errF_is fu (dn + 1)
                  have hE32_1 := errF_is fu (dn + 1 + 1)
                  have hE32_2 := errF_is fu (dn + 1 + 1 + 1)
                  refine rgP H gs0 (rS 2 rfl <| rV rfl (does_binOp rfl rfl rfl (zd_leq_int (k := ((dn + 1 : Nat) : Int)) (m := fu) hq16 _ _)) <| rS 8 rfl <| rV rfl (does_binOp rfl rfl rfl (zd_add_int (k := fu) (m := 2) (c := fu + 2) rfl (by omega) _ _)) <| rV rfl (does_binOp rfl rfl rfl (zd_gtr_int (k := ((dn + 1 : Nat) : Int)) (m := (fu + 2)) hq18 _ _)) <| rS 9 rfl <| rV rfl (does_binOp rfl rfl rfl (zd_gtr_int (k := ((dn + 1 : Nat) : Int)) (m := fu) (decide_eq_true (by omega)) _ _)) <| rS 2 rfl <| rI0 ?_)
                  try clear H a W
                  intro a W H
                  replace H : St 133 w a W [(89, .pointer (some ⟨p1, 0, none⟩)), (88, .bool true), (87, .bool true), (86, .int .i64 fu), (85, .int .i64 ((dn + 1 : Nat) : Int)), (84, .bool false), (83, .bool false), (82, .bool false), (81, undef), (80, undef), (79, undef), (78, .bool false), (77, .bool false), (76, .int .i64 (fu + 2)), (75, .int .i64 fu), (74, .int .i64 ((dn + 1 : Nat) : Int)), (73, .bool false), (72, .bool false), (71, undef), (70, undef), (69, undef), (68, .bool false), (67, .bool false), (66, .int .i64 fu), (65, .int .i64 ((dn + 1 : Nat) : Int)), (7, .int .i64 ((dn + 1 : Nat) : Int)), (64, .int .i64 ((dn + 1 : Nat) : Int)), (63, .int .i64 ((dn : Nat) : Int)), (54, .bool false), (53, .int .i64 ((l.getD k 0).tmod 9)), (10, .int .i64 (errF fu (dn + 1))), (52, .int .i64 (errF fu (dn + 1))), (51, .pointer (some ⟨p1, 0, none⟩)), (48, .bool false), (47, .int .i64 ((l.getD k 0).tmod 9)), (9, .int .i64 ((l.getD k 0).tmod 9)), (46, .int .i64 ((l.getD k 0).tmod 9)), (45, .int .i64 (l.getD k 0)), (44, .pointer (some ⟨gl, ol + k, none⟩)), (43, .int .i64 ((k : Nat) : Int)), (42, .slice A n c), (39, .bool true), (38, .int .i64 ((n : Nat) : Int)), (37, .slice A n c), (36, .int .i64 ((k : Nat) : Int)), (8, .int .i64 ((k : Nat) : Int)), (5, .pointer (some ⟨p1, 0, none⟩)), (0, .int .i64 fu), (1, .slice A n c)] (r9 ++ (([] : Hep) ++ ([] : Hep))) := H.perm' (((List.Perm.refl _).append_left ([] : Hep)).trans (List.perm_append_comm_assoc ([] : Hep) r9 ([] : Hep)))
                  refine pl_callV rfl rfl ⟨_, Try.func22, by kernel_rfl⟩ rfl (fun K_ => by have h_ := po_dead (hh := (([] : Hep) ++ ([] : Hep))) hP9 w _ K_; rw [((hJ.2.1.sync (by omega)).1.dead (by omega))] at h_; exact h_) H ?_
                  try clear H a W
                  intro a W H
                  replace H := H.perm' (List.perm_append_comm_assoc r9 ([] : Hep) ([] : Hep))
                  replace H : St 133 w a W [(90, .bool true), (89, .pointer (some ⟨p1, 0, none⟩)), (88, .bool true), (87, .bool true), (86, .int .i64 fu), (85, .int .i64 ((dn + 1 : Nat) : Int)), (84, .bool false), (83, .bool false), (82, .bool false), (81, undef), (80, undef), (79, undef), (78, .bool false), (77, .bool false), (76, .int .i64 (fu + 2)), (75, .int .i64 fu), (74, .int .i64 ((dn + 1 : Nat) : Int)), (73, .bool false), (72, .bool false), (71, undef), (70, undef), (69, undef), (68, .bool false), (67, .bool false), (66, .int .i64 fu), (65, .int .i64 ((dn + 1 : Nat) : Int)), (7, .int .i64 ((dn + 1 : Nat) : Int)), (64, .int .i64 ((dn + 1 : Nat) : Int)), (63, .int .i64 ((dn : Nat) : Int)), (54, .bool false), (53, .int .i64 ((l.getD k 0).tmod 9)), (10, .int .i64 (errF fu (dn + 1))), (52, .int .i64 (errF fu (dn + 1))), (51, .pointer (some ⟨p1, 0, none⟩)), (48, .bool false), (47, .int .i64 ((l.getD k 0).tmod 9)), (9, .int .i64 ((l.getD k 0).tmod 9)), (46, .int .i64 ((l.getD k 0).tmod 9)), (45, .int .i64 (l.getD k 0)), (44, .pointer (some ⟨gl, ol + k, none⟩)), (43, .int .i64 ((k : Nat) : Int)), (42, .slice A n c), (39, .bool true), (38, .int .i64 ((n : Nat) : Int)), (37, .slice A n c), (36, .int .i64 ((k : Nat) : Int)), (8, .int .i64 ((k : Nat) : Int)), (5, .pointer (some ⟨p1, 0, none⟩)), (0, .int .i64 fu), (1, .slice A n c)] ((r9 ++ ([] : Hep))) := H
                  refine rgO H gs0 (rS 3 rfl <| rZ0 ?_)
                  try clear H a W
                  intro a W H
                  refine hK34 _ _ ?_
                  clear hK34
                  refine wp_cond_false (H.ev rfl) ?_
                  refine wp_skip ?_
                  refine blk_normal ?_
                  refine hK15 _ _ ?_
                  clear hK15
                  refine rgP H gs0 (rS 1 rfl <| rV rfl (does_binOp rfl rfl rfl (zd_add_int (k := ((k : Nat) : Int)) (m := 1) (c := ((k + 1 : Nat) : Int)) (by omega) (by omega) _ _)) <| rK [1, 1, 1, 1, 1, 1, 1, 1, 1, 1, 1, 1, 1, 1, 1, 1, 1, 1, 1, 1, 1, 1, 1, 1, 1, 1, 1, 1, 1, 1, 1, 1, 1, 1, 1, 1, 1, 1, 1, 1, 1, 1, 1, 1, 1, 1, 1, 1, 1, 1, 1, 0] [] [] <| rS 1 rfl <| rZ0 ?_)
                  try clear H a W
                  intro a W H
                  refine ⟨k + 1, by omega, by omega, dn + 1, (dSync D).1, r9, ⟨hP9, (hJ.2.1.sync (by omega)).1, by omega⟩, ?_⟩
                  exact H.pickF (h := []) (t := (r9 ++ ([] : Hep))) [0, 32, 52, 53, 54] [] rfl
        · obtain rfl : n = k := by omega
          refine wp_seq_k (fun K35 hK35 => ?_)
          refine sqR H gs0 fun Z_ z_ => rS 2 rfl <| rV rfl (does_len Try.underlying33 rfl rfl) <| rV rfl (does_binOp rfl rfl rfl (zd_lss_int (k := ((n : Nat) : Int)) (m := ((n : Nat) : Int)) (decide_eq_false (by omega)) _ _)) <| rK [1, 0, 0, 0] [] [] <| rN0 z_ ?_
          try clear H a W
          intro a W H
          refine wp_cond_false (H.ev rfl) ?_
          refine wp_exit ?_
          repeat (first | (with_reducible refine then_exit ?_) | (with_reducible refine blk_pass (by decide) ?_))
          refine blk_exit ?_
          have hdn := hJ.2.2
          refine hK11 _ _ ?_
          clear hK11
          refine wp_seq_k (fun K37 hK37 => ?_)
          have hE33_0 := errF_is fu (dn)
          have hE33_1 := errF_is fu (dn + 1)
          have hE33_2 := errF_is fu (dn + 1 + 1)
          refine wp_seq_k (fun K38 hK38 => ?_)
          have hE34_0 := errF_is fu (dn)
          have hE34_1 := errF_is fu (dn + 1)
          have hE34_2 := errF_is fu (dn + 1 + 1)
          cases hq19 : decide (0 < ((n : Nat) : Int)) with
          | true =>
            have hq19p := of_decide_eq_true hq19
            have hE35_0 := errF_is fu (dn)
            have hE35_1 := errF_is fu (dn + 1)
            have hE35_2 := errF_is fu (dn + 1 + 1)
            cases hq20 : decide (fu < ((dn : Nat) : Int)) with
            | true =>
              have hq20p := of_decide_eq_true hq20
              have hE36_0 := errF_is fu (dn)
              have hE36_1 := errF_is fu (dn + 1)
              have hE36_2 := errF_is fu (dn + 1 + 1)
              refine rgP H gs0 (rS 1 rfl <| rV rfl (does_len Try.underlying33 rfl rfl) <| rV rfl (does_binOp rfl rfl rfl (zd_gtr_int (k := ((n : Nat) : Int)) (m := 0) hq19 _ _)) <| rS 3 rfl <| rV rfl (does_binOp rfl rfl rfl (zd_gtr_int (k := ((dn : Nat) : Int)) (m := fu) hq20 _ _)) <| rS 3 rfl <| rI0 ?_)
              try clear H a W
              intro a W H
              replace H : St 133 w a W [(103, .pointer (some ⟨p1, 0, none⟩)), (102, .bool true), (101, .bool true), (100, .bool true), (99, .int .i64 fu), (98, .int .i64 ((dn : Nat) : Int)), (97, .bool true), (96, .bool true), (95, .int .i64 ((n : Nat) : Int)), (94, .slice A n c), (39, .bool false), (8, .int .i64 ((n : Nat) : Int)), (7, .int .i64 ((dn : Nat) : Int)), (5, .pointer (some ⟨p1, 0, none⟩)), (0, .int .i64 fu), (1, .slice A n c)] (r ++ (([] : Hep) ++ ([] : Hep))) := H.perm' (((List.Perm.refl _).append_left ([] : Hep)).trans (List.perm_append_comm_assoc ([] : Hep) r ([] : Hep)))
              refine pl_callX rfl rfl ⟨_, Try.func27, by kernel_rfl⟩ rfl (fun K_ => by have h_ := po_sync (hh := (([] : Hep) ++ ([] : Hep))) hJ.1 w _ K_; rw [(hJ.2.1.sync (by omega)).2] at h_; exact h_) H ?_
              try clear H a W
              rintro r15 a W hP15 H
              replace hP15 : PO p1 (dSync D).1 r15 := hP15
              replace H := H.perm' (List.perm_append_comm_assoc r15 ([] : Hep) ([] : Hep))
              replace H : St 133 w a W [(104, .int .i64 (errF fu (dn + 1))), (103, .pointer (some ⟨p1, 0, none⟩)), (102, .bool true), (101, .bool true), (100, .bool true), (99, .int .i64 fu), (98, .int .i64 ((dn : Nat) : Int)), (97, .bool true), (96, .bool true), (95, .int .i64 ((n : Nat) : Int)), (94, .slice A n c), (39, .bool false), (8, .int .i64 ((n : Nat) : Int)), (7, .int .i64 ((dn : Nat) : Int)), (5, .pointer (some ⟨p1, 0, none⟩)), (0, .int .i64 fu), (1, .slice A n c)] ((r15 ++ ([] : Hep))) := H
              refine rgO H gs0 (rV rfl (does_call rfl ⟨_, Try.func13, by kernel_rfl⟩ rfl (fun W hb => num_any _ W)) <| rV rfl (does_binOp rfl rfl rfl (zd_neq_int (k := (errF fu (dn + 1))) (m := 14) (decide_eq_false (by omega)) _ _)) <| rS 2 rfl <| rI0 ?_)
              try clear H a W
              intro a W H
              refine pl_callX rfl rfl ⟨_, Try.func29, by kernel_rfl⟩ rfl (fun K_ => fill_K 1 K_) H ?_
              try clear H a W
              rintro g3 a W - H
              replace H : St 133 w a W [(109, .slice (some ⟨g3, 0, none⟩) 512 512), (108, .pointer (some ⟨p1, 0, none⟩)), (107, .bool false), (106, .bool false), (105, .int .i64 (errF fu (dn + 1))), (104, .int .i64 (errF fu (dn + 1))), (103, .pointer (some ⟨p1, 0, none⟩)), (102, .bool true), (101, .bool true), (100, .bool true), (99, .int .i64 fu), (98, .int .i64 ((dn : Nat) : Int)), (97, .bool true), (96, .bool true), (95, .int .i64 ((n : Nat) : Int)), (94, .slice A n c), (39, .bool false), (8, .int .i64 ((n : Nat) : Int)), (7, .int .i64 ((dn : Nat) : Int)), (5, .pointer (some ⟨p1, 0, none⟩)), (0, .int .i64 fu), (1, .slice A n c)] ((g3, 5, bvs (fillB 1)) :: (r15 ++ ([] : Hep))) := H
              replace H : St 133 w a W [(109, .slice (some ⟨g3, 0, none⟩) 512 512), (108, .pointer (some ⟨p1, 0, none⟩)), (107, .bool false), (106, .bool false), (105, .int .i64 (errF fu (dn + 1))), (104, .int .i64 (errF fu (dn + 1))), (103, .pointer (some ⟨p1, 0, none⟩)), (102, .bool true), (101, .bool true), (100, .bool true), (99, .int .i64 fu), (98, .int .i64 ((dn : Nat) : Int)), (97, .bool true), (96, .bool true), (95, .int .i64 ((n : Nat) : Int)), (94, .slice A n c), (39, .bool false), (8, .int .i64 ((n : Nat) : Int)), (7, .int .i64 ((dn : Nat) : Int)), (5, .pointer (some ⟨p1, 0, none⟩)), (0, .int .i64 fu), (1, .slice A n c)] (r15 ++ (([(g3, .ty 5, bvs (fillB 1))] : Hep) ++ ([] : Hep))) := H.perm' (((List.Perm.refl _).append_left ([(g3, .ty 5, bvs (fillB 1))] : Hep)).trans (List.perm_append_comm_assoc ([(g3, .ty 5, bvs (fillB 1))] : Hep) r15 ([] : Hep)))
              refine pl_callX rfl rfl ⟨_, Try.func28, by kernel_rfl⟩ rfl (fun K_ => by have h_ := po_write (hh := (([(g3, .ty 5, bvs (fillB 1))] : Hep) ++ ([] : Hep))) (b := fillB 1) (gb := g3) (cb := 512) hP15 0 (by rw [fill_len _]; omega) (List.mem_append_left _ (List.mem_iff_getElem?.2 ⟨0, rfl⟩)) (by have h_ := (hJ.2.1.sync (by omega)).1.nl; omega) w _ K_; rw [show (fillB 1).length = 512 from (fill_len _)] at h_; rw [((hJ.2.1.sync (by omega)).1.write (by omega) (by omega) (fill_len _)).2] at h_; exact h_) H ?_
              try clear H a W
              rintro r16 a W hP16 H
              replace hP16 : PO p1 (dWrite (dSync D).1 0 (fillB 1)).1 r16 := hP16
              replace H := H.perm' (List.perm_append_comm_assoc r16 ([(g3, .ty 5, bvs (fillB 1))] : Hep) ([] : Hep))
              replace H : St 133 w a W [(110, .int .i64 (errF fu (dn + 1 + 1))), (109, .slice (some ⟨g3, 0, none⟩) 512 512), (108, .pointer (some ⟨p1, 0, none⟩)), (107, .bool false), (106, .bool false), (105, .int .i64 (errF fu (dn + 1))), (104, .int .i64 (errF fu (dn + 1))), (103, .pointer (some ⟨p1, 0, none⟩)), (102, .bool true), (101, .bool true), (100, .bool true), (99, .int .i64 fu), (98, .int .i64 ((dn : Nat) : Int)), (97, .bool true), (96, .bool true), (95, .int .i64 ((n : Nat) : Int)), (94, .slice A n c), (39, .bool false), (8, .int .i64 ((n : Nat) : Int)), (7, .int .i64 ((dn : Nat) : Int)), (5, .pointer (some ⟨p1, 0, none⟩)), (0, .int .i64 fu), (1, .slice A n c)] ((g3, 5, bvs (fillB 1)) :: (r16 ++ ([] : Hep))) := H
              refine rgO H gs0 (rV rfl (does_call rfl ⟨_, Try.func13, by kernel_rfl⟩ rfl (fun W hb => num_any _ W)) <| rV rfl (does_binOp rfl rfl rfl (zd_neq_int (k := (errF fu (dn + 1 + 1))) (m := 14) (decide_eq_false (by omega)) _ _)) <| rS 2 rfl <| rK [1, 0, 0, 0, 0, 0, 0, 0, 0, 0, 0, 0, 0, 0, 0, 0, 0, 0, 0, 0, 0, 0, 0, 0, 1, 0, 0] [] [] <| rZ0 ?_)
              try clear H a W
              intro a W H
              refine hK38 _ _ ?_
              clear hK38
              refine wp_cond_false (H.ev rfl) ?_
              refine wp_skip ?_
              refine hK37 _ _ ?_
              clear hK37
              have hE37_0 := errF_is fu (dn + 1 + 1)
              have hE37_1 := errF_is fu (dn + 1 + 1 + 1)
              have hE37_2 := errF_is fu (dn + 1 + 1 + 1 + 1)
              refine wp_seq_k (fun K39 hK39 => ?_)
              have hE38_0 := errF_is fu (dn + 1 + 1)
              have hE38_1 := errF_is fu (dn + 1 + 1 + 1)
              have hE38_2 := errF_is fu (dn + 1 + 1 + 1 + 1)
              refine rgP H gs0 (rS 1 rfl <| rI0 ?_)
              try clear H a W
              intro a W H
              replace H : St 133 w a W [(115, .pointer (some ⟨p1, 0, none⟩)), (114, .bool false), (5, .pointer (some ⟨p1, 0, none⟩))] (r16 ++ (([(g3, .ty 5, bvs (fillB 1))] : Hep) ++ ([] : Hep))) := H.perm' (((List.Perm.refl _).append_left ([(g3, .ty 5, bvs (fillB 1))] : Hep)).trans (List.perm_append_comm_assoc ([(g3, .ty 5, bvs (fillB 1))] : Hep) r16 ([] : Hep)))
              refine pl_callX rfl rfl ⟨_, Try.func23, by kernel_rfl⟩ rfl (fun K_ => po_crash (hh := (([(g3, .ty 5, bvs (fillB 1))] : Hep) ++ ([] : Hep))) w hP16 (PK.nil _ _) (by omega) _ K_) H ?_
              try clear H a W
              rintro r17 a W hP17 H
              replace hP17 : PO p1 (dCrash (dWrite (dSync D).1 0 (fillB 1)).1 ([] : List Int)) r17 := hP17
              replace H := H.perm' (List.perm_append_comm_assoc r17 ([(g3, .ty 5, bvs (fillB 1))] : Hep) ([] : Hep))
              replace H : St 133 w a W [(116, .int .i64 0), (115, .pointer (some ⟨p1, 0, none⟩)), (114, .bool false), (5, .pointer (some ⟨p1, 0, none⟩))] ((g3, 5, bvs (fillB 1)) :: (r17 ++ ([] : Hep))) := H
              refine rgO H gs0 (rV rfl (does_call rfl ⟨_, Try.func13, by kernel_rfl⟩ rfl (fun W hb => num_any _ W)) <| rV rfl (does_binOp rfl rfl rfl (zd_eql_int (k := 0) (m := 0) (decide_eq_true (by omega)) _ _)) <| rS 2 rfl <| rI0 ?_)
              try clear H a W
              intro a W H
              replace H : St 133 w a W [(120, .pointer (some ⟨p1, 0, none⟩)), (119, .bool true), (118, .bool true), (117, .int .i64 0), (116, .int .i64 0), (115, .pointer (some ⟨p1, 0, none⟩)), (114, .bool false), (5, .pointer (some ⟨p1, 0, none⟩))] (r17 ++ (([(g3, .ty 5, bvs (fillB 1))] : Hep) ++ ([] : Hep))) := H.perm' (((List.Perm.refl _).append_left ([(g3, .ty 5, bvs (fillB 1))] : Hep)).trans (List.perm_append_comm_assoc ([(g3, .ty 5, bvs (fillB 1))] : Hep) r17 ([] : Hep)))
              refine pl_callV rfl rfl ⟨_, Try.func22, by kernel_rfl⟩ rfl (fun K_ => by have h_ := po_dead (hh := (([(g3, .ty 5, bvs (fillB 1))] : Hep) ++ ([] : Hep))) hP17 w _ K_; rw [(crash_dead _ _)] at h_; exact h_) H ?_
              try clear H a W
              intro a W H
              replace H := H.perm' (List.perm_append_comm_assoc r17 ([(g3, .ty 5, bvs (fillB 1))] : Hep) ([] : Hep))
              replace H : St 133 w a W [(121, .bool false), (120, .pointer (some ⟨p1, 0, none⟩)), (119, .bool true), (118, .bool true), (117, .int .i64 0), (116, .int .i64 0), (115, .pointer (some ⟨p1, 0, none⟩)), (114, .bool false), (5, .pointer (some ⟨p1, 0, none⟩))] ((g3, 5, bvs (fillB 1)) :: (r17 ++ ([] : Hep))) := H
              refine rgO H gs0 (rS 4 rfl <| rI0 ?_)
              try clear H a W
              intro a W H
              replace H : St 133 w a W [(125, .pointer (some ⟨p1, 0, none⟩)), (124, .bool true), (123, .bool true), (122, .bool true), (121, .bool false), (120, .pointer (some ⟨p1, 0, none⟩)), (119, .bool true), (118, .bool true), (117, .int .i64 0), (116, .int .i64 0), (115, .pointer (some ⟨p1, 0, none⟩)), (114, .bool false), (5, .pointer (some ⟨p1, 0, none⟩))] (r17 ++ (([(g3, .ty 5, bvs (fillB 1))] : Hep) ++ ([] : Hep))) := H.perm' (((List.Perm.refl _).append_left ([(g3, .ty 5, bvs (fillB 1))] : Hep)).trans (List.perm_append_comm_assoc ([(g3, .ty 5, bvs (fillB 1))] : Hep) r17 ([] : Hep)))
              refine pl_callX rfl rfl ⟨_, Try.func27, by kernel_rfl⟩ rfl (fun K_ => by have h_ := po_sync (hh := (([(g3, .ty 5, bvs (fillB 1))] : Hep) ++ ([] : Hep))) hP17 w _ K_; rw [crash_sync _ _] at h_; exact h_) H ?_
              try clear H a W
              rintro r19 a W hP19 H
              replace hP19 : PO p1 (dSync (dCrash (dWrite (dSync D).1 0 (fillB 1)).1 ([] : List Int))).1 r19 := hP19
              replace H := H.perm' (List.perm_append_comm_assoc r19 ([(g3, .ty 5, bvs (fillB 1))] : Hep) ([] : Hep))
              replace H : St 133 w a W [(126, .int .i64 0), (125, .pointer (some ⟨p1, 0, none⟩)), (124, .bool true), (123, .bool true), (122, .bool true), (121, .bool false), (120, .pointer (some ⟨p1, 0, none⟩)), (119, .bool true), (118, .bool true), (117, .int .i64 0), (116, .int .i64 0), (115, .pointer (some ⟨p1, 0, none⟩)), (114, .bool false), (5, .pointer (some ⟨p1, 0, none⟩))] ((g3, 5, bvs (fillB 1)) :: (r19 ++ ([] : Hep))) := H
              refine rgO H gs0 (rV rfl (does_call rfl ⟨_, Try.func13, by kernel_rfl⟩ rfl (fun W hb => num_any _ W)) <| rV rfl (does_binOp rfl rfl rfl (zd_eql_int (k := 0) (m := 0) (decide_eq_true (by omega)) _ _)) <| rS 2 rfl <| rV rfl (does_call rfl ⟨_, Try.func11, by kernel_rfl⟩ rfl (fun W hb => known_any W)) <| rS 2 rfl <| rK [1, 0, 0, 0, 0, 0, 0, 0, 0, 0, 0, 0, 0, 0, 0, 0, 0, 0, 0, 0, 0] [] [] <| rZ0 ?_)
              try clear H a W
              intro a W H
              refine hK39 _ _ ?_
              clear hK39
              refine wp_ret ?_
              repeat (first | (with_reducible refine then_ret ?_) | (with_reducible refine blk_ret ?_))
              refine end_tmp (p := 4) rfl rfl H (fun hb => ?_)
              exact ⟨rfl, hb⟩
            | false =>
              have hq20p := of_decide_eq_false hq20
              have hE39_0 := errF_is fu (dn)
              have hE39_1 := errF_is fu (dn + 1)
              have hE39_2 := errF_is fu (dn + 1 + 1)
              refine rgP H gs0 (rS 1 rfl <| rV rfl (does_len Try.underlying33 rfl rfl) <| rV rfl (does_binOp rfl rfl rfl (zd_gtr_int (k := ((n : Nat) : Int)) (m := 0) hq19 _ _)) <| rS 3 rfl <| rV rfl (does_binOp rfl rfl rfl (zd_gtr_int (k := ((dn : Nat) : Int)) (m := fu) hq20 _ _)) <| rS 14 rfl <| rK [1, 0, 0, 0, 0, 0, 0, 0, 0, 0, 0, 0, 0, 0, 0, 0, 0, 0, 0, 0, 0, 0, 0, 0, 1, 0, 0] [] [] <| rZ0 ?_)
              try clear H a W
              intro a W H
              refine hK38 _ _ ?_
              clear hK38
              refine wp_cond_false (H.ev rfl) ?_
              refine wp_skip ?_
              refine hK37 _ _ ?_
              clear hK37
              have hE40_0 := errF_is fu (dn)
              have hE40_1 := errF_is fu (dn + 1)
              have hE40_2 := errF_is fu (dn + 1 + 1)
              refine wp_seq_k (fun K40 hK40 => ?_)
              have hE41_0 := errF_is fu (dn)
              have hE41_1 := errF_is fu (dn + 1)
              have hE41_2 := errF_is fu (dn + 1 + 1)
              refine rgP H gs0 (rS 1 rfl <| rI0 ?_)
              try clear H a W
              intro a W H
              replace H : St 133 w a W [(115, .pointer (some ⟨p1, 0, none⟩)), (114, .bool false), (5, .pointer (some ⟨p1, 0, none⟩))] (r ++ (([] : Hep) ++ ([] : Hep))) := H.perm' (((List.Perm.refl _).append_left ([] : Hep)).trans (List.perm_append_comm_assoc ([] : Hep) r ([] : Hep)))
              refine pl_callX rfl rfl ⟨_, Try.func23, by kernel_rfl⟩ rfl (fun K_ => po_crash (hh := (([] : Hep) ++ ([] : Hep))) w hJ.1 (PK.nil _ _) (by omega) _ K_) H ?_
              try clear H a W
              rintro r20 a W hP20 H
              replace hP20 : PO p1 (dCrash D ([] : List Int)) r20 := hP20
              replace H := H.perm' (List.perm_append_comm_assoc r20 ([] : Hep) ([] : Hep))
              replace H : St 133 w a W [(116, .int .i64 0), (115, .pointer (some ⟨p1, 0, none⟩)), (114, .bool false), (5, .pointer (some ⟨p1, 0, none⟩))] ((r20 ++ ([] : Hep))) := H
              refine rgO H gs0 (rV rfl (does_call rfl ⟨_, Try.func13, by kernel_rfl⟩ rfl (fun W hb => num_any _ W)) <| rV rfl (does_binOp rfl rfl rfl (zd_eql_int (k := 0) (m := 0) (decide_eq_true (by omega)) _ _)) <| rS 2 rfl <| rI0 ?_)
              try clear H a W
              intro a W H
              replace H : St 133 w a W [(120, .pointer (some ⟨p1, 0, none⟩)), (119, .bool true), (118, .bool true), (117, .int .i64 0), (116, .int .i64 0), (115, .pointer (some ⟨p1, 0, none⟩)), (114, .bool false), (5, .pointer (some ⟨p1, 0, none⟩))] (r20 ++ (([] : Hep) ++ ([] : Hep))) := H.perm' (((List.Perm.refl _).append_left ([] : Hep)).trans (List.perm_append_comm_assoc ([] : Hep) r20 ([] : Hep)))
              refine pl_callV rfl rfl ⟨_, Try.func22, by kernel_rfl⟩ rfl (fun K_ => by have h_ := po_dead (hh := (([] : Hep) ++ ([] : Hep))) hP20 w _ K_; rw [(crash_dead _ _)] at h_; exact h_) H ?_
              try clear H a W
              intro a W H
              replace H := H.perm' (List.perm_append_comm_assoc r20 ([] : Hep) ([] : Hep))
              replace H : St 133 w a W [(121, .bool false), (120, .pointer (some ⟨p1, 0, none⟩)), (119, .bool true), (118, .bool true), (117, .int .i64 0), (116, .int .i64 0), (115, .pointer (some ⟨p1, 0, none⟩)), (114, .bool false), (5, .pointer (some ⟨p1, 0, none⟩))] ((r20 ++ ([] : Hep))) := H
              refine rgO H gs0 (rS 4 rfl <| rI0 ?_)
              try clear H a W
              intro a W H
              replace H : St 133 w a W [(125, .pointer (some ⟨p1, 0, none⟩)), (124, .bool true), (123, .bool true), (122, .bool true), (121, .bool false), (120, .pointer (some ⟨p1, 0, none⟩)), (119, .bool true), (118, .bool true), (117, .int .i64 0), (116, .int .i64 0), (115, .pointer (some ⟨p1, 0, none⟩)), (114, .bool false), (5, .pointer (some ⟨p1, 0, none⟩))] (r20 ++ (([] : Hep) ++ ([] : Hep))) := H.perm' (((List.Perm.refl _).append_left ([] : Hep)).trans (List.perm_append_comm_assoc ([] : Hep) r20 ([] : Hep)))
              refine pl_callX rfl rfl ⟨_, Try.func27, by kernel_rfl⟩ rfl (fun K_ => by have h_ := po_sync (hh := (([] : Hep) ++ ([] : Hep))) hP20 w _ K_; rw [crash_sync _ _] at h_; exact h_) H ?_
              try clear H a W
              rintro r22 a W hP22 H
              replace hP22 : PO p1 (dSync (dCrash D ([] : List Int))).1 r22 := hP22
              replace H := H.perm' (List.perm_append_comm_assoc r22 ([] : Hep) ([] : Hep))
              replace H : St 133 w a W [(126, .int .i64 0), (125, .pointer (some ⟨p1, 0, none⟩)), (124, .bool true), (123, .bool true), (122, .bool true), (121, .bool false), (120, .pointer (some ⟨p1, 0, none⟩)), (119, .bool true), (118, .bool true), (117, .int .i64 0), (116, .int .i64 0), (115, .pointer (some ⟨p1, 0, none⟩)), (114, .bool false), (5, .pointer (some ⟨p1, 0, none⟩))] ((r22 ++ ([] : Hep))) := H
              refine rgO H gs0 (rV rfl (does_call rfl ⟨_, Try.func13, by kernel_rfl⟩ rfl (fun W hb => num_any _ W)) <| rV rfl (does_binOp rfl rfl rfl (zd_eql_int (k := 0) (m := 0) (decide_eq_true (by omega)) _ _)) <| rS 2 rfl <| rV rfl (does_call rfl ⟨_, Try.func11, by kernel_rfl⟩ rfl (fun W hb => known_any W)) <| rS 2 rfl <| rK [1, 0, 0, 0, 0, 0, 0, 0, 0, 0, 0, 0, 0, 0, 0, 0, 0, 0, 0, 0, 0] [] [] <| rZ0 ?_)
              try clear H a W
              intro a W H
              refine hK40 _ _ ?_
              clear hK40
              refine wp_ret ?_
              repeat (first | (with_reducible refine then_ret ?_) | (with_reducible refine blk_ret ?_))
              refine end_tmp (p := 4) rfl rfl H (fun hb => ?_)
              exact ⟨rfl, hb⟩
          | false =>
            have hq19p := of_decide_eq_false hq19
            have hE42_0 := errF_is fu (dn)
            have hE42_1 := errF_is fu (dn + 1)
            have hE42_2 := errF_is fu (dn + 1 + 1)
            refine rgP H gs0 (rS 1 rfl <| rV rfl (does_len Try.underlying33 rfl rfl) <| rV rfl (does_binOp rfl rfl rfl (zd_gtr_int (k := ((n : Nat) : Int)) (m := 0) hq19 _ _)) <| rS 18 rfl <| rK [1, 0, 0, 0, 0, 0, 0, 0, 0, 0, 0, 0, 0, 0, 0, 0, 0, 0, 0, 0, 0, 0, 0, 0, 1, 0, 0] [] [] <| rZ0 ?_)
            try clear H a W
            intro a W H
            refine hK38 _ _ ?_
            clear hK38
            refine wp_cond_false (H.ev rfl) ?_
            refine wp_skip ?_
            refine hK37 _ _ ?_
            clear hK37
            have hE43_0 := errF_is fu (dn)
            have hE43_1 := errF_is fu (dn + 1)
            have hE43_2 := errF_is fu (dn + 1 + 1)
            refine wp_seq_k (fun K41 hK41 => ?_)
            have hE44_0 := errF_is fu (dn)
            have hE44_1 := errF_is fu (dn + 1)
            have hE44_2 := errF_is fu (dn + 1 + 1)
            refine rgP H gs0 (rS 1 rfl <| rI0 ?_)
            try clear H a W
            intro a W H
            replace H : St 133 w a W [(115, .pointer (some ⟨p1, 0, none⟩)), (114, .bool false), (5, .pointer (some ⟨p1, 0, none⟩))] (r ++ (([] : Hep) ++ ([] : Hep))) := H.perm' (((List.Perm.refl _).append_left ([] : Hep)).trans (List.perm_append_comm_assoc ([] : Hep) r ([] : Hep)))
            refine pl_callX rfl rfl ⟨_, Try.func23, by kernel_rfl⟩ rfl (fun K_ => po_crash (hh := (([] : Hep) ++ ([] : Hep))) w hJ.1 (PK.nil _ _) (by omega) _ K_) H ?_
            try clear H a W
            rintro r23 a W hP23 H
            replace hP23 : PO p1 (dCrash D ([] : List Int)) r23 := hP23
            replace H := H.perm' (List.perm_append_comm_assoc r23 ([] : Hep) ([] : Hep))
            replace H : St 133 w a W [(116, .int .i64 0), (115, .pointer (some ⟨p1, 0, none⟩)), (114, .bool false), (5, .pointer (some ⟨p1, 0, none⟩))] ((r23 ++ ([] : Hep))) := H
            refine rgO H gs0 (rV rfl (does_call rfl ⟨_, Try.func13, by kernel_rfl⟩ rfl (fun W hb => num_any _ W)) <| rV rfl (does_binOp rfl rfl rfl (zd_eql_int (k := 0) (m := 0) (decide_eq_true (by omega)) _ _)) <| rS 2 rfl <| rI0 ?_)
            try clear H a W
            intro a W H
            replace H : St 133 w a W [(120, .pointer (some ⟨p1, 0, none⟩)), (119, .bool true), (118, .bool true), (117, .int .i64 0), (116, .int .i64 0), (115, .pointer (some ⟨p1, 0, none⟩)), (114, .bool false), (5, .pointer (some ⟨p1, 0, none⟩))] (r23 ++ (([] : Hep) ++ ([] : Hep))) := H.perm' (((List.Perm.refl _).append_left ([] : Hep)).trans (List.perm_append_comm_assoc ([] : Hep) r23 ([] : Hep)))
            refine pl_callV rfl rfl ⟨_, Try.func22, by kernel_rfl⟩ rfl (fun K_ => by have h_ := po_dead (hh := (([] : Hep) ++ ([] : Hep))) hP23 w _ K_; rw [(crash_dead _ _)] at h_; exact h_) H ?_
            try clear H a W
            intro a W H
            replace H := H.perm' (List.perm_append_comm_assoc r23 ([] : Hep) ([] : Hep))
            replace H : St 133 w a W [(121, .bool false), (120, .pointer (some ⟨p1, 0, none⟩)), (119, .bool true), (118, .bool true), (117, .int .i64 0), (116, .int .i64 0), (115, .pointer (some ⟨p1, 0, none⟩)), (114, .bool false), (5, .pointer (some ⟨p1, 0, none⟩))] ((r23 ++ ([] : Hep))) := H
            refine rgO H gs0 (rS 4 rfl <| rI0 ?_)
            try clear H a W
            intro a W H
            replace H : St 133 w a W [(125, .pointer (some ⟨p1, 0, none⟩)), (124, .bool true), (123, .bool true), (122, .bool true), (121, .bool false), (120, .pointer (some ⟨p1, 0, none⟩)), (119, .bool true), (118, .bool true), (117, .int .i64 0), (116, .int .i64 0), (115, .pointer (some ⟨p1, 0, none⟩)), (114, .bool false), (5, .pointer (some ⟨p1, 0, none⟩))] (r23 ++ (([] : Hep) ++ ([] : Hep))) := H.perm' (((List.Perm.refl _).append_left ([] : Hep)).trans (List.perm_append_comm_assoc ([] : Hep) r23 ([] : Hep)))
            refine pl_callX rfl rfl ⟨_, Try.func27, by kernel_rfl⟩ rfl (fun K_ => by have h_ := po_sync (hh := (([] : Hep) ++ ([] : Hep))) hP23 w _ K_; rw [crash_sync _ _] at h_; exact h_) H ?_
            try clear H a W
            rintro r25 a W hP25 H
            replace hP25 : PO p1 (dSync (dCrash D ([] : List Int))).1 r25 := hP25
            replace H := H.perm' (List.perm_append_comm_assoc r25 ([] : Hep) ([] : Hep))
            replace H : St 133 w a W [(126, .int .i64 0), (125, .pointer (some ⟨p1, 0, none⟩)), (124, .bool true), (123, .bool true), (122, .bool true), (121, .bool false), (120, .pointer (some ⟨p1, 0, none⟩)), (119, .bool true), (118, .bool true), (117, .int .i64 0), (116, .int .i64 0), (115, .pointer (some ⟨p1, 0, none⟩)), (114, .bool false), (5, .pointer (some ⟨p1, 0, none⟩))] ((r25 ++ ([] : Hep))) := H
            refine rgO H gs0 (rV rfl (does_call rfl ⟨_, Try.func13, by kernel_rfl⟩ rfl (fun W hb => num_any _ W)) <| rV rfl (does_binOp rfl rfl rfl (zd_eql_int (k := 0) (m := 0) (decide_eq_true (by omega)) _ _)) <| rS 2 rfl <| rV rfl (does_call rfl ⟨_, Try.func11, by kernel_rfl⟩ rfl (fun W hb => known_any W)) <| rS 2 rfl <| rK [1, 0, 0, 0, 0, 0, 0, 0, 0, 0, 0, 0, 0, 0, 0, 0, 0, 0, 0, 0, 0] [] [] <| rZ0 ?_)
            try clear H a W
            intro a W H
            refine hK41 _ _ ?_
            clear hK41
            refine wp_ret ?_
            repeat (first | (with_reducible refine then_ret ?_) | (with_reducible refine blk_ret ?_))
            refine end_tmp (p := 4) rfl rfl H (fun hb => ?_)
            exact ⟨rfl, hb⟩
end Go.Proofs.Ytiebelmglchbdaa
