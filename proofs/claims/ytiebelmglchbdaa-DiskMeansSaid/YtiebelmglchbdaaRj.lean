/- Layer 14's laws: is a block as it was settled, or as a write left it (one); is it torn (tears)? -/
import Derived.Test.YtiebelmglchbdaaRf
namespace Go.Proofs.Ytiebelmglchbdaa
set_option linter.unusedVariables false
set_option linter.unusedSimpArgs false
set_option maxRecDepth 100000
open Go Go.RowKit

theorem sd_eqlP {l m : List UInt8} {b : Bool} (h : decide (l = m) = b) (p q : Operand) (W : World) : (do eqGuard .eql 9 p q (.string (strB l)) (.string (strB m)); binOp .eql 9 (.string (strB l)) (.string (strB m)) : Sem Value).run Try.prog W = .ok (.bool b) W := by
  go_simp
  rw [strB_toList, strB_toList, ← h]
  rw [Bool.eq_iff_iff]
  simp only [beq_iff_eq, decide_eq_true_eq]
theorem torn_take {k kk : Nat} {q old : List UInt8} (h : k ≤ kk) (hk : kk ≤ 512) (hq : q.length = 512) : (tornB kk q old).take k = q.take k := by
  unfold tornB
  rw [List.take_append_of_le_length (by rw [List.length_take]; omega), List.take_take, Nat.min_eq_left h]
theorem torn_drop {kk : Nat} {q old : List UInt8} (hk : kk ≤ 512) (hq : q.length = 512) : (tornB kk q old).drop kk = old.drop kk := by
  unfold tornB
  have e : (q.take kk).length = kk := by rw [List.length_take]; omega
  rw [List.drop_append_of_le_length (by omega), List.drop_of_length_le (by omega), List.nil_append]
theorem below_succ {α : Type} {L : List α} {k : Nat} {x : α} {P : α → Prop} (hk : L[k]? = some x) (h : ∀ j, j < k → ∀ q, L[j]? = some q → P q) (hx : P x) : ∀ j, j < k + 1 → ∀ q, L[j]? = some q → P q := fun j hj q hq => by
  by_cases e : j = k
  · subst e
    rw [hk] at hq
    injection hq with hq
    subst hq
    exact hx
  · exact h j (by omega) q hq
attribute [local irreducible] bvs dwa entsI zeroB lastsB stepP lastN xorB rb dWrite dSync dFuse dCrash dEdit readK bv hiV tornB
set_option maxHeartbeats 4000000 in
theorem one_x {X : RX} {p : Nat} {D : Dk} {hh : Hep} {gb : Nat} {t : TypeId} {b : List UInt8} (n : Nat) (hn : n < D.B.length) (hl_b : b.length = 512) (hb : (gb, .ty t, bvs b) ∈ hh) (hX : X.ok D) (w0 w : World) (K : Kn w0 w (X.rows p D ++ hh)) : Calls Try.prog 24 #[.pointer (some ⟨p, 0, none⟩), .int .i64 ((n : Nat) : Int), .slice (some ⟨gb, 0, none⟩) 512 512] w (fun rr w' => ∃ v : Bool, rr = .returned (.bool v) ∧ (v = true ↔ LeftB D.B D.L n b) ∧ Kn w0 w' (X.rows p D ++ hh)) := by
  have hnb := hX.nb
  have hfu := hX.fu
  have hnl := hX.nl
  rw [RX.rows_hh] at K
  unfold RX.row at K
  obtain ⟨gL, cL, hat⟩ := hX.at_
  refine calls_kn (vs := [.pointer (some ⟨p, 0, none⟩), .int .i64 ((n : Nat) : Int), .slice (some ⟨gb, 0, none⟩) 512 512]) 52 Try.func24 rfl Try.ntmps24 rfl K (fun a W H => ?_)
  replace H : St 52 w0 a W [(0, .pointer (some ⟨p, 0, none⟩)), (1, .int .i64 ((n : Nat) : Int)), (2, .slice (some ⟨gb, 0, none⟩) 512 512)] ((p, 67, (rdC (.slice (some ⟨X.gB, 0, none⟩) D.B.length X.capB) (.slice X.A D.L.length X.capL) D.fuse D.dead)) :: (X.gB, 39, X.cB) :: (X.tL ++ (X.rest ++ hh))) := H
  refine sqR H gs0 fun Z_ z_ => rS 1 rfl <| rN0 z_ ?_
  try clear H a W
  intro a W H
  refine wp_seq_k (fun K2 hK2 => ?_)
  refine sqD [.v 8 _ [], .v 9 _ [0], .v 10 _ [1], .v 11 _ [2], .v 12 _ [], .v 13 _ [3, 4], .v 14 _ [5], .v 15 _ [6], .v 16 _ [], .v 17 _ [8], .v 18 _ [7, 9]] (by kernel_rfl) (by kernel_rfl) H gs0 (fun _ => ⟨oS rfl rfl, oV rfl (does_nilCheckQ rfl rfl), oV rfl (does_fieldAddr rfl rfl (fa_rd 0 (by decide))), oV rfl (does_loadAt (v := .slice (some ⟨X.gB, 0, none⟩) D.B.length X.capB) rfl rfl (k := 0) rfl ld_rd0), oS rfl rfl, oV rfl (does_indexAddr rfl rfl rfl (ia_rows0 (j := n) (by omega))), oV rfl (does_loadAt (v := .slice (some ⟨(X.gu n).1, 0, none⟩) 512 (X.gu n).2) rfl rfl (k := 1) rfl (ld_slB (hX.rk.bo n _ (getB (by omega))).1)), fun a W  H _ => ob_strP H (wanted_none rfl) rfl rfl (RowB.bf (hX.rk.bo n _ (getB (by omega))).2 H (fun q_ hq_ => (List.mem_cons_of_mem _ (List.mem_cons_of_mem _ (List.mem_append_right _ (List.mem_append_left _ hq_)))))), oS rfl rfl, fun a W  H _ => ob_strP H (wanted_none rfl) rfl rfl (sl_bf hl_b (H.heap _ (List.mem_cons_of_mem _ (List.mem_cons_of_mem _ (List.mem_append_right _ (List.mem_append_right _ hb)))))), oV rfl (does_binOp rfl rfl rfl (sd_eqlP (l := (D.B.getD n [])) (m := b) rfl _ _)), trivial⟩) fun Z_ z_ => rK [1, 0, 0, 0, 0, 0, 0, 0, 0, 0, 0] [] [] <| rN0 z_ ?_
  try clear H a W
  intro a W H
  cases hq1 : decide ((D.B.getD n []) = b) with
  | true =>
    rw [hq1] at H
    have hq1p := of_decide_eq_true hq1
    refine wp_cond_true (H.ev rfl) ?_
    refine sqR H gs0 fun Z_ z_ => rK [1, 0] [] [] <| rS 1 rfl <| rK [1, 0] [] [] <| rN0 z_ ?_
    try clear H a W
    intro a W H
    refine wp_ret ?_
    repeat (first | (with_reducible refine then_ret ?_) | (with_reducible refine blk_ret ?_))
    refine end_tmp (p := 6) rfl rfl H (fun hb => ?_)
    refine ⟨true, rfl, ⟨fun _ => .inl hq1p.symm, fun _ => rfl⟩, ?_⟩
    rw [RX.rows_hh]
    unfold RX.row
    show Kn w0 W ((p, .ty 67, (rdC (.slice (some ⟨X.gB, 0, none⟩) D.B.length X.capB) (.slice X.A D.L.length X.capL) D.fuse D.dead)) :: (X.gB, .ty 39, X.cB) :: (X.tL ++ (X.rest ++ hh)))
    have H_ := H.pickF (h := [(p, .ty 67, (rdC (.slice (some ⟨X.gB, 0, none⟩) D.B.length X.capB) (.slice X.A D.L.length X.capL) D.fuse D.dead)), (X.gB, .ty 39, X.cB)]) (t := (X.tL ++ (X.rest ++ hh))) [] [0, 1] rfl
    exact H_.kn
  | false =>
    rw [hq1] at H
    have hq1p := of_decide_eq_false hq1
    refine wp_cond_false (H.ev rfl) ?_
    refine wp_skip ?_
    refine hK2 _ _ ?_
    clear hK2
    refine wp_seq_k (fun K5 hK5 => ?_)
    refine sqR H gs0 fun Z_ z_ => rS 1 rfl <| rK [1, 0] [] [] <| rN0 z_ ?_
    try clear H a W
    intro a W H
    refine wp_block ?_
    replace H : St 52 w0 a W [(7, .int .i64 0), (0, .pointer (some ⟨p, 0, none⟩)), (1, .int .i64 ((n : Nat) : Int)), (2, .slice (some ⟨gb, 0, none⟩) 512 512)] ((p, 67, (rdC (.slice (some ⟨X.gB, 0, none⟩) D.B.length X.capB) (.slice X.A D.L.length X.capL) D.fuse D.dead)) :: (X.gB, 39, X.cB) :: (X.tL ++ (X.rest ++ hh))) := H.pickF (h := [(p, 67, (rdC (.slice (some ⟨X.gB, 0, none⟩) D.B.length X.capB) (.slice X.A D.L.length X.capL) D.fuse D.dead)), (X.gB, 39, X.cB)]) (t := (X.tL ++ (X.rest ++ hh))) [0, 2, 3, 4] [0, 1] rfl
    refine wp_rounds D.L.length (fun k a W => ∃ u0, (u0 = 0 ∧ ∀ j, j < k → ∀ q, D.L[j]? = some q → q ≠ (n, b)) ∧ St 52 w0 a W [(7, .int .i64 ((k : Nat) : Int)), (0, .pointer (some ⟨p, 0, none⟩)), (1, .int .i64 ((n : Nat) : Int)), (2, .slice (some ⟨gb, 0, none⟩) 512 512)] ((p, 67, (rdC (.slice (some ⟨X.gB, 0, none⟩) D.B.length X.capB) (.slice X.A D.L.length X.capL) D.fuse D.dead)) :: (X.gB, 39, X.cB) :: (X.tL ++ (X.rest ++ hh)))) (k0 := 0) ⟨0, ⟨rfl, fun j hj => absurd hj (Nat.not_lt_zero _)⟩, H⟩ (by omega) ?_
    try clear H a W
    rintro k a W hk ⟨u0, hJ, H⟩
    by_cases hk2 : k < D.L.length
    · obtain ⟨⟨nk, bk⟩, hLk⟩ : ∃ q, D.L[k]? = some q := ⟨_, List.getElem?_eq_getElem hk2⟩
      refine wp_seq_k (fun K7 hK7 => ?_)
      refine sqR H gs0 fun Z_ z_ => rS 2 rfl <| rV rfl (does_nilCheckQ rfl rfl) <| rV rfl (does_fieldAddr rfl rfl (fa_rd 1 (by decide))) <| rV rfl (does_loadAt (v := .slice X.A D.L.length X.capL) rfl rfl (k := 0) rfl ld_rd1) <| rV rfl (does_len Try.underlying65 rfl rfl) <| rV rfl (does_binOp rfl rfl rfl (zd_lss_int (k := ((k : Nat) : Int)) (m := ((D.L.length : Nat) : Int)) (decide_eq_true (by omega)) _ _)) <| rN0 z_ ?_
      try clear H a W
      intro a W H
      refine wp_cond_true (H.ev rfl) ?_
      refine wp_skip ?_
      refine hK7 _ _ ?_
      clear hK7
      refine wp_seq_k (fun K9 hK9 => ?_)
      refine wp_block ?_
      refine wp_seq_k (fun K10 hK10 => ?_)
      cases hq2 : decide (((nk : Nat) : Int) = ((n : Nat) : Int)) with
      | true =>
        have hq2p := of_decide_eq_true hq2
        refine d2 (.v 28 _ [] :: .v 29 _ [0] :: .v 30 _ [1] :: .v 31 _ [2] :: .v 32 _ [] :: .v 33 _ [3, 4] :: .v 34 _ [5] :: .v 35 _ [6] :: .v 36 _ [] :: .v 37 _ [7, 8] :: .v 38 _ [9] :: .v 39 _ [10] :: .v 40 _ [11, 10] :: .v 41 _ [12, 10] :: .v 42 _ [13, 10] :: .v 43 _ [10] :: .v 44 _ [14, 15, 10] :: .v 45 _ [16, 10] :: .v 46 _ [17, 10] :: .v 47 _ [18, 10] :: .v 48 _ [10] :: .v 49 _ [20, 10] :: .v 50 _ [19, 21, 10] :: .v 51 _ [10, 22] :: []) (by kernel_rfl) (by kernel_rfl) H gs0 ⟨oS rfl rfl, oV rfl (does_nilCheckQ rfl rfl), oV rfl (does_fieldAddr rfl rfl (fa_rd 1 (by decide))), oV rfl (does_loadAt (v := .slice X.A D.L.length X.capL) rfl rfl (k := 0) rfl ld_rd1), oS rfl rfl, oV rfl (does_indexAddr rfl rfl rfl (ia_lates (j := k) (hat (by omega)).1 (by omega))), oV rfl (does_fieldAddr rfl rfl fa_late0), oV rfl (does_loadMem (v := .int .i64 ((nk : Nat) : Int)) rfl rfl (List.mem_cons_of_mem _ (List.mem_cons_of_mem _ (List.mem_append_left _ (hat (by omega)).2.1))) (fun W hW => ld_numC ((hat (by omega)).2.2 _ _ (hX.rk.lo k _ hLk).1) W hW)), oS rfl rfl, oV rfl (does_binOp rfl rfl rfl (zd_eql_int (k := ((nk : Nat) : Int)) (m := ((n : Nat) : Int)) hq2 _ _)), oS rfl rfl, oS rfl rfl, oV rfl (does_nilCheckQ rfl rfl), oV rfl (does_fieldAddr rfl rfl (fa_rd 1 (by decide))), oV rfl (does_loadAt (v := .slice X.A D.L.length X.capL) rfl rfl (k := 0) rfl ld_rd1), oS rfl rfl, oV rfl (does_indexAddr rfl rfl rfl (ia_lates (j := k) (hat (by omega)).1 (by omega))), oV rfl (does_fieldAddr rfl rfl fa_late1), oV rfl (does_loadMem (v := .slice (some ⟨(X.gl k).1, 0, none⟩) 512 (X.gl k).2) rfl rfl (List.mem_cons_of_mem _ (List.mem_cons_of_mem _ (List.mem_append_left _ (hat (by omega)).2.1))) (fun W hW => ld_slB ((hat (by omega)).2.2 _ _ (hX.rk.lo k _ hLk).2.1) W hW)), fun a W  H _ => ob_strP H (wanted_some rfl rfl rfl rfl rfl) rfl rfl (RowB.bf (hX.rk.lo k _ hLk).2.2 H (fun q_ hq_ => (List.mem_cons_of_mem _ (List.mem_cons_of_mem _ (List.mem_append_right _ (List.mem_append_left _ hq_)))))), oS rfl rfl, fun a W  H _ => ob_strP H (wanted_some rfl rfl rfl rfl rfl) rfl rfl (sl_bf hl_b (H.heap _ (List.mem_cons_of_mem _ (List.mem_cons_of_mem _ (List.mem_append_right _ (List.mem_append_right _ hb)))))), oV rfl (does_binOp rfl rfl rfl (sd_eqlP (l := bk) (m := b) rfl _ _)), oS rfl rfl, trivial⟩ (rZ0 ?_)
        try clear H a W
        intro a W H
        refine hK10 _ _ ?_
        clear hK10
        cases hq3 : decide (bk = b) with
        | true =>
          rw [hq3] at H
          have hq3p := of_decide_eq_true hq3
          refine wp_cond_true (H.ev rfl) ?_
          refine sqR H gs0 fun Z_ z_ => rS 1 rfl <| rN0 z_ ?_
          try clear H a W
          intro a W H
          refine wp_ret ?_
          repeat (first | (with_reducible refine then_ret ?_) | (with_reducible refine blk_ret ?_))
          refine end_tmp (p := 6) rfl rfl H (fun hb => ?_)
          refine ⟨true, rfl, ⟨fun _ => .inr (by have h1_ : nk = n := (by omega); rw [← h1_, ← hq3p]; exact List.mem_iff_getElem?.2 ⟨k, hLk⟩), fun _ => rfl⟩, ?_⟩
          rw [RX.rows_hh]
          unfold RX.row
          show Kn w0 W ((p, .ty 67, (rdC (.slice (some ⟨X.gB, 0, none⟩) D.B.length X.capB) (.slice X.A D.L.length X.capL) D.fuse D.dead)) :: (X.gB, .ty 39, X.cB) :: (X.tL ++ (X.rest ++ hh)))
          have H_ := H.pickF (h := [(p, .ty 67, (rdC (.slice (some ⟨X.gB, 0, none⟩) D.B.length X.capB) (.slice X.A D.L.length X.capL) D.fuse D.dead)), (X.gB, .ty 39, X.cB)]) (t := (X.tL ++ (X.rest ++ hh))) [] [0, 1] rfl
          exact H_.kn
        | false =>
          rw [hq3] at H
          have hq3p := of_decide_eq_false hq3
          refine wp_cond_false (H.ev rfl) ?_
          refine wp_skip ?_
          refine blk_normal ?_
          refine hK9 _ _ ?_
          clear hK9
          refine rgP H gs0 (rS 1 rfl <| rV rfl (does_binOp rfl rfl rfl (zd_add_int (k := ((k : Nat) : Int)) (m := 1) (c := ((k + 1 : Nat) : Int)) (by omega) (by omega) _ _)) <| rK [1, 1, 1, 1, 1, 1, 1, 1, 1, 1, 1, 1, 1, 1, 1, 1, 1, 1, 1, 1, 1, 1, 1, 1, 1, 1, 1, 1, 1, 1, 1, 1, 1, 0] [] [] <| rS 1 rfl <| rZ0 ?_)
          try clear H a W
          intro a W H
          refine ⟨k + 1, by omega, by omega, 0, ⟨rfl, below_succ (P := fun q => q ≠ (n, b)) hLk hJ.2 (fun he_ => absurd (congrArg Prod.snd he_) hq3p)⟩, ?_⟩
          exact H.pickF (h := [(p, 67, (rdC (.slice (some ⟨X.gB, 0, none⟩) D.B.length X.capB) (.slice X.A D.L.length X.capL) D.fuse D.dead)), (X.gB, 39, X.cB)]) (t := (X.tL ++ (X.rest ++ hh))) [0, 34, 35, 36] [0, 1] rfl
      | false =>
        have hq2p := of_decide_eq_false hq2
        refine d2 (.v 28 _ [] :: .v 29 _ [0] :: .v 30 _ [1] :: .v 31 _ [2] :: .v 32 _ [] :: .v 33 _ [3, 4] :: .v 34 _ [5] :: .v 35 _ [6] :: .v 36 _ [] :: .v 37 _ [7, 8] :: .v 38 _ [9] :: .u 39 [10] :: .u 40 [11, 10] :: .u 41 [12, 10] :: .u 42 [13, 10] :: .u 43 [10] :: .u 44 [14, 15, 10] :: .u 45 [16, 10] :: .u 46 [17, 10] :: .u 47 [18, 10] :: .u 48 [10] :: .u 49 [20, 10] :: .u 50 [19, 21, 10] :: .v 51 _ [10, 22] :: []) (by kernel_rfl) (by kernel_rfl) H gs0 ⟨oS rfl rfl, oV rfl (does_nilCheckQ rfl rfl), oV rfl (does_fieldAddr rfl rfl (fa_rd 1 (by decide))), oV rfl (does_loadAt (v := .slice X.A D.L.length X.capL) rfl rfl (k := 0) rfl ld_rd1), oS rfl rfl, oV rfl (does_indexAddr rfl rfl rfl (ia_lates (j := k) (hat (by omega)).1 (by omega))), oV rfl (does_fieldAddr rfl rfl fa_late0), oV rfl (does_loadMem (v := .int .i64 ((nk : Nat) : Int)) rfl rfl (List.mem_cons_of_mem _ (List.mem_cons_of_mem _ (List.mem_append_left _ (hat (by omega)).2.1))) (fun W hW => ld_numC ((hat (by omega)).2.2 _ _ (hX.rk.lo k _ hLk).1) W hW)), oS rfl rfl, oV rfl (does_binOp rfl rfl rfl (zd_eql_int (k := ((nk : Nat) : Int)) (m := ((n : Nat) : Int)) hq2 _ _)), oS rfl rfl, oU rfl, oU rfl, oU rfl, oU rfl, oU rfl, oU rfl, oU rfl, oU rfl, oU rfl, oU rfl, oU rfl, oU rfl, oS rfl rfl, trivial⟩ (rZ0 ?_)
        try clear H a W
        intro a W H
        refine hK10 _ _ ?_
        clear hK10
        refine wp_cond_false (H.ev rfl) ?_
        refine wp_skip ?_
        refine blk_normal ?_
        refine hK9 _ _ ?_
        clear hK9
        refine rgP H gs0 (rS 1 rfl <| rV rfl (does_binOp rfl rfl rfl (zd_add_int (k := ((k : Nat) : Int)) (m := 1) (c := ((k + 1 : Nat) : Int)) (by omega) (by omega) _ _)) <| rK [1, 1, 1, 1, 1, 1, 1, 1, 1, 1, 1, 1, 1, 1, 1, 1, 1, 1, 1, 1, 1, 1, 1, 1, 1, 1, 1, 1, 1, 1, 1, 1, 1, 0] [] [] <| rS 1 rfl <| rZ0 ?_)
        try clear H a W
        intro a W H
        refine ⟨k + 1, by omega, by omega, 0, ⟨rfl, below_succ (P := fun q => q ≠ (n, b)) hLk hJ.2 (fun he_ => absurd (congrArg Prod.fst he_) (by show ¬ nk = n; omega))⟩, ?_⟩
        exact H.pickF (h := [(p, 67, (rdC (.slice (some ⟨X.gB, 0, none⟩) D.B.length X.capB) (.slice X.A D.L.length X.capL) D.fuse D.dead)), (X.gB, 39, X.cB)]) (t := (X.tL ++ (X.rest ++ hh))) [0, 34, 35, 36] [0, 1] rfl
    · obtain rfl : D.L.length = k := by omega
      refine wp_seq_k (fun K12 hK12 => ?_)
      refine sqR H gs0 fun Z_ z_ => rS 2 rfl <| rV rfl (does_nilCheckQ rfl rfl) <| rV rfl (does_fieldAddr rfl rfl (fa_rd 1 (by decide))) <| rV rfl (does_loadAt (v := .slice X.A D.L.length X.capL) rfl rfl (k := 0) rfl ld_rd1) <| rV rfl (does_len Try.underlying65 rfl rfl) <| rV rfl (does_binOp rfl rfl rfl (zd_lss_int (k := ((D.L.length : Nat) : Int)) (m := ((D.L.length : Nat) : Int)) (decide_eq_false (by omega)) _ _)) <| rK [1, 0, 0, 0, 0, 0, 0] [] [] <| rN0 z_ ?_
      try clear H a W
      intro a W H
      refine wp_cond_false (H.ev rfl) ?_
      refine wp_exit ?_
      repeat (first | (with_reducible refine then_exit ?_) | (with_reducible refine blk_pass (by decide) ?_))
      refine blk_exit ?_
      refine hK5 _ _ ?_
      clear hK5
      refine sqR H gs0 fun Z_ z_ => rS 1 rfl <| rK [1, 0, 0, 0, 0, 0] [] [] <| rN0 z_ ?_
      try clear H a W
      intro a W H
      refine wp_ret ?_
      repeat (first | (with_reducible refine then_ret ?_) | (with_reducible refine blk_ret ?_))
      refine end_tmp (p := 6) rfl rfl H (fun hb => ?_)
      refine ⟨false, rfl, ⟨fun h_ => absurd h_ (by decide), fun h_ => h_.elim (fun h_ => absurd h_.symm hq1p) (fun h_ => (List.mem_iff_getElem?.1 h_).elim fun j hj => absurd rfl (hJ.2 j (List.getElem?_eq_some_iff.1 hj).1 _ hj))⟩, ?_⟩
      rw [RX.rows_hh]
      unfold RX.row
      show Kn w0 W ((p, .ty 67, (rdC (.slice (some ⟨X.gB, 0, none⟩) D.B.length X.capB) (.slice X.A D.L.length X.capL) D.fuse D.dead)) :: (X.gB, .ty 39, X.cB) :: (X.tL ++ (X.rest ++ hh)))
      have H_ := H.pickF (h := [(p, .ty 67, (rdC (.slice (some ⟨X.gB, 0, none⟩) D.B.length X.capB) (.slice X.A D.L.length X.capL) D.fuse D.dead)), (X.gB, .ty 39, X.cB)]) (t := (X.tL ++ (X.rest ++ hh))) [] [0, 1] rfl
      exact H_.kn
set_option maxHeartbeats 4000000 in
theorem tears_x {X : RX} {p : Nat} {D : Dk} {hh : Hep} {gb : Nat} {t : TypeId} {b : List UInt8} (n : Nat) (hn : n < D.B.length) (hl_b : b.length = 512) (hb : (gb, .ty t, bvs b) ∈ hh) {kk : Nat} {q old : List UInt8} (hl : D.L.getLast? = some (n, q)) (hkk : kk ≤ 512) (hold : LeftB D.B D.L n old) (he : b = tornB kk q old) (hX : X.ok D) (w0 w : World) (K : Kn w0 w (X.rows p D ++ hh)) : Calls Try.prog 25 #[.pointer (some ⟨p, 0, none⟩), .int .i64 ((n : Nat) : Int), .slice (some ⟨gb, 0, none⟩) 512 512] w (fun rr w' => rr = .returned (.bool true) ∧ Kn w0 w' (X.rows p D ++ hh)) := by
  have hnb := hX.nb
  have hfu := hX.fu
  have hnl := hX.nl
  rw [RX.rows_hh] at K
  unfold RX.row at K
  have hlast : D.L[D.L.length - 1]? = some (n, q) := by rw [List.getLast?_eq_getElem?] at hl; exact hl
  have hpos : D.L.length - 1 < D.L.length := (List.getElem?_eq_some_iff.1 hlast).1
  have hq5 : q.length = 512 := (hX.dk.L _ (List.mem_iff_getElem?.2 ⟨_, hlast⟩)).2
  obtain ⟨gL, cL, hat⟩ := hX.at_
  refine calls_kn (vs := [.pointer (some ⟨p, 0, none⟩), .int .i64 ((n : Nat) : Int), .slice (some ⟨gb, 0, none⟩) 512 512]) 116 Try.func25 rfl Try.ntmps25 rfl K (fun a W H => ?_)
  replace H : St 116 w0 a W [(0, .pointer (some ⟨p, 0, none⟩)), (1, .int .i64 ((n : Nat) : Int)), (2, .slice (some ⟨gb, 0, none⟩) 512 512)] ((p, 67, (rdC (.slice (some ⟨X.gB, 0, none⟩) D.B.length X.capB) (.slice X.A D.L.length X.capL) D.fuse D.dead)) :: (X.gB, 39, X.cB) :: (X.tL ++ (X.rest ++ hh))) := H
  refine sqR H gs0 fun Z_ z_ => rS 1 rfl <| rN0 z_ ?_
  try clear H a W
  intro a W H
  refine wp_seq_k (fun K2 hK2 => ?_)
  refine sqD (.v 10 _ [] :: .v 11 _ [0] :: .v 12 _ [1] :: .v 13 _ [2] :: .v 14 _ [3] :: .v 15 _ [4] :: .v 16 _ [5] :: .v 17 _ [6] :: .v 18 _ [7, 6] :: .v 19 _ [8, 6] :: .v 20 _ [9, 6] :: .v 21 _ [6] :: .v 22 _ [11, 6] :: .v 23 _ [12, 6] :: .v 24 _ [13, 6] :: .v 25 _ [14, 6] :: .v 26 _ [15, 6] :: .v 27 _ [10, 16, 6] :: .v 28 _ [17, 6] :: .v 29 _ [18, 6] :: .v 30 _ [6] :: .v 31 _ [19, 20, 6] :: .v 32 _ [6, 21] :: .v 33 _ [22] :: .v 34 _ [23] :: .v 35 _ [24, 23] :: .v 36 _ [25, 23] :: .v 37 _ [23, 26] :: []) (by kernel_rfl) (by kernel_rfl) H gs0 (fun _ => ⟨oS rfl rfl, oV rfl (does_nilCheckQ rfl rfl), oV rfl (does_fieldAddr rfl rfl (fa_rd 1 (by decide))), oV rfl (does_loadAt (v := .slice X.A D.L.length X.capL) rfl rfl (k := 0) rfl ld_rd1), oV rfl (does_len Try.underlying65 rfl rfl), oV rfl (does_binOp rfl rfl rfl (zd_eql_int (k := ((D.L.length : Nat) : Int)) (m := 0) (decide_eq_false (by omega)) _ _)), oS rfl rfl, oS rfl rfl, oV rfl (does_nilCheckQ rfl rfl), oV rfl (does_fieldAddr rfl rfl (fa_rd 1 (by decide))), oV rfl (does_loadAt (v := .slice X.A D.L.length X.capL) rfl rfl (k := 0) rfl ld_rd1), oS rfl rfl, oV rfl (does_nilCheckQ rfl rfl), oV rfl (does_fieldAddr rfl rfl (fa_rd 1 (by decide))), oV rfl (does_loadAt (v := .slice X.A D.L.length X.capL) rfl rfl (k := 0) rfl ld_rd1), oV rfl (does_len Try.underlying65 rfl rfl), oV rfl (does_binOp rfl rfl rfl (zd_sub_int (k := ((D.L.length : Nat) : Int)) (m := 1) (c := ((D.L.length - 1 : Nat) : Int)) (by omega) (by omega) _ _)), oV rfl (does_indexAddr rfl rfl rfl (ia_lates (j := D.L.length - 1) (hat (by omega)).1 (by omega))), oV rfl (does_fieldAddr rfl rfl fa_late0), oV rfl (does_loadMem (v := .int .i64 ((n : Nat) : Int)) rfl rfl (List.mem_cons_of_mem _ (List.mem_cons_of_mem _ (List.mem_append_left _ (hat (by omega)).2.1))) (fun W hW => ld_numC ((hat (by omega)).2.2 _ _ (hX.rk.lo (D.L.length - 1) _ hlast).1) W hW)), oS rfl rfl, oV rfl (does_binOp rfl rfl rfl (zd_neq_int (k := ((n : Nat) : Int)) (m := ((n : Nat) : Int)) (decide_eq_false (by omega)) _ _)), oS rfl rfl, oS rfl rfl, oS rfl rfl, oV rfl (does_len Try.underlying39 rfl rfl), oV rfl (does_binOp rfl rfl rfl (zd_neq_int (k := ((512 : Nat) : Int)) (m := 512) (decide_eq_false (by omega)) _ _)), oS rfl rfl, trivial⟩) fun Z_ z_ => rK [1, 0, 0, 0, 0, 0, 0, 0, 0, 0, 0, 0, 0, 0, 0, 0, 0, 0, 0, 0, 0, 0, 0, 0, 0, 0, 0, 0] [] [] <| rN0 z_ ?_
  try clear H a W
  intro a W H
  refine wp_cond_false (H.ev rfl) ?_
  refine wp_skip ?_
  refine hK2 _ _ ?_
  clear hK2
  refine sqD [.v 38 _ [], .v 39 _ [0], .v 40 _ [1], .v 41 _ [2], .v 42 _ [], .v 43 _ [4], .v 44 _ [5], .v 45 _ [6], .v 46 _ [7], .v 47 _ [8], .v 48 _ [3, 9], .v 49 _ [10], .v 50 _ [11]] (by kernel_rfl) (by kernel_rfl) H gs0 (fun _ => ⟨oS rfl rfl, oV rfl (does_nilCheckQ rfl rfl), oV rfl (does_fieldAddr rfl rfl (fa_rd 1 (by decide))), oV rfl (does_loadAt (v := .slice X.A D.L.length X.capL) rfl rfl (k := 0) rfl ld_rd1), oS rfl rfl, oV rfl (does_nilCheckQ rfl rfl), oV rfl (does_fieldAddr rfl rfl (fa_rd 1 (by decide))), oV rfl (does_loadAt (v := .slice X.A D.L.length X.capL) rfl rfl (k := 0) rfl ld_rd1), oV rfl (does_len Try.underlying65 rfl rfl), oV rfl (does_binOp rfl rfl rfl (zd_sub_int (k := ((D.L.length : Nat) : Int)) (m := 1) (c := ((D.L.length - 1 : Nat) : Int)) (by omega) (by omega) _ _)), oV rfl (does_indexAddr rfl rfl rfl (ia_lates (j := D.L.length - 1) (hat (by omega)).1 (by omega))), oV rfl (does_fieldAddr rfl rfl fa_late1), oV rfl (does_loadMem (v := .slice (some ⟨(X.gl (D.L.length - 1)).1, 0, none⟩) 512 (X.gl (D.L.length - 1)).2) rfl rfl (List.mem_cons_of_mem _ (List.mem_cons_of_mem _ (List.mem_append_left _ (hat (by omega)).2.1))) (fun W hW => ld_slB ((hat (by omega)).2.2 _ _ (hX.rk.lo (D.L.length - 1) _ hlast).2.1) W hW)), trivial⟩) fun Z_ z_ => rS 1 rfl <| rK [1, 0, 0, 0, 0, 0, 0, 0, 0, 0, 0, 0, 0, 0, 0] [] [] <| rN0 z_ ?_
  try clear H a W
  intro a W H
  refine wp_seq_k (fun K5 hK5 => ?_)
  refine sqR H gs0 fun Z_ z_ => rS 1 rfl <| rN0 z_ ?_
  try clear H a W
  intro a W H
  refine wp_block ?_
  replace H : St 116 w0 a W [(8, .int .i64 0), (7, .slice (some ⟨(X.gl (D.L.length - 1)).1, 0, none⟩) 512 (X.gl (D.L.length - 1)).2), (0, .pointer (some ⟨p, 0, none⟩)), (1, .int .i64 ((n : Nat) : Int)), (2, .slice (some ⟨gb, 0, none⟩) 512 512)] ((p, 67, (rdC (.slice (some ⟨X.gB, 0, none⟩) D.B.length X.capB) (.slice X.A D.L.length X.capL) D.fuse D.dead)) :: (X.gB, 39, X.cB) :: (X.tL ++ (X.rest ++ hh))) := H.pickF (h := [(p, 67, (rdC (.slice (some ⟨X.gB, 0, none⟩) D.B.length X.capB) (.slice X.A D.L.length X.capL) D.fuse D.dead)), (X.gB, 39, X.cB)]) (t := (X.tL ++ (X.rest ++ hh))) [0, 1, 3, 4, 5] [0, 1] rfl
  refine wp_rounds (kk + 1) (fun k a W => ∃ u0, (u0 = 0 ∧ k ≤ kk) ∧ St 116 w0 a W [(8, .int .i64 ((k : Nat) : Int)), (7, .slice (some ⟨(X.gl (D.L.length - 1)).1, 0, none⟩) 512 (X.gl (D.L.length - 1)).2), (0, .pointer (some ⟨p, 0, none⟩)), (1, .int .i64 ((n : Nat) : Int)), (2, .slice (some ⟨gb, 0, none⟩) 512 512)] ((p, 67, (rdC (.slice (some ⟨X.gB, 0, none⟩) D.B.length X.capB) (.slice X.A D.L.length X.capL) D.fuse D.dead)) :: (X.gB, 39, X.cB) :: (X.tL ++ (X.rest ++ hh)))) (k0 := 0) ⟨0, ⟨rfl, Nat.zero_le _⟩, H⟩ (by omega) ?_
  try clear H a W
  rintro k a W hk ⟨u0, hJ, H⟩
  by_cases hk2 : k < (kk + 1)
  · have htk : b.take k = q.take k := by rw [he]; exact torn_take hJ.2 hkk hq5
    refine wp_seq_k (fun K7 hK7 => ?_)
    refine sqR H gs0 fun Z_ z_ => rS 1 rfl <| rV rfl (does_binOp rfl rfl rfl (zd_leq_int (k := ((k : Nat) : Int)) (m := 512) (decide_eq_true (by omega)) _ _)) <| rN0 z_ ?_
    try clear H a W
    intro a W H
    refine wp_cond_true (H.ev rfl) ?_
    refine wp_skip ?_
    refine hK7 _ _ ?_
    clear hK7
    refine wp_seq_k (fun K9 hK9 => ?_)
    refine wp_block ?_
    refine wp_seq_k (fun K10 hK10 => ?_)
    refine sqD [.v 55 _ [], .v 56 _ [], .v 57 _ [0, 1], .v 58 _ [2], .v 59 _ [], .v 60 _ [], .v 61 _ [4, 5], .v 62 _ [6], .v 63 _ [3, 7]] (by kernel_rfl) (by kernel_rfl) H gs0 (fun _ => ⟨oS rfl rfl, oS rfl rfl, oV rfl (does_slice rfl rfl (vl := none) (vh := some (.int .i64 ((k : Nat) : Int))) rfl rfl (lo_run (by omega) (Nat.le_refl 512))), fun a W  H _ => ob_strP H (wanted_none rfl) rfl rfl (lo_bf (sl_bf hl_b (H.heap _ (List.mem_cons_of_mem _ (List.mem_cons_of_mem _ (List.mem_append_right _ (List.mem_append_right _ hb)))))) (by omega)), oS rfl rfl, oS rfl rfl, oV rfl (does_slice rfl rfl (vl := none) (vh := some (.int .i64 ((k : Nat) : Int))) rfl rfl (lo_run (by omega) (hX.rk.lo (D.L.length - 1) _ hlast).2.2.cap)), fun a W  H _ => ob_strP H (wanted_none rfl) rfl rfl (lo_bf (RowB.bf (hX.rk.lo (D.L.length - 1) _ hlast).2.2 H (fun q_ hq_ => (List.mem_cons_of_mem _ (List.mem_cons_of_mem _ (List.mem_append_right _ (List.mem_append_left _ hq_)))))) (by omega)), oV rfl (does_binOp rfl rfl rfl (sd_neqP (l := (b.take k)) (m := (q.take k)) (decide_eq_false fun h_ => h_ htk) _ _)), trivial⟩) fun Z_ z_ => rN0 z_ ?_
    try clear H a W
    intro a W H
    refine wp_cond_false (H.ev rfl) ?_
    refine wp_skip ?_
    refine hK10 _ _ ?_
    clear hK10
    refine wp_seq_k (fun K12 hK12 => ?_)
    refine sqD [.v 64 _ [], .v 65 _ [], .v 66 _ [0, 1], .v 67 _ [2], .v 68 _ [], .v 69 _ [4], .v 70 _ [5], .v 71 _ [6], .v 72 _ [], .v 73 _ [7, 8], .v 74 _ [9], .v 75 _ [], .v 76 _ [10, 11], .v 77 _ [12], .v 78 _ [3, 13]] (by kernel_rfl) (by kernel_rfl) H gs0 (fun _ => ⟨oS rfl rfl, oS rfl rfl, oV rfl (does_slice rfl rfl (vl := some (.int .i64 ((k : Nat) : Int))) (vh := none) rfl rfl (hi_run (by omega) (Nat.le_refl 512))), fun a W  H _ => ob_strP H (wanted_none rfl) rfl rfl (hi_bf (sl_bf hl_b (H.heap _ (List.mem_cons_of_mem _ (List.mem_cons_of_mem _ (List.mem_append_right _ (List.mem_append_right _ hb)))))) (by omega)), oS rfl rfl, oV rfl (does_nilCheckQ rfl rfl), oV rfl (does_fieldAddr rfl rfl (fa_rd 0 (by decide))), oV rfl (does_loadAt (v := .slice (some ⟨X.gB, 0, none⟩) D.B.length X.capB) rfl rfl (k := 0) rfl ld_rd0), oS rfl rfl, oV rfl (does_indexAddr rfl rfl rfl (ia_rows0 (j := n) (by omega))), oV rfl (does_loadAt (v := .slice (some ⟨(X.gu n).1, 0, none⟩) 512 (X.gu n).2) rfl rfl (k := 1) rfl (ld_slB (hX.rk.bo n _ (getB (by omega))).1)), oS rfl rfl, oV rfl (does_slice rfl rfl (vl := some (.int .i64 ((k : Nat) : Int))) (vh := none) rfl rfl (hi_run (by omega) (hX.rk.bo n _ (getB (by omega))).2.cap)), fun a W  H _ => ob_strP H (wanted_none rfl) rfl rfl (hi_bf (RowB.bf (hX.rk.bo n _ (getB (by omega))).2 H (fun q_ hq_ => (List.mem_cons_of_mem _ (List.mem_cons_of_mem _ (List.mem_append_right _ (List.mem_append_left _ hq_)))))) (by omega)), oV rfl (does_binOp rfl rfl rfl (sd_eqlP (l := (b.drop k)) (m := ((D.B.getD n []).drop k)) rfl _ _)), trivial⟩) fun Z_ z_ => rN0 z_ ?_
    try clear H a W
    intro a W H
    cases hq1 : decide ((b.drop k) = ((D.B.getD n []).drop k)) with
    | true =>
      rw [hq1] at H
      have hq1p := of_decide_eq_true hq1
      refine wp_cond_true (H.ev rfl) ?_
      refine sqR H gs0 fun Z_ z_ => rS 1 rfl <| rN0 z_ ?_
      try clear H a W
      intro a W H
      refine wp_ret ?_
      repeat (first | (with_reducible refine then_ret ?_) | (with_reducible refine blk_ret ?_))
      refine end_tmp (p := 6) rfl rfl H (fun hb => ?_)
      refine ⟨rfl, ?_⟩
      rw [RX.rows_hh]
      unfold RX.row
      show Kn w0 W ((p, .ty 67, (rdC (.slice (some ⟨X.gB, 0, none⟩) D.B.length X.capB) (.slice X.A D.L.length X.capL) D.fuse D.dead)) :: (X.gB, .ty 39, X.cB) :: (X.tL ++ (X.rest ++ hh)))
      have H_ := H.pickF (h := [(p, .ty 67, (rdC (.slice (some ⟨X.gB, 0, none⟩) D.B.length X.capB) (.slice X.A D.L.length X.capL) D.fuse D.dead)), (X.gB, .ty 39, X.cB)]) (t := (X.tL ++ (X.rest ++ hh))) [] [0, 1] rfl
      exact H_.kn
    | false =>
      rw [hq1] at H
      have hq1p := of_decide_eq_false hq1
      refine wp_cond_false (H.ev rfl) ?_
      refine wp_skip ?_
      refine hK12 _ _ ?_
      clear hK12
      refine sqR H gs0 fun Z_ z_ => rS 1 rfl <| rN0 z_ ?_
      try clear H a W
      intro a W H
      refine wp_block ?_
      replace H : St 116 w0 a W [(9, .int .i64 0), (8, .int .i64 ((k : Nat) : Int)), (7, .slice (some ⟨(X.gl (D.L.length - 1)).1, 0, none⟩) 512 (X.gl (D.L.length - 1)).2), (0, .pointer (some ⟨p, 0, none⟩)), (1, .int .i64 ((n : Nat) : Int)), (2, .slice (some ⟨gb, 0, none⟩) 512 512)] ((p, 67, (rdC (.slice (some ⟨X.gB, 0, none⟩) D.B.length X.capB) (.slice X.A D.L.length X.capL) D.fuse D.dead)) :: (X.gB, 39, X.cB) :: (X.tL ++ (X.rest ++ hh))) := H.pickF (h := [(p, 67, (rdC (.slice (some ⟨X.gB, 0, none⟩) D.B.length X.capB) (.slice X.A D.L.length X.capL) D.fuse D.dead)), (X.gB, 39, X.cB)]) (t := (X.tL ++ (X.rest ++ hh))) [0, 27, 28, 29, 30, 31] [0, 1] rfl
      refine wp_rounds D.L.length (fun j a W => ∃ u1, (u1 = 0 ∧ ∀ i, i < j → ∀ p, D.L[i]? = some p → p.1 = n → b.drop k ≠ p.2.drop k) ∧ St 116 w0 a W [(9, .int .i64 ((j : Nat) : Int)), (8, .int .i64 ((k : Nat) : Int)), (7, .slice (some ⟨(X.gl (D.L.length - 1)).1, 0, none⟩) 512 (X.gl (D.L.length - 1)).2), (0, .pointer (some ⟨p, 0, none⟩)), (1, .int .i64 ((n : Nat) : Int)), (2, .slice (some ⟨gb, 0, none⟩) 512 512)] ((p, 67, (rdC (.slice (some ⟨X.gB, 0, none⟩) D.B.length X.capB) (.slice X.A D.L.length X.capL) D.fuse D.dead)) :: (X.gB, 39, X.cB) :: (X.tL ++ (X.rest ++ hh)))) (k0 := 0) ⟨0, ⟨rfl, fun i hi => absurd hi (Nat.not_lt_zero _)⟩, H⟩ (by omega) ?_
      try clear H a W
      rintro j a W hj ⟨u1, hI, H⟩
      by_cases hj2 : j < D.L.length
      · obtain ⟨⟨nk, bk⟩, hLk⟩ : ∃ q, D.L[j]? = some q := ⟨_, List.getElem?_eq_getElem hj2⟩
        refine wp_seq_k (fun K16 hK16 => ?_)
        refine sqR H gs0 fun Z_ z_ => rS 2 rfl <| rV rfl (does_nilCheckQ rfl rfl) <| rV rfl (does_fieldAddr rfl rfl (fa_rd 1 (by decide))) <| rV rfl (does_loadAt (v := .slice X.A D.L.length X.capL) rfl rfl (k := 0) rfl ld_rd1) <| rV rfl (does_len Try.underlying65 rfl rfl) <| rV rfl (does_binOp rfl rfl rfl (zd_lss_int (k := ((j : Nat) : Int)) (m := ((D.L.length : Nat) : Int)) (decide_eq_true (by omega)) _ _)) <| rN0 z_ ?_
        try clear H a W
        intro a W H
        refine wp_cond_true (H.ev rfl) ?_
        refine wp_skip ?_
        refine hK16 _ _ ?_
        clear hK16
        refine wp_seq_k (fun K18 hK18 => ?_)
        refine wp_block ?_
        refine wp_seq_k (fun K19 hK19 => ?_)
        cases hq2 : decide (((nk : Nat) : Int) = ((n : Nat) : Int)) with
        | true =>
          have hq2p := of_decide_eq_true hq2
          refine d2 (.v 88 _ [] :: .v 89 _ [0] :: .v 90 _ [1] :: .v 91 _ [2] :: .v 92 _ [] :: .v 93 _ [3, 4] :: .v 94 _ [5] :: .v 95 _ [6] :: .v 96 _ [] :: .v 97 _ [7, 8] :: .v 98 _ [9] :: .v 99 _ [10] :: .v 100 _ [10] :: .v 101 _ [11, 12, 10] :: .v 102 _ [13, 10] :: .v 103 _ [10] :: .v 104 _ [15, 10] :: .v 105 _ [16, 10] :: .v 106 _ [17, 10] :: .v 107 _ [10] :: .v 108 _ [18, 19, 10] :: .v 109 _ [20, 10] :: .v 110 _ [21, 10] :: .v 111 _ [10] :: .v 112 _ [22, 23, 10] :: .v 113 _ [24, 10] :: .v 114 _ [14, 25, 10] :: .v 115 _ [10, 26] :: []) (by kernel_rfl) (by kernel_rfl) H gs0 ⟨oS rfl rfl, oV rfl (does_nilCheckQ rfl rfl), oV rfl (does_fieldAddr rfl rfl (fa_rd 1 (by decide))), oV rfl (does_loadAt (v := .slice X.A D.L.length X.capL) rfl rfl (k := 0) rfl ld_rd1), oS rfl rfl, oV rfl (does_indexAddr rfl rfl rfl (ia_lates (j := j) (hat (by omega)).1 (by omega))), oV rfl (does_fieldAddr rfl rfl fa_late0), oV rfl (does_loadMem (v := .int .i64 ((nk : Nat) : Int)) rfl rfl (List.mem_cons_of_mem _ (List.mem_cons_of_mem _ (List.mem_append_left _ (hat (by omega)).2.1))) (fun W hW => ld_numC ((hat (by omega)).2.2 _ _ (hX.rk.lo j _ hLk).1) W hW)), oS rfl rfl, oV rfl (does_binOp rfl rfl rfl (zd_eql_int (k := ((nk : Nat) : Int)) (m := ((n : Nat) : Int)) hq2 _ _)), oS rfl rfl, oS rfl rfl, oS rfl rfl, oV rfl (does_slice rfl rfl (vl := some (.int .i64 ((k : Nat) : Int))) (vh := none) rfl rfl (hi_run (by omega) (Nat.le_refl 512))), fun a W  H _ => ob_strP H (wanted_some rfl rfl rfl rfl rfl) rfl rfl (hi_bf (sl_bf hl_b (H.heap _ (List.mem_cons_of_mem _ (List.mem_cons_of_mem _ (List.mem_append_right _ (List.mem_append_right _ hb)))))) (by omega)), oS rfl rfl, oV rfl (does_nilCheckQ rfl rfl), oV rfl (does_fieldAddr rfl rfl (fa_rd 1 (by decide))), oV rfl (does_loadAt (v := .slice X.A D.L.length X.capL) rfl rfl (k := 0) rfl ld_rd1), oS rfl rfl, oV rfl (does_indexAddr rfl rfl rfl (ia_lates (j := j) (hat (by omega)).1 (by omega))), oV rfl (does_fieldAddr rfl rfl fa_late1), oV rfl (does_loadMem (v := .slice (some ⟨(X.gl j).1, 0, none⟩) 512 (X.gl j).2) rfl rfl (List.mem_cons_of_mem _ (List.mem_cons_of_mem _ (List.mem_append_left _ (hat (by omega)).2.1))) (fun W hW => ld_slB ((hat (by omega)).2.2 _ _ (hX.rk.lo j _ hLk).2.1) W hW)), oS rfl rfl, oV rfl (does_slice rfl rfl (vl := some (.int .i64 ((k : Nat) : Int))) (vh := none) rfl rfl (hi_run (by omega) (hX.rk.lo j _ hLk).2.2.cap)), fun a W  H _ => ob_strP H (wanted_some rfl rfl rfl rfl rfl) rfl rfl (hi_bf (RowB.bf (hX.rk.lo j _ hLk).2.2 H (fun q_ hq_ => (List.mem_cons_of_mem _ (List.mem_cons_of_mem _ (List.mem_append_right _ (List.mem_append_left _ hq_)))))) (by omega)), oV rfl (does_binOp rfl rfl rfl (sd_eqlP (l := (b.drop k)) (m := (bk.drop k)) rfl _ _)), oS rfl rfl, trivial⟩ (rZ0 ?_)
          try clear H a W
          intro a W H
          refine hK19 _ _ ?_
          clear hK19
          cases hq3 : decide ((b.drop k) = (bk.drop k)) with
          | true =>
            rw [hq3] at H
            have hq3p := of_decide_eq_true hq3
            refine wp_cond_true (H.ev rfl) ?_
            refine sqR H gs0 fun Z_ z_ => rS 1 rfl <| rN0 z_ ?_
            try clear H a W
            intro a W H
            refine wp_ret ?_
            repeat (first | (with_reducible refine then_ret ?_) | (with_reducible refine blk_ret ?_))
            refine end_tmp (p := 6) rfl rfl H (fun hb => ?_)
            refine ⟨rfl, ?_⟩
            rw [RX.rows_hh]
            unfold RX.row
            show Kn w0 W ((p, .ty 67, (rdC (.slice (some ⟨X.gB, 0, none⟩) D.B.length X.capB) (.slice X.A D.L.length X.capL) D.fuse D.dead)) :: (X.gB, .ty 39, X.cB) :: (X.tL ++ (X.rest ++ hh)))
            have H_ := H.pickF (h := [(p, .ty 67, (rdC (.slice (some ⟨X.gB, 0, none⟩) D.B.length X.capB) (.slice X.A D.L.length X.capL) D.fuse D.dead)), (X.gB, .ty 39, X.cB)]) (t := (X.tL ++ (X.rest ++ hh))) [] [0, 1] rfl
            exact H_.kn
          | false =>
            rw [hq3] at H
            have hq3p := of_decide_eq_false hq3
            refine wp_cond_false (H.ev rfl) ?_
            refine wp_skip ?_
            refine blk_normal ?_
            refine hK18 _ _ ?_
            clear hK18
            refine rgP H gs0 (rS 1 rfl <| rV rfl (does_binOp rfl rfl rfl (zd_add_int (k := ((j : Nat) : Int)) (m := 1) (c := ((j + 1 : Nat) : Int)) (by omega) (by omega) _ _)) <| rK [1, 1, 1, 1, 1, 1, 1, 1, 1, 1, 1, 1, 1, 1, 1, 1, 1, 1, 1, 1, 1, 1, 1, 1, 1, 1, 1, 1, 1, 1, 1, 1, 1, 1, 1, 1, 1, 0] [] [] <| rS 1 rfl <| rZ0 ?_)
            try clear H a W
            intro a W H
            refine ⟨j + 1, by omega, by omega, 0, ⟨rfl, below_succ (P := fun p => p.1 = n → b.drop k ≠ p.2.drop k) hLk hI.2 (fun _ => hq3p)⟩, ?_⟩
            exact H.pickF (h := [(p, 67, (rdC (.slice (some ⟨X.gB, 0, none⟩) D.B.length X.capB) (.slice X.A D.L.length X.capL) D.fuse D.dead)), (X.gB, 39, X.cB)]) (t := (X.tL ++ (X.rest ++ hh))) [0, 38, 39, 40, 41, 42] [0, 1] rfl
        | false =>
          have hq2p := of_decide_eq_false hq2
          refine d2 (.v 88 _ [] :: .v 89 _ [0] :: .v 90 _ [1] :: .v 91 _ [2] :: .v 92 _ [] :: .v 93 _ [3, 4] :: .v 94 _ [5] :: .v 95 _ [6] :: .v 96 _ [] :: .v 97 _ [7, 8] :: .v 98 _ [9] :: .u 99 [10] :: .u 100 [10] :: .u 101 [11, 12, 10] :: .u 102 [13, 10] :: .u 103 [10] :: .u 104 [15, 10] :: .u 105 [16, 10] :: .u 106 [17, 10] :: .u 107 [10] :: .u 108 [18, 19, 10] :: .u 109 [20, 10] :: .u 110 [21, 10] :: .u 111 [10] :: .u 112 [22, 23, 10] :: .u 113 [24, 10] :: .u 114 [14, 25, 10] :: .v 115 _ [10, 26] :: []) (by kernel_rfl) (by kernel_rfl) H gs0 ⟨oS rfl rfl, oV rfl (does_nilCheckQ rfl rfl), oV rfl (does_fieldAddr rfl rfl (fa_rd 1 (by decide))), oV rfl (does_loadAt (v := .slice X.A D.L.length X.capL) rfl rfl (k := 0) rfl ld_rd1), oS rfl rfl, oV rfl (does_indexAddr rfl rfl rfl (ia_lates (j := j) (hat (by omega)).1 (by omega))), oV rfl (does_fieldAddr rfl rfl fa_late0), oV rfl (does_loadMem (v := .int .i64 ((nk : Nat) : Int)) rfl rfl (List.mem_cons_of_mem _ (List.mem_cons_of_mem _ (List.mem_append_left _ (hat (by omega)).2.1))) (fun W hW => ld_numC ((hat (by omega)).2.2 _ _ (hX.rk.lo j _ hLk).1) W hW)), oS rfl rfl, oV rfl (does_binOp rfl rfl rfl (zd_eql_int (k := ((nk : Nat) : Int)) (m := ((n : Nat) : Int)) hq2 _ _)), oS rfl rfl, oU rfl, oU rfl, oU rfl, oU rfl, oU rfl, oU rfl, oU rfl, oU rfl, oU rfl, oU rfl, oU rfl, oU rfl, oU rfl, oU rfl, oU rfl, oU rfl, oS rfl rfl, trivial⟩ (rZ0 ?_)
          try clear H a W
          intro a W H
          refine hK19 _ _ ?_
          clear hK19
          refine wp_cond_false (H.ev rfl) ?_
          refine wp_skip ?_
          refine blk_normal ?_
          refine hK18 _ _ ?_
          clear hK18
          refine rgP H gs0 (rS 1 rfl <| rV rfl (does_binOp rfl rfl rfl (zd_add_int (k := ((j : Nat) : Int)) (m := 1) (c := ((j + 1 : Nat) : Int)) (by omega) (by omega) _ _)) <| rK [1, 1, 1, 1, 1, 1, 1, 1, 1, 1, 1, 1, 1, 1, 1, 1, 1, 1, 1, 1, 1, 1, 1, 1, 1, 1, 1, 1, 1, 1, 1, 1, 1, 1, 1, 1, 1, 0] [] [] <| rS 1 rfl <| rZ0 ?_)
          try clear H a W
          intro a W H
          refine ⟨j + 1, by omega, by omega, 0, ⟨rfl, below_succ (P := fun p => p.1 = n → b.drop k ≠ p.2.drop k) hLk hI.2 (fun h1 => absurd h1 (by show ¬ nk = n; omega))⟩, ?_⟩
          exact H.pickF (h := [(p, 67, (rdC (.slice (some ⟨X.gB, 0, none⟩) D.B.length X.capB) (.slice X.A D.L.length X.capL) D.fuse D.dead)), (X.gB, 39, X.cB)]) (t := (X.tL ++ (X.rest ++ hh))) [0, 38, 39, 40, 41, 42] [0, 1] rfl
      · obtain rfl : D.L.length = j := by omega
        refine wp_seq_k (fun K21 hK21 => ?_)
        refine sqR H gs0 fun Z_ z_ => rS 2 rfl <| rV rfl (does_nilCheckQ rfl rfl) <| rV rfl (does_fieldAddr rfl rfl (fa_rd 1 (by decide))) <| rV rfl (does_loadAt (v := .slice X.A D.L.length X.capL) rfl rfl (k := 0) rfl ld_rd1) <| rV rfl (does_len Try.underlying65 rfl rfl) <| rV rfl (does_binOp rfl rfl rfl (zd_lss_int (k := ((D.L.length : Nat) : Int)) (m := ((D.L.length : Nat) : Int)) (decide_eq_false (by omega)) _ _)) <| rN0 z_ ?_
        try clear H a W
        intro a W H
        refine wp_cond_false (H.ev rfl) ?_
        refine wp_exit ?_
        repeat (first | (with_reducible refine then_exit ?_) | (with_reducible refine blk_pass (by decide) ?_))
        refine blk_exit ?_
        refine blk_normal ?_
        refine hK9 _ _ ?_
        clear hK9
        refine rgP H gs0 (rS 1 rfl <| rV rfl (does_binOp rfl rfl rfl (zd_add_int (k := ((k : Nat) : Int)) (m := 1) (c := ((k + 1 : Nat) : Int)) (by omega) (by omega) _ _)) <| rK [1, 1, 1, 1, 1, 1, 1, 1, 1, 1, 0] [] [] <| rS 1 rfl <| rZ0 ?_)
        try clear H a W
        intro a W H
        have hne_ : k ≠ kk := fun e_ => by
          have hd_ : b.drop k = old.drop k := by rw [he, e_]; exact torn_drop hkk hq5
          rcases hold with h_ | h_
          · exact hq1p (by rw [hd_, h_])
          · obtain ⟨i, hi⟩ := List.mem_iff_getElem?.1 h_
            exact hI.2 i (List.getElem?_eq_some_iff.1 hi).1 _ hi rfl hd_
        have hle_ := hJ.2
        refine ⟨k + 1, by omega, by omega, 0, ⟨rfl, by omega⟩, ?_⟩
        exact H.pickF (h := [(p, 67, (rdC (.slice (some ⟨X.gB, 0, none⟩) D.B.length X.capB) (.slice X.A D.L.length X.capL) D.fuse D.dead)), (X.gB, 39, X.cB)]) (t := (X.tL ++ (X.rest ++ hh))) [0, 11, 12, 13, 14] [0, 1] rfl
  · obtain rfl : (kk + 1) = k := by omega
    exact absurd hJ.2 (by omega)
theorem ro_one {p : Nat} {D : Dk} {r hh : Hep} (h : RO p D r) {gb : Nat} {t : TypeId} {b : List UInt8} (n : Nat) (hn : n < D.B.length) (hl_b : b.length = 512) (hb : (gb, .ty t, bvs b) ∈ hh) (w0 w : World) (K : Kn w0 w (r ++ hh)) : Calls Try.prog 24 #[.pointer (some ⟨p, 0, none⟩), .int .i64 ((n : Nat) : Int), .slice (some ⟨gb, 0, none⟩) 512 512] w (fun rr w' => ∃ v : Bool, rr = .returned (.bool v) ∧ (v = true ↔ LeftB D.B D.L n b) ∧ Kn w0 w' (r ++ hh)) := by
  obtain ⟨X, rfl, hX⟩ := h
  exact one_x n hn hl_b hb hX w0 w K
theorem ro_tears {p : Nat} {D : Dk} {r hh : Hep} (h : RO p D r) {gb : Nat} {t : TypeId} {b : List UInt8} (n : Nat) (hn : n < D.B.length) (hl_b : b.length = 512) (hb : (gb, .ty t, bvs b) ∈ hh) {kk : Nat} {q old : List UInt8} (hl : D.L.getLast? = some (n, q)) (hkk : kk ≤ 512) (hold : LeftB D.B D.L n old) (he : b = tornB kk q old) (w0 w : World) (K : Kn w0 w (r ++ hh)) : Calls Try.prog 25 #[.pointer (some ⟨p, 0, none⟩), .int .i64 ((n : Nat) : Int), .slice (some ⟨gb, 0, none⟩) 512 512] w (fun rr w' => rr = .returned (.bool true) ∧ Kn w0 w' (r ++ hh)) := by
  obtain ⟨X, rfl, hX⟩ := h
  exact tears_x n hn hl_b hb hl hkk hold he hX w0 w K
end Go.Proofs.Ytiebelmglchbdaa
