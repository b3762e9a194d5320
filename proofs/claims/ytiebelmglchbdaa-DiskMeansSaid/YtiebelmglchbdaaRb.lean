/- The document's disk (layer 14): is there such a block; steps, fuses, writes, new ones, reading. -/
import Derived.Test.YtiebelmglchbdaaRa
namespace Go.Proofs.Ytiebelmglchbdaa
set_option linter.unusedVariables false
set_option linter.unusedSimpArgs false
set_option maxRecDepth 100000
open Go Go.RowKit

theorem NewS.eqz {B : Nat} {h : Hep} {z z' : Array Value} (e : z = z') {v : Value} {w : World} (hv : NewS 512 B h (.ty 5) z v w) : NewS 512 B h (.ty 5) z' v w := e ▸ hv
theorem step_fu {D : Dk} (h : -1 ≤ D.fuse ∧ D.fuse < 9223372036854775808) : -1 ≤ (dStep D).1.fuse ∧ (dStep D).1.fuse < 9223372036854775808 := by
  unfold dStep
  split
  · exact h
  · split
    · exact h
    · show -1 ≤ (if 0 < D.fuse then D.fuse - 1 else D.fuse) ∧ (if 0 < D.fuse then D.fuse - 1 else D.fuse) < _
      split <;> omega
/-- Which slice is read behind k writes. -/
def xR (gu gl : Nat → Nat × Nat) (L : List (Nat × List UInt8)) (n : Nat) : Nat → Nat × Nat
  | 0 => gu n
  | k + 1 => if (L.getD k (0, [])).1 = n then gl k else xR gu gl L n k
theorem xR_row {cB : Array Value} {xs : List Value} {r : Hep} {gu gl : Nat → Nat × Nat} {B : List (List UInt8)} {L : List (Nat × List UInt8)} (h : RK cB xs r gu gl B L) {n : Nat} (hn : n < B.length) : ∀ k, k ≤ L.length → RowB r (xR gu gl L n k) (readK B (L.take k) n)
  | 0, _ => (h.bo n _ (getB hn)).2
  | k + 1, hk => by
    have hl : L[k]? = some L[k] := List.getElem?_eq_getElem (by omega)
    rw [List.take_add_one, hl, Option.toList_some, readK_snoc]
    show RowB r (if _ then _ else _) _
    rw [get_of hl]
    split
    · exact (h.lo k _ hl).2.2
    · exact xR_row h hn k (by omega)
attribute [local irreducible] bvs dwa entsI zeroB lastsB stepP lastN xorB rb dWrite dSync dFuse dCrash dEdit readK
set_option maxHeartbeats 4000000 in
theorem has_r {p nB cB nL cL : Nat} {AB AL : Option Addr} {f : Int} {d : Bool} (n : Int) {hh : Hep} (w0 w : World) (K : Kn w0 w ([(p, .ty 67, rdC (.slice AB nB cB) (.slice AL nL cL) f d)] ++ hh)) : Calls Try.prog 49 #[.pointer (some ⟨p, 0, none⟩), .int .i64 n] w (fun rr w' => rr = .returned (.bool (decide (0 ≤ n ∧ n < ((nB : Nat) : Int)))) ∧ Kn w0 w' ([(p, .ty 67, rdC (.slice AB nB cB) (.slice AL nL cL) f d)] ++ hh)) := by
  refine calls_kn (vs := [.pointer (some ⟨p, 0, none⟩), .int .i64 n]) 16 Try.func49 rfl Try.ntmps49 rfl K (fun a W H => ?_)
  replace H : St 16 w0 a W [(0, .pointer (some ⟨p, 0, none⟩)), (1, .int .i64 n)] ((p, 67, (rdC (.slice AB nB cB) (.slice AL nL cL) f d)) :: hh) := H
  refine sqR H gs0 fun Z_ z_ => rS 1 rfl <| rN0 z_ ?_
  try clear H a W
  intro a W H
  refine wp_seq_k (fun K2 hK2 => ?_)
  cases hq1 : decide (0 ≤ n) with
  | true =>
    have hq1p := of_decide_eq_true hq1
    refine rgP H gs0 (rS 1 rfl <| rV rfl (does_binOp rfl rfl rfl (zd_geq_int (k := n) (m := 0) hq1 _ _)) <| rS 3 rfl <| rV rfl (does_nilCheckQ rfl rfl) <| rV rfl (does_fieldAddr rfl rfl (fa_rd 0 (by decide))) <| rV rfl (does_loadAt (v := .slice AB nB cB) rfl rfl (k := 0) rfl ld_rd0) <| rV rfl (does_len Try.underlying64 rfl rfl) <| rV rfl (does_binOp rfl rfl rfl (zd_lss_int (k := n) (m := ((nB : Nat) : Int)) rfl _ _)) <| rS 1 rfl <| rK [1, 1, 1, 1, 1, 1, 1, 1, 1, 1, 1, 0] [] [] <| rS 1 rfl <| rK [1, 0, 0, 0, 0, 0, 0, 0, 0, 0, 0, 0, 0, 0] [] [] <| rZ0 ?_)
    try clear H a W
    intro a W H
    refine hK2 _ _ ?_
    clear hK2
    refine wp_ret ?_
    repeat (first | (with_reducible refine then_ret ?_) | (with_reducible refine blk_ret ?_))
    refine end_tmp (p := 4) rfl rfl H (fun hb => ?_)
    refine ⟨by rw [show decide (0 ≤ n ∧ n < (nB : Int)) = (decide (n < ((nB : Nat) : Int))) from by first | (rw [decide_eq_decide]; omega) | exact decide_eq_true (by omega) | exact decide_eq_false (by omega)], ?_⟩
    show Kn w0 W ((p, .ty 67, (rdC (.slice AB nB cB) (.slice AL nL cL) f d)) :: hh)
    have H_ := H.pickF (h := [(p, .ty 67, (rdC (.slice AB nB cB) (.slice AL nL cL) f d))]) (t := hh) [] [0] rfl
    exact H_.kn
  | false =>
    have hq1p := of_decide_eq_false hq1
    refine rgP H gs0 (rS 1 rfl <| rV rfl (does_binOp rfl rfl rfl (zd_geq_int (k := n) (m := 0) hq1 _ _)) <| rS 9 rfl <| rK [1, 1, 1, 1, 1, 1, 1, 1, 1, 1, 1, 0] [] [] <| rS 1 rfl <| rK [1, 0, 0, 0, 0, 0, 0, 0, 0, 0, 0, 0, 0, 0] [] [] <| rZ0 ?_)
    try clear H a W
    intro a W H
    refine hK2 _ _ ?_
    clear hK2
    refine wp_ret ?_
    repeat (first | (with_reducible refine then_ret ?_) | (with_reducible refine blk_ret ?_))
    refine end_tmp (p := 4) rfl rfl H (fun hb => ?_)
    refine ⟨by rw [show decide (0 ≤ n ∧ n < (nB : Int)) = false from by first | (rw [decide_eq_decide]; omega) | exact decide_eq_true (by omega) | exact decide_eq_false (by omega)], ?_⟩
    show Kn w0 W ((p, .ty 67, (rdC (.slice AB nB cB) (.slice AL nL cL) f d)) :: hh)
    have H_ := H.pickF (h := [(p, .ty 67, (rdC (.slice AB nB cB) (.slice AL nL cL) f d))]) (t := hh) [] [0] rfl
    exact H_.kn
set_option maxHeartbeats 4000000 in
theorem step_r {p : Nat} {vB vL : Value} (D : Dk) (hfu : -1 ≤ D.fuse ∧ D.fuse < 9223372036854775808) {hh : Hep} (w0 w : World) (K : Kn w0 w ([(p, .ty 67, rdC vB vL D.fuse D.dead)] ++ hh)) : Calls Try.prog 50 #[.pointer (some ⟨p, 0, none⟩)] w (fun rr w' => rr = .returned (.int .i64 (dStep D).2) ∧ Kn w0 w' ([(p, .ty 67, rdC vB vL (dStep D).1.fuse (dStep D).1.dead)] ++ hh)) := by
  refine calls_kn (vs := [.pointer (some ⟨p, 0, none⟩)]) 27 Try.func50 rfl Try.ntmps50 rfl K (fun a W H => ?_)
  replace H : St 27 w0 a W [(0, .pointer (some ⟨p, 0, none⟩))] ((p, 67, (rdC vB vL D.fuse D.dead)) :: hh) := H
  refine sqR H gs0 fun Z_ z_ => rS 1 rfl <| rN0 z_ ?_
  try clear H a W
  intro a W H
  refine wp_seq_k (fun K2 hK2 => ?_)
  refine sqR H gs0 fun Z_ z_ => rS 1 rfl <| rV rfl (does_nilCheckQ rfl rfl) <| rV rfl (does_fieldAddr rfl rfl (fa_rd 3 (by decide))) <| rV rfl (does_loadAt (v := .bool D.dead) rfl rfl (k := 0) rfl ld_rd3) <| rK [1, 0, 0, 0] [] [] <| rN0 z_ ?_
  try clear H a W
  intro a W H
  cases hq1 : D.dead with
  | true =>
    rw [hq1] at H
    try rw [hq1] at H
    replace H : St 27 w0 a W [(6, .bool true), (2, .int .i64 0), (0, .pointer (some ⟨p, 0, none⟩))] ((p, 67, (rdC vB vL D.fuse true)) :: hh) := H
    refine wp_cond_true (H.ev rfl) ?_
    refine sqR H gs0 fun Z_ z_ => rK [1, 0] [] [] <| rS 1 rfl <| rK [1, 0] [] [] <| rN0 z_ ?_
    try clear H a W
    intro a W H
    refine wp_ret ?_
    repeat (first | (with_reducible refine then_ret ?_) | (with_reducible refine blk_ret ?_))
    refine end_tmp (p := 2) rfl rfl H (fun hb => ?_)
    have he : dStep D = (D, 14) := by
      unfold dStep
      rw [if_pos hq1]
    rw [he]
    refine ⟨rfl, ?_⟩
    dsimp only
    rw [hq1]
    show Kn w0 W ((p, .ty 67, (rdC vB vL D.fuse true)) :: hh)
    have H_ := H.pickF (h := [(p, .ty 67, (rdC vB vL D.fuse true))]) (t := hh) [] [0] rfl
    exact H_.kn
  | false =>
    rw [hq1] at H
    try rw [hq1] at H
    replace H : St 27 w0 a W [(6, .bool false), (2, .int .i64 0), (0, .pointer (some ⟨p, 0, none⟩))] ((p, 67, (rdC vB vL D.fuse false)) :: hh) := H
    refine wp_cond_false (H.ev rfl) ?_
    refine wp_skip ?_
    refine hK2 _ _ ?_
    clear hK2
    refine wp_seq_k (fun K5 hK5 => ?_)
    refine sqR H gs0 fun Z_ z_ => rS 1 rfl <| rV rfl (does_nilCheckQ rfl rfl) <| rV rfl (does_fieldAddr rfl rfl (fa_rd 2 (by decide))) <| rV rfl (does_loadAt (v := .int .i64 D.fuse) rfl rfl (k := 0) rfl ld_rd2) <| rV rfl (does_binOp rfl rfl rfl (zd_eql_int (k := D.fuse) (m := 0) rfl _ _)) <| rK [1, 0, 0, 0, 0, 0] [] [] <| rN0 z_ ?_
    try clear H a W
    intro a W H
    cases hq2 : decide (D.fuse = 0) with
    | true =>
      rw [hq2] at H
      have hq2p := of_decide_eq_true hq2
      refine wp_cond_true (H.ev rfl) ?_
      refine sqR H gs0 fun Z_ z_ => rS 1 rfl <| rV rfl (does_nilCheckQ rfl rfl) <| rV rfl (does_fieldAddr rfl rfl (fa_rd 3 (by decide))) <| rX [1] (c := (rdC vB vL D.fuse true)) ⟨rfl, rfl⟩ rfl rfl rfl st_rd3 rfl <| rK [0, 0, 0, 0] [] [] <| rN0 z_ ?_
      try clear H a W
      intro a W H
      refine sqR H gs0 fun Z_ z_ => rK [0] [] [] <| rS 1 rfl <| rN0 z_ ?_
      try clear H a W
      intro a W H
      refine wp_ret ?_
      repeat (first | (with_reducible refine then_ret ?_) | (with_reducible refine blk_ret ?_))
      refine end_tmp (p := 2) rfl rfl H (fun hb => ?_)
      have he : dStep D = ({ D with dead := true }, 17) := by
        unfold dStep
        rw [if_neg (by rw [hq1]; decide)]
        rw [if_pos hq2p]
      rw [he]
      refine ⟨rfl, ?_⟩
      dsimp only
      show Kn w0 W ((p, .ty 67, (rdC vB vL D.fuse true)) :: hh)
      have H_ := H.pickF (h := [(p, .ty 67, (rdC vB vL D.fuse true))]) (t := hh) [] [0] rfl
      exact H_.kn
    | false =>
      rw [hq2] at H
      have hq2p := of_decide_eq_false hq2
      refine wp_cond_false (H.ev rfl) ?_
      refine wp_skip ?_
      refine hK5 _ _ ?_
      clear hK5
      refine wp_seq_k (fun K9 hK9 => ?_)
      refine sqR H gs0 fun Z_ z_ => rS 1 rfl <| rV rfl (does_nilCheckQ rfl rfl) <| rV rfl (does_fieldAddr rfl rfl (fa_rd 2 (by decide))) <| rV rfl (does_loadAt (v := .int .i64 D.fuse) rfl rfl (k := 0) rfl ld_rd2) <| rV rfl (does_binOp rfl rfl rfl (zd_gtr_int (k := D.fuse) (m := 0) rfl _ _)) <| rK [1, 0, 0, 0, 0, 0] [] [] <| rN0 z_ ?_
      try clear H a W
      intro a W H
      cases hq3 : decide (0 < D.fuse) with
      | true =>
        rw [hq3] at H
        have hq3p := of_decide_eq_true hq3
        refine wp_cond_true (H.ev rfl) ?_
        refine rgP H gs0 (rS 1 rfl <| rV rfl (does_nilCheckQ rfl rfl) <| rV rfl (does_fieldAddr rfl rfl (fa_rd 2 (by decide))) <| rV rfl (does_loadAt (v := .int .i64 D.fuse) rfl rfl (k := 0) rfl ld_rd2) <| rV rfl (does_binOp rfl rfl rfl (zd_sub_int (k := D.fuse) (m := 1) (c := D.fuse - 1) rfl (by omega) _ _)) <| rV rfl (does_nilCheckQ rfl rfl) <| rV rfl (does_fieldAddr rfl rfl (fa_rd 2 (by decide))) <| rX [1] (c := (rdC vB vL (D.fuse - 1) false)) ⟨rfl, rfl⟩ rfl rfl rfl st_rd2 rfl <| rK [0, 0, 0, 0, 0, 0, 0, 0, 1, 0] [] [] <| rZ0 ?_)
        try clear H a W
        intro a W H
        refine hK9 _ _ ?_
        clear hK9
        refine sqR H gs0 fun Z_ z_ => rK [0] [] [] <| rS 1 rfl <| rN0 z_ ?_
        try clear H a W
        intro a W H
        refine wp_ret ?_
        repeat (first | (with_reducible refine then_ret ?_) | (with_reducible refine blk_ret ?_))
        refine end_tmp (p := 2) rfl rfl H (fun hb => ?_)
        have he : dStep D = ({ D with fuse := D.fuse - 1 }, 0) := by
          unfold dStep
          rw [if_neg (by rw [hq1]; decide)]
          rw [if_neg hq2p]
          rw [if_pos hq3p]
        rw [he]
        refine ⟨rfl, ?_⟩
        dsimp only
        rw [hq1]
        show Kn w0 W ((p, .ty 67, (rdC vB vL (D.fuse - 1) false)) :: hh)
        have H_ := H.pickF (h := [(p, .ty 67, (rdC vB vL (D.fuse - 1) false))]) (t := hh) [] [0] rfl
        exact H_.kn
      | false =>
        rw [hq3] at H
        have hq3p := of_decide_eq_false hq3
        refine wp_cond_false (H.ev rfl) ?_
        refine wp_skip ?_
        refine hK9 _ _ ?_
        clear hK9
        refine sqR H gs0 fun Z_ z_ => rK [1, 0] [] [] <| rS 1 rfl <| rK [1, 0, 0] [] [] <| rN0 z_ ?_
        try clear H a W
        intro a W H
        refine wp_ret ?_
        repeat (first | (with_reducible refine then_ret ?_) | (with_reducible refine blk_ret ?_))
        refine end_tmp (p := 2) rfl rfl H (fun hb => ?_)
        have he : dStep D = (D, 0) := by
          unfold dStep
          rw [if_neg (by rw [hq1]; decide)]
          rw [if_neg hq2p]
          rw [if_neg hq3p]
        rw [he]
        refine ⟨rfl, ?_⟩
        dsimp only
        rw [hq1]
        show Kn w0 W ((p, .ty 67, (rdC vB vL D.fuse false)) :: hh)
        have H_ := H.pickF (h := [(p, .ty 67, (rdC vB vL D.fuse false))]) (t := hh) [] [0] rfl
        exact H_.kn
set_option maxHeartbeats 4000000 in
theorem rfuse_no {X : RX} {p : Nat} {D : Dk} {hh : Hep} (n : Int) (hno : decide (n < 0) = true) (hX : X.ok D) (w0 w : World) (K : Kn w0 w (X.rows p D ++ hh)) : Calls Try.prog 36 #[.pointer (some ⟨p, 0, none⟩), .int .i64 n] w (fun rr w' => rr = .returned (.int .i64 2) ∧ Kn w0 w' (X.rows p D ++ hh)) := by
  have hnb := hX.nb
  have hfu := hX.fu
  have hnl := hX.nl
  rw [RX.rows_hh] at K
  unfold RX.row at K
  refine calls_kn (vs := [.pointer (some ⟨p, 0, none⟩), .int .i64 n]) 11 Try.func36 rfl Try.ntmps36 rfl K (fun a W H => ?_)
  replace H : St 11 w0 a W [(0, .pointer (some ⟨p, 0, none⟩)), (1, .int .i64 n)] ((p, 67, (rdC (.slice (some ⟨X.gB, 0, none⟩) D.B.length X.capB) (.slice X.A D.L.length X.capL) D.fuse D.dead)) :: (X.gB, 39, X.cB) :: (X.tL ++ (X.rest ++ hh))) := H
  refine sqR H gs0 fun Z_ z_ => rS 1 rfl <| rN0 z_ ?_
  try clear H a W
  intro a W H
  refine wp_seq_k (fun K2 hK2 => ?_)
  refine sqR H gs0 fun Z_ z_ => rS 1 rfl <| rV rfl (does_binOp rfl rfl rfl (zd_lss_int (k := n) (m := 0) hno _ _)) <| rK [1, 0] [] [] <| rN0 z_ ?_
  try clear H a W
  intro a W H
  refine wp_cond_true (H.ev rfl) ?_
  refine sqR H gs0 fun Z_ z_ => rK [1, 0] [] [] <| rS 1 rfl <| rK [1, 0] [] [] <| rN0 z_ ?_
  try clear H a W
  intro a W H
  refine wp_ret ?_
  repeat (first | (with_reducible refine then_ret ?_) | (with_reducible refine blk_ret ?_))
  refine end_tmp (p := 4) rfl rfl H (fun hb => ?_)
  refine ⟨rfl, ?_⟩
  rw [RX.rows_hh]
  unfold RX.row
  show Kn w0 W ((p, .ty 67, (rdC (.slice (some ⟨X.gB, 0, none⟩) D.B.length X.capB) (.slice X.A D.L.length X.capL) D.fuse D.dead)) :: (X.gB, .ty 39, X.cB) :: (X.tL ++ (X.rest ++ hh)))
  have H_ := H.pickF (h := [(p, .ty 67, (rdC (.slice (some ⟨X.gB, 0, none⟩) D.B.length X.capB) (.slice X.A D.L.length X.capL) D.fuse D.dead)), (X.gB, .ty 39, X.cB)]) (t := (X.tL ++ (X.rest ++ hh))) [] [0, 1] rfl
  exact H_.kn
set_option maxHeartbeats 4000000 in
theorem rfuse_yes {X : RX} {p : Nat} {D : Dk} {hh : Hep} (n : Int) (h0 : 0 ≤ n) (h1 : n < 9223372036854775808) (hX : X.ok D) (w0 w : World) (K : Kn w0 w (X.rows p D ++ hh)) : Calls Try.prog 36 #[.pointer (some ⟨p, 0, none⟩), .int .i64 n] w (fun rr w' => ∃ r', rr = .returned (.int .i64 0) ∧ RO p { D with fuse := n } r' ∧ Kn w0 w' (r' ++ hh)) := by
  have hnb := hX.nb
  have hfu := hX.fu
  have hnl := hX.nl
  rw [RX.rows_hh] at K
  unfold RX.row at K
  have hno : decide (n < 0) = false := decide_eq_false (by omega)
  refine calls_kn (vs := [.pointer (some ⟨p, 0, none⟩), .int .i64 n]) 11 Try.func36 rfl Try.ntmps36 rfl K (fun a W H => ?_)
  replace H : St 11 w0 a W [(0, .pointer (some ⟨p, 0, none⟩)), (1, .int .i64 n)] ((p, 67, (rdC (.slice (some ⟨X.gB, 0, none⟩) D.B.length X.capB) (.slice X.A D.L.length X.capL) D.fuse D.dead)) :: (X.gB, 39, X.cB) :: (X.tL ++ (X.rest ++ hh))) := H
  refine sqR H gs0 fun Z_ z_ => rS 1 rfl <| rN0 z_ ?_
  try clear H a W
  intro a W H
  refine wp_seq_k (fun K2 hK2 => ?_)
  refine sqR H gs0 fun Z_ z_ => rS 1 rfl <| rV rfl (does_binOp rfl rfl rfl (zd_lss_int (k := n) (m := 0) hno _ _)) <| rK [1, 0] [] [] <| rN0 z_ ?_
  try clear H a W
  intro a W H
  refine wp_cond_false (H.ev rfl) ?_
  refine wp_skip ?_
  refine hK2 _ _ ?_
  clear hK2
  refine sqR H gs0 fun Z_ z_ => rS 2 rfl <| rV rfl (does_nilCheckQ rfl rfl) <| rV rfl (does_fieldAddr rfl rfl (fa_rd 2 (by decide))) <| rX [1] (c := (rdC (.slice (some ⟨X.gB, 0, none⟩) D.B.length X.capB) (.slice X.A D.L.length X.capL) n D.dead)) ⟨rfl, rfl⟩ rfl rfl rfl st_rd2 rfl <| rK [0, 0, 0, 0, 0, 1, 0, 0] [] [] <| rN0 z_ ?_
  try clear H a W
  intro a W H
  refine sqR H gs0 fun Z_ z_ => rK [0] [] [] <| rS 1 rfl <| rN0 z_ ?_
  try clear H a W
  intro a W H
  refine wp_ret ?_
  repeat (first | (with_reducible refine then_ret ?_) | (with_reducible refine blk_ret ?_))
  refine end_tmp (p := 4) rfl rfl H (fun hb => ?_)
  have eR : RX.row X { D with fuse := n } = rdC (.slice (some ⟨X.gB, 0, none⟩) D.B.length X.capB) (.slice X.A D.L.length X.capL) n D.dead := by rfl
  refine ⟨RX.rows X p { D with fuse := n }, rfl, ⟨X, rfl, ⟨hX.od, hX.rk, ⟨hX.dk.B, hX.dk.L⟩, hX.nb, hX.nl, by show -1 ≤ n ∧ n < _; omega⟩⟩, ?_⟩
  rw [RX.rows_hh, eR]
  try dsimp only
  show Kn w0 W ((p, .ty 67, (rdC (.slice (some ⟨X.gB, 0, none⟩) D.B.length X.capB) (.slice X.A D.L.length X.capL) n D.dead)) :: (X.gB, .ty 39, X.cB) :: (X.tL ++ (X.rest ++ hh)))
  have H_ := H.pickF (h := [(p, .ty 67, (rdC (.slice (some ⟨X.gB, 0, none⟩) D.B.length X.capB) (.slice X.A D.L.length X.capL) n D.dead)), (X.gB, .ty 39, X.cB)]) (t := (X.tL ++ (X.rest ++ hh))) [] [0, 1] rfl
  exact H_.kn
set_option maxHeartbeats 4000000 in
theorem rwrite_no1 {X : RX} {p : Nat} {D : Dk} {hh : Hep} {Ab : Option Addr} {kb cb : Nat} (hkb : kb < 9223372036854775808) (n : Int) (hno : decide (0 ≤ n ∧ n < ((D.B.length : Nat) : Int)) = false) (hX : X.ok D) (w0 w : World) (K : Kn w0 w (X.rows p D ++ hh)) : Calls Try.prog 34 #[.pointer (some ⟨p, 0, none⟩), .int .i64 n, .slice Ab kb cb] w (fun rr w' => rr = .returned (.int .i64 2) ∧ Kn w0 w' (X.rows p D ++ hh)) := by
  have hnb := hX.nb
  have hfu := hX.fu
  have hnl := hX.nl
  rw [RX.rows_hh] at K
  unfold RX.row at K
  refine calls_kn (vs := [.pointer (some ⟨p, 0, none⟩), .int .i64 n, .slice Ab kb cb]) 35 Try.func34 rfl Try.ntmps34 rfl K (fun a W H => ?_)
  replace H : St 35 w0 a W [(0, .pointer (some ⟨p, 0, none⟩)), (1, .int .i64 n), (2, .slice Ab kb cb)] ((p, 67, (rdC (.slice (some ⟨X.gB, 0, none⟩) D.B.length X.capB) (.slice X.A D.L.length X.capL) D.fuse D.dead)) :: (X.gB, 39, X.cB) :: (X.tL ++ (X.rest ++ hh))) := H
  refine sqR H gs0 fun Z_ z_ => rS 1 rfl <| rN0 z_ ?_
  try clear H a W
  intro a W H
  refine wp_seq_k (fun K2 hK2 => ?_)
  refine wp_seq_k (fun K3 hK3 => ?_)
  refine rgP H gs0 (rS 2 rfl <| rI0 ?_)
  try clear H a W
  intro a W H
  refine pl_callV rfl rfl ⟨_, Try.func49, by kernel_rfl⟩ rfl (fun K_ => by have h_ := has_r (hh := ([(X.gB, .ty 39, X.cB)] ++ (X.tL ++ (X.rest ++ hh)))) n w0 _ K_; rw [hno] at h_; exact h_) H ?_
  try clear H a W
  intro a W H
  replace H : St 35 w0 a W [(10, .bool false), (9, .int .i64 n), (8, .pointer (some ⟨p, 0, none⟩)), (6, .int .i64 0), (0, .pointer (some ⟨p, 0, none⟩)), (1, .int .i64 n), (2, .slice Ab kb cb)] ((p, 67, (rdC (.slice (some ⟨X.gB, 0, none⟩) D.B.length X.capB) (.slice X.A D.L.length X.capL) D.fuse D.dead)) :: (X.gB, 39, X.cB) :: (X.tL ++ (X.rest ++ hh))) := H
  refine rgO H gs0 (rS 6 rfl <| rK [1, 0, 0, 0, 0, 0, 0, 0, 0] [] [] <| rZ0 ?_)
  try clear H a W
  intro a W H
  refine hK3 _ _ ?_
  clear hK3
  refine wp_cond_true (H.ev rfl) ?_
  refine sqR H gs0 fun Z_ z_ => rK [1, 0] [] [] <| rS 1 rfl <| rK [1, 0] [] [] <| rN0 z_ ?_
  try clear H a W
  intro a W H
  refine wp_ret ?_
  repeat (first | (with_reducible refine then_ret ?_) | (with_reducible refine blk_ret ?_))
  refine end_tmp (p := 6) rfl rfl H (fun hb => ?_)
  refine ⟨rfl, ?_⟩
  rw [RX.rows_hh]
  unfold RX.row
  show Kn w0 W ((p, .ty 67, (rdC (.slice (some ⟨X.gB, 0, none⟩) D.B.length X.capB) (.slice X.A D.L.length X.capL) D.fuse D.dead)) :: (X.gB, .ty 39, X.cB) :: (X.tL ++ (X.rest ++ hh)))
  have H_ := H.pickF (h := [(p, .ty 67, (rdC (.slice (some ⟨X.gB, 0, none⟩) D.B.length X.capB) (.slice X.A D.L.length X.capL) D.fuse D.dead)), (X.gB, .ty 39, X.cB)]) (t := (X.tL ++ (X.rest ++ hh))) [] [0, 1] rfl
  exact H_.kn
set_option maxHeartbeats 4000000 in
theorem rwrite_no2 {X : RX} {p : Nat} {D : Dk} {hh : Hep} {Ab : Option Addr} {kb cb : Nat} (hkb : kb < 9223372036854775808) (n : Nat) (hn : n < D.B.length) (hno : decide (((kb : Nat) : Int) ≠ 512) = true) (hX : X.ok D) (w0 w : World) (K : Kn w0 w (X.rows p D ++ hh)) : Calls Try.prog 34 #[.pointer (some ⟨p, 0, none⟩), .int .i64 ((n : Nat) : Int), .slice Ab kb cb] w (fun rr w' => rr = .returned (.int .i64 2) ∧ Kn w0 w' (X.rows p D ++ hh)) := by
  have hnb := hX.nb
  have hfu := hX.fu
  have hnl := hX.nl
  rw [RX.rows_hh] at K
  unfold RX.row at K
  have hhas : decide (0 ≤ ((n : Nat) : Int) ∧ ((n : Nat) : Int) < ((D.B.length : Nat) : Int)) = true := decide_eq_true (by omega)
  refine calls_kn (vs := [.pointer (some ⟨p, 0, none⟩), .int .i64 ((n : Nat) : Int), .slice Ab kb cb]) 35 Try.func34 rfl Try.ntmps34 rfl K (fun a W H => ?_)
  replace H : St 35 w0 a W [(0, .pointer (some ⟨p, 0, none⟩)), (1, .int .i64 ((n : Nat) : Int)), (2, .slice Ab kb cb)] ((p, 67, (rdC (.slice (some ⟨X.gB, 0, none⟩) D.B.length X.capB) (.slice X.A D.L.length X.capL) D.fuse D.dead)) :: (X.gB, 39, X.cB) :: (X.tL ++ (X.rest ++ hh))) := H
  refine sqR H gs0 fun Z_ z_ => rS 1 rfl <| rN0 z_ ?_
  try clear H a W
  intro a W H
  refine wp_seq_k (fun K2 hK2 => ?_)
  refine wp_seq_k (fun K3 hK3 => ?_)
  refine rgP H gs0 (rS 2 rfl <| rI0 ?_)
  try clear H a W
  intro a W H
  refine pl_callV rfl rfl ⟨_, Try.func49, by kernel_rfl⟩ rfl (fun K_ => by have h_ := has_r (hh := ([(X.gB, .ty 39, X.cB)] ++ (X.tL ++ (X.rest ++ hh)))) ((n : Nat) : Int) w0 _ K_; rw [hhas] at h_; exact h_) H ?_
  try clear H a W
  intro a W H
  replace H : St 35 w0 a W [(10, .bool true), (9, .int .i64 ((n : Nat) : Int)), (8, .pointer (some ⟨p, 0, none⟩)), (6, .int .i64 0), (0, .pointer (some ⟨p, 0, none⟩)), (1, .int .i64 ((n : Nat) : Int)), (2, .slice Ab kb cb)] ((p, 67, (rdC (.slice (some ⟨X.gB, 0, none⟩) D.B.length X.capB) (.slice X.A D.L.length X.capL) D.fuse D.dead)) :: (X.gB, 39, X.cB) :: (X.tL ++ (X.rest ++ hh))) := H
  refine rgO H gs0 (rS 3 rfl <| rV rfl (does_len Try.underlying39 rfl rfl) <| rV rfl (does_binOp rfl rfl rfl (zd_neq_int (k := ((kb : Nat) : Int)) (m := 512) hno _ _)) <| rS 1 rfl <| rK [1, 0, 0, 0, 0, 0, 0, 0, 0] [] [] <| rZ0 ?_)
  try clear H a W
  intro a W H
  refine hK3 _ _ ?_
  clear hK3
  refine wp_cond_true (H.ev rfl) ?_
  refine sqR H gs0 fun Z_ z_ => rK [1, 0] [] [] <| rS 1 rfl <| rK [1, 0] [] [] <| rN0 z_ ?_
  try clear H a W
  intro a W H
  refine wp_ret ?_
  repeat (first | (with_reducible refine then_ret ?_) | (with_reducible refine blk_ret ?_))
  refine end_tmp (p := 6) rfl rfl H (fun hb => ?_)
  refine ⟨rfl, ?_⟩
  rw [RX.rows_hh]
  unfold RX.row
  show Kn w0 W ((p, .ty 67, (rdC (.slice (some ⟨X.gB, 0, none⟩) D.B.length X.capB) (.slice X.A D.L.length X.capL) D.fuse D.dead)) :: (X.gB, .ty 39, X.cB) :: (X.tL ++ (X.rest ++ hh)))
  have H_ := H.pickF (h := [(p, .ty 67, (rdC (.slice (some ⟨X.gB, 0, none⟩) D.B.length X.capB) (.slice X.A D.L.length X.capL) D.fuse D.dead)), (X.gB, .ty 39, X.cB)]) (t := (X.tL ++ (X.rest ++ hh))) [] [0, 1] rfl
  exact H_.kn
set_option maxHeartbeats 4000000 in
theorem rwrite_yes {X : RX} {p : Nat} {D : Dk} {hh : Hep} {gb : Nat} {b : List UInt8} (n : Nat) (hn : n < D.B.length) (hl_b : b.length = 512) (hb : (gb, .ty 5, bvs b) ∈ hh) (hnl2 : D.L.length < 10000) (hX : X.ok D) (w0 w : World) (K : Kn w0 w (X.rows p D ++ hh)) : Calls Try.prog 34 #[.pointer (some ⟨p, 0, none⟩), .int .i64 ((n : Nat) : Int), .slice (some ⟨gb, 0, none⟩) 512 512] w (fun rr w' => ∃ r', rr = .returned (.int .i64 (dWrite D ((n : Nat) : Int) b).2) ∧ RO p (dWrite D ((n : Nat) : Int) b).1 r' ∧ Kn w0 w' (r' ++ hh)) := by
  have hnb := hX.nb
  have hfu := hX.fu
  have hnl := hX.nl
  rw [RX.rows_hh] at K
  unfold RX.row at K
  have hhas : decide (0 ≤ ((n : Nat) : Int) ∧ ((n : Nat) : Int) < ((D.B.length : Nat) : Int)) = true := decide_eq_true (by omega)
  obtain ⟨hsB, hsL⟩ := step_same D
  have hhas' : hasB D ((n : Nat) : Int) := by unfold hasB; omega
  have hok1 : (dStep D).1.ok := ⟨by rw [hsB]; exact hX.dk.B, by rw [hsB, hsL]; exact hX.dk.L⟩
  have hfu1 := step_fu hfu
  refine calls_kn (vs := [.pointer (some ⟨p, 0, none⟩), .int .i64 ((n : Nat) : Int), .slice (some ⟨gb, 0, none⟩) 512 512]) 35 Try.func34 rfl Try.ntmps34 rfl K (fun a W H => ?_)
  replace H : St 35 w0 a W [(0, .pointer (some ⟨p, 0, none⟩)), (1, .int .i64 ((n : Nat) : Int)), (2, .slice (some ⟨gb, 0, none⟩) 512 512)] ((p, 67, (rdC (.slice (some ⟨X.gB, 0, none⟩) D.B.length X.capB) (.slice X.A D.L.length X.capL) D.fuse D.dead)) :: (X.gB, 39, X.cB) :: (X.tL ++ (X.rest ++ hh))) := H
  refine sqR H gs0 fun Z_ z_ => rS 1 rfl <| rN0 z_ ?_
  try clear H a W
  intro a W H
  refine wp_seq_k (fun K2 hK2 => ?_)
  refine wp_seq_k (fun K3 hK3 => ?_)
  refine rgP H gs0 (rS 2 rfl <| rI0 ?_)
  try clear H a W
  intro a W H
  refine pl_callV rfl rfl ⟨_, Try.func49, by kernel_rfl⟩ rfl (fun K_ => by have h_ := has_r (hh := ([(X.gB, .ty 39, X.cB)] ++ (X.tL ++ (X.rest ++ hh)))) ((n : Nat) : Int) w0 _ K_; rw [hhas] at h_; exact h_) H ?_
  try clear H a W
  intro a W H
  replace H : St 35 w0 a W [(10, .bool true), (9, .int .i64 ((n : Nat) : Int)), (8, .pointer (some ⟨p, 0, none⟩)), (6, .int .i64 0), (0, .pointer (some ⟨p, 0, none⟩)), (1, .int .i64 ((n : Nat) : Int)), (2, .slice (some ⟨gb, 0, none⟩) 512 512)] ((p, 67, (rdC (.slice (some ⟨X.gB, 0, none⟩) D.B.length X.capB) (.slice X.A D.L.length X.capL) D.fuse D.dead)) :: (X.gB, 39, X.cB) :: (X.tL ++ (X.rest ++ hh))) := H
  refine rgO H gs0 (rS 3 rfl <| rV rfl (does_len Try.underlying39 rfl rfl) <| rV rfl (does_binOp rfl rfl rfl (zd_neq_int (k := ((512 : Nat) : Int)) (m := 512) (decide_eq_false (by decide)) _ _)) <| rS 1 rfl <| rK [1, 0, 0, 0, 0, 0, 0, 0, 0] [] [] <| rZ0 ?_)
  try clear H a W
  intro a W H
  refine hK3 _ _ ?_
  clear hK3
  refine wp_cond_false (H.ev rfl) ?_
  refine wp_skip ?_
  refine hK2 _ _ ?_
  clear hK2
  refine wp_seq_k (fun K4 hK4 => ?_)
  refine rgP H gs0 (rS 1 rfl <| rI0 ?_)
  try clear H a W
  intro a W H
  refine pl_callV rfl rfl ⟨_, Try.func50, by kernel_rfl⟩ rfl (fun K_ => step_r (hh := ([(X.gB, .ty 39, X.cB)] ++ (X.tL ++ (X.rest ++ hh)))) D hfu w0 _ K_) H ?_
  try clear H a W
  intro a W H
  replace H : St 35 w0 a W [(18, .int .i64 ((dStep D).2)), (17, .pointer (some ⟨p, 0, none⟩)), (16, .bool false), (6, .int .i64 0), (0, .pointer (some ⟨p, 0, none⟩)), (1, .int .i64 ((n : Nat) : Int)), (2, .slice (some ⟨gb, 0, none⟩) 512 512)] ((p, 67, (rdC (.slice (some ⟨X.gB, 0, none⟩) D.B.length X.capB) (.slice X.A D.L.length X.capL) ((dStep D).1.fuse) ((dStep D).1.dead))) :: (X.gB, 39, X.cB) :: (X.tL ++ (X.rest ++ hh))) := H
  refine rgO H gs0 (rS 1 rfl <| rK [1, 0, 0, 0] [] [] <| rZ0 ?_)
  try clear H a W
  intro a W H
  refine hK4 _ _ ?_
  clear hK4
  refine wp_seq_k (fun K5 hK5 => ?_)
  refine sqR H gs0 fun Z_ z_ => rS 1 rfl <| rV rfl (does_binOp rfl rfl rfl (zd_neq_int (k := ((dStep D).2)) (m := 14) rfl _ _)) <| rK [1, 0] [] [] <| rN0 z_ ?_
  try clear H a W
  intro a W H
  cases hq1 : decide (((dStep D).2) ≠ 14) with
  | true =>
    rw [hq1] at H
    have hq1p := of_decide_eq_true hq1
    refine wp_cond_true (H.ev rfl) ?_
    refine d2P [.v 21 _ [], .v 22 _ [], .v 23 _ [1], .v 24 _ [2], .v 25 _ [3], .v 26 _ [], .v 27 _ [], .f 28 _ [6], .f 29 _ [5, 7], .f 30 _ [8]] 0 rfl rfl rfl (runP H rfl) (by kernel_rfl) (fun _ _ _ _ _ h => h) (by kernel_rfl) (by kernel_rfl) H gs0 ⟨oS rfl rfl, oS rfl rfl, oV rfl (does_nilCheckQ rfl rfl), oV rfl (does_fieldAddr rfl rfl (fa_rd 1 (by decide))), oV rfl (does_loadAt (v := .slice X.A D.L.length X.capL) rfl rfl (k := 0) rfl ld_rd1), oS rfl rfl, oS rfl rfl, ⟨fun a W  H _ => ob_app0S H (wanted_none rfl) rfl rfl (sl_bf hl_b (H.heap _ (List.mem_cons_of_mem _ (List.mem_cons_of_mem _ (List.mem_append_right _ (List.mem_append_right _ hb)))))) (by first | omega | (simp only [List.length_take, List.length_drop]; omega)), fun _ => inferInstance⟩, ⟨fun a W v28 hv28 H _ => ob_late H (wanted_none rfl) rfl rfl rfl hv28, fun _ => inferInstance⟩, ⟨fun a W v29 hv29 H _ => ob_boxL H (wanted_none rfl) rfl rfl hv29, fun _ => inferInstance⟩, trivial⟩ (fun v28 v29 v30 => rI ?_)
    try clear H a W
    rintro a W H ⟨hv30, hv29, hv28, -⟩
    obtain ⟨gn, capn, curn, gx, rfl, hun, hnn, H⟩ := boxL_told hv30 hl_b H
    replace H : St 35 w0 a W [(30, .slice (some ⟨gx, 0, none⟩) 1 1), (29, v29), (28, v28), (27, .slice (some ⟨gb, 0, none⟩) 512 512), (26, .int .i64 ((n : Nat) : Int)), (25, .slice X.A D.L.length X.capL), (24, .pointer (some ⟨p, 1, none⟩)), (23, .pointer (some ⟨p, 0, none⟩)), (22, .pointer (some ⟨p, 0, none⟩)), (21, .pointer (some ⟨p, 0, none⟩)), (20, .bool true), (7, .int .i64 ((dStep D).2)), (6, .int .i64 0), (0, .pointer (some ⟨p, 0, none⟩)), (1, .int .i64 ((n : Nat) : Int)), (2, .slice (some ⟨gb, 0, none⟩) 512 512)] ((gx, 87, (ltC ((n : Nat) : Int) (.slice (some ⟨gn, 0, none⟩) 512 capn))) :: (gn, 5, curn) :: (p, 67, (rdC (.slice (some ⟨X.gB, 0, none⟩) D.B.length X.capB) (.slice X.A D.L.length X.capL) ((dStep D).1.fuse) ((dStep D).1.dead))) :: (X.gB, 39, X.cB) :: (X.tL ++ (X.rest ++ hh))) := H
    refine pl_appE (h := [(gx, .ty 87, (ltC ((n : Nat) : Int) (.slice (some ⟨gn, 0, none⟩) 512 capn))), (gn, .ty 5, curn), (p, .ty 67, (rdC (.slice (some ⟨X.gB, 0, none⟩) D.B.length X.capB) (.slice X.A D.L.length X.capL) ((dStep D).1.fuse) ((dStep D).1.dead))), (X.gB, .ty 39, X.cB)]) (t := X.tL) (hh := (X.rest ++ hh)) (k := 0) (news := [.int .i64 ((n : Nat) : Int), .slice (some ⟨gn, 0, none⟩) 512 capn]) Try.underlying65 info_lateA rfl (by decide) (by decide) rfl rfl (by simp [Value.oneCell']) rfl rfl rfl hX.od (by omega) rfl rfl rfl rfl H ?_
    try clear H a W
    intro A2 cap2 t2 a W hod2 H
    replace H : St 35 w0 a W [(31, .slice A2 (D.L.length + 1) cap2), (30, .slice (some ⟨gx, 0, none⟩) 1 1), (29, v29), (28, v28), (27, .slice (some ⟨gb, 0, none⟩) 512 512), (26, .int .i64 ((n : Nat) : Int)), (25, .slice X.A D.L.length X.capL), (24, .pointer (some ⟨p, 1, none⟩)), (23, .pointer (some ⟨p, 0, none⟩)), (22, .pointer (some ⟨p, 0, none⟩)), (21, .pointer (some ⟨p, 0, none⟩)), (20, .bool true), (7, .int .i64 ((dStep D).2)), (6, .int .i64 0), (0, .pointer (some ⟨p, 0, none⟩)), (1, .int .i64 ((n : Nat) : Int)), (2, .slice (some ⟨gb, 0, none⟩) 512 512)] ((gx, 87, (ltC ((n : Nat) : Int) (.slice (some ⟨gn, 0, none⟩) 512 capn))) :: (gn, 5, curn) :: (p, 67, (rdC (.slice (some ⟨X.gB, 0, none⟩) D.B.length X.capB) (.slice X.A D.L.length X.capL) ((dStep D).1.fuse) ((dStep D).1.dead))) :: (X.gB, 39, X.cB) :: (t2 ++ (X.rest ++ hh))) := H
    refine rgO H gs0 (rV rfl (does_nilCheckQ rfl rfl) <| rV rfl (does_fieldAddr rfl rfl (fa_rd 1 (by decide))) <| rX [0, 0, 1] (c := (rdC (.slice (some ⟨X.gB, 0, none⟩) D.B.length X.capB) (.slice A2 (D.L.length + 1) cap2) ((dStep D).1.fuse) ((dStep D).1.dead))) ⟨rfl, rfl⟩ rfl rfl rfl st_rd1 rfl <| rK [0, 0, 0, 0, 0, 0, 0, 0, 0, 0, 0, 0, 0, 0, 1, 1, 0, 0, 0] [0] [] <| rZ0 ?_)
    try clear H a W
    intro a W H
    refine hK5 _ _ ?_
    clear hK5
    refine sqR H gs0 fun Z_ z_ => rS 1 rfl <| rK [1, 1, 0] [] [] <| rS 1 rfl <| rK [1, 0, 0] [] [] <| rN0 z_ ?_
    try clear H a W
    intro a W H
    refine wp_ret ?_
    repeat (first | (with_reducible refine then_ret ?_) | (with_reducible refine blk_ret ?_))
    refine end_tmp (p := 6) rfl rfl H (fun hb => ?_)
    have he14 : ¬ (dStep D).2 = 14 := hq1p
    have eW : dWrite D ((n : Nat) : Int) b = (Dk.mk D.B (D.L ++ [(n, b)]) (dStep D).1.fuse (dStep D).1.dead, (dStep D).2) := by
      unfold dWrite
      rw [if_pos ⟨hhas', hl_b⟩, if_neg he14, Int.toNat_natCast]
      rw [← hsB]
    have hok2 := write_ok hX.dk ((n : Nat) : Int) b
    rw [eW] at hok2
    rw [eW]
    replace H : St 35 w0 a W [(6, .int .i64 ((dStep D).2))] ((gn, .ty 5, curn) :: ([(p, .ty 67, (rdC (.slice (some ⟨X.gB, 0, none⟩) D.B.length X.capB) (.slice A2 (D.L.length + 1) cap2) ((dStep D).1.fuse) ((dStep D).1.dead))), (X.gB, .ty 39, X.cB)] ++ (t2 ++ (X.rest ++ hh)))) := H.pickF (h := [(gn, 5, curn), (p, 67, (rdC (.slice (some ⟨X.gB, 0, none⟩) D.B.length X.capB) (.slice A2 (D.L.length + 1) cap2) ((dStep D).1.fuse) ((dStep D).1.dead))), (X.gB, 39, X.cB)]) (t := (t2 ++ (X.rest ++ hh))) [0] [0, 1, 2] rfl
    replace H := H.store1
    replace H : St 35 w0 a W [(6, .int .i64 ((dStep D).2))] ((p, 67, (rdC (.slice (some ⟨X.gB, 0, none⟩) D.B.length X.capB) (.slice A2 (D.L.length + 1) cap2) ((dStep D).1.fuse) ((dStep D).1.dead))) :: (X.gB, 39, X.cB) :: (t2 ++ (((gn, .ty 5, curn) :: X.rest) ++ hh))) := H
    have eR : RX.row (RX.mk X.gB X.cB X.capB A2 cap2 (X.xs ++ [.int .i64 ((n : Nat) : Int), .slice (some ⟨gn, 0, none⟩) 512 capn]) t2 ((gn, .ty 5, curn) :: X.rest) X.gu (fun k => if k = D.L.length then (gn, capn) else X.gl k)) (Dk.mk D.B (D.L ++ [(n, b)]) (dStep D).1.fuse (dStep D).1.dead) = rdC (.slice (some ⟨X.gB, 0, none⟩) D.B.length X.capB) (.slice A2 (D.L.length + 1) cap2) ((dStep D).1.fuse) ((dStep D).1.dead) := by unfold RX.row; dsimp only; rw [List.length_append]; rfl
    refine ⟨RX.rows (RX.mk X.gB X.cB X.capB A2 cap2 (X.xs ++ [.int .i64 ((n : Nat) : Int), .slice (some ⟨gn, 0, none⟩) 512 capn]) t2 ((gn, .ty 5, curn) :: X.rest) X.gu (fun k => if k = D.L.length then (gn, capn) else X.gl k)) p (Dk.mk D.B (D.L ++ [(n, b)]) (dStep D).1.fuse (dStep D).1.dead), rfl, ⟨(RX.mk X.gB X.cB X.capB A2 cap2 (X.xs ++ [.int .i64 ((n : Nat) : Int), .slice (some ⟨gn, 0, none⟩) 512 capn]) t2 ((gn, .ty 5, curn) :: X.rest) X.gu (fun k => if k = D.L.length then (gn, capn) else X.gl k)), rfl, ⟨by show OutD _ _ _ (.slice _ (D.L ++ [(n, b)]).length _) (D.L ++ [(n, b)]).length _; rw [List.length_append]; exact hod2, hX.rk.snocL (p := (n, b)) hun (fun q_ hq_ => hnn q_ (List.mem_cons_of_mem _ (List.mem_cons_of_mem _ (List.mem_append_right _ (List.mem_append_left _ hq_))))), hok2, hX.nb, by show (D.L ++ [(n, b)]).length ≤ 10000; rw [List.length_append]; show D.L.length + 1 ≤ 10000; omega, hfu1⟩⟩, ?_⟩
    rw [RX.rows_hh, eR]
    try dsimp only
    show Kn w0 W ((p, .ty 67, (rdC (.slice (some ⟨X.gB, 0, none⟩) D.B.length X.capB) (.slice A2 (D.L.length + 1) cap2) ((dStep D).1.fuse) ((dStep D).1.dead))) :: (X.gB, .ty 39, X.cB) :: (t2 ++ (((gn, .ty 5, curn) :: X.rest) ++ hh)))
    have H_ := H.pickF (h := [(p, .ty 67, (rdC (.slice (some ⟨X.gB, 0, none⟩) D.B.length X.capB) (.slice A2 (D.L.length + 1) cap2) ((dStep D).1.fuse) ((dStep D).1.dead))), (X.gB, .ty 39, X.cB)]) (t := (t2 ++ (((gn, .ty 5, curn) :: X.rest) ++ hh))) [] [0, 1] rfl
    exact H_.kn
  | false =>
    rw [hq1] at H
    have hq1p := of_decide_eq_false hq1
    refine wp_cond_false (H.ev rfl) ?_
    refine wp_skip ?_
    refine hK5 _ _ ?_
    clear hK5
    refine sqR H gs0 fun Z_ z_ => rS 1 rfl <| rK [1, 1, 1, 0] [] [] <| rS 1 rfl <| rK [1, 0, 0, 0, 0, 0, 0] [] [] <| rN0 z_ ?_
    try clear H a W
    intro a W H
    refine wp_ret ?_
    repeat (first | (with_reducible refine then_ret ?_) | (with_reducible refine blk_ret ?_))
    refine end_tmp (p := 6) rfl rfl H (fun hb => ?_)
    have he14 : (dStep D).2 = 14 := by have h_ := hq1p; omega
    unfold dWrite
    rw [if_pos ⟨hhas', hl_b⟩, if_pos he14]
    have eR : RX.row X (dStep D).1 = rdC (.slice (some ⟨X.gB, 0, none⟩) D.B.length X.capB) (.slice X.A D.L.length X.capL) ((dStep D).1.fuse) ((dStep D).1.dead) := by unfold RX.row; rw [hsB, hsL]
    refine ⟨RX.rows X p (dStep D).1, rfl, ⟨X, rfl, ⟨by rw [hsL]; exact hX.od, by rw [hsB, hsL]; exact hX.rk, hok1, by rw [hsB]; exact hX.nb, by rw [hsL]; exact hX.nl, hfu1⟩⟩, ?_⟩
    rw [RX.rows_hh, eR]
    try dsimp only
    show Kn w0 W ((p, .ty 67, (rdC (.slice (some ⟨X.gB, 0, none⟩) D.B.length X.capB) (.slice X.A D.L.length X.capL) ((dStep D).1.fuse) ((dStep D).1.dead))) :: (X.gB, .ty 39, X.cB) :: (X.tL ++ (X.rest ++ hh)))
    have H_ := H.pickF (h := [(p, .ty 67, (rdC (.slice (some ⟨X.gB, 0, none⟩) D.B.length X.capB) (.slice X.A D.L.length X.capL) ((dStep D).1.fuse) ((dStep D).1.dead))), (X.gB, .ty 39, X.cB)]) (t := (X.tL ++ (X.rest ++ hh))) [] [0, 1] rfl
    exact H_.kn
set_option maxHeartbeats 4000000 in
theorem rread_no {X : RX} {p : Nat} {D : Dk} {hh : Hep} (n : Int) (hno : decide (0 ≤ n ∧ n < ((D.B.length : Nat) : Int)) = false) (hX : X.ok D) (w0 w : World) (K : Kn w0 w (X.rows p D ++ hh)) : Calls Try.prog 39 #[.pointer (some ⟨p, 0, none⟩), .int .i64 n] w (fun rr w' => rr = .returned (.tuple #[.slice none 0 0, .int .i64 2]) ∧ Kn w0 w' (X.rows p D ++ hh)) := by
  have hnb := hX.nb
  have hfu := hX.fu
  have hnl := hX.nl
  rw [RX.rows_hh] at K
  unfold RX.row at K
  refine calls_kn (vs := [.pointer (some ⟨p, 0, none⟩), .int .i64 n]) 48 Try.func39 rfl Try.ntmps39 rfl K (fun a W H => ?_)
  replace H : St 48 w0 a W [(0, .pointer (some ⟨p, 0, none⟩)), (1, .int .i64 n)] ((p, 67, (rdC (.slice (some ⟨X.gB, 0, none⟩) D.B.length X.capB) (.slice X.A D.L.length X.capL) D.fuse D.dead)) :: (X.gB, 39, X.cB) :: (X.tL ++ (X.rest ++ hh))) := H
  refine sqR H gs0 fun Z_ z_ => rS 2 rfl <| rN0 z_ ?_
  try clear H a W
  intro a W H
  refine wp_seq_k (fun K2 hK2 => ?_)
  refine wp_seq_k (fun K3 hK3 => ?_)
  refine rgP H gs0 (rS 2 rfl <| rI0 ?_)
  try clear H a W
  intro a W H
  refine pl_callV rfl rfl ⟨_, Try.func49, by kernel_rfl⟩ rfl (fun K_ => by have h_ := has_r (hh := ([(X.gB, .ty 39, X.cB)] ++ (X.tL ++ (X.rest ++ hh)))) n w0 _ K_; rw [hno] at h_; exact h_) H ?_
  try clear H a W
  intro a W H
  replace H : St 48 w0 a W [(10, .bool false), (9, .int .i64 n), (8, .pointer (some ⟨p, 0, none⟩)), (5, .int .i64 0), (4, .slice none 0 0), (0, .pointer (some ⟨p, 0, none⟩)), (1, .int .i64 n)] ((p, 67, (rdC (.slice (some ⟨X.gB, 0, none⟩) D.B.length X.capB) (.slice X.A D.L.length X.capL) D.fuse D.dead)) :: (X.gB, 39, X.cB) :: (X.tL ++ (X.rest ++ hh))) := H
  refine rgO H gs0 (rS 1 rfl <| rK [1, 0, 0, 0] [] [] <| rZ0 ?_)
  try clear H a W
  intro a W H
  refine hK3 _ _ ?_
  clear hK3
  refine wp_cond_true (H.ev rfl) ?_
  refine sqR H gs0 fun Z_ z_ => rK [1, 1, 0] [] [] <| rS 1 rfl <| rK [1, 1, 0] [] [] <| rS 1 rfl <| rK [1, 1, 0] [] [] <| rN0 z_ ?_
  try clear H a W
  intro a W H
  refine wp_ret ?_
  repeat (first | (with_reducible refine then_ret ?_) | (with_reducible refine blk_ret ?_))
  refine end_tmps2 (p := 4) (q := 5) rfl rfl rfl H (fun hb => ?_)
  refine ⟨rfl, ?_⟩
  rw [RX.rows_hh]
  unfold RX.row
  show Kn w0 W ((p, .ty 67, (rdC (.slice (some ⟨X.gB, 0, none⟩) D.B.length X.capB) (.slice X.A D.L.length X.capL) D.fuse D.dead)) :: (X.gB, .ty 39, X.cB) :: (X.tL ++ (X.rest ++ hh)))
  have H_ := H.pickF (h := [(p, .ty 67, (rdC (.slice (some ⟨X.gB, 0, none⟩) D.B.length X.capB) (.slice X.A D.L.length X.capL) D.fuse D.dead)), (X.gB, .ty 39, X.cB)]) (t := (X.tL ++ (X.rest ++ hh))) [] [0, 1] rfl
  exact H_.kn
set_option maxHeartbeats 4000000 in
theorem rread_yes {X : RX} {p : Nat} {D : Dk} {hh : Hep} (n : Nat) (hn : n < D.B.length) (hX : X.ok D) (w0 w : World) (K : Kn w0 w (X.rows p D ++ hh)) : Calls Try.prog 39 #[.pointer (some ⟨p, 0, none⟩), .int .i64 ((n : Nat) : Int)] w (fun rr w' => ∃ i : Nat × Nat × Array Value, rr = .returned (.tuple #[.slice (some ⟨i.1, 0, none⟩) 512 i.2.1, .int .i64 0]) ∧ US8 i.2.2 512 i.2.1 (readB D n) ∧ Kn w0 w' ((i.1, .ty 5, i.2.2) :: (X.rows p D ++ hh))) := by
  have hnb := hX.nb
  have hfu := hX.fu
  have hnl := hX.nl
  rw [RX.rows_hh] at K
  unfold RX.row at K
  have hhas : decide (0 ≤ ((n : Nat) : Int) ∧ ((n : Nat) : Int) < ((D.B.length : Nat) : Int)) = true := decide_eq_true (by omega)
  have hl_r := read_len hX.dk hn
  have hrd : RowB X.rest (xR X.gu X.gl D.L n D.L.length) (readB D n) := by have h_ := xR_row hX.rk hn D.L.length (Nat.le_refl _); rw [List.take_length] at h_; exact h_
  obtain ⟨gL, cL, hat⟩ := hX.at_
  refine calls_kn (vs := [.pointer (some ⟨p, 0, none⟩), .int .i64 ((n : Nat) : Int)]) 48 Try.func39 rfl Try.ntmps39 rfl K (fun a W H => ?_)
  replace H : St 48 w0 a W [(0, .pointer (some ⟨p, 0, none⟩)), (1, .int .i64 ((n : Nat) : Int))] ((p, 67, (rdC (.slice (some ⟨X.gB, 0, none⟩) D.B.length X.capB) (.slice X.A D.L.length X.capL) D.fuse D.dead)) :: (X.gB, 39, X.cB) :: (X.tL ++ (X.rest ++ hh))) := H
  refine sqR H gs0 fun Z_ z_ => rS 2 rfl <| rN0 z_ ?_
  try clear H a W
  intro a W H
  refine wp_seq_k (fun K2 hK2 => ?_)
  refine wp_seq_k (fun K3 hK3 => ?_)
  refine rgP H gs0 (rS 2 rfl <| rI0 ?_)
  try clear H a W
  intro a W H
  refine pl_callV rfl rfl ⟨_, Try.func49, by kernel_rfl⟩ rfl (fun K_ => by have h_ := has_r (hh := ([(X.gB, .ty 39, X.cB)] ++ (X.tL ++ (X.rest ++ hh)))) ((n : Nat) : Int) w0 _ K_; rw [hhas] at h_; exact h_) H ?_
  try clear H a W
  intro a W H
  replace H : St 48 w0 a W [(10, .bool true), (9, .int .i64 ((n : Nat) : Int)), (8, .pointer (some ⟨p, 0, none⟩)), (5, .int .i64 0), (4, .slice none 0 0), (0, .pointer (some ⟨p, 0, none⟩)), (1, .int .i64 ((n : Nat) : Int))] ((p, 67, (rdC (.slice (some ⟨X.gB, 0, none⟩) D.B.length X.capB) (.slice X.A D.L.length X.capL) D.fuse D.dead)) :: (X.gB, 39, X.cB) :: (X.tL ++ (X.rest ++ hh))) := H
  refine rgO H gs0 (rS 1 rfl <| rK [1, 0, 0, 0] [] [] <| rZ0 ?_)
  try clear H a W
  intro a W H
  refine hK3 _ _ ?_
  clear hK3
  refine wp_cond_false (H.ev rfl) ?_
  refine wp_skip ?_
  refine hK2 _ _ ?_
  clear hK2
  refine sqR H gs0 fun Z_ z_ => rS 1 rfl <| rV rfl (does_nilCheckQ rfl rfl) <| rV rfl (does_fieldAddr rfl rfl (fa_rd 0 (by decide))) <| rV rfl (does_loadAt (v := .slice (some ⟨X.gB, 0, none⟩) D.B.length X.capB) rfl rfl (k := 0) rfl ld_rd0) <| rS 1 rfl <| rV rfl (does_indexAddr rfl rfl rfl (ia_rows0 (j := n) (by omega))) <| rV rfl (does_loadAt (v := .slice (some ⟨(X.gu n).1, 0, none⟩) 512 (X.gu n).2) rfl rfl (k := 1) rfl (ld_slB (hX.rk.bo n _ (getB (by omega))).1)) <| rS 1 rfl <| rK [1, 0, 0, 0, 0, 0, 0, 0, 0] [] [] <| rN0 z_ ?_
  try clear H a W
  intro a W H
  refine wp_seq_k (fun K5 hK5 => ?_)
  refine sqR H gs0 fun Z_ z_ => rS 1 rfl <| rN0 z_ ?_
  try clear H a W
  intro a W H
  refine wp_block ?_
  replace H : St 48 w0 a W [(7, .int .i64 ((0 : Nat) : Int)), (6, .slice (some ⟨(xR X.gu X.gl D.L n 0).1, 0, none⟩) 512 (xR X.gu X.gl D.L n 0).2), (5, .int .i64 0), (4, .slice none 0 0), (0, .pointer (some ⟨p, 0, none⟩)), (1, .int .i64 ((n : Nat) : Int))] ((p, 67, (rdC (.slice (some ⟨X.gB, 0, none⟩) D.B.length X.capB) (.slice X.A D.L.length X.capL) D.fuse D.dead)) :: (X.gB, 39, X.cB) :: (X.tL ++ (X.rest ++ hh))) := H.pickF (h := [(p, 67, (rdC (.slice (some ⟨X.gB, 0, none⟩) D.B.length X.capB) (.slice X.A D.L.length X.capL) D.fuse D.dead)), (X.gB, 39, X.cB)]) (t := (X.tL ++ (X.rest ++ hh))) [0, 1, 2, 3, 4, 5] [0, 1] rfl
  refine wp_rounds D.L.length (fun k a W => St 48 w0 a W [(7, .int .i64 ((k : Nat) : Int)), (6, .slice (some ⟨(xR X.gu X.gl D.L n k).1, 0, none⟩) 512 (xR X.gu X.gl D.L n k).2), (5, .int .i64 0), (4, .slice none 0 0), (0, .pointer (some ⟨p, 0, none⟩)), (1, .int .i64 ((n : Nat) : Int))] ((p, 67, (rdC (.slice (some ⟨X.gB, 0, none⟩) D.B.length X.capB) (.slice X.A D.L.length X.capL) D.fuse D.dead)) :: (X.gB, 39, X.cB) :: (X.tL ++ (X.rest ++ hh)))) (k0 := 0) H (by omega) ?_
  try clear H a W
  intro k a W hk H
  by_cases hk2 : k < D.L.length
  · obtain ⟨⟨nk, bk⟩, hLk⟩ : ∃ q, D.L[k]? = some q := ⟨_, List.getElem?_eq_getElem hk2⟩
    refine wp_seq_k (fun K7 hK7 => ?_)
    refine sqR H gs0 fun Z_ z_ => rS 2 rfl <| rV rfl (does_nilCheckQ rfl rfl) <| rV rfl (does_fieldAddr rfl rfl (fa_rd 1 (by decide))) <| rV rfl (does_loadAt (v := .slice X.A D.L.length X.capL) rfl rfl (k := 0) rfl ld_rd1) <| rV rfl (does_len Try.underlying65 rfl rfl) <| rV rfl (does_binOp rfl rfl rfl (zd_lss_int (k := ((k : Nat) : Int)) (m := ((D.L.length : Nat) : Int)) (decide_eq_true (by omega)) _ _)) <| rN0 z_ ?_
    try clear H a W
    intro a W H
    refine wp_cond_true (H.ev rfl) ?_
    refine wp_skip ?_
    refine hK7 _ _ ?_
    clear hK7
    refine wp_seq_k (fun K9 hK9 => ?_)
    refine wp_block ?_
    refine sqR H gs0 fun Z_ z_ => rS 1 rfl <| rV rfl (does_nilCheckQ rfl rfl) <| rV rfl (does_fieldAddr rfl rfl (fa_rd 1 (by decide))) <| rV rfl (does_loadAt (v := .slice X.A D.L.length X.capL) rfl rfl (k := 0) rfl ld_rd1) <| rS 1 rfl <| rV rfl (does_indexAddr rfl rfl rfl (ia_lates (j := k) (hat (by omega)).1 (by omega))) <| rV rfl (does_fieldAddr rfl rfl fa_late0) <| rV rfl (does_loadMem (v := .int .i64 ((nk : Nat) : Int)) rfl rfl (List.mem_cons_of_mem _ (List.mem_cons_of_mem _ (List.mem_append_left _ (hat (by omega)).2.1))) (fun W hW => ld_numC ((hat (by omega)).2.2 _ _ (hX.rk.lo k _ hLk).1) W hW)) <| rS 1 rfl <| rV rfl (does_binOp rfl rfl rfl (zd_eql_int (k := ((nk : Nat) : Int)) (m := ((n : Nat) : Int)) rfl _ _)) <| rN0 z_ ?_
    try clear H a W
    intro a W H
    cases hq1 : decide (((nk : Nat) : Int) = ((n : Nat) : Int)) with
    | true =>
      rw [hq1] at H
      have hq1p := of_decide_eq_true hq1
      refine wp_cond_true (H.ev rfl) ?_
      refine rgP H gs0 (rS 1 rfl <| rV rfl (does_nilCheckQ rfl rfl) <| rV rfl (does_fieldAddr rfl rfl (fa_rd 1 (by decide))) <| rV rfl (does_loadAt (v := .slice X.A D.L.length X.capL) rfl rfl (k := 0) rfl ld_rd1) <| rS 1 rfl <| rV rfl (does_indexAddr rfl rfl rfl (ia_lates (j := k) (hat (by omega)).1 (by omega))) <| rV rfl (does_fieldAddr rfl rfl fa_late1) <| rV rfl (does_loadMem (v := .slice (some ⟨(X.gl k).1, 0, none⟩) 512 (X.gl k).2) rfl rfl (List.mem_cons_of_mem _ (List.mem_cons_of_mem _ (List.mem_append_left _ (hat (by omega)).2.1))) (fun W hW => ld_slB ((hat (by omega)).2.2 _ _ (hX.rk.lo k _ hLk).2.1) W hW)) <| rK [1, 1, 1, 1, 1, 1, 1, 1, 1, 1, 1, 1, 1, 1, 1, 1, 1, 1, 1, 1, 1, 1, 1, 1, 1, 1, 0] [] [] <| rS 1 rfl <| rZ0 ?_)
      try clear H a W
      intro a W H
      refine blk_normal ?_
      refine hK9 _ _ ?_
      clear hK9
      refine rgP H gs0 (rS 1 rfl <| rV rfl (does_binOp rfl rfl rfl (zd_add_int (k := ((k : Nat) : Int)) (m := 1) (c := ((k + 1 : Nat) : Int)) (by omega) (by omega) _ _)) <| rK [1, 1, 1, 1, 1, 1, 1, 1, 1, 1, 1, 1, 1, 1, 1, 1, 1, 1, 1, 1, 1, 1, 1, 1, 1, 1, 1, 1, 0] [] [] <| rS 1 rfl <| rZ0 ?_)
      try clear H a W
      intro a W H
      refine ⟨k + 1, by omega, by omega, ?_⟩
      show St 48 w0 a W [(7, .int .i64 ((k + 1 : Nat) : Int)), (6, .slice (some ⟨(xR X.gu X.gl D.L n (k + 1)).1, 0, none⟩) 512 (xR X.gu X.gl D.L n (k + 1)).2), (5, .int .i64 0), (4, .slice none 0 0), (0, .pointer (some ⟨p, 0, none⟩)), (1, .int .i64 ((n : Nat) : Int))] ((p, 67, (rdC (.slice (some ⟨X.gB, 0, none⟩) D.B.length X.capB) (.slice X.A D.L.length X.capL) D.fuse D.dead)) :: (X.gB, 39, X.cB) :: (X.tL ++ (X.rest ++ hh)))
      rw [show xR X.gu X.gl D.L n (k + 1) = X.gl k from by show (if _ then _ else _) = _; rw [get_of hLk]; exact if_pos (by show nk = n; omega)]
      exact H.pickF (h := [(p, 67, (rdC (.slice (some ⟨X.gB, 0, none⟩) D.B.length X.capB) (.slice X.A D.L.length X.capL) D.fuse D.dead)), (X.gB, 39, X.cB)]) (t := (X.tL ++ (X.rest ++ hh))) [0, 3, 29, 30, 31, 32] [0, 1] rfl
    | false =>
      rw [hq1] at H
      have hq1p := of_decide_eq_false hq1
      refine wp_cond_false (H.ev rfl) ?_
      refine wp_skip ?_
      refine blk_normal ?_
      refine hK9 _ _ ?_
      clear hK9
      refine rgP H gs0 (rS 1 rfl <| rV rfl (does_binOp rfl rfl rfl (zd_add_int (k := ((k : Nat) : Int)) (m := 1) (c := ((k + 1 : Nat) : Int)) (by omega) (by omega) _ _)) <| rK [1, 1, 1, 1, 1, 1, 1, 1, 1, 1, 1, 1, 1, 1, 1, 1, 1, 1, 1, 0] [] [] <| rS 1 rfl <| rZ0 ?_)
      try clear H a W
      intro a W H
      refine ⟨k + 1, by omega, by omega, ?_⟩
      show St 48 w0 a W [(7, .int .i64 ((k + 1 : Nat) : Int)), (6, .slice (some ⟨(xR X.gu X.gl D.L n (k + 1)).1, 0, none⟩) 512 (xR X.gu X.gl D.L n (k + 1)).2), (5, .int .i64 0), (4, .slice none 0 0), (0, .pointer (some ⟨p, 0, none⟩)), (1, .int .i64 ((n : Nat) : Int))] ((p, 67, (rdC (.slice (some ⟨X.gB, 0, none⟩) D.B.length X.capB) (.slice X.A D.L.length X.capL) D.fuse D.dead)) :: (X.gB, 39, X.cB) :: (X.tL ++ (X.rest ++ hh)))
      rw [show xR X.gu X.gl D.L n (k + 1) = xR X.gu X.gl D.L n k from by show (if _ then _ else _) = _; rw [get_of hLk]; exact if_neg (by show ¬ nk = n; omega)]
      exact H.pickF (h := [(p, 67, (rdC (.slice (some ⟨X.gB, 0, none⟩) D.B.length X.capB) (.slice X.A D.L.length X.capL) D.fuse D.dead)), (X.gB, 39, X.cB)]) (t := (X.tL ++ (X.rest ++ hh))) [0, 20, 21, 22, 23, 24] [0, 1] rfl
  · obtain rfl : D.L.length = k := by omega
    refine wp_seq_k (fun K11 hK11 => ?_)
    refine sqR H gs0 fun Z_ z_ => rS 2 rfl <| rV rfl (does_nilCheckQ rfl rfl) <| rV rfl (does_fieldAddr rfl rfl (fa_rd 1 (by decide))) <| rV rfl (does_loadAt (v := .slice X.A D.L.length X.capL) rfl rfl (k := 0) rfl ld_rd1) <| rV rfl (does_len Try.underlying65 rfl rfl) <| rV rfl (does_binOp rfl rfl rfl (zd_lss_int (k := ((D.L.length : Nat) : Int)) (m := ((D.L.length : Nat) : Int)) (decide_eq_false (by omega)) _ _)) <| rK [1, 0, 0, 0, 0, 0, 0] [] [] <| rN0 z_ ?_
    try clear H a W
    intro a W H
    refine wp_cond_false (H.ev rfl) ?_
    refine wp_exit ?_
    repeat (first | (with_reducible refine then_exit ?_) | (with_reducible refine blk_pass (by decide) ?_))
    refine blk_exit ?_
    refine hK5 _ _ ?_
    clear hK5
    refine wp_seq_k (fun K13 hK13 => ?_)
    refine rgP H gs0 (rS 1 rfl <| rO rfl (fun a W H _ => ob_app0S H (wanted_none rfl) rfl rfl (RowB.bf hrd H (fun q_ hq_ => (List.mem_cons_of_mem _ (List.mem_cons_of_mem _ (List.mem_append_right _ (List.mem_append_left _ hq_)))))) (by first | omega | (simp only [List.length_take, List.length_drop]; omega))) fun v47 => rI ?_)
    try clear H a W
    rintro a W H ⟨hv47, -⟩
    obtain ⟨gn1, capgn1, curgn1, rfl, hugn1, hngn1, H⟩ := ofs_told hv47 hl_r H
    replace H : St 48 w0 a W [(47, .slice (some ⟨gn1, 0, none⟩) 512 capgn1), (46, .slice (some ⟨(xR X.gu X.gl D.L n D.L.length).1, 0, none⟩) 512 (xR X.gu X.gl D.L n D.L.length).2), (25, .bool false), (7, .int .i64 ((D.L.length : Nat) : Int)), (6, .slice (some ⟨(xR X.gu X.gl D.L n D.L.length).1, 0, none⟩) 512 (xR X.gu X.gl D.L n D.L.length).2), (5, .int .i64 0), (4, .slice none 0 0), (0, .pointer (some ⟨p, 0, none⟩)), (1, .int .i64 ((n : Nat) : Int))] ((gn1, 5, curgn1) :: (p, 67, (rdC (.slice (some ⟨X.gB, 0, none⟩) D.B.length X.capB) (.slice X.A D.L.length X.capL) D.fuse D.dead)) :: (X.gB, 39, X.cB) :: (X.tL ++ (X.rest ++ hh))) := H
    refine rgO H gs0 (rK [1, 1, 1, 1, 1, 1, 0] [] [] <| rS 1 rfl <| rK [1, 1, 1, 1, 1, 1, 0] [] [] <| rS 1 rfl <| rK [1, 1, 0, 0, 0, 0, 0, 0, 0] [] [] <| rZ0 ?_)
    try clear H a W
    intro a W H
    refine hK13 _ _ ?_
    clear hK13
    refine wp_ret ?_
    repeat (first | (with_reducible refine then_ret ?_) | (with_reducible refine blk_ret ?_))
    refine end_tmps2 (p := 4) (q := 5) rfl rfl rfl H (fun hb => ?_)
    refine ⟨(gn1, capgn1, curgn1), rfl, hugn1, ?_⟩
    show Kn w0 W (((gn1, .ty 5, curgn1) :: X.rows p D) ++ hh)
    rw [List.cons_append, RX.rows_hh]
    unfold RX.row
    show Kn w0 W ((gn1, .ty 5, curgn1) :: (p, .ty 67, (rdC (.slice (some ⟨X.gB, 0, none⟩) D.B.length X.capB) (.slice X.A D.L.length X.capL) D.fuse D.dead)) :: (X.gB, .ty 39, X.cB) :: (X.tL ++ (X.rest ++ hh)))
    have H_ := H.pickF (h := [(gn1, .ty 5, curgn1), (p, .ty 67, (rdC (.slice (some ⟨X.gB, 0, none⟩) D.B.length X.capB) (.slice X.A D.L.length X.capL) D.fuse D.dead)), (X.gB, .ty 39, X.cB)]) (t := (X.tL ++ (X.rest ++ hh))) [] [0, 1, 2] rfl
    exact H_.kn
end Go.Proofs.Ytiebelmglchbdaa
