/- Layer 14's laws: DiskPlays. -/
import Derived.Test.YtiebelmglchbdaaRh
namespace Go.Proofs.Ytiebelmglchbdaa
set_option linter.unusedVariables false
set_option linter.unusedSimpArgs false
set_option maxRecDepth 100000
open Go Go.RowKit

theorem Kn.permP {w0 w : World} {h h' : Hep} (hp : h.Perm h') (K : Kn w0 w h) : Kn w0 w h' := ⟨K.below, fun p hx => K.heap p (hp.mem_iff.2 hx), fun p hx => K.own p (hp.mem_iff.2 hx), hp.pairwise K.apart fun h1 h2 => h1 h2.symm⟩
theorem Kn.callP {w0 w w' : World} {h : Hep} (K : Kn w0 w h) (hb : Below w.heap.size w w') : Kn w0 w' h := ⟨K.below.trans (hb.mono K.below.size), fun p hp => (K.heap p hp).below hb (K.heap p hp).lt, K.own, K.apart⟩
/-- Both disks, behind so many of a round's calls. -/
def PC (w0 : World) (p1 p2 : Nat) (D' : Dk) (r1 r2 hh : Hep) : Nat → World → Prop
  | 0, w => Kn w0 w (r1 ++ (r2 ++ hh))
  | 1, w => ∃ r1', PO p1 D' r1' ∧ Kn w0 w (r1' ++ (r2 ++ hh))
  | _, w => ∃ r1' r2', PO p1 D' r1' ∧ RO p2 D' r2' ∧ Kn w0 w (r1' ++ (r2' ++ hh))
theorem PC.call {w0 : World} {p1 p2 : Nat} {D' : Dk} {r1 r2 hh : Hep} : ∀ (j : Nat) (w w' : World), PC w0 p1 p2 D' r1 r2 hh j w → Below w.heap.size w w' → PC w0 p1 p2 D' r1 r2 hh j w'
  | 0, w, w', h, hb => Kn.callP h hb
  | 1, w, w', ⟨r, hP, K⟩, hb => ⟨r, hP, K.callP hb⟩
  | j + 2, w, w', ⟨r, s, hP, hR, K⟩, hb => ⟨r, s, hP, hR, K.callP hb⟩
theorem St.below0 {n : Nat} {w0 : World} {e : Env} : ∀ (a : Act) (w w' : World), St n w0 a w e [] → Below w0.heap.size w0 w' → St n w0 a w' e [] := fun a w w' H hb => ⟨H.size, H.defers, H.env, hb, fun p hp => (by cases hp), fun p hp => (by cases hp), List.Pairwise.nil⟩
theorem ch3 {x y z : Nat} : ∀ i, (Nat.beq i x || Nat.beq i y || Nat.beq i z) = true → ∃ j, j < 3 ∧ [x, y, z].getD j 0 = i := fun i h => by
  rw [Bool.or_eq_true, Bool.or_eq_true] at h
  rcases h with (h | h) | h
  · exact ⟨0, by decide, (Nat.eq_of_beq_eq_true h).symm⟩
  · exact ⟨1, by decide, (Nat.eq_of_beq_eq_true h).symm⟩
  · exact ⟨2, by decide, (Nat.eq_of_beq_eq_true h).symm⟩
section
variable {P : Program} {n : Nat} {w0 w : World} {a : Act} {e : Env} {h : Hep} {Q : Exit → Act → World → Prop} {ops : Array Oper} {o : Oper}
theorem ObJ.callC {f : FuncId} {args : List Operand} {tys : Array TypeId} {vs : List Value} {V : Value} {C : World → Prop} {R : Rel} (hw : Region.wanted o (yielded ops a.tmps) = true) (ho : o.op = .call { callee := .value (.func f), args := args.toArray, argTypes := tys }) (hf : Ours P f) (hx : sevs e args = some vs) (H : St n w0 a w e h)
    (hc : Calls P f vs.toArray w (fun r w' => r = .returned V ∧ R w w' ∧ C w')) : ObJ P ops Q o a w (fun a' w' => ∃ v, a' = a.put o.dst v ∧ R w w' ∧ v = V ∧ C w') := .inl ⟨hw, by
  unfold Oper.wp
  rw [run_call ho hf rfl, H.evs hx, Oper.upon_enter]
  refine hc.mono ?_
  rintro r W' ⟨rfl, h1, h2⟩
  exact ⟨V, rfl, h1, rfl, h2⟩⟩
end
section
variable {w0 w : World} {p1 p2 : Nat} {D : Dk} {r1 r2 hh : Hep} {x : SH}
theorem pc_0 (hP : PO p1 D r1) (hx : SOk w0 w0.heap.size x) (hl : D.L.length < 10000) (hc : PC w0 p1 p2 (dDo D x.s).1 r1 r2 hh 0 w) : Calls Try.prog 15 #[.pointer (some ⟨p1, 0, none⟩), .agg x.cs] w (fun r w' => r = .returned (.int .i64 (dDo D x.s).2) ∧ Below w0.heap.size w0 w' ∧ PC w0 p1 p2 (dDo D x.s).1 r1 r2 hh 1 w') := by
  refine (do_K w0 w hP x hx hl hc).mono ?_
  rintro rr w' ⟨r', e, hP', K⟩
  exact ⟨e, K.below, r', hP', K⟩
theorem pc_1 (hR : RO p2 D r2) (hx : SOk w0 w0.heap.size x) (hl : D.L.length < 10000) (hc : PC w0 p1 p2 (dDo D x.s).1 r1 r2 hh 1 w) : Calls Try.prog 16 #[.pointer (some ⟨p2, 0, none⟩), .agg x.cs] w (fun r w' => r = .returned (.int .i64 (dDo D x.s).2) ∧ Below w0.heap.size w0 w' ∧ PC w0 p1 p2 (dDo D x.s).1 r1 r2 hh 2 w') := by
  obtain ⟨r1', hP', K⟩ := hc
  refine (do_R w0 w hR x hx hl (K.permP (List.perm_append_comm_assoc r1' r2 hh))).mono ?_
  rintro rr w' ⟨r', e, hR', K'⟩
  exact ⟨e, K'.below, r1', r', hP', hR', K'.permP (List.perm_append_comm_assoc r' r1' hh)⟩
theorem pc_2 {D' : Dk} (hc : PC w0 p1 p2 D' r1 r2 hh 2 w) : Calls Try.prog 17 #[.pointer (some ⟨p1, 0, none⟩), .pointer (some ⟨p2, 0, none⟩)] w (fun r w' => r = .returned (.bool true) ∧ Below w0.heap.size w0 w' ∧ PC w0 p1 p2 D' r1 r2 hh 3 w') := by
  obtain ⟨r1', r2', hP', hR', K⟩ := hc
  refine (looks_K hP' hR' w0 w K).mono ?_
  rintro rr w' ⟨e, K'⟩
  exact ⟨e, K'.below, r1', r2', hP', hR', K'⟩
end
attribute [local irreducible] bvs dwa entsI zeroB lastsB stepP lastN xorB rb dWrite dSync dFuse dCrash dEdit dDo readB
set_option maxHeartbeats 32000000 in
theorem plays_neg {A : Option Addr} {len cap gl ol : Nat} {sub : Nat → SH} (bl : Int) (h1 : decide (bl < 1) = true) (w : World) (hL : SL w A len cap gl ol sub) : Calls Try.prog 3 #[.int .i64 bl, .slice A len cap] w (fun rr w' => rr = .returned (.bool true) ∧ Below w.heap.size w w') := by
  have hmax := hL.max_
  have hbig := max_big
  have h40 : decide (40 < bl) = false := decide_eq_false (by have h_ := of_decide_eq_true h1; omega)
  refine calls_st (vs := [.int .i64 bl, .slice A len cap]) 76 Try.func3 rfl Try.ntmps3 rfl (fun a W H => ?_)
  replace H : St 76 w a W [(0, .int .i64 bl), (1, .slice A len cap)] (([] : Hep)) := H
  refine sqR H gs0 fun Z_ z_ => rS 1 rfl <| rN0 z_ ?_
  try clear H a W
  intro a W H
  refine wp_seq_k (fun K2 hK2 => ?_)
  refine wp_seq_k (fun K3 hK3 => ?_)
  refine rg_plain ?_
  refine rgO H gs0 (rS 1 rfl <| rI0 ?_)
  try clear H a W
  intro a W H
  refine pl_callX rfl rfl ⟨_, Try.func10, by kernel_rfl⟩ rfl (fun K_ => much_K (M := 80) w _ hL (by decide) K_) H ?_
  try clear H a W
  rintro b1 a W hb1 H
  replace H : St 76 w a W [(10, .bool b1), (9, .slice A len cap), (4, .bool false), (0, .int .i64 bl), (1, .slice A len cap)] (([] : Hep)) := H
  cases hq1 : b1 with
  | true =>
    rw [hq1] at H
    refine rgO H gs0 (rS 8 rfl <| rK [1, 0, 0, 0, 0, 0, 0, 0, 0, 0] [] [] <| rZ0 ?_)
    try clear H a W
    intro a W H
    refine hK3 _ _ ?_
    clear hK3
    refine wp_cond_true (H.ev rfl) ?_
    refine sqR H gs0 fun Z_ z_ => rV rfl (does_call rfl ⟨_, Try.func11, by kernel_rfl⟩ rfl (fun W hb => known_any W)) <| rK [1, 1, 0] [] [] <| rS 1 rfl <| rK [1, 0, 0] [] [] <| rN0 z_ ?_
    try clear H a W
    intro a W H
    refine wp_ret ?_
    repeat (first | (with_reducible refine then_ret ?_) | (with_reducible refine blk_ret ?_))
    refine end_tmp (p := 4) rfl rfl H (fun hb => ?_)
    exact ⟨rfl, hb⟩
  | false =>
    rw [hq1] at H
    have hlen := hb1 hq1
    refine rgO H gs0 (rS 2 rfl <| rV rfl (does_binOp rfl rfl rfl (zd_gtr_int (k := bl) (m := 40) h40 _ _)) <| rS 5 rfl <| rK [1, 0, 0, 0, 0, 0, 0, 0, 0, 0] [] [] <| rZ0 ?_)
    try clear H a W
    intro a W H
    refine hK3 _ _ ?_
    clear hK3
    refine wp_cond_false (H.ev rfl) ?_
    refine wp_skip ?_
    refine hK2 _ _ ?_
    clear hK2
    refine wp_seq_k (fun K5 hK5 => ?_)
    refine rgP H gs0 (rS 1 rfl <| rI0 ?_)
    try clear H a W
    intro a W H
    refine pl_callV rfl rfl ⟨_, Try.func12, by kernel_rfl⟩ rfl (fun K_ => new_no1 (hh := ([] : Hep)) bl h1 w _ K_) H ?_
    try clear H a W
    intro a W H
    replace H : St 76 w a W [(22, .tuple #[.pointer none, .int .i64 2]), (21, .int .i64 bl), (18, .bool false), (4, .bool false), (0, .int .i64 bl), (1, .slice A len cap)] (([] : Hep)) := H
    refine rgO H gs0 (rS 5 rfl <| rK [1, 1, 0, 0, 0, 0, 0, 0] [] [] <| rZ0 ?_)
    try clear H a W
    intro a W H
    refine hK5 _ _ ?_
    clear hK5
    refine wp_seq_k (fun K6 hK6 => ?_)
    refine sqR H gs0 fun Z_ z_ => rS 1 rfl <| rV rfl (does_binOp rfl rfl rfl (zd_lss_int (k := bl) (m := 1) h1 _ _)) <| rS 4 rfl <| rK [1, 0, 0, 0, 0, 0] [] [] <| rN0 z_ ?_
    try clear H a W
    intro a W H
    refine wp_cond_true (H.ev rfl) ?_
    refine sqR H gs0 fun Z_ z_ => rS 1 rfl <| rV rfl (does_binOp rfl rfl rfl (fun W => nil_nil W)) <| rS 2 rfl <| rV rfl (does_call rfl ⟨_, Try.func13, by kernel_rfl⟩ rfl (fun W hb => num_any _ W)) <| rV rfl (does_binOp rfl rfl rfl (zd_eql_int (k := 2) (m := 2) (decide_eq_true (by omega)) _ _)) <| rS 2 rfl <| rV rfl (does_call rfl ⟨_, Try.func11, by kernel_rfl⟩ rfl (fun W hb => known_any W)) <| rS 1 rfl <| rK [1, 1, 1, 1, 1, 1, 1, 1, 1, 1, 1, 1, 1, 0] [] [] <| rS 1 rfl <| rK [1, 0, 0, 0, 0, 0, 0, 0, 0, 0, 0, 0] [] [] <| rN0 z_ ?_
    try clear H a W
    intro a W H
    refine wp_ret ?_
    repeat (first | (with_reducible refine then_ret ?_) | (with_reducible refine blk_ret ?_))
    refine end_tmp (p := 4) rfl rfl H (fun hb => ?_)
    exact ⟨rfl, hb⟩
set_option maxHeartbeats 32000000 in
theorem plays_great {A : Option Addr} {len cap gl ol : Nat} {sub : Nat → SH} (bl : Int) (h1 : decide (8192 < bl) = true) (w : World) (hL : SL w A len cap gl ol sub) : Calls Try.prog 3 #[.int .i64 bl, .slice A len cap] w (fun rr w' => rr = .returned (.bool true) ∧ Below w.heap.size w w') := by
  have hmax := hL.max_
  have hbig := max_big
  have h1p := of_decide_eq_true h1
  have h40 : decide (40 < bl) = true := decide_eq_true (by omega)
  have h81 : decide (bl ≤ 8192) = false := decide_eq_false (by omega)
  have h0 : decide (bl < 1) = false := decide_eq_false (by omega)
  refine calls_st (vs := [.int .i64 bl, .slice A len cap]) 76 Try.func3 rfl Try.ntmps3 rfl (fun a W H => ?_)
  replace H : St 76 w a W [(0, .int .i64 bl), (1, .slice A len cap)] (([] : Hep)) := H
  refine sqR H gs0 fun Z_ z_ => rS 1 rfl <| rN0 z_ ?_
  try clear H a W
  intro a W H
  refine wp_seq_k (fun K2 hK2 => ?_)
  refine wp_seq_k (fun K3 hK3 => ?_)
  refine rg_plain ?_
  refine rgO H gs0 (rS 1 rfl <| rI0 ?_)
  try clear H a W
  intro a W H
  refine pl_callX rfl rfl ⟨_, Try.func10, by kernel_rfl⟩ rfl (fun K_ => much_K (M := 80) w _ hL (by decide) K_) H ?_
  try clear H a W
  rintro b1 a W hb1 H
  replace H : St 76 w a W [(10, .bool b1), (9, .slice A len cap), (4, .bool false), (0, .int .i64 bl), (1, .slice A len cap)] (([] : Hep)) := H
  cases hq1 : b1 with
  | true =>
    rw [hq1] at H
    refine rgO H gs0 (rS 8 rfl <| rK [1, 0, 0, 0, 0, 0, 0, 0, 0, 0] [] [] <| rZ0 ?_)
    try clear H a W
    intro a W H
    refine hK3 _ _ ?_
    clear hK3
    refine wp_cond_true (H.ev rfl) ?_
    refine sqR H gs0 fun Z_ z_ => rV rfl (does_call rfl ⟨_, Try.func11, by kernel_rfl⟩ rfl (fun W hb => known_any W)) <| rK [1, 1, 0] [] [] <| rS 1 rfl <| rK [1, 0, 0] [] [] <| rN0 z_ ?_
    try clear H a W
    intro a W H
    refine wp_ret ?_
    repeat (first | (with_reducible refine then_ret ?_) | (with_reducible refine blk_ret ?_))
    refine end_tmp (p := 4) rfl rfl H (fun hb => ?_)
    exact ⟨rfl, hb⟩
  | false =>
    rw [hq1] at H
    have hlen := hb1 hq1
    refine rgO H gs0 (rS 2 rfl <| rV rfl (does_binOp rfl rfl rfl (zd_gtr_int (k := bl) (m := 40) h40 _ _)) <| rS 2 rfl <| rV rfl (does_binOp rfl rfl rfl (zd_leq_int (k := bl) (m := 8192) h81 _ _)) <| rS 2 rfl <| rK [1, 0, 0, 0, 0, 0, 0, 0, 0, 0] [] [] <| rZ0 ?_)
    try clear H a W
    intro a W H
    refine hK3 _ _ ?_
    clear hK3
    refine wp_cond_false (H.ev rfl) ?_
    refine wp_skip ?_
    refine hK2 _ _ ?_
    clear hK2
    refine wp_seq_k (fun K5 hK5 => ?_)
    refine rgP H gs0 (rS 1 rfl <| rI0 ?_)
    try clear H a W
    intro a W H
    refine pl_callV rfl rfl ⟨_, Try.func12, by kernel_rfl⟩ rfl (fun K_ => new_no2 (hh := ([] : Hep)) bl h1 w _ K_) H ?_
    try clear H a W
    intro a W H
    replace H : St 76 w a W [(22, .tuple #[.pointer none, .int .i64 2]), (21, .int .i64 bl), (18, .bool false), (4, .bool false), (0, .int .i64 bl), (1, .slice A len cap)] (([] : Hep)) := H
    refine rgO H gs0 (rS 5 rfl <| rK [1, 1, 0, 0, 0, 0, 0, 0] [] [] <| rZ0 ?_)
    try clear H a W
    intro a W H
    refine hK5 _ _ ?_
    clear hK5
    refine wp_seq_k (fun K6 hK6 => ?_)
    refine sqR H gs0 fun Z_ z_ => rS 1 rfl <| rV rfl (does_binOp rfl rfl rfl (zd_lss_int (k := bl) (m := 1) h0 _ _)) <| rS 2 rfl <| rV rfl (does_binOp rfl rfl rfl (zd_gtr_int (k := bl) (m := 8192) h1 _ _)) <| rS 1 rfl <| rK [1, 0, 0, 0, 0, 0] [] [] <| rN0 z_ ?_
    try clear H a W
    intro a W H
    refine wp_cond_true (H.ev rfl) ?_
    refine sqR H gs0 fun Z_ z_ => rS 1 rfl <| rV rfl (does_binOp rfl rfl rfl (fun W => nil_nil W)) <| rS 2 rfl <| rV rfl (does_call rfl ⟨_, Try.func13, by kernel_rfl⟩ rfl (fun W hb => num_any _ W)) <| rV rfl (does_binOp rfl rfl rfl (zd_eql_int (k := 2) (m := 2) (decide_eq_true (by omega)) _ _)) <| rS 2 rfl <| rV rfl (does_call rfl ⟨_, Try.func11, by kernel_rfl⟩ rfl (fun W hb => known_any W)) <| rS 1 rfl <| rK [1, 1, 1, 1, 1, 1, 1, 1, 1, 1, 1, 1, 1, 0] [] [] <| rS 1 rfl <| rK [1, 0, 0, 0, 0, 0, 0, 0, 0, 0, 0, 0] [] [] <| rN0 z_ ?_
    try clear H a W
    intro a W H
    refine wp_ret ?_
    repeat (first | (with_reducible refine then_ret ?_) | (with_reducible refine blk_ret ?_))
    refine end_tmp (p := 4) rfl rfl H (fun hb => ?_)
    exact ⟨rfl, hb⟩
set_option maxHeartbeats 32000000 in
theorem plays_nat {A : Option Addr} {len cap gl ol : Nat} {sub : Nat → SH} (nb : Nat) (hnb : 1 ≤ nb ∧ nb ≤ 8192) (w : World) (hL : SL w A len cap gl ol sub) : Calls Try.prog 3 #[.int .i64 ((nb : Nat) : Int), .slice A len cap] w (fun rr w' => rr = .returned (.bool true) ∧ Below w.heap.size w w') := by
  have hmax := hL.max_
  have hbig := max_big
  have h81 : decide (((nb : Nat) : Int) ≤ 8192) = true := decide_eq_true (by omega)
  have h0 : decide (((nb : Nat) : Int) < 1) = false := decide_eq_false (by omega)
  have h1 : decide (8192 < ((nb : Nat) : Int)) = false := decide_eq_false (by omega)
  refine calls_st (vs := [.int .i64 ((nb : Nat) : Int), .slice A len cap]) 76 Try.func3 rfl Try.ntmps3 rfl (fun a W H => ?_)
  replace H : St 76 w a W [(0, .int .i64 ((nb : Nat) : Int)), (1, .slice A len cap)] (([] : Hep)) := H
  refine sqR H gs0 fun Z_ z_ => rS 1 rfl <| rN0 z_ ?_
  try clear H a W
  intro a W H
  refine wp_seq_k (fun K2 hK2 => ?_)
  refine wp_seq_k (fun K3 hK3 => ?_)
  refine rg_plain ?_
  refine rgO H gs0 (rS 1 rfl <| rI0 ?_)
  try clear H a W
  intro a W H
  refine pl_callX rfl rfl ⟨_, Try.func10, by kernel_rfl⟩ rfl (fun K_ => much_K (M := 80) w _ hL (by decide) K_) H ?_
  try clear H a W
  rintro b1 a W hb1 H
  replace H : St 76 w a W [(10, .bool b1), (9, .slice A len cap), (4, .bool false), (0, .int .i64 ((nb : Nat) : Int)), (1, .slice A len cap)] (([] : Hep)) := H
  cases hq1 : b1 with
  | true =>
    rw [hq1] at H
    refine rgO H gs0 (rS 8 rfl <| rK [1, 0, 0, 0, 0, 0, 0, 0, 0, 0] [] [] <| rZ0 ?_)
    try clear H a W
    intro a W H
    refine hK3 _ _ ?_
    clear hK3
    refine wp_cond_true (H.ev rfl) ?_
    refine sqR H gs0 fun Z_ z_ => rV rfl (does_call rfl ⟨_, Try.func11, by kernel_rfl⟩ rfl (fun W hb => known_any W)) <| rK [1, 1, 0] [] [] <| rS 1 rfl <| rK [1, 0, 0] [] [] <| rN0 z_ ?_
    try clear H a W
    intro a W H
    refine wp_ret ?_
    repeat (first | (with_reducible refine then_ret ?_) | (with_reducible refine blk_ret ?_))
    refine end_tmp (p := 4) rfl rfl H (fun hb => ?_)
    exact ⟨rfl, hb⟩
  | false =>
    rw [hq1] at H
    have hlen := hb1 hq1
    cases hq2 : decide (40 < ((nb : Nat) : Int)) with
    | true =>
      have hq2p := of_decide_eq_true hq2
      refine rgO H gs0 (rS 2 rfl <| rV rfl (does_binOp rfl rfl rfl (zd_gtr_int (k := ((nb : Nat) : Int)) (m := 40) hq2 _ _)) <| rS 2 rfl <| rV rfl (does_binOp rfl rfl rfl (zd_leq_int (k := ((nb : Nat) : Int)) (m := 8192) h81 _ _)) <| rS 2 rfl <| rK [1, 0, 0, 0, 0, 0, 0, 0, 0, 0] [] [] <| rZ0 ?_)
      try clear H a W
      intro a W H
      refine hK3 _ _ ?_
      clear hK3
      refine wp_cond_true (H.ev rfl) ?_
      refine sqR H gs0 fun Z_ z_ => rV rfl (does_call rfl ⟨_, Try.func11, by kernel_rfl⟩ rfl (fun W hb => known_any W)) <| rK [1, 1, 0] [] [] <| rS 1 rfl <| rK [1, 0, 0] [] [] <| rN0 z_ ?_
      try clear H a W
      intro a W H
      refine wp_ret ?_
      repeat (first | (with_reducible refine then_ret ?_) | (with_reducible refine blk_ret ?_))
      refine end_tmp (p := 4) rfl rfl H (fun hb => ?_)
      exact ⟨rfl, hb⟩
    | false =>
      have hq2p := of_decide_eq_false hq2
      refine rgO H gs0 (rS 2 rfl <| rV rfl (does_binOp rfl rfl rfl (zd_gtr_int (k := ((nb : Nat) : Int)) (m := 40) hq2 _ _)) <| rS 5 rfl <| rK [1, 0, 0, 0, 0, 0, 0, 0, 0, 0] [] [] <| rZ0 ?_)
      try clear H a W
      intro a W H
      refine hK3 _ _ ?_
      clear hK3
      refine wp_cond_false (H.ev rfl) ?_
      refine wp_skip ?_
      refine hK2 _ _ ?_
      clear hK2
      refine wp_seq_k (fun K6 hK6 => ?_)
      refine rgP H gs0 (rS 1 rfl <| rI0 ?_)
      try clear H a W
      intro a W H
      replace H : St 76 w a W [(21, .int .i64 ((nb : Nat) : Int)), (18, .bool false), (4, .bool false), (0, .int .i64 ((nb : Nat) : Int)), (1, .slice A len cap)] (([] : Hep) ++ ([] : Hep)) := H
      refine pl_callX rfl rfl ⟨_, Try.func12, by kernel_rfl⟩ rfl (fun K_ => po_new (hh := (([] : Hep) ++ ([] : Hep))) nb (by omega) w _ K_) H ?_
      try clear H a W
      rintro ⟨p2, r2⟩ a W hP2 H
      replace hP2 : PO p2 (dNew nb) r2 := hP2
      replace H := H.perm' (List.perm_append_comm_assoc r2 ([] : Hep) ([] : Hep))
      replace H : St 76 w a W [(22, .tuple #[.pointer (some ⟨p2, 0, none⟩), .int .i64 0]), (21, .int .i64 ((nb : Nat) : Int)), (18, .bool false), (4, .bool false), (0, .int .i64 ((nb : Nat) : Int)), (1, .slice A len cap)] ((r2 ++ ([] : Hep))) := H
      refine rgO H gs0 (rS 5 rfl <| rK [1, 1, 0, 0, 0, 0, 0, 0] [] [] <| rZ0 ?_)
      try clear H a W
      intro a W H
      refine hK6 _ _ ?_
      clear hK6
      refine wp_seq_k (fun K7 hK7 => ?_)
      refine sqR H gs0 fun Z_ z_ => rS 1 rfl <| rV rfl (does_binOp rfl rfl rfl (zd_lss_int (k := ((nb : Nat) : Int)) (m := 1) h0 _ _)) <| rS 2 rfl <| rV rfl (does_binOp rfl rfl rfl (zd_gtr_int (k := ((nb : Nat) : Int)) (m := 8192) h1 _ _)) <| rS 1 rfl <| rK [1, 0, 0, 0, 0, 0] [] [] <| rN0 z_ ?_
      try clear H a W
      intro a W H
      refine wp_cond_false (H.ev rfl) ?_
      refine wp_skip ?_
      refine hK7 _ _ ?_
      clear hK7
      refine wp_seq_k (fun K9 hK9 => ?_)
      refine rgP H gs0 (rS 1 rfl <| rI0 ?_)
      try clear H a W
      intro a W H
      replace H : St 76 w a W [(41, .int .i64 ((nb : Nat) : Int)), (30, .bool false), (6, .int .i64 0), (5, .pointer (some ⟨p2, 0, none⟩)), (4, .bool false), (0, .int .i64 ((nb : Nat) : Int)), (1, .slice A len cap)] (([] : Hep) ++ (r2 ++ ([] : Hep))) := H
      refine pl_callX rfl rfl ⟨_, Try.func14, by kernel_rfl⟩ rfl (fun K_ => ro_new (hh := (([] : Hep) ++ (r2 ++ ([] : Hep)))) nb (by omega) w _ K_) H ?_
      try clear H a W
      rintro ⟨p3, r3⟩ a W hP3 H
      replace hP3 : RO p3 (dNew nb) r3 := hP3
      replace H := H.perm' (List.perm_append_comm_assoc r3 ([] : Hep) (r2 ++ ([] : Hep)))
      replace H : St 76 w a W [(42, .pointer (some ⟨p3, 0, none⟩)), (41, .int .i64 ((nb : Nat) : Int)), (30, .bool false), (6, .int .i64 0), (5, .pointer (some ⟨p2, 0, none⟩)), (4, .bool false), (0, .int .i64 ((nb : Nat) : Int)), (1, .slice A len cap)] ((r3 ++ (r2 ++ ([] : Hep)))) := H
      refine rgO H gs0 (rS 1 rfl <| rK [1, 0, 0, 0, 1, 1, 1, 0] [] [] <| rZ0 ?_)
      try clear H a W
      intro a W H
      refine hK9 _ _ ?_
      clear hK9
      refine wp_seq_k (fun K10 hK10 => ?_)
      refine sqR H gs0 fun Z_ z_ => rS 1 rfl <| rV rfl (does_binOp rfl rfl rfl (fun W => ptr_nil W)) <| rS 2 rfl <| rV rfl (does_call rfl ⟨_, Try.func13, by kernel_rfl⟩ rfl (fun W hb => num_any _ W)) <| rV rfl (does_binOp rfl rfl rfl (zd_neq_int (k := 0) (m := 0) (decide_eq_false (by omega)) _ _)) <| rS 1 rfl <| rK [1, 0, 0, 0, 0, 0, 0, 1, 0] [] [] <| rN0 z_ ?_
      try clear H a W
      intro a W H
      refine wp_cond_false (H.ev rfl) ?_
      refine wp_skip ?_
      refine hK10 _ _ ?_
      clear hK10
      refine wp_seq_k (fun K12 hK12 => ?_)
      refine sqR H gs0 fun Z_ z_ => rS 1 rfl <| rK [1, 0] [] [] <| rN0 z_ ?_
      try clear H a W
      intro a W H
      refine wp_block ?_
      replace H := H.perm' ((((List.Perm.refl _).append_left r3).trans (List.perm_append_comm_assoc r3 r2 ([] : Hep))).append_left ([] : Hep))
      replace H : St 76 w a W [(8, .int .i64 0), (7, .pointer (some ⟨p3, 0, none⟩)), (5, .pointer (some ⟨p2, 0, none⟩)), (4, .bool false), (1, .slice A len cap)] ((r2 ++ (r3 ++ ([] : Hep)))) := H
      replace H : St 76 w a W [(8, .int .i64 0), (7, .pointer (some ⟨p3, 0, none⟩)), (5, .pointer (some ⟨p2, 0, none⟩)), (1, .slice A len cap)] ((r2 ++ (r3 ++ ([] : Hep)))) := H.pickF (h := []) (t := (r2 ++ (r3 ++ ([] : Hep)))) [0, 1, 2, 4] [] rfl
      refine wp_rounds len (fun k a W => ∃ D r1 r2, (PO p2 D r1 ∧ RO p3 D r2 ∧ D.B.length = nb ∧ D.L.length ≤ k) ∧ St 76 w a W [(8, .int .i64 ((k : Nat) : Int)), (7, .pointer (some ⟨p3, 0, none⟩)), (5, .pointer (some ⟨p2, 0, none⟩)), (1, .slice A len cap)] ((r1 ++ (r2 ++ ([] : Hep))))) (k0 := 0) ⟨(dNew nb), r2, r3, ⟨hP2, hP3, List.length_replicate, Nat.zero_le _⟩, H⟩ (by omega) ?_
      try clear H a W
      rintro k a W hk ⟨D, r1, r2, hJ, H⟩
      by_cases hk2 : k < len
      · have hDl := hJ.2.2.2
        refine wp_seq_k (fun K14 hK14 => ?_)
        refine sqR H gs0 fun Z_ z_ => rS 2 rfl <| rV rfl (does_len Try.underlying22 rfl rfl) <| rV rfl (does_binOp rfl rfl rfl (zd_lss_int (k := ((k : Nat) : Int)) (m := ((len : Nat) : Int)) (decide_eq_true (by omega)) _ _)) <| rN0 z_ ?_
        try clear H a W
        intro a W H
        refine wp_cond_true (H.ev rfl) ?_
        refine wp_skip ?_
        refine hK14 _ _ ?_
        clear hK14
        refine wp_seq_k (fun K16 hK16 => ?_)
        refine wp_block ?_
        refine wp_seq_k (fun K17 hK17 => ?_)
        replace H := H.perm' ((((List.Perm.refl _).append_left r1).trans (List.perm_append_comm_assoc r1 r2 ([] : Hep))).append_left ([] : Hep))
        replace H : St 76 w a W [(53, .bool true), (52, .int .i64 ((len : Nat) : Int)), (51, .slice A len cap), (50, .int .i64 ((k : Nat) : Int)), (8, .int .i64 ((k : Nat) : Int)), (7, .pointer (some ⟨p3, 0, none⟩)), (5, .pointer (some ⟨p2, 0, none⟩)), (1, .slice A len cap)] ((r2 ++ (r1 ++ ([] : Hep)))) := H
        replace H := H.perm' ((((List.Perm.refl _).append_left r2).trans (List.perm_append_comm_assoc r2 r1 ([] : Hep))).append_left ([] : Hep))
        replace H : St 76 w a W [(53, .bool true), (52, .int .i64 ((len : Nat) : Int)), (51, .slice A len cap), (50, .int .i64 ((k : Nat) : Int)), (8, .int .i64 ((k : Nat) : Int)), (7, .pointer (some ⟨p3, 0, none⟩)), (5, .pointer (some ⟨p2, 0, none⟩)), (1, .slice A len cap)] ((r1 ++ (r2 ++ ([] : Hep)))) := H
        have HK := H.kn
        replace H : St 76 w a W [(53, .bool true), (52, .int .i64 ((len : Nat) : Int)), (51, .slice A len cap), (50, .int .i64 ((k : Nat) : Int)), (8, .int .i64 ((k : Nat) : Int)), (7, .pointer (some ⟨p3, 0, none⟩)), (5, .pointer (some ⟨p2, 0, none⟩)), (1, .slice A len cap)] [] := H.sub (fun _ h => h) (fun p hp => by cases hp) List.Pairwise.nil
        refine d2C (nc := 3) (cp := fun j => [5, 11, 16].getD j 0) (C := PC w p2 p3 (dDo D (sub k).s).1 r1 r2 ([] : Hep)) (R' := fun _ w' => Below w.heap.size w w') (.v 56 (.pointer (some ⟨p2, 0, none⟩)) [] :: .v 57 (.slice A len cap) [] :: .v 58 (.int .i64 ((k : Nat) : Int)) [] :: .v 59 (.pointer (some ⟨gl, ol + k * 5, none⟩)) [1, 2] :: .v 60 (.agg ((sub k).cs)) [3] :: .v 61 (.int .i64 ((dDo D (sub k).s).2)) [0, 4] :: .v 62 (.pointer (some ⟨p3, 0, none⟩)) [] :: .v 63 (.slice A len cap) [] :: .v 64 (.int .i64 ((k : Nat) : Int)) [] :: .v 65 (.pointer (some ⟨gl, ol + k * 5, none⟩)) [7, 8] :: .v 66 (.agg ((sub k).cs)) [9] :: .v 67 (.int .i64 ((dDo D (sub k).s).2)) [6, 10] :: .v 68 (.bool false) [5, 11] :: .v 69 (.bool false) [12] :: .v 70 (.pointer (some ⟨p2, 0, none⟩)) [13] :: .v 71 (.pointer (some ⟨p3, 0, none⟩)) [13] :: .v 72 (.bool true) [14, 15, 13] :: .v 73 (.bool false) [16, 13] :: .v 74 (.bool false) [13, 17] :: []) (fun i => Nat.beq i 5 || Nat.beq i 11 || Nat.beq i 16) HK St.below0 PC.call (by kernel_rfl) ch3 (fun j hj => by
          rcases j with _ | _ | _ | j
          · exact Nat.le_of_ble_eq_true rfl
          · exact Nat.le_of_ble_eq_true rfl
          · exact Nat.le_of_ble_eq_true rfl
          · omega) (fun j hj => by
          rcases j with _ | _ | j
          · kernel_rfl
          · kernel_rfl
          · omega) (fun i j hi hj h => by
          rcases i with _ | _ | _ | i <;> rcases j with _ | _ | _ | j <;> first | rfl | exact absurd h (by decide) | omega) (by kernel_rfl) (by kernel_rfl) H ⟨fun _ => oS rfl rfl, fun _ => oS rfl rfl, fun _ => oS rfl rfl, fun _ => oV rfl (does_indexAddr rfl rfl rfl (ia_steps (j := k) (hL.at_ (by omega)).1 (by omega))), fun _ => oV rfl (does_stepO (y := sub k) rfl rfl (hL.at_ (by omega)).2.1 ((hL.at_ (by omega)).2.2 k (by omega))), fun h_ => absurd h_ (by decide), fun _ => oS rfl rfl, fun _ => oS rfl rfl, fun _ => oS rfl rfl, fun _ => oV rfl (does_indexAddr rfl rfl rfl (ia_steps (j := k) (hL.at_ (by omega)).1 (by omega))), fun _ => oV rfl (does_stepO (y := sub k) rfl rfl (hL.at_ (by omega)).2.1 ((hL.at_ (by omega)).2.2 k (by omega))), fun h_ => absurd h_ (by decide), fun _ => oV rfl (does_binOp rfl rfl rfl (zd_neq_int (k := ((dDo D (sub k).s).2)) (m := ((dDo D (sub k).s).2)) (decide_eq_false (by omega)) _ _)), fun _ => oS rfl rfl, fun _ => oS rfl rfl, fun _ => oS rfl rfl, fun h_ => absurd h_ (by decide), fun _ => oS rfl rfl, fun _ => oS rfl rfl, trivial⟩ (fun j hj o it ho hi a W1 => by
          rcases j with _ | _ | _ | j
          · obtain rfl := Option.some.inj ho
            obtain rfl := Option.some.inj hi
            exact Chain2.out (plan := (.v 56 (.pointer (some ⟨p2, 0, none⟩)) [] :: .v 57 (.slice A len cap) [] :: .v 58 (.int .i64 ((k : Nat) : Int)) [] :: .v 59 (.pointer (some ⟨gl, ol + k * 5, none⟩)) [1, 2] :: .v 60 (.agg ((sub k).cs)) [3] :: .v 61 (.int .i64 ((dDo D (sub k).s).2)) [0, 4] :: .v 62 (.pointer (some ⟨p3, 0, none⟩)) [] :: .v 63 (.slice A len cap) [] :: .v 64 (.int .i64 ((k : Nat) : Int)) [] :: .v 65 (.pointer (some ⟨gl, ol + k * 5, none⟩)) [7, 8] :: .v 66 (.agg ((sub k).cs)) [9] :: .v 67 (.int .i64 ((dDo D (sub k).s).2)) [6, 10] :: .v 68 (.bool false) [5, 11] :: .v 69 (.bool false) [12] :: .v 70 (.pointer (some ⟨p2, 0, none⟩)) [13] :: .v 71 (.pointer (some ⟨p3, 0, none⟩)) [13] :: .v 72 (.bool true) [14, 15, 13] :: .v 73 (.bool false) [16, 13] :: .v 74 (.bool false) [13, 17] :: [])) (fun H hc => ObJ.callC (C := PC w p2 p3 (dDo D (sub k).s).1 r1 r2 ([] : Hep) 1) (R := fun _ w' => Below w.heap.size w w') (wantS_of H rfl) rfl ⟨_, Try.func15, by kernel_rfl⟩ rfl H (pc_0 hJ.1 (hL.ok k (by omega)) (by omega) hc))
          · obtain rfl := Option.some.inj ho
            obtain rfl := Option.some.inj hi
            exact Chain2.out (plan := (.v 56 (.pointer (some ⟨p2, 0, none⟩)) [] :: .v 57 (.slice A len cap) [] :: .v 58 (.int .i64 ((k : Nat) : Int)) [] :: .v 59 (.pointer (some ⟨gl, ol + k * 5, none⟩)) [1, 2] :: .v 60 (.agg ((sub k).cs)) [3] :: .v 61 (.int .i64 ((dDo D (sub k).s).2)) [0, 4] :: .v 62 (.pointer (some ⟨p3, 0, none⟩)) [] :: .v 63 (.slice A len cap) [] :: .v 64 (.int .i64 ((k : Nat) : Int)) [] :: .v 65 (.pointer (some ⟨gl, ol + k * 5, none⟩)) [7, 8] :: .v 66 (.agg ((sub k).cs)) [9] :: .v 67 (.int .i64 ((dDo D (sub k).s).2)) [6, 10] :: .v 68 (.bool false) [5, 11] :: .v 69 (.bool false) [12] :: .v 70 (.pointer (some ⟨p2, 0, none⟩)) [13] :: .v 71 (.pointer (some ⟨p3, 0, none⟩)) [13] :: .v 72 (.bool true) [14, 15, 13] :: .v 73 (.bool false) [16, 13] :: .v 74 (.bool false) [13, 17] :: [])) (fun H hc => ObJ.callC (C := PC w p2 p3 (dDo D (sub k).s).1 r1 r2 ([] : Hep) 2) (R := fun _ w' => Below w.heap.size w w') (wantS_of H rfl) rfl ⟨_, Try.func16, by kernel_rfl⟩ rfl H (pc_1 hJ.2.1 (hL.ok k (by omega)) (by omega) hc))
          · obtain rfl := Option.some.inj ho
            obtain rfl := Option.some.inj hi
            exact Chain2.out (plan := (.v 56 (.pointer (some ⟨p2, 0, none⟩)) [] :: .v 57 (.slice A len cap) [] :: .v 58 (.int .i64 ((k : Nat) : Int)) [] :: .v 59 (.pointer (some ⟨gl, ol + k * 5, none⟩)) [1, 2] :: .v 60 (.agg ((sub k).cs)) [3] :: .v 61 (.int .i64 ((dDo D (sub k).s).2)) [0, 4] :: .v 62 (.pointer (some ⟨p3, 0, none⟩)) [] :: .v 63 (.slice A len cap) [] :: .v 64 (.int .i64 ((k : Nat) : Int)) [] :: .v 65 (.pointer (some ⟨gl, ol + k * 5, none⟩)) [7, 8] :: .v 66 (.agg ((sub k).cs)) [9] :: .v 67 (.int .i64 ((dDo D (sub k).s).2)) [6, 10] :: .v 68 (.bool false) [5, 11] :: .v 69 (.bool false) [12] :: .v 70 (.pointer (some ⟨p2, 0, none⟩)) [13] :: .v 71 (.pointer (some ⟨p3, 0, none⟩)) [13] :: .v 72 (.bool true) [14, 15, 13] :: .v 73 (.bool false) [16, 13] :: .v 74 (.bool false) [13, 17] :: [])) (fun H hc => ObJ.callC (C := PC w p2 p3 (dDo D (sub k).s).1 r1 r2 ([] : Hep) 3) (R := fun _ w' => Below w.heap.size w w') (wantS_of H rfl) rfl ⟨_, Try.func17, by kernel_rfl⟩ rfl H (pc_2 hc))
          · exact absurd hj (by omega)) (fun a W H _ HC => ?_)
        obtain ⟨ra4, rb4, hPa4, hPb4, K_⟩ := HC
        replace H := H.again K_
        replace H : St 76 w a W [(74, .bool false), (73, .bool false), (72, .bool true), (71, .pointer (some ⟨p3, 0, none⟩)), (70, .pointer (some ⟨p2, 0, none⟩)), (69, .bool false), (68, .bool false), (67, .int .i64 ((dDo D (sub k).s).2)), (66, .agg ((sub k).cs)), (65, .pointer (some ⟨gl, ol + k * 5, none⟩)), (64, .int .i64 ((k : Nat) : Int)), (63, .slice A len cap), (62, .pointer (some ⟨p3, 0, none⟩)), (61, .int .i64 ((dDo D (sub k).s).2)), (60, .agg ((sub k).cs)), (59, .pointer (some ⟨gl, ol + k * 5, none⟩)), (58, .int .i64 ((k : Nat) : Int)), (57, .slice A len cap), (56, .pointer (some ⟨p2, 0, none⟩)), (53, .bool true), (52, .int .i64 ((len : Nat) : Int)), (51, .slice A len cap), (50, .int .i64 ((k : Nat) : Int)), (8, .int .i64 ((k : Nat) : Int)), (7, .pointer (some ⟨p3, 0, none⟩)), (5, .pointer (some ⟨p2, 0, none⟩)), (1, .slice A len cap)] ((ra4 ++ (rb4 ++ ([] : Hep)))) := H
        refine rgO H gs0 (rZ0 ?_)
        try clear H a W
        intro a W H
        refine hK17 _ _ ?_
        clear hK17
        refine wp_cond_false (H.ev rfl) ?_
        refine wp_skip ?_
        refine blk_normal ?_
        refine hK16 _ _ ?_
        clear hK16
        refine rgP H gs0 (rS 1 rfl <| rV rfl (does_binOp rfl rfl rfl (zd_add_int (k := ((k : Nat) : Int)) (m := 1) (c := ((k + 1 : Nat) : Int)) (by omega) (by omega) _ _)) <| rK [1, 1, 1, 1, 1, 1, 1, 1, 1, 1, 1, 1, 1, 1, 1, 1, 1, 1, 1, 1, 1, 1, 1, 1, 1, 0] [] [] <| rS 1 rfl <| rZ0 ?_)
        try clear H a W
        intro a W H
        replace H := H.perm' ((((List.Perm.refl _).append_left ra4).trans (List.perm_append_comm_assoc ra4 rb4 ([] : Hep))).append_left ([] : Hep))
        replace H : St 76 w a W [(8, .int .i64 ((k + 1 : Nat) : Int)), (55, .int .i64 ((k + 1 : Nat) : Int)), (54, .int .i64 ((k : Nat) : Int)), (74, .bool false), (73, .bool false), (72, .bool true), (71, .pointer (some ⟨p3, 0, none⟩)), (70, .pointer (some ⟨p2, 0, none⟩)), (69, .bool false), (68, .bool false), (67, .int .i64 ((dDo D (sub k).s).2)), (66, .agg ((sub k).cs)), (65, .pointer (some ⟨gl, ol + k * 5, none⟩)), (64, .int .i64 ((k : Nat) : Int)), (63, .slice A len cap), (62, .pointer (some ⟨p3, 0, none⟩)), (61, .int .i64 ((dDo D (sub k).s).2)), (60, .agg ((sub k).cs)), (59, .pointer (some ⟨gl, ol + k * 5, none⟩)), (58, .int .i64 ((k : Nat) : Int)), (57, .slice A len cap), (56, .pointer (some ⟨p2, 0, none⟩)), (53, .bool true), (52, .int .i64 ((len : Nat) : Int)), (51, .slice A len cap), (50, .int .i64 ((k : Nat) : Int)), (7, .pointer (some ⟨p3, 0, none⟩)), (5, .pointer (some ⟨p2, 0, none⟩)), (1, .slice A len cap)] ((rb4 ++ (ra4 ++ ([] : Hep)))) := H
        replace H := H.perm' ((((List.Perm.refl _).append_left rb4).trans (List.perm_append_comm_assoc rb4 ra4 ([] : Hep))).append_left ([] : Hep))
        replace H : St 76 w a W [(8, .int .i64 ((k + 1 : Nat) : Int)), (55, .int .i64 ((k + 1 : Nat) : Int)), (54, .int .i64 ((k : Nat) : Int)), (74, .bool false), (73, .bool false), (72, .bool true), (71, .pointer (some ⟨p3, 0, none⟩)), (70, .pointer (some ⟨p2, 0, none⟩)), (69, .bool false), (68, .bool false), (67, .int .i64 ((dDo D (sub k).s).2)), (66, .agg ((sub k).cs)), (65, .pointer (some ⟨gl, ol + k * 5, none⟩)), (64, .int .i64 ((k : Nat) : Int)), (63, .slice A len cap), (62, .pointer (some ⟨p3, 0, none⟩)), (61, .int .i64 ((dDo D (sub k).s).2)), (60, .agg ((sub k).cs)), (59, .pointer (some ⟨gl, ol + k * 5, none⟩)), (58, .int .i64 ((k : Nat) : Int)), (57, .slice A len cap), (56, .pointer (some ⟨p2, 0, none⟩)), (53, .bool true), (52, .int .i64 ((len : Nat) : Int)), (51, .slice A len cap), (50, .int .i64 ((k : Nat) : Int)), (7, .pointer (some ⟨p3, 0, none⟩)), (5, .pointer (some ⟨p2, 0, none⟩)), (1, .slice A len cap)] ((ra4 ++ (rb4 ++ ([] : Hep)))) := H
        refine ⟨k + 1, by omega, by omega, (dDo D (sub k).s).1, ra4, rb4, ⟨hPa4, hPb4, (do_len _ _).1.trans hJ.2.2.1, Nat.le_trans (do_len _ _).2 (by omega)⟩, ?_⟩
        exact H.pickF (h := []) (t := (ra4 ++ (rb4 ++ ([] : Hep)))) [0, 26, 27, 28] [] rfl
      · obtain rfl : len = k := by omega
        refine wp_seq_k (fun K18 hK18 => ?_)
        refine sqR H gs0 fun Z_ z_ => rS 2 rfl <| rV rfl (does_len Try.underlying22 rfl rfl) <| rV rfl (does_binOp rfl rfl rfl (zd_lss_int (k := ((len : Nat) : Int)) (m := ((len : Nat) : Int)) (decide_eq_false (by omega)) _ _)) <| rK [1, 0, 0, 0] [] [] <| rN0 z_ ?_
        try clear H a W
        intro a W H
        refine wp_cond_false (H.ev rfl) ?_
        refine wp_exit ?_
        repeat (first | (with_reducible refine then_exit ?_) | (with_reducible refine blk_pass (by decide) ?_))
        refine blk_exit ?_
        have hDl := hJ.2.2.2
        refine hK12 _ _ ?_
        clear hK12
        refine sqR H gs0 fun Z_ z_ => rV rfl (does_call rfl ⟨_, Try.func11, by kernel_rfl⟩ rfl (fun W hb => known_any W)) <| rS 1 rfl <| rK [1, 0, 0, 0, 0, 0, 0] [] [] <| rN0 z_ ?_
        try clear H a W
        intro a W H
        refine wp_ret ?_
        repeat (first | (with_reducible refine then_ret ?_) | (with_reducible refine blk_ret ?_))
        refine end_tmp (p := 4) rfl rfl H (fun hb => ?_)
        exact ⟨rfl, hb⟩
theorem law_plays {A : Option Addr} {len cap gl ol : Nat} {sub : Nat → SH} (bl : Int) (w : World) (hL : SL w A len cap gl ol sub) : Calls Try.prog 3 #[.int .i64 bl, .slice A len cap] w (fun rr w' => rr = .returned (.bool true) ∧ Below w.heap.size w w') := by
  by_cases h : bl < 1
  · exact plays_neg bl (decide_eq_true h) w hL
  · by_cases h2 : 8192 < bl
    · exact plays_great bl (decide_eq_true h2) w hL
    · obtain ⟨nb, rfl⟩ := Int.eq_ofNat_of_zero_le (show 0 ≤ bl by omega)
      exact plays_nat nb (by omega) w hL
end Go.Proofs.Ytiebelmglchbdaa
