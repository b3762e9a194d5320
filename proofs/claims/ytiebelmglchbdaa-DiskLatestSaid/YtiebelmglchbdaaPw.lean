/- Layer 14's laws: DiskLatest. -/
import Derived.Test.YtiebelmglchbdaaPt
namespace Go.Proofs.Ytiebelmglchbdaa
set_option linter.unusedVariables false
set_option linter.unusedSimpArgs false
set_option maxRecDepth 100000
open Go Go.RowKit

theorem fill_zero : fillB 0 = zeroB := by
  show (List.range 512).map (fun _ => (0 : UInt8)) = List.replicate 512 0
  rw [List.map_const', List.length_range]
theorem al_arr40 (W : World) : (Instr.alloc 60 true (.tuple #[])).run Try.prog W = .ok (.pointer (some ⟨W.heap.size, 0, none⟩)) (W.alloc (.cells (bvs (rb 40 b0s)) 60)) := by kernel_rfl
theorem ia_arr40 {g k : Nat} (hk : k < 40) (W : World) : (Instr.indexAt 60 (.pointer (some ⟨g, 0, none⟩)) (.int .i64 (k : Int))).run Try.prog W = .ok (.pointer (some ⟨g, k, none⟩)) W := by
  have h1 : (0 : Int) ≤ (k : Int) := by omega
  have h2 : (k : Int) < 40 := by omega
  go_simp
theorem ld_u8O {g f : Nat} {x : UInt8} (W : World) (hc : W.cell? ⟨g, f, none⟩ = some (bv x)) : (Instr.loadAt 5 (.pointer (some ⟨g, f, none⟩))).run Try.prog W = .ok (bv x) W := by
  have hc2 : W.cell? ⟨g, f, none⟩ = some (.int .u8 (x.toNat : Int)) := hc
  clear hc
  show (Instr.loadAt 5 (.pointer (some ⟨g, f, none⟩))).run Try.prog W = .ok (.int .u8 (x.toNat : Int)) W
  go_simp
theorem ia_bO {A : Option Addr} {j n c o g : Nat} (hA : A = some ⟨g, o, none⟩) (hj : j < n) (W : World) : (Instr.indexAt 39 (.slice A n c) (.int .i64 (j : Int))).run Try.prog W = .ok (.pointer (some ⟨g, o + j, none⟩)) W := by
  subst hA
  exact ia_b hj W
theorem BS.nat {w : World} {A : Option Addr} {n c : Nat} {l : List UInt8} (h : BS w w.heap.size A n c l) : ∃ g o, 0 < n → A = some ⟨g, o, none⟩ ∧ g < w.heap.size ∧ ∀ i, i < n → w.cell? ⟨g, o + i, none⟩ = some (bv (l.getD i 0)) := by
  rcases Nat.eq_zero_or_pos n with h0 | h0
  · exact ⟨0, 0, fun hp => by omega⟩
  · obtain ⟨b, o, e, hb, hc⟩ := h.at_ h0
    refine ⟨b, o, fun _ => ⟨e, hb, fun i hi => hc i _ ?_⟩⟩
    have := h.len
    rw [List.getD_eq_getElem?_getD, List.getElem?_eq_getElem (by omega)]
    rfl
theorem fill_bf (x : UInt8) (w : World) : Calls Try.prog 29 #[bv x] w (fun r w' => ∃ v, r = .returned v ∧ Below w.heap.size w w' ∧ BF (fillB x) v w') := by
  refine (fill_new x w).mono ?_
  rintro rr w' ⟨g, e, hb, hg, hB⟩
  exact ⟨_, e, hb, sl_bf (fill_len x) hB⟩
/-- Ones. -/
def onesV (m : Nat) : List Value := List.replicate m (.int .i64 1)
theorem ones_nil : OutD 3 1 [] (.slice none 0 0) 0 (onesV 0) := OutD.nil _ _
theorem PK.ones {w0 : World} {hh te : Hep} {A : Option Addr} {m c : Nat} (h : OutD 3 1 te (.slice A m c) m (onesV m)) (ht : ∀ p ∈ te, p ∈ hh) : PK w0 hh A m (List.replicate m 1) := by
  refine ⟨List.length_replicate, fun x hx => by rw [(List.mem_replicate.1 hx).2]; decide, ?_⟩
  rcases h with ⟨_, e2, e3, _⟩ | ⟨g, cap, cur, e1, e2, h1, h2, h3, h4⟩
  · exact ⟨0, 0, fun hp => by omega⟩
  · injection e2 with e2 _ _
    refine ⟨g, 0, fun _ => ⟨e2, fun W _ hW i x hx => ?_⟩⟩
    have hB : Blk W g (.ty 3) cur := hW (g, .ty 3, cur) (ht _ (by rw [e1]; exact List.mem_singleton.2 rfl))
    have hi : i < m := by have := (List.getElem?_eq_some_iff.1 hx).1; rwa [List.length_replicate] at this
    have hx1 : x = 1 := (List.mem_replicate.1 (List.mem_iff_getElem?.2 ⟨i, hx⟩)).2
    have h5 : (cur.toList.take (m * 1))[i]? = some (.int .i64 1) := by
      rw [h4]
      unfold onesV
      rw [List.getElem?_replicate, if_pos hi]
    rw [hB.cell, Nat.zero_add, ← Array.getElem?_toList, hx1]
    rw [List.getElem?_take] at h5
    split at h5
    · exact h5
    · cases h5
section
variable {n : Nat} {w0 w w' : World} {a : Act} {e : Env} {h t hh : Hep} {Q : Exit → Act → World → Prop} {ops : Array Oper} {rest : List Oper} {o : Oper}
theorem int_infoP : (Try.prog.info? 3).map (fun i => (i.zero, i.size, i.bytes)) = some (some (.int .i64 0), 1, 8) := by kernel_rfl
/-- One more. -/
theorem pl_appI {d k m : Nat} {x y : Operand} {v : Value} {gs : Nat} (hk : h[k]? = some (gs, .ty 3, #[.int .i64 1])) (ho : o.op = .call { callee := .builtin .append, args := #[x, y], argTypes := #[33, 33] }) (hx : sev e x = some v) (hy : sev e y = some (.slice (some ⟨gs, 0, none⟩) 1 1))
    (hv : OutD 3 1 t v m (onesV m)) (hs : m ≤ 100000) (hg : o.guard = none) (hdst : o.dst = some d) (hl : Nat.blt d n = true) (hf : e.all (fun p => !Nat.beq p.1 d) = true) (H : St n w0 a w e (h ++ (t ++ hh)))
    (next : ∀ A c t' a w', OutD 3 1 t' (.slice A (m + 1) c) (m + 1) (onesV (m + 1)) → St n w0 a w' ((d, .slice A (m + 1) c) :: e) (h ++ (t' ++ hh)) → wpList Try.prog ops Q rest a w') : wpList Try.prog ops Q (o :: rest) a w :=
  wpList_plain hg fun K_ hK => by
    have H2 : St n w0 a w e ((h ++ hh) ++ t) := H.perm' (by rw [List.append_assoc]; exact List.perm_append_comm.append_left h)
    have hb : Blk w gs (.ty 3) #[.int .i64 1] := H.heap _ (List.mem_append_left _ (List.mem_iff_getElem?.2 ⟨k, hk⟩))
    have hi := int_infoP
    cases hq : Try.prog.info? 3 with
    | none => rw [hq] at hi; cases hi
    | some i =>
      rw [hq] at hi
      simp only [Option.map_some, Option.some.injEq, Prod.mk.injEq] at hi
      obtain ⟨hz0, hsz, hby⟩ := hi
      have hown := hv.owns H2
      obtain ⟨v', w', h1, h2, h3, _, h4⟩ := run_append_own_at (P := Try.prog) w w0.heap.size 33 o.type 3 i _ 1 8 Try.underlying33 hq hz0 hsz hby rfl (by omega) v m (onesV m) hown ⟨gs, 0, none⟩ 1 1 [.int .i64 1] rfl (fun j y hy => by
        rw [Addr.add_lit, Nat.zero_add, hb.cell]
        cases j with
        | zero => exact hy
        | succ j => simp at hy) (fun u hu => by rw [List.mem_singleton.1 hu]; rfl) (by simp only [maxLen]; omega) (by omega) H.below.size
      obtain ⟨t', hv', H', _⟩ := H2.appD hv h2 h3 h4 (by omega)
      rw [show onesV m ++ [.int .i64 1] = onesV (m + 1) from by unfold onesV; rw [List.replicate_succ']] at hv'
      obtain ⟨A, c, rfl, _⟩ := hv'.form
      have H3 : St n w0 a w' e (h ++ (t' ++ hh)) := H'.perm' (by rw [List.append_assoc]; exact List.perm_append_comm.append_left h)
      unfold Oper.wp
      simp [execOp, ho, resolve, invoke, builtin, H.ev hx, H.ev hy, h1, Result.andThen]
      refine hK _ _ (next A c t' _ _ hv' ?_)
      rw [hdst]
      exact H3.put _ hl hf
end
/-- What was written, so far. -/
structure LJ (nb : Nat) (D : Dk) (nw : List UInt8) (m : Nat) : Prop where
  B : D.B = List.replicate nb zeroB
  fu : D.fuse = -1
  de : D.dead = false
  ln : D.L.length = m
  nwl : nw.length = 40
  rd : ∀ n, n < nb → readB D n = fillB (nw.getD n 0)
theorem LJ.nb {nb : Nat} {D : Dk} {nw : List UInt8} {m : Nat} (h : LJ nb D nw m) : D.B.length = nb := by rw [h.B]; exact List.length_replicate
theorem LJ.step {nb : Nat} {D : Dk} {nw : List UInt8} {m : Nat} (h : LJ nb D nw m) : dStep D = (D, 0) := by
  unfold dStep
  rw [if_neg (by rw [h.de]; decide), if_neg (by rw [h.fu]; decide), if_neg (by rw [h.fu]; decide)]
theorem LJ.start (nb : Nat) : LJ nb (dNew nb) (rb 40 b0s) 0 := ⟨rfl, rfl, rfl, rfl, rb_len _ _, fun n hn => by
  have e : readB (dNew nb) n = zeroB := by
    show (List.replicate nb zeroB).getD n [] = zeroB
    rw [List.getD_eq_getElem?_getD, List.getElem?_replicate, if_pos hn]
    rfl
  have e2 : (rb 40 b0s).getD n 0 = 0 := by
    rw [List.getD_eq_getElem?_getD]
    by_cases h4 : n < 40
    · rw [rb_get h4]; rfl
    · rw [List.getElem?_eq_none (by rw [rb_len]; omega)]; rfl
  rw [e, e2, fill_zero]⟩
theorem lw_no {D : Dk} {n : Int} (b : List UInt8) (h : ¬ (0 ≤ n ∧ n < (D.B.length : Int))) : dWrite D n b = (D, 2) := if_neg fun h' => h h'.1
def lwD (D : Dk) (n : Int) (x : UInt8) : Dk := { D with L := D.L ++ [(n.toNat, fillB x)] }
theorem LJ.wr {nb : Nat} {D : Dk} {nw : List UInt8} {m : Nat} (h : LJ nb D nw m) {n : Int} (hn : 0 ≤ n ∧ n < (nb : Int)) (h4 : nb ≤ 40) (x : UInt8) : dWrite D n (fillB x) = (lwD D n x, 0) ∧ LJ nb (lwD D n x) (nw.set n.toNat x) (m + 1) := by
  have hl := h.nb
  refine ⟨?_, h.B, h.fu, h.de, by show (D.L ++ [(n.toNat, fillB x)]).length = m + 1; rw [List.length_append, h.ln]; rfl, by rw [List.length_set]; exact h.nwl, fun i hi => ?_⟩
  · unfold dWrite hasB
    rw [if_pos ⟨⟨hn.1, by rw [hl]; exact hn.2⟩, fill_len x⟩, h.step, if_neg (by decide : ¬ (0 : Int) = 14)]
    rfl
  · have e : readB (lwD D n x) i = if n.toNat = i then fillB x else readB D i := readK_snoc D.B D.L (n.toNat, fillB x) i
    rw [e]
    have hlen := h.nwl
    by_cases e1 : n.toNat = i
    · subst e1
      rw [if_pos rfl, List.getD_eq_getElem?_getD, List.getElem?_set_self (by omega)]
      rfl
    · rw [if_neg e1, h.rd i hi, List.getD_eq_getElem?_getD, List.getD_eq_getElem?_getD, List.getElem?_set_ne e1]
theorem LJ.sync {nb : Nat} {D : Dk} {nw : List UInt8} {m : Nat} (h : LJ nb D nw m) : dSync D = ((dSync D).1, 0) := by
  unfold dSync
  rw [h.step]
  rfl
theorem LJ.rsync {nb : Nat} {D : Dk} {nw : List UInt8} {m : Nat} (h : LJ nb D nw m) (hok : D.ok) (picks : List Int) {n : Nat} (hn : n < nb) : readB (dCrash (dSync D).1 picks) n = fillB (nw.getD n 0) := by
  have e : (dSync D).1 = Dk.mk (settle D.L D.B) [] D.fuse D.dead := by unfold dSync; rw [h.step]; rfl
  rw [e]
  show (settle D.L D.B).getD n [] = _
  rw [settle_read D.L D.B n (fun p hp => (hok.L p hp).1)]
  exact h.rd n hn
theorem LJ.rnone {nb : Nat} {D : Dk} {nw : List UInt8} {m : Nat} (h : LJ nb D nw m) {n : Nat} (hn : n < nb) : readB (dCrash D []) n = fillB 0 := by
  show (crashB [] 0 D.L D.B).getD n [] = _
  rw [crash_none, h.B, List.getD_eq_getElem?_getD, List.getElem?_replicate, if_pos hn, fill_zero]
  rfl
theorem LJ.rall {nb : Nat} {D : Dk} {nw : List UInt8} {m : Nat} (h : LJ nb D nw m) (hok : D.ok) {n : Nat} (hn : n < nb) : readB (dCrash D (List.replicate m 1)) n = fillB (nw.getD n 0) := by
  have e : crashB (List.replicate m 1) 0 D.L D.B = settle D.L D.B := by
    refine crash_each _ D.L 0 D.B hok.B hok.L fun j hj => ?_
    rw [Nat.zero_add, List.getD_eq_getElem?_getD, List.getElem?_replicate, if_pos (by rw [← h.ln]; exact hj)]
    rfl
  show (crashB _ 0 D.L D.B).getD n [] = _
  rw [e, settle_read D.L D.B n (fun p hp => (hok.L p hp).1)]
  exact h.rd n hn
theorem crash_nb {nb : Nat} {D : Dk} (l : List Int) (h : D.B.length = nb) : (dCrash D l).B.length = nb := (crash_len l _ _ _).trans h
theorem sync_nb {nb : Nat} {D : Dk} (h : D.B.length = nb) : (dSync D).1.B.length = nb := by
  unfold dSync
  split
  · exact (settle_len _ _).trans h
  · rw [(step_same D).1]; exact h
attribute [local irreducible] dwa entsI zeroB lastsB stepP lastN xorB rb dWrite dSync dFuse dCrash dEdit dDo readB onesV lwD
set_option maxHeartbeats 32000000 in
theorem law_latest_neg {A1 A2 A3 : Option Addr} {n1 n2 n3 c1 c2 c3 : Nat} {l1 l3 : List Int} {lf : List UInt8} (w : World) (hA : IP w w.heap.size A1 n1 l1) (hF : BS w w.heap.size A2 n2 c2 lf) (hm2 : n2 ≤ maxLen) (hQ : IP w w.heap.size A3 n3 l3) (bl : Int) (hneg : decide (bl < 1) = true) : Calls Try.prog 8 #[.int .i64 bl, .slice A1 n1 c1, .slice A2 n2 c2, .slice A3 n3 c3] w (fun rr w' => rr = .returned (.bool true) ∧ Below w.heap.size w w') := by
  have hmax := hA.max_
  have hmax3 := hQ.max_
  have hbig := max_big
  obtain ⟨gl, ol, hlA⟩ := hA.nat
  obtain ⟨gf, of_, hfA⟩ := hF.nat
  refine calls_st (vs := [.int .i64 bl, .slice A1 n1 c1, .slice A2 n2 c2, .slice A3 n3 c3]) 189 Try.func8 rfl Try.ntmps8 rfl (fun a W H => ?_)
  replace H : St 189 w a W [(0, .int .i64 bl), (1, .slice A1 n1 c1), (2, .slice A2 n2 c2), (3, .slice A3 n3 c3)] (([] : Hep)) := H
  refine sqR H gs0 fun Z_ z_ => rS 1 rfl <| rN0 z_ ?_
  try clear H a W
  intro a W H
  refine wp_seq_k (fun K2 hK2 => ?_)
  refine sqR H gs0 fun Z_ z_ => rS 1 rfl <| rV rfl (does_binOp rfl rfl rfl (zd_lss_int (k := bl) (m := 1) hneg _ _)) <| rS 19 rfl <| rK [1, 0, 0, 0, 0, 0, 0, 0, 0, 0, 0, 0, 0, 0, 0, 0, 0, 0, 0, 0, 0] [] [] <| rN0 z_ ?_
  try clear H a W
  intro a W H
  refine wp_cond_true (H.ev rfl) ?_
  refine sqR H gs0 fun Z_ z_ => rV rfl (does_call rfl ⟨_, Try.func11, by kernel_rfl⟩ rfl (fun W hb => known_any W)) <| rK [1, 1, 0] [] [] <| rS 1 rfl <| rK [1, 0, 0] [] [] <| rN0 z_ ?_
  try clear H a W
  intro a W H
  refine wp_ret ?_
  repeat (first | (with_reducible refine then_ret ?_) | (with_reducible refine blk_ret ?_))
  refine end_tmp (p := 8) rfl rfl H (fun hb => ?_)
  exact ⟨rfl, hb⟩
set_option maxHeartbeats 32000000 in
theorem law_latest_nat {A1 A2 A3 : Option Addr} {n1 n2 n3 c1 c2 c3 : Nat} {l1 l3 : List Int} {lf : List UInt8} (w : World) (hA : IP w w.heap.size A1 n1 l1) (hF : BS w w.heap.size A2 n2 c2 lf) (hm2 : n2 ≤ maxLen) (hQ : IP w w.heap.size A3 n3 l3) (nb : Nat) : Calls Try.prog 8 #[.int .i64 ((nb : Nat) : Int), .slice A1 n1 c1, .slice A2 n2 c2, .slice A3 n3 c3] w (fun rr w' => rr = .returned (.bool true) ∧ Below w.heap.size w w') := by
  have hmax := hA.max_
  have hmax3 := hQ.max_
  have hbig := max_big
  obtain ⟨gl, ol, hlA⟩ := hA.nat
  obtain ⟨gf, of_, hfA⟩ := hF.nat
  refine calls_st (vs := [.int .i64 ((nb : Nat) : Int), .slice A1 n1 c1, .slice A2 n2 c2, .slice A3 n3 c3]) 189 Try.func8 rfl Try.ntmps8 rfl (fun a W H => ?_)
  replace H : St 189 w a W [(0, .int .i64 ((nb : Nat) : Int)), (1, .slice A1 n1 c1), (2, .slice A2 n2 c2), (3, .slice A3 n3 c3)] (([] : Hep)) := H
  refine sqR H gs0 fun Z_ z_ => rS 1 rfl <| rN0 z_ ?_
  try clear H a W
  intro a W H
  refine wp_seq_k (fun K2 hK2 => ?_)
  refine wp_seq_k (fun K3 hK3 => ?_)
  cases hq1 : decide (((nb : Nat) : Int) < 1) with
  | true =>
    have hq1p := of_decide_eq_true hq1
    refine rgP H gs0 (rS 1 rfl <| rV rfl (does_binOp rfl rfl rfl (zd_lss_int (k := ((nb : Nat) : Int)) (m := 1) hq1 _ _)) <| rS 19 rfl <| rK [1, 0, 0, 0, 0, 0, 0, 0, 0, 0, 0, 0, 0, 0, 0, 0, 0, 0, 0, 0, 0] [] [] <| rZ0 ?_)
    try clear H a W
    intro a W H
    refine hK3 _ _ ?_
    clear hK3
    refine wp_cond_true (H.ev rfl) ?_
    refine sqR H gs0 fun Z_ z_ => rV rfl (does_call rfl ⟨_, Try.func11, by kernel_rfl⟩ rfl (fun W hb => known_any W)) <| rK [1, 1, 0] [] [] <| rS 1 rfl <| rK [1, 0, 0] [] [] <| rN0 z_ ?_
    try clear H a W
    intro a W H
    refine wp_ret ?_
    repeat (first | (with_reducible refine then_ret ?_) | (with_reducible refine blk_ret ?_))
    refine end_tmp (p := 8) rfl rfl H (fun hb => ?_)
    exact ⟨rfl, hb⟩
  | false =>
    have hq1p := of_decide_eq_false hq1
    cases hq2 : decide (40 < ((nb : Nat) : Int)) with
    | true =>
      have hq2p := of_decide_eq_true hq2
      refine rgP H gs0 (rS 1 rfl <| rV rfl (does_binOp rfl rfl rfl (zd_lss_int (k := ((nb : Nat) : Int)) (m := 1) hq1 _ _)) <| rS 2 rfl <| rV rfl (does_binOp rfl rfl rfl (zd_gtr_int (k := ((nb : Nat) : Int)) (m := 40) hq2 _ _)) <| rS 16 rfl <| rK [1, 0, 0, 0, 0, 0, 0, 0, 0, 0, 0, 0, 0, 0, 0, 0, 0, 0, 0, 0, 0] [] [] <| rZ0 ?_)
      try clear H a W
      intro a W H
      refine hK3 _ _ ?_
      clear hK3
      refine wp_cond_true (H.ev rfl) ?_
      refine sqR H gs0 fun Z_ z_ => rV rfl (does_call rfl ⟨_, Try.func11, by kernel_rfl⟩ rfl (fun W hb => known_any W)) <| rK [1, 1, 0] [] [] <| rS 1 rfl <| rK [1, 0, 0] [] [] <| rN0 z_ ?_
      try clear H a W
      intro a W H
      refine wp_ret ?_
      repeat (first | (with_reducible refine then_ret ?_) | (with_reducible refine blk_ret ?_))
      refine end_tmp (p := 8) rfl rfl H (fun hb => ?_)
      exact ⟨rfl, hb⟩
    | false =>
      have hq2p := of_decide_eq_false hq2
      cases hq3 : decide (80 < ((n1 : Nat) : Int)) with
      | true =>
        have hq3p := of_decide_eq_true hq3
        refine rgP H gs0 (rS 1 rfl <| rV rfl (does_binOp rfl rfl rfl (zd_lss_int (k := ((nb : Nat) : Int)) (m := 1) hq1 _ _)) <| rS 2 rfl <| rV rfl (does_binOp rfl rfl rfl (zd_gtr_int (k := ((nb : Nat) : Int)) (m := 40) hq2 _ _)) <| rS 3 rfl <| rV rfl (does_len Try.underlying33 rfl rfl) <| rV rfl (does_binOp rfl rfl rfl (zd_gtr_int (k := ((n1 : Nat) : Int)) (m := 80) hq3 _ _)) <| rS 11 rfl <| rK [1, 0, 0, 0, 0, 0, 0, 0, 0, 0, 0, 0, 0, 0, 0, 0, 0, 0, 0, 0, 0] [] [] <| rZ0 ?_)
        try clear H a W
        intro a W H
        refine hK3 _ _ ?_
        clear hK3
        refine wp_cond_true (H.ev rfl) ?_
        refine sqR H gs0 fun Z_ z_ => rV rfl (does_call rfl ⟨_, Try.func11, by kernel_rfl⟩ rfl (fun W hb => known_any W)) <| rK [1, 1, 0] [] [] <| rS 1 rfl <| rK [1, 0, 0] [] [] <| rN0 z_ ?_
        try clear H a W
        intro a W H
        refine wp_ret ?_
        repeat (first | (with_reducible refine then_ret ?_) | (with_reducible refine blk_ret ?_))
        refine end_tmp (p := 8) rfl rfl H (fun hb => ?_)
        exact ⟨rfl, hb⟩
      | false =>
        have hq3p := of_decide_eq_false hq3
        cases hq4 : decide (80 < ((n2 : Nat) : Int)) with
        | true =>
          have hq4p := of_decide_eq_true hq4
          refine rgP H gs0 (rS 1 rfl <| rV rfl (does_binOp rfl rfl rfl (zd_lss_int (k := ((nb : Nat) : Int)) (m := 1) hq1 _ _)) <| rS 2 rfl <| rV rfl (does_binOp rfl rfl rfl (zd_gtr_int (k := ((nb : Nat) : Int)) (m := 40) hq2 _ _)) <| rS 3 rfl <| rV rfl (does_len Try.underlying33 rfl rfl) <| rV rfl (does_binOp rfl rfl rfl (zd_gtr_int (k := ((n1 : Nat) : Int)) (m := 80) hq3 _ _)) <| rS 3 rfl <| rV rfl (does_len Try.underlying39 rfl rfl) <| rV rfl (does_binOp rfl rfl rfl (zd_gtr_int (k := ((n2 : Nat) : Int)) (m := 80) hq4 _ _)) <| rS 6 rfl <| rK [1, 0, 0, 0, 0, 0, 0, 0, 0, 0, 0, 0, 0, 0, 0, 0, 0, 0, 0, 0, 0] [] [] <| rZ0 ?_)
          try clear H a W
          intro a W H
          refine hK3 _ _ ?_
          clear hK3
          refine wp_cond_true (H.ev rfl) ?_
          refine sqR H gs0 fun Z_ z_ => rV rfl (does_call rfl ⟨_, Try.func11, by kernel_rfl⟩ rfl (fun W hb => known_any W)) <| rK [1, 1, 0] [] [] <| rS 1 rfl <| rK [1, 0, 0] [] [] <| rN0 z_ ?_
          try clear H a W
          intro a W H
          refine wp_ret ?_
          repeat (first | (with_reducible refine then_ret ?_) | (with_reducible refine blk_ret ?_))
          refine end_tmp (p := 8) rfl rfl H (fun hb => ?_)
          exact ⟨rfl, hb⟩
        | false =>
          have hq4p := of_decide_eq_false hq4
          refine rgP H gs0 (rS 1 rfl <| rV rfl (does_binOp rfl rfl rfl (zd_lss_int (k := ((nb : Nat) : Int)) (m := 1) hq1 _ _)) <| rS 2 rfl <| rV rfl (does_binOp rfl rfl rfl (zd_gtr_int (k := ((nb : Nat) : Int)) (m := 40) hq2 _ _)) <| rS 3 rfl <| rV rfl (does_len Try.underlying33 rfl rfl) <| rV rfl (does_binOp rfl rfl rfl (zd_gtr_int (k := ((n1 : Nat) : Int)) (m := 80) hq3 _ _)) <| rS 3 rfl <| rV rfl (does_len Try.underlying39 rfl rfl) <| rV rfl (does_binOp rfl rfl rfl (zd_gtr_int (k := ((n2 : Nat) : Int)) (m := 80) hq4 _ _)) <| rS 3 rfl <| rV rfl (does_len Try.underlying33 rfl rfl) <| rV rfl (does_binOp rfl rfl rfl (zd_gtr_int (k := ((n3 : Nat) : Int)) (m := 1000) rfl _ _)) <| rS 1 rfl <| rK [1, 0, 0, 0, 0, 0, 0, 0, 0, 0, 0, 0, 0, 0, 0, 0, 0, 0, 0, 0, 0] [] [] <| rZ0 ?_)
          try clear H a W
          intro a W H
          refine hK3 _ _ ?_
          clear hK3
          cases hq5 : decide (1000 < ((n3 : Nat) : Int)) with
          | true =>
            rw [hq5] at H
            have hq5p := of_decide_eq_true hq5
            refine wp_cond_true (H.ev rfl) ?_
            refine sqR H gs0 fun Z_ z_ => rV rfl (does_call rfl ⟨_, Try.func11, by kernel_rfl⟩ rfl (fun W hb => known_any W)) <| rK [1, 1, 0] [] [] <| rS 1 rfl <| rK [1, 0, 0] [] [] <| rN0 z_ ?_
            try clear H a W
            intro a W H
            refine wp_ret ?_
            repeat (first | (with_reducible refine then_ret ?_) | (with_reducible refine blk_ret ?_))
            refine end_tmp (p := 8) rfl rfl H (fun hb => ?_)
            exact ⟨rfl, hb⟩
          | false =>
            rw [hq5] at H
            have hq5p := of_decide_eq_false hq5
            refine wp_cond_false (H.ev rfl) ?_
            refine wp_skip ?_
            refine hK2 _ _ ?_
            clear hK2
            refine wp_seq_k (fun K9 hK9 => ?_)
            refine rgP H gs0 (rS 1 rfl <| rI0 ?_)
            try clear H a W
            intro a W H
            replace H : St 189 w a W [(47, .int .i64 ((nb : Nat) : Int)), (44, .bool false), (8, .bool false), (0, .int .i64 ((nb : Nat) : Int)), (1, .slice A1 n1 c1), (2, .slice A2 n2 c2), (3, .slice A3 n3 c3)] (([] : Hep) ++ ([] : Hep)) := H
            refine pl_callX rfl rfl ⟨_, Try.func12, by kernel_rfl⟩ rfl (fun K_ => po_new (hh := (([] : Hep) ++ ([] : Hep))) nb (by omega) w _ K_) H ?_
            try clear H a W
            rintro ⟨p1, r1⟩ a W hP1 H
            replace hP1 : PO p1 (dNew nb) r1 := hP1
            replace H := H.perm' (List.perm_append_comm_assoc r1 ([] : Hep) ([] : Hep))
            replace H : St 189 w a W [(48, .tuple #[.pointer (some ⟨p1, 0, none⟩), .int .i64 0]), (47, .int .i64 ((nb : Nat) : Int)), (44, .bool false), (8, .bool false), (0, .int .i64 ((nb : Nat) : Int)), (1, .slice A1 n1 c1), (2, .slice A2 n2 c2), (3, .slice A3 n3 c3)] ((r1 ++ ([] : Hep))) := H
            refine rgO H gs0 (rS 5 rfl <| rK [1, 1, 0, 0, 0, 0, 0, 0] [] [] <| rZ0 ?_)
            try clear H a W
            intro a W H
            refine hK9 _ _ ?_
            clear hK9
            refine wp_seq_k (fun K10 hK10 => ?_)
            refine sqR H gs0 fun Z_ z_ => rS 1 rfl <| rV rfl (does_binOp rfl rfl rfl (fun W => ptr_nil W)) <| rS 2 rfl <| rV rfl (does_call rfl ⟨_, Try.func13, by kernel_rfl⟩ rfl (fun W hb => num_any _ W)) <| rV rfl (does_binOp rfl rfl rfl (zd_neq_int (k := 0) (m := 0) (decide_eq_false (by omega)) _ _)) <| rS 1 rfl <| rK [1, 0, 0, 0, 0, 0, 0, 0] [] [] <| rN0 z_ ?_
            try clear H a W
            intro a W H
            refine wp_cond_false (H.ev rfl) ?_
            refine wp_skip ?_
            refine hK10 _ _ ?_
            clear hK10
            refine sqR H gs0 fun Z_ z_ => rA rfl rfl al_arr40 fun g1 => rK [1, 0] [] [] <| rN0 z_ ?_
            try clear H a W
            intro a W H
            refine sqR H gs0 fun Z_ z_ => rS 1 rfl <| rN0 z_ ?_
            try clear H a W
            intro a W H
            refine wp_seq_k (fun K14 hK14 => ?_)
            refine sqR H gs0 fun Z_ z_ => rS 1 rfl <| rN0 z_ ?_
            try clear H a W
            intro a W H
            replace H : St 189 w a W [(13, .int .i64 0), (12, .slice none 0 0), (11, .pointer (some ⟨g1, 0, none⟩)), (9, .pointer (some ⟨p1, 0, none⟩)), (8, .bool false), (0, .int .i64 ((nb : Nat) : Int)), (1, .slice A1 n1 c1), (2, .slice A2 n2 c2), (3, .slice A3 n3 c3)] ((g1, 60, bvs (rb 40 b0s)) :: (([] : Hep) ++ (r1 ++ ([] : Hep)))) := H
            refine wp_block ?_
            replace H := H.perm' ((((List.Perm.refl _).append_left ([] : Hep)).trans (List.perm_append_comm_assoc ([] : Hep) r1 ([] : Hep))).append_left ([(g1, .ty 60, bvs (rb 40 b0s))] : Hep))
            replace H : St 189 w a W [(13, .int .i64 0), (12, .slice none 0 0), (11, .pointer (some ⟨g1, 0, none⟩)), (9, .pointer (some ⟨p1, 0, none⟩)), (8, .bool false), (0, .int .i64 ((nb : Nat) : Int)), (1, .slice A1 n1 c1), (2, .slice A2 n2 c2), (3, .slice A3 n3 c3)] ((g1, 60, bvs (rb 40 b0s)) :: (r1 ++ (([] : Hep) ++ ([] : Hep)))) := H
            replace H := H.perm' ((((List.Perm.refl _).append_left r1).trans (List.perm_append_comm_assoc r1 ([] : Hep) ([] : Hep))).append_left ([(g1, .ty 60, bvs (rb 40 b0s))] : Hep))
            replace H : St 189 w a W [(13, .int .i64 0), (12, .slice none 0 0), (11, .pointer (some ⟨g1, 0, none⟩)), (9, .pointer (some ⟨p1, 0, none⟩)), (8, .bool false), (0, .int .i64 ((nb : Nat) : Int)), (1, .slice A1 n1 c1), (2, .slice A2 n2 c2), (3, .slice A3 n3 c3)] ((g1, 60, bvs (rb 40 b0s)) :: (([] : Hep) ++ (r1 ++ ([] : Hep)))) := H
            replace H : St 189 w a W [(13, .int .i64 0), (12, .slice none 0 0), (11, .pointer (some ⟨g1, 0, none⟩)), (9, .pointer (some ⟨p1, 0, none⟩)), (0, .int .i64 ((nb : Nat) : Int)), (1, .slice A1 n1 c1), (2, .slice A2 n2 c2), (3, .slice A3 n3 c3)] ((g1, 60, bvs (rb 40 b0s)) :: (([] : Hep) ++ (r1 ++ ([] : Hep)))) := H.pickF (h := [(g1, 60, bvs (rb 40 b0s))]) (t := (([] : Hep) ++ (r1 ++ ([] : Hep)))) [0, 1, 2, 3, 5, 6, 7, 8] [0] rfl
            refine wp_rounds (min n1 n2) (fun k a W => ∃ D r te Ae ce nw m, (PO p1 D r ∧ OutD 3 1 te (.slice Ae m ce) m (onesV m) ∧ LJ nb D nw m ∧ m ≤ k) ∧ St 189 w a W [(13, .int .i64 ((k : Nat) : Int)), (12, .slice Ae m ce), (11, .pointer (some ⟨g1, 0, none⟩)), (9, .pointer (some ⟨p1, 0, none⟩)), (0, .int .i64 ((nb : Nat) : Int)), (1, .slice A1 n1 c1), (2, .slice A2 n2 c2), (3, .slice A3 n3 c3)] ((g1, 60, bvs nw) :: (te ++ (r ++ ([] : Hep))))) (k0 := 0) ⟨(dNew nb), r1, [], none, 0, rb 40 b0s, 0, ⟨hP1, ones_nil, LJ.start nb, Nat.le_refl _⟩, H⟩ (by omega) ?_
            try clear H a W
            rintro k a W hk ⟨D, r, te, Ae, ce, nw, m, hJ, H⟩
            by_cases hk2 : k < (min n1 n2)
            · have hDn := hJ.2.2.1.nb
              refine wp_seq_k (fun K16 hK16 => ?_)
              refine sqR H gs0 fun Z_ z_ => rS 2 rfl <| rV rfl (does_len Try.underlying33 rfl rfl) <| rV rfl (does_binOp rfl rfl rfl (zd_lss_int (k := ((k : Nat) : Int)) (m := ((n1 : Nat) : Int)) (decide_eq_true (by omega)) _ _)) <| rS 3 rfl <| rV rfl (does_len Try.underlying39 rfl rfl) <| rV rfl (does_binOp rfl rfl rfl (zd_lss_int (k := ((k : Nat) : Int)) (m := ((n2 : Nat) : Int)) (decide_eq_true (by omega)) _ _)) <| rS 1 rfl <| rN0 z_ ?_
              try clear H a W
              intro a W H
              refine wp_cond_true (H.ev rfl) ?_
              refine wp_skip ?_
              refine hK16 _ _ ?_
              clear hK16
              refine wp_seq_k (fun K18 hK18 => ?_)
              refine wp_block ?_
              refine sqR H gs0 fun Z_ z_ => rS 2 rfl <| rV rfl (does_indexAddr rfl rfl rfl (ia_ints (j := k) (hlA (by omega)).1 (by omega))) <| rV rfl (does_loadCell (v := .int .i64 (l1.getD k 0)) rfl rfl ((hlA (by omega)).2.2 k (by omega)) (hlA (by omega)).2.1 ld_intP) <| rS 1 rfl <| rN0 z_ ?_
              try clear H a W
              intro a W H
              refine wp_seq_k (fun K20 hK20 => ?_)
              refine wp_seq_k (fun K21 hK21 => ?_)
              cases hq6 : decide ((l1.getD k 0) < 0) with
              | true =>
                have hq6p := of_decide_eq_true hq6
                refine rgP H gs0 (rS 1 rfl <| rV rfl (does_binOp rfl rfl rfl (zd_lss_int (k := (l1.getD k 0)) (m := 0) hq6 _ _)) <| rS 5 rfl <| rZ0 ?_)
                try clear H a W
                intro a W H
                refine hK21 _ _ ?_
                clear hK21
                refine wp_cond_true (H.ev rfl) ?_
                refine wp_seq_k (fun K22 hK22 => ?_)
                refine wp_seq_k (fun K23 hK23 => ?_)
                refine rgP H gs0 (rS 4 rfl <| rV rfl (does_indexAddr rfl rfl rfl (ia_bO (j := k) (hfA (by omega)).1 (by omega))) <| rV rfl (does_loadCell (v := bv (lf.getD k 0)) rfl rfl ((hfA (by omega)).2.2 k (by omega)) (hfA (by omega)).2.1 ld_u8O) <| rI0 ?_)
                try clear H a W
                intro a W H
                refine pl_callX rfl rfl ⟨_, Try.func29, by kernel_rfl⟩ rfl (fun K_ => fill_K (lf.getD k 0) K_) H ?_
                try clear H a W
                rintro g2 a W - H
                replace H : St 189 w a W [(87, .slice (some ⟨g2, 0, none⟩) 512 512), (86, bv (lf.getD k 0)), (85, .pointer (some ⟨gf, of_ + k, none⟩)), (84, .int .i64 ((k : Nat) : Int)), (83, .slice A2 n2 c2), (82, .int .i64 (l1.getD k 0)), (81, .pointer (some ⟨p1, 0, none⟩)), (80, .bool true), (79, undef), (78, undef), (77, undef), (76, .bool true), (75, .bool true), (74, .int .i64 (l1.getD k 0)), (14, .int .i64 (l1.getD k 0)), (73, .int .i64 (l1.getD k 0)), (72, .pointer (some ⟨gl, ol + k, none⟩)), (71, .int .i64 ((k : Nat) : Int)), (70, .slice A1 n1 c1), (67, .bool true), (66, .bool true), (65, .int .i64 ((n2 : Nat) : Int)), (64, .slice A2 n2 c2), (63, .int .i64 ((k : Nat) : Int)), (62, .bool true), (61, .bool true), (60, .int .i64 ((n1 : Nat) : Int)), (59, .slice A1 n1 c1), (58, .int .i64 ((k : Nat) : Int)), (13, .int .i64 ((k : Nat) : Int)), (12, .slice Ae m ce), (11, .pointer (some ⟨g1, 0, none⟩)), (9, .pointer (some ⟨p1, 0, none⟩)), (0, .int .i64 ((nb : Nat) : Int)), (1, .slice A1 n1 c1), (2, .slice A2 n2 c2), (3, .slice A3 n3 c3)] ((g2, 5, bvs (fillB (lf.getD k 0))) :: (g1, 60, bvs nw) :: (te ++ (r ++ ([] : Hep)))) := H
                replace H : St 189 w a W [(87, .slice (some ⟨g2, 0, none⟩) 512 512), (86, bv (lf.getD k 0)), (85, .pointer (some ⟨gf, of_ + k, none⟩)), (84, .int .i64 ((k : Nat) : Int)), (83, .slice A2 n2 c2), (82, .int .i64 (l1.getD k 0)), (81, .pointer (some ⟨p1, 0, none⟩)), (80, .bool true), (79, undef), (78, undef), (77, undef), (76, .bool true), (75, .bool true), (74, .int .i64 (l1.getD k 0)), (14, .int .i64 (l1.getD k 0)), (73, .int .i64 (l1.getD k 0)), (72, .pointer (some ⟨gl, ol + k, none⟩)), (71, .int .i64 ((k : Nat) : Int)), (70, .slice A1 n1 c1), (67, .bool true), (66, .bool true), (65, .int .i64 ((n2 : Nat) : Int)), (64, .slice A2 n2 c2), (63, .int .i64 ((k : Nat) : Int)), (62, .bool true), (61, .bool true), (60, .int .i64 ((n1 : Nat) : Int)), (59, .slice A1 n1 c1), (58, .int .i64 ((k : Nat) : Int)), (13, .int .i64 ((k : Nat) : Int)), (12, .slice Ae m ce), (11, .pointer (some ⟨g1, 0, none⟩)), (9, .pointer (some ⟨p1, 0, none⟩)), (0, .int .i64 ((nb : Nat) : Int)), (1, .slice A1 n1 c1), (2, .slice A2 n2 c2), (3, .slice A3 n3 c3)] (r ++ (([(g2, .ty 5, bvs (fillB (lf.getD k 0))), (g1, .ty 60, bvs nw)] : Hep) ++ (te ++ ([] : Hep)))) := H.perm' (((((List.Perm.refl _).append_left te).trans (List.perm_append_comm_assoc te r ([] : Hep))).append_left ([(g2, .ty 5, bvs (fillB (lf.getD k 0))), (g1, .ty 60, bvs nw)] : Hep)).trans (List.perm_append_comm_assoc ([(g2, .ty 5, bvs (fillB (lf.getD k 0))), (g1, .ty 60, bvs nw)] : Hep) r (te ++ ([] : Hep))))
                refine pl_callX rfl rfl ⟨_, Try.func28, by kernel_rfl⟩ rfl (fun K_ => by have h_ := po_write (hh := (([(g2, .ty 5, bvs (fillB (lf.getD k 0))), (g1, .ty 60, bvs nw)] : Hep) ++ (te ++ ([] : Hep)))) (b := fillB (lf.getD k 0)) (gb := g2) (cb := 512) hJ.1 (l1.getD k 0) (by rw [fill_len _]; omega) (List.mem_append_left _ (List.mem_iff_getElem?.2 ⟨0, rfl⟩)) (by have h_ := hJ.2.2.1.ln; omega) w _ K_; rw [show (fillB (lf.getD k 0)).length = 512 from (fill_len _)] at h_; rw [lw_no _ (by omega)] at h_; exact h_) H ?_
                try clear H a W
                rintro r2 a W hP2 H
                replace hP2 : PO p1 D r2 := hP2
                replace H := H.perm' (List.perm_append_comm_assoc r2 ([(g2, .ty 5, bvs (fillB (lf.getD k 0))), (g1, .ty 60, bvs nw)] : Hep) (te ++ ([] : Hep)))
                replace H : St 189 w a W [(88, .int .i64 2), (87, .slice (some ⟨g2, 0, none⟩) 512 512), (86, bv (lf.getD k 0)), (85, .pointer (some ⟨gf, of_ + k, none⟩)), (84, .int .i64 ((k : Nat) : Int)), (83, .slice A2 n2 c2), (82, .int .i64 (l1.getD k 0)), (81, .pointer (some ⟨p1, 0, none⟩)), (80, .bool true), (79, undef), (78, undef), (77, undef), (76, .bool true), (75, .bool true), (74, .int .i64 (l1.getD k 0)), (14, .int .i64 (l1.getD k 0)), (73, .int .i64 (l1.getD k 0)), (72, .pointer (some ⟨gl, ol + k, none⟩)), (71, .int .i64 ((k : Nat) : Int)), (70, .slice A1 n1 c1), (67, .bool true), (66, .bool true), (65, .int .i64 ((n2 : Nat) : Int)), (64, .slice A2 n2 c2), (63, .int .i64 ((k : Nat) : Int)), (62, .bool true), (61, .bool true), (60, .int .i64 ((n1 : Nat) : Int)), (59, .slice A1 n1 c1), (58, .int .i64 ((k : Nat) : Int)), (13, .int .i64 ((k : Nat) : Int)), (12, .slice Ae m ce), (11, .pointer (some ⟨g1, 0, none⟩)), (9, .pointer (some ⟨p1, 0, none⟩)), (0, .int .i64 ((nb : Nat) : Int)), (1, .slice A1 n1 c1), (2, .slice A2 n2 c2), (3, .slice A3 n3 c3)] ((g2, 5, bvs (fillB (lf.getD k 0))) :: (g1, 60, bvs nw) :: (r2 ++ (te ++ ([] : Hep)))) := H
                refine rgO H gs0 (rV rfl (does_call rfl ⟨_, Try.func13, by kernel_rfl⟩ rfl (fun W hb => num_any _ W)) <| rV rfl (does_binOp rfl rfl rfl (zd_neq_int (k := 2) (m := 2) (decide_eq_false (by omega)) _ _)) <| rZ0 ?_)
                try clear H a W
                intro a W H
                refine hK23 _ _ ?_
                clear hK23
                refine wp_cond_false (H.ev rfl) ?_
                refine wp_skip ?_
                refine hK22 _ _ ?_
                clear hK22
                refine wp_exit ?_
                repeat (first | (with_reducible refine then_exit ?_) | (with_reducible refine blk_pass (by decide) ?_))
                refine blk_exit ?_
                refine hK18 _ _ ?_
                clear hK18
                refine rgP H gs0 (rS 1 rfl <| rV rfl (does_binOp rfl rfl rfl (zd_add_int (k := ((k : Nat) : Int)) (m := 1) (c := ((k + 1 : Nat) : Int)) (by omega) (by omega) _ _)) <| rK [1, 1, 1, 1, 1, 1, 1, 1, 1, 1, 1, 1, 1, 1, 1, 1, 1, 1, 1, 1, 1, 1, 1, 1, 1, 1, 1, 1, 1, 1, 1, 1, 1, 1, 0] [] [] <| rS 1 rfl <| rZ0 ?_)
                try clear H a W
                intro a W H
                replace H := H.perm' ((((List.Perm.refl _).append_left r2).trans (List.perm_append_comm_assoc r2 te ([] : Hep))).append_left ([(g2, .ty 5, bvs (fillB (lf.getD k 0))), (g1, .ty 60, bvs nw)] : Hep))
                replace H : St 189 w a W [(13, .int .i64 ((k + 1 : Nat) : Int)), (69, .int .i64 ((k + 1 : Nat) : Int)), (68, .int .i64 ((k : Nat) : Int)), (90, .bool false), (89, .int .i64 2), (88, .int .i64 2), (87, .slice (some ⟨g2, 0, none⟩) 512 512), (86, bv (lf.getD k 0)), (85, .pointer (some ⟨gf, of_ + k, none⟩)), (84, .int .i64 ((k : Nat) : Int)), (83, .slice A2 n2 c2), (82, .int .i64 (l1.getD k 0)), (81, .pointer (some ⟨p1, 0, none⟩)), (80, .bool true), (79, undef), (78, undef), (77, undef), (76, .bool true), (75, .bool true), (74, .int .i64 (l1.getD k 0)), (14, .int .i64 (l1.getD k 0)), (73, .int .i64 (l1.getD k 0)), (72, .pointer (some ⟨gl, ol + k, none⟩)), (71, .int .i64 ((k : Nat) : Int)), (70, .slice A1 n1 c1), (67, .bool true), (66, .bool true), (65, .int .i64 ((n2 : Nat) : Int)), (64, .slice A2 n2 c2), (63, .int .i64 ((k : Nat) : Int)), (62, .bool true), (61, .bool true), (60, .int .i64 ((n1 : Nat) : Int)), (59, .slice A1 n1 c1), (58, .int .i64 ((k : Nat) : Int)), (12, .slice Ae m ce), (11, .pointer (some ⟨g1, 0, none⟩)), (9, .pointer (some ⟨p1, 0, none⟩)), (0, .int .i64 ((nb : Nat) : Int)), (1, .slice A1 n1 c1), (2, .slice A2 n2 c2), (3, .slice A3 n3 c3)] ((g2, 5, bvs (fillB (lf.getD k 0))) :: (g1, 60, bvs nw) :: (te ++ (r2 ++ ([] : Hep)))) := H
                refine ⟨k + 1, by omega, by omega, D, r2, te, Ae, ce, nw, m, ⟨hP2, hJ.2.1, hJ.2.2.1, by omega⟩, ?_⟩
                exact H.pickF (h := [(g2, 5, bvs (fillB (lf.getD k 0))), (g1, 60, bvs nw)]) (t := (te ++ (r2 ++ ([] : Hep)))) [0, 35, 36, 37, 38, 39, 40, 41] [1] rfl
              | false =>
                have hq6p := of_decide_eq_false hq6
                refine rgP H gs0 (rS 1 rfl <| rV rfl (does_binOp rfl rfl rfl (zd_lss_int (k := (l1.getD k 0)) (m := 0) hq6 _ _)) <| rS 3 rfl <| rV rfl (does_binOp rfl rfl rfl (zd_geq_int (k := (l1.getD k 0)) (m := ((nb : Nat) : Int)) rfl _ _)) <| rS 1 rfl <| rZ0 ?_)
                try clear H a W
                intro a W H
                refine hK21 _ _ ?_
                clear hK21
                cases hq7 : decide (((nb : Nat) : Int) ≤ (l1.getD k 0)) with
                | true =>
                  rw [hq7] at H
                  have hq7p := of_decide_eq_true hq7
                  refine wp_cond_true (H.ev rfl) ?_
                  refine wp_seq_k (fun K24 hK24 => ?_)
                  refine wp_seq_k (fun K25 hK25 => ?_)
                  refine rgP H gs0 (rS 4 rfl <| rV rfl (does_indexAddr rfl rfl rfl (ia_bO (j := k) (hfA (by omega)).1 (by omega))) <| rV rfl (does_loadCell (v := bv (lf.getD k 0)) rfl rfl ((hfA (by omega)).2.2 k (by omega)) (hfA (by omega)).2.1 ld_u8O) <| rI0 ?_)
                  try clear H a W
                  intro a W H
                  refine pl_callX rfl rfl ⟨_, Try.func29, by kernel_rfl⟩ rfl (fun K_ => fill_K (lf.getD k 0) K_) H ?_
                  try clear H a W
                  rintro g3 a W - H
                  replace H : St 189 w a W [(87, .slice (some ⟨g3, 0, none⟩) 512 512), (86, bv (lf.getD k 0)), (85, .pointer (some ⟨gf, of_ + k, none⟩)), (84, .int .i64 ((k : Nat) : Int)), (83, .slice A2 n2 c2), (82, .int .i64 (l1.getD k 0)), (81, .pointer (some ⟨p1, 0, none⟩)), (80, .bool true), (79, .bool true), (78, .int .i64 ((nb : Nat) : Int)), (77, .int .i64 (l1.getD k 0)), (76, .bool false), (75, .bool false), (74, .int .i64 (l1.getD k 0)), (14, .int .i64 (l1.getD k 0)), (73, .int .i64 (l1.getD k 0)), (72, .pointer (some ⟨gl, ol + k, none⟩)), (71, .int .i64 ((k : Nat) : Int)), (70, .slice A1 n1 c1), (67, .bool true), (66, .bool true), (65, .int .i64 ((n2 : Nat) : Int)), (64, .slice A2 n2 c2), (63, .int .i64 ((k : Nat) : Int)), (62, .bool true), (61, .bool true), (60, .int .i64 ((n1 : Nat) : Int)), (59, .slice A1 n1 c1), (58, .int .i64 ((k : Nat) : Int)), (13, .int .i64 ((k : Nat) : Int)), (12, .slice Ae m ce), (11, .pointer (some ⟨g1, 0, none⟩)), (9, .pointer (some ⟨p1, 0, none⟩)), (0, .int .i64 ((nb : Nat) : Int)), (1, .slice A1 n1 c1), (2, .slice A2 n2 c2), (3, .slice A3 n3 c3)] ((g3, 5, bvs (fillB (lf.getD k 0))) :: (g1, 60, bvs nw) :: (te ++ (r ++ ([] : Hep)))) := H
                  replace H : St 189 w a W [(87, .slice (some ⟨g3, 0, none⟩) 512 512), (86, bv (lf.getD k 0)), (85, .pointer (some ⟨gf, of_ + k, none⟩)), (84, .int .i64 ((k : Nat) : Int)), (83, .slice A2 n2 c2), (82, .int .i64 (l1.getD k 0)), (81, .pointer (some ⟨p1, 0, none⟩)), (80, .bool true), (79, .bool true), (78, .int .i64 ((nb : Nat) : Int)), (77, .int .i64 (l1.getD k 0)), (76, .bool false), (75, .bool false), (74, .int .i64 (l1.getD k 0)), (14, .int .i64 (l1.getD k 0)), (73, .int .i64 (l1.getD k 0)), (72, .pointer (some ⟨gl, ol + k, none⟩)), (71, .int .i64 ((k : Nat) : Int)), (70, .slice A1 n1 c1), (67, .bool true), (66, .bool true), (65, .int .i64 ((n2 : Nat) : Int)), (64, .slice A2 n2 c2), (63, .int .i64 ((k : Nat) : Int)), (62, .bool true), (61, .bool true), (60, .int .i64 ((n1 : Nat) : Int)), (59, .slice A1 n1 c1), (58, .int .i64 ((k : Nat) : Int)), (13, .int .i64 ((k : Nat) : Int)), (12, .slice Ae m ce), (11, .pointer (some ⟨g1, 0, none⟩)), (9, .pointer (some ⟨p1, 0, none⟩)), (0, .int .i64 ((nb : Nat) : Int)), (1, .slice A1 n1 c1), (2, .slice A2 n2 c2), (3, .slice A3 n3 c3)] (r ++ (([(g3, .ty 5, bvs (fillB (lf.getD k 0))), (g1, .ty 60, bvs nw)] : Hep) ++ (te ++ ([] : Hep)))) := H.perm' (((((List.Perm.refl _).append_left te).trans (List.perm_append_comm_assoc te r ([] : Hep))).append_left ([(g3, .ty 5, bvs (fillB (lf.getD k 0))), (g1, .ty 60, bvs nw)] : Hep)).trans (List.perm_append_comm_assoc ([(g3, .ty 5, bvs (fillB (lf.getD k 0))), (g1, .ty 60, bvs nw)] : Hep) r (te ++ ([] : Hep))))
                  refine pl_callX rfl rfl ⟨_, Try.func28, by kernel_rfl⟩ rfl (fun K_ => by have h_ := po_write (hh := (([(g3, .ty 5, bvs (fillB (lf.getD k 0))), (g1, .ty 60, bvs nw)] : Hep) ++ (te ++ ([] : Hep)))) (b := fillB (lf.getD k 0)) (gb := g3) (cb := 512) hJ.1 (l1.getD k 0) (by rw [fill_len _]; omega) (List.mem_append_left _ (List.mem_iff_getElem?.2 ⟨0, rfl⟩)) (by have h_ := hJ.2.2.1.ln; omega) w _ K_; rw [show (fillB (lf.getD k 0)).length = 512 from (fill_len _)] at h_; rw [lw_no _ (by omega)] at h_; exact h_) H ?_
                  try clear H a W
                  rintro r3 a W hP3 H
                  replace hP3 : PO p1 D r3 := hP3
                  replace H := H.perm' (List.perm_append_comm_assoc r3 ([(g3, .ty 5, bvs (fillB (lf.getD k 0))), (g1, .ty 60, bvs nw)] : Hep) (te ++ ([] : Hep)))
                  replace H : St 189 w a W [(88, .int .i64 2), (87, .slice (some ⟨g3, 0, none⟩) 512 512), (86, bv (lf.getD k 0)), (85, .pointer (some ⟨gf, of_ + k, none⟩)), (84, .int .i64 ((k : Nat) : Int)), (83, .slice A2 n2 c2), (82, .int .i64 (l1.getD k 0)), (81, .pointer (some ⟨p1, 0, none⟩)), (80, .bool true), (79, .bool true), (78, .int .i64 ((nb : Nat) : Int)), (77, .int .i64 (l1.getD k 0)), (76, .bool false), (75, .bool false), (74, .int .i64 (l1.getD k 0)), (14, .int .i64 (l1.getD k 0)), (73, .int .i64 (l1.getD k 0)), (72, .pointer (some ⟨gl, ol + k, none⟩)), (71, .int .i64 ((k : Nat) : Int)), (70, .slice A1 n1 c1), (67, .bool true), (66, .bool true), (65, .int .i64 ((n2 : Nat) : Int)), (64, .slice A2 n2 c2), (63, .int .i64 ((k : Nat) : Int)), (62, .bool true), (61, .bool true), (60, .int .i64 ((n1 : Nat) : Int)), (59, .slice A1 n1 c1), (58, .int .i64 ((k : Nat) : Int)), (13, .int .i64 ((k : Nat) : Int)), (12, .slice Ae m ce), (11, .pointer (some ⟨g1, 0, none⟩)), (9, .pointer (some ⟨p1, 0, none⟩)), (0, .int .i64 ((nb : Nat) : Int)), (1, .slice A1 n1 c1), (2, .slice A2 n2 c2), (3, .slice A3 n3 c3)] ((g3, 5, bvs (fillB (lf.getD k 0))) :: (g1, 60, bvs nw) :: (r3 ++ (te ++ ([] : Hep)))) := H
                  refine rgO H gs0 (rV rfl (does_call rfl ⟨_, Try.func13, by kernel_rfl⟩ rfl (fun W hb => num_any _ W)) <| rV rfl (does_binOp rfl rfl rfl (zd_neq_int (k := 2) (m := 2) (decide_eq_false (by omega)) _ _)) <| rZ0 ?_)
                  try clear H a W
                  intro a W H
                  refine hK25 _ _ ?_
                  clear hK25
                  refine wp_cond_false (H.ev rfl) ?_
                  refine wp_skip ?_
                  refine hK24 _ _ ?_
                  clear hK24
                  refine wp_exit ?_
                  repeat (first | (with_reducible refine then_exit ?_) | (with_reducible refine blk_pass (by decide) ?_))
                  refine blk_exit ?_
                  refine hK18 _ _ ?_
                  clear hK18
                  refine rgP H gs0 (rS 1 rfl <| rV rfl (does_binOp rfl rfl rfl (zd_add_int (k := ((k : Nat) : Int)) (m := 1) (c := ((k + 1 : Nat) : Int)) (by omega) (by omega) _ _)) <| rK [1, 1, 1, 1, 1, 1, 1, 1, 1, 1, 1, 1, 1, 1, 1, 1, 1, 1, 1, 1, 1, 1, 1, 1, 1, 1, 1, 1, 1, 1, 1, 1, 1, 1, 0] [] [] <| rS 1 rfl <| rZ0 ?_)
                  try clear H a W
                  intro a W H
                  replace H := H.perm' ((((List.Perm.refl _).append_left r3).trans (List.perm_append_comm_assoc r3 te ([] : Hep))).append_left ([(g3, .ty 5, bvs (fillB (lf.getD k 0))), (g1, .ty 60, bvs nw)] : Hep))
                  replace H : St 189 w a W [(13, .int .i64 ((k + 1 : Nat) : Int)), (69, .int .i64 ((k + 1 : Nat) : Int)), (68, .int .i64 ((k : Nat) : Int)), (90, .bool false), (89, .int .i64 2), (88, .int .i64 2), (87, .slice (some ⟨g3, 0, none⟩) 512 512), (86, bv (lf.getD k 0)), (85, .pointer (some ⟨gf, of_ + k, none⟩)), (84, .int .i64 ((k : Nat) : Int)), (83, .slice A2 n2 c2), (82, .int .i64 (l1.getD k 0)), (81, .pointer (some ⟨p1, 0, none⟩)), (80, .bool true), (79, .bool true), (78, .int .i64 ((nb : Nat) : Int)), (77, .int .i64 (l1.getD k 0)), (76, .bool false), (75, .bool false), (74, .int .i64 (l1.getD k 0)), (14, .int .i64 (l1.getD k 0)), (73, .int .i64 (l1.getD k 0)), (72, .pointer (some ⟨gl, ol + k, none⟩)), (71, .int .i64 ((k : Nat) : Int)), (70, .slice A1 n1 c1), (67, .bool true), (66, .bool true), (65, .int .i64 ((n2 : Nat) : Int)), (64, .slice A2 n2 c2), (63, .int .i64 ((k : Nat) : Int)), (62, .bool true), (61, .bool true), (60, .int .i64 ((n1 : Nat) : Int)), (59, .slice A1 n1 c1), (58, .int .i64 ((k : Nat) : Int)), (12, .slice Ae m ce), (11, .pointer (some ⟨g1, 0, none⟩)), (9, .pointer (some ⟨p1, 0, none⟩)), (0, .int .i64 ((nb : Nat) : Int)), (1, .slice A1 n1 c1), (2, .slice A2 n2 c2), (3, .slice A3 n3 c3)] ((g3, 5, bvs (fillB (lf.getD k 0))) :: (g1, 60, bvs nw) :: (te ++ (r3 ++ ([] : Hep)))) := H
                  refine ⟨k + 1, by omega, by omega, D, r3, te, Ae, ce, nw, m, ⟨hP3, hJ.2.1, hJ.2.2.1, by omega⟩, ?_⟩
                  exact H.pickF (h := [(g3, 5, bvs (fillB (lf.getD k 0))), (g1, 60, bvs nw)]) (t := (te ++ (r3 ++ ([] : Hep)))) [0, 35, 36, 37, 38, 39, 40, 41] [1] rfl
                | false =>
                  rw [hq7] at H
                  have hq7p := of_decide_eq_false hq7
                  refine wp_cond_false (H.ev rfl) ?_
                  refine wp_skip ?_
                  refine hK20 _ _ ?_
                  clear hK20
                  refine wp_seq_k (fun K26 hK26 => ?_)
                  refine wp_seq_k (fun K27 hK27 => ?_)
                  refine rgP H gs0 (rS 4 rfl <| rV rfl (does_indexAddr rfl rfl rfl (ia_bO (j := k) (hfA (by omega)).1 (by omega))) <| rV rfl (does_loadCell (v := bv (lf.getD k 0)) rfl rfl ((hfA (by omega)).2.2 k (by omega)) (hfA (by omega)).2.1 ld_u8O) <| rI0 ?_)
                  try clear H a W
                  intro a W H
                  refine pl_callX rfl rfl ⟨_, Try.func29, by kernel_rfl⟩ rfl (fun K_ => fill_K (lf.getD k 0) K_) H ?_
                  try clear H a W
                  rintro g4 a W - H
                  replace H : St 189 w a W [(97, .slice (some ⟨g4, 0, none⟩) 512 512), (96, bv (lf.getD k 0)), (95, .pointer (some ⟨gf, of_ + k, none⟩)), (94, .int .i64 ((k : Nat) : Int)), (93, .slice A2 n2 c2), (92, .int .i64 (l1.getD k 0)), (91, .pointer (some ⟨p1, 0, none⟩)), (80, .bool false), (79, .bool false), (78, .int .i64 ((nb : Nat) : Int)), (77, .int .i64 (l1.getD k 0)), (76, .bool false), (75, .bool false), (74, .int .i64 (l1.getD k 0)), (14, .int .i64 (l1.getD k 0)), (73, .int .i64 (l1.getD k 0)), (72, .pointer (some ⟨gl, ol + k, none⟩)), (71, .int .i64 ((k : Nat) : Int)), (70, .slice A1 n1 c1), (67, .bool true), (66, .bool true), (65, .int .i64 ((n2 : Nat) : Int)), (64, .slice A2 n2 c2), (63, .int .i64 ((k : Nat) : Int)), (62, .bool true), (61, .bool true), (60, .int .i64 ((n1 : Nat) : Int)), (59, .slice A1 n1 c1), (58, .int .i64 ((k : Nat) : Int)), (13, .int .i64 ((k : Nat) : Int)), (12, .slice Ae m ce), (11, .pointer (some ⟨g1, 0, none⟩)), (9, .pointer (some ⟨p1, 0, none⟩)), (0, .int .i64 ((nb : Nat) : Int)), (1, .slice A1 n1 c1), (2, .slice A2 n2 c2), (3, .slice A3 n3 c3)] ((g4, 5, bvs (fillB (lf.getD k 0))) :: (g1, 60, bvs nw) :: (te ++ (r ++ ([] : Hep)))) := H
                  replace H : St 189 w a W [(97, .slice (some ⟨g4, 0, none⟩) 512 512), (96, bv (lf.getD k 0)), (95, .pointer (some ⟨gf, of_ + k, none⟩)), (94, .int .i64 ((k : Nat) : Int)), (93, .slice A2 n2 c2), (92, .int .i64 (l1.getD k 0)), (91, .pointer (some ⟨p1, 0, none⟩)), (80, .bool false), (79, .bool false), (78, .int .i64 ((nb : Nat) : Int)), (77, .int .i64 (l1.getD k 0)), (76, .bool false), (75, .bool false), (74, .int .i64 (l1.getD k 0)), (14, .int .i64 (l1.getD k 0)), (73, .int .i64 (l1.getD k 0)), (72, .pointer (some ⟨gl, ol + k, none⟩)), (71, .int .i64 ((k : Nat) : Int)), (70, .slice A1 n1 c1), (67, .bool true), (66, .bool true), (65, .int .i64 ((n2 : Nat) : Int)), (64, .slice A2 n2 c2), (63, .int .i64 ((k : Nat) : Int)), (62, .bool true), (61, .bool true), (60, .int .i64 ((n1 : Nat) : Int)), (59, .slice A1 n1 c1), (58, .int .i64 ((k : Nat) : Int)), (13, .int .i64 ((k : Nat) : Int)), (12, .slice Ae m ce), (11, .pointer (some ⟨g1, 0, none⟩)), (9, .pointer (some ⟨p1, 0, none⟩)), (0, .int .i64 ((nb : Nat) : Int)), (1, .slice A1 n1 c1), (2, .slice A2 n2 c2), (3, .slice A3 n3 c3)] (r ++ (([(g4, .ty 5, bvs (fillB (lf.getD k 0))), (g1, .ty 60, bvs nw)] : Hep) ++ (te ++ ([] : Hep)))) := H.perm' (((((List.Perm.refl _).append_left te).trans (List.perm_append_comm_assoc te r ([] : Hep))).append_left ([(g4, .ty 5, bvs (fillB (lf.getD k 0))), (g1, .ty 60, bvs nw)] : Hep)).trans (List.perm_append_comm_assoc ([(g4, .ty 5, bvs (fillB (lf.getD k 0))), (g1, .ty 60, bvs nw)] : Hep) r (te ++ ([] : Hep))))
                  refine pl_callX rfl rfl ⟨_, Try.func28, by kernel_rfl⟩ rfl (fun K_ => by have h_ := po_write (hh := (([(g4, .ty 5, bvs (fillB (lf.getD k 0))), (g1, .ty 60, bvs nw)] : Hep) ++ (te ++ ([] : Hep)))) (b := fillB (lf.getD k 0)) (gb := g4) (cb := 512) hJ.1 (l1.getD k 0) (by rw [fill_len _]; omega) (List.mem_append_left _ (List.mem_iff_getElem?.2 ⟨0, rfl⟩)) (by have h_ := hJ.2.2.1.ln; omega) w _ K_; rw [show (fillB (lf.getD k 0)).length = 512 from (fill_len _)] at h_; rw [(hJ.2.2.1.wr (by omega) (by omega) _).1] at h_; exact h_) H ?_
                  try clear H a W
                  rintro r4 a W hP4 H
                  replace hP4 : PO p1 (lwD D (l1.getD k 0) (lf.getD k 0)) r4 := hP4
                  replace H := H.perm' (List.perm_append_comm_assoc r4 ([(g4, .ty 5, bvs (fillB (lf.getD k 0))), (g1, .ty 60, bvs nw)] : Hep) (te ++ ([] : Hep)))
                  replace H : St 189 w a W [(98, .int .i64 0), (97, .slice (some ⟨g4, 0, none⟩) 512 512), (96, bv (lf.getD k 0)), (95, .pointer (some ⟨gf, of_ + k, none⟩)), (94, .int .i64 ((k : Nat) : Int)), (93, .slice A2 n2 c2), (92, .int .i64 (l1.getD k 0)), (91, .pointer (some ⟨p1, 0, none⟩)), (80, .bool false), (79, .bool false), (78, .int .i64 ((nb : Nat) : Int)), (77, .int .i64 (l1.getD k 0)), (76, .bool false), (75, .bool false), (74, .int .i64 (l1.getD k 0)), (14, .int .i64 (l1.getD k 0)), (73, .int .i64 (l1.getD k 0)), (72, .pointer (some ⟨gl, ol + k, none⟩)), (71, .int .i64 ((k : Nat) : Int)), (70, .slice A1 n1 c1), (67, .bool true), (66, .bool true), (65, .int .i64 ((n2 : Nat) : Int)), (64, .slice A2 n2 c2), (63, .int .i64 ((k : Nat) : Int)), (62, .bool true), (61, .bool true), (60, .int .i64 ((n1 : Nat) : Int)), (59, .slice A1 n1 c1), (58, .int .i64 ((k : Nat) : Int)), (13, .int .i64 ((k : Nat) : Int)), (12, .slice Ae m ce), (11, .pointer (some ⟨g1, 0, none⟩)), (9, .pointer (some ⟨p1, 0, none⟩)), (0, .int .i64 ((nb : Nat) : Int)), (1, .slice A1 n1 c1), (2, .slice A2 n2 c2), (3, .slice A3 n3 c3)] ((g4, 5, bvs (fillB (lf.getD k 0))) :: (g1, 60, bvs nw) :: (r4 ++ (te ++ ([] : Hep)))) := H
                  refine rgO H gs0 (rV rfl (does_call rfl ⟨_, Try.func13, by kernel_rfl⟩ rfl (fun W hb => num_any _ W)) <| rV rfl (does_binOp rfl rfl rfl (zd_neq_int (k := 0) (m := 0) (decide_eq_false (by omega)) _ _)) <| rZ0 ?_)
                  try clear H a W
                  intro a W H
                  refine hK27 _ _ ?_
                  clear hK27
                  refine wp_cond_false (H.ev rfl) ?_
                  refine wp_skip ?_
                  refine hK26 _ _ ?_
                  clear hK26
                  refine sqR H gs0 fun Z_ z_ => rS 3 rfl <| rV rfl (does_indexAddr rfl rfl rfl (ia_bO (j := k) (hfA (by omega)).1 (by omega))) <| rV rfl (does_loadCell (v := bv (lf.getD k 0)) rfl rfl ((hfA (by omega)).2.2 k (by omega)) (hfA (by omega)).2.1 ld_u8O) <| rV rfl (does_indexAddr rfl rfl (by show some (Value.int .i64 (l1.getD k 0)) = some (.int .i64 (((l1.getD k 0).toNat : Nat) : Int)); rw [Int.toNat_of_nonneg (by omega)]) (ia_arr40 (k := (l1.getD k 0).toNat) (by omega))) <| rX [0, 1] (c := bvs (nw.set ((l1.getD k 0).toNat) (lf.getD k 0))) ⟨rfl, rfl⟩ rfl rfl rfl (st_u8t (bvs_at (by rw [hJ.2.2.1.nwl]; omega))) (bvs_set _ _ _) <| rN0 z_ ?_
                  try clear H a W
                  intro a W H
                  refine rgP H gs0 (rS 1 rfl <| rM (F := fun g => .slice (some ⟨g, 0, none⟩) 1 1) (t := 3) (z := #[.int .i64 1]) rfl (made_evP (F := fun g => .slice (some ⟨g, 0, none⟩) 1 1) (vs := [(0, .int .i64 1)]) rfl (by kernel_rfl) (bs_int _)) fun g5 => rI0 ?_)
                  try clear H a W
                  intro a W H
                  replace H := H.perm' ((((List.Perm.refl _).append_left r4).trans (List.perm_append_comm_assoc r4 te ([] : Hep))).append_left ([(g5, .ty 3, #[.int .i64 1]), (g4, .ty 5, bvs (fillB (lf.getD k 0))), (g1, .ty 60, bvs (nw.set ((l1.getD k 0).toNat) (lf.getD k 0)))] : Hep))
                  replace H : St 189 w a W [(108, .slice (some ⟨g5, 0, none⟩) 1 1), (107, .slice Ae m ce), (106, .pointer (some ⟨g1, (l1.getD k 0).toNat, none⟩)), (105, bv (lf.getD k 0)), (104, .pointer (some ⟨gf, of_ + k, none⟩)), (103, .int .i64 ((k : Nat) : Int)), (102, .slice A2 n2 c2), (101, .int .i64 (l1.getD k 0)), (100, .bool false), (99, .int .i64 0), (98, .int .i64 0), (97, .slice (some ⟨g4, 0, none⟩) 512 512), (96, bv (lf.getD k 0)), (95, .pointer (some ⟨gf, of_ + k, none⟩)), (94, .int .i64 ((k : Nat) : Int)), (93, .slice A2 n2 c2), (92, .int .i64 (l1.getD k 0)), (91, .pointer (some ⟨p1, 0, none⟩)), (80, .bool false), (79, .bool false), (78, .int .i64 ((nb : Nat) : Int)), (77, .int .i64 (l1.getD k 0)), (76, .bool false), (75, .bool false), (74, .int .i64 (l1.getD k 0)), (14, .int .i64 (l1.getD k 0)), (73, .int .i64 (l1.getD k 0)), (72, .pointer (some ⟨gl, ol + k, none⟩)), (71, .int .i64 ((k : Nat) : Int)), (70, .slice A1 n1 c1), (67, .bool true), (66, .bool true), (65, .int .i64 ((n2 : Nat) : Int)), (64, .slice A2 n2 c2), (63, .int .i64 ((k : Nat) : Int)), (62, .bool true), (61, .bool true), (60, .int .i64 ((n1 : Nat) : Int)), (59, .slice A1 n1 c1), (58, .int .i64 ((k : Nat) : Int)), (13, .int .i64 ((k : Nat) : Int)), (12, .slice Ae m ce), (11, .pointer (some ⟨g1, 0, none⟩)), (9, .pointer (some ⟨p1, 0, none⟩)), (0, .int .i64 ((nb : Nat) : Int)), (1, .slice A1 n1 c1), (2, .slice A2 n2 c2), (3, .slice A3 n3 c3)] ((g5, 3, #[.int .i64 1]) :: (g4, 5, bvs (fillB (lf.getD k 0))) :: (g1, 60, bvs (nw.set ((l1.getD k 0).toNat) (lf.getD k 0))) :: (te ++ (r4 ++ ([] : Hep)))) := H
                  refine pl_appI (h := [(g5, .ty 3, #[.int .i64 1]), (g4, .ty 5, bvs (fillB (lf.getD k 0))), (g1, .ty 60, bvs (nw.set ((l1.getD k 0).toNat) (lf.getD k 0)))]) (t := te) (hh := (r4 ++ ([] : Hep))) (k := 0) rfl rfl rfl rfl hJ.2.1 (by omega) rfl rfl rfl rfl H ?_
                  try clear H a W
                  intro Ae2 ce2 te2 a W hod2 H
                  replace H : St 189 w a W [(109, .slice Ae2 (m + 1) ce2), (108, .slice (some ⟨g5, 0, none⟩) 1 1), (107, .slice Ae m ce), (106, .pointer (some ⟨g1, (l1.getD k 0).toNat, none⟩)), (105, bv (lf.getD k 0)), (104, .pointer (some ⟨gf, of_ + k, none⟩)), (103, .int .i64 ((k : Nat) : Int)), (102, .slice A2 n2 c2), (101, .int .i64 (l1.getD k 0)), (100, .bool false), (99, .int .i64 0), (98, .int .i64 0), (97, .slice (some ⟨g4, 0, none⟩) 512 512), (96, bv (lf.getD k 0)), (95, .pointer (some ⟨gf, of_ + k, none⟩)), (94, .int .i64 ((k : Nat) : Int)), (93, .slice A2 n2 c2), (92, .int .i64 (l1.getD k 0)), (91, .pointer (some ⟨p1, 0, none⟩)), (80, .bool false), (79, .bool false), (78, .int .i64 ((nb : Nat) : Int)), (77, .int .i64 (l1.getD k 0)), (76, .bool false), (75, .bool false), (74, .int .i64 (l1.getD k 0)), (14, .int .i64 (l1.getD k 0)), (73, .int .i64 (l1.getD k 0)), (72, .pointer (some ⟨gl, ol + k, none⟩)), (71, .int .i64 ((k : Nat) : Int)), (70, .slice A1 n1 c1), (67, .bool true), (66, .bool true), (65, .int .i64 ((n2 : Nat) : Int)), (64, .slice A2 n2 c2), (63, .int .i64 ((k : Nat) : Int)), (62, .bool true), (61, .bool true), (60, .int .i64 ((n1 : Nat) : Int)), (59, .slice A1 n1 c1), (58, .int .i64 ((k : Nat) : Int)), (13, .int .i64 ((k : Nat) : Int)), (12, .slice Ae m ce), (11, .pointer (some ⟨g1, 0, none⟩)), (9, .pointer (some ⟨p1, 0, none⟩)), (0, .int .i64 ((nb : Nat) : Int)), (1, .slice A1 n1 c1), (2, .slice A2 n2 c2), (3, .slice A3 n3 c3)] ((g5, 3, #[.int .i64 1]) :: (g4, 5, bvs (fillB (lf.getD k 0))) :: (g1, 60, bvs (nw.set ((l1.getD k 0).toNat) (lf.getD k 0))) :: (te2 ++ (r4 ++ ([] : Hep)))) := H
                  refine rgO H gs0 (rK [1, 1, 1, 1, 1, 1, 1, 1, 1, 1, 1, 1, 1, 1, 1, 1, 1, 1, 1, 1, 1, 1, 1, 1, 1, 1, 1, 1, 1, 1, 1, 1, 1, 1, 1, 1, 1, 1, 1, 1, 1, 1, 0] [] [] <| rS 1 rfl <| rZ0 ?_)
                  try clear H a W
                  intro a W H
                  refine blk_normal ?_
                  refine hK18 _ _ ?_
                  clear hK18
                  refine rgP H gs0 (rS 1 rfl <| rV rfl (does_binOp rfl rfl rfl (zd_add_int (k := ((k : Nat) : Int)) (m := 1) (c := ((k + 1 : Nat) : Int)) (by omega) (by omega) _ _)) <| rK [1, 1, 1, 1, 1, 1, 1, 1, 1, 1, 1, 1, 1, 1, 1, 1, 1, 1, 1, 1, 1, 1, 1, 1, 1, 1, 1, 1, 1, 1, 1, 1, 1, 1, 1, 1, 1, 1, 1, 1, 1, 1, 1, 1, 0] [] [] <| rS 1 rfl <| rZ0 ?_)
                  try clear H a W
                  intro a W H
                  replace H := H.perm' ((((List.Perm.refl _).append_left te2).trans (List.perm_append_comm_assoc te2 r4 ([] : Hep))).append_left ([(g5, .ty 3, #[.int .i64 1]), (g4, .ty 5, bvs (fillB (lf.getD k 0))), (g1, .ty 60, bvs (nw.set ((l1.getD k 0).toNat) (lf.getD k 0)))] : Hep))
                  replace H : St 189 w a W [(13, .int .i64 ((k + 1 : Nat) : Int)), (69, .int .i64 ((k + 1 : Nat) : Int)), (68, .int .i64 ((k : Nat) : Int)), (12, .slice Ae2 (m + 1) ce2), (109, .slice Ae2 (m + 1) ce2), (108, .slice (some ⟨g5, 0, none⟩) 1 1), (107, .slice Ae m ce), (106, .pointer (some ⟨g1, (l1.getD k 0).toNat, none⟩)), (105, bv (lf.getD k 0)), (104, .pointer (some ⟨gf, of_ + k, none⟩)), (103, .int .i64 ((k : Nat) : Int)), (102, .slice A2 n2 c2), (101, .int .i64 (l1.getD k 0)), (100, .bool false), (99, .int .i64 0), (98, .int .i64 0), (97, .slice (some ⟨g4, 0, none⟩) 512 512), (96, bv (lf.getD k 0)), (95, .pointer (some ⟨gf, of_ + k, none⟩)), (94, .int .i64 ((k : Nat) : Int)), (93, .slice A2 n2 c2), (92, .int .i64 (l1.getD k 0)), (91, .pointer (some ⟨p1, 0, none⟩)), (80, .bool false), (79, .bool false), (78, .int .i64 ((nb : Nat) : Int)), (77, .int .i64 (l1.getD k 0)), (76, .bool false), (75, .bool false), (74, .int .i64 (l1.getD k 0)), (14, .int .i64 (l1.getD k 0)), (73, .int .i64 (l1.getD k 0)), (72, .pointer (some ⟨gl, ol + k, none⟩)), (71, .int .i64 ((k : Nat) : Int)), (70, .slice A1 n1 c1), (67, .bool true), (66, .bool true), (65, .int .i64 ((n2 : Nat) : Int)), (64, .slice A2 n2 c2), (63, .int .i64 ((k : Nat) : Int)), (62, .bool true), (61, .bool true), (60, .int .i64 ((n1 : Nat) : Int)), (59, .slice A1 n1 c1), (58, .int .i64 ((k : Nat) : Int)), (11, .pointer (some ⟨g1, 0, none⟩)), (9, .pointer (some ⟨p1, 0, none⟩)), (0, .int .i64 ((nb : Nat) : Int)), (1, .slice A1 n1 c1), (2, .slice A2 n2 c2), (3, .slice A3 n3 c3)] ((g5, 3, #[.int .i64 1]) :: (g4, 5, bvs (fillB (lf.getD k 0))) :: (g1, 60, bvs (nw.set ((l1.getD k 0).toNat) (lf.getD k 0))) :: (r4 ++ (te2 ++ ([] : Hep)))) := H
                  replace H := H.perm' ((((List.Perm.refl _).append_left r4).trans (List.perm_append_comm_assoc r4 te2 ([] : Hep))).append_left ([(g5, .ty 3, #[.int .i64 1]), (g4, .ty 5, bvs (fillB (lf.getD k 0))), (g1, .ty 60, bvs (nw.set ((l1.getD k 0).toNat) (lf.getD k 0)))] : Hep))
                  replace H : St 189 w a W [(13, .int .i64 ((k + 1 : Nat) : Int)), (69, .int .i64 ((k + 1 : Nat) : Int)), (68, .int .i64 ((k : Nat) : Int)), (12, .slice Ae2 (m + 1) ce2), (109, .slice Ae2 (m + 1) ce2), (108, .slice (some ⟨g5, 0, none⟩) 1 1), (107, .slice Ae m ce), (106, .pointer (some ⟨g1, (l1.getD k 0).toNat, none⟩)), (105, bv (lf.getD k 0)), (104, .pointer (some ⟨gf, of_ + k, none⟩)), (103, .int .i64 ((k : Nat) : Int)), (102, .slice A2 n2 c2), (101, .int .i64 (l1.getD k 0)), (100, .bool false), (99, .int .i64 0), (98, .int .i64 0), (97, .slice (some ⟨g4, 0, none⟩) 512 512), (96, bv (lf.getD k 0)), (95, .pointer (some ⟨gf, of_ + k, none⟩)), (94, .int .i64 ((k : Nat) : Int)), (93, .slice A2 n2 c2), (92, .int .i64 (l1.getD k 0)), (91, .pointer (some ⟨p1, 0, none⟩)), (80, .bool false), (79, .bool false), (78, .int .i64 ((nb : Nat) : Int)), (77, .int .i64 (l1.getD k 0)), (76, .bool false), (75, .bool false), (74, .int .i64 (l1.getD k 0)), (14, .int .i64 (l1.getD k 0)), (73, .int .i64 (l1.getD k 0)), (72, .pointer (some ⟨gl, ol + k, none⟩)), (71, .int .i64 ((k : Nat) : Int)), (70, .slice A1 n1 c1), (67, .bool true), (66, .bool true), (65, .int .i64 ((n2 : Nat) : Int)), (64, .slice A2 n2 c2), (63, .int .i64 ((k : Nat) : Int)), (62, .bool true), (61, .bool true), (60, .int .i64 ((n1 : Nat) : Int)), (59, .slice A1 n1 c1), (58, .int .i64 ((k : Nat) : Int)), (11, .pointer (some ⟨g1, 0, none⟩)), (9, .pointer (some ⟨p1, 0, none⟩)), (0, .int .i64 ((nb : Nat) : Int)), (1, .slice A1 n1 c1), (2, .slice A2 n2 c2), (3, .slice A3 n3 c3)] ((g5, 3, #[.int .i64 1]) :: (g4, 5, bvs (fillB (lf.getD k 0))) :: (g1, 60, bvs (nw.set ((l1.getD k 0).toNat) (lf.getD k 0))) :: (te2 ++ (r4 ++ ([] : Hep)))) := H
                  refine ⟨k + 1, by omega, by omega, (lwD D (l1.getD k 0) (lf.getD k 0)), r4, te2, Ae2, ce2, nw.set (l1.getD k 0).toNat (lf.getD k 0), m + 1, ⟨hP4, hod2, (hJ.2.2.1.wr (by omega) (by omega) _).2, by omega⟩, ?_⟩
                  exact H.pickF (h := [(g5, 3, #[.int .i64 1]), (g4, 5, bvs (fillB (lf.getD k 0))), (g1, 60, bvs (nw.set ((l1.getD k 0).toNat) (lf.getD k 0)))]) (t := (te2 ++ (r4 ++ ([] : Hep)))) [0, 3, 45, 46, 47, 48, 49, 50] [2] rfl
            · obtain rfl : (min n1 n2) = k := by omega
              refine wp_seq_k (fun K29 hK29 => ?_)
              refine wp_seq_k (fun K30 hK30 => ?_)
              cases hq8 : decide ((((min n1 n2) : Nat) : Int) < ((n1 : Nat) : Int)) with
              | true =>
                have hq8p := of_decide_eq_true hq8
                refine rgP H gs0 (rS 2 rfl <| rV rfl (does_len Try.underlying33 rfl rfl) <| rV rfl (does_binOp rfl rfl rfl (zd_lss_int (k := (((min n1 n2) : Nat) : Int)) (m := ((n1 : Nat) : Int)) hq8 _ _)) <| rS 3 rfl <| rV rfl (does_len Try.underlying39 rfl rfl) <| rV rfl (does_binOp rfl rfl rfl (zd_lss_int (k := (((min n1 n2) : Nat) : Int)) (m := ((n2 : Nat) : Int)) (decide_eq_false (by omega)) _ _)) <| rS 1 rfl <| rK [1, 0, 0, 0, 0, 0, 0, 0, 0, 0] [] [] <| rZ0 ?_)
                try clear H a W
                intro a W H
                refine hK30 _ _ ?_
                clear hK30
                refine wp_cond_false (H.ev rfl) ?_
                refine wp_exit ?_
                repeat (first | (with_reducible refine then_exit ?_) | (with_reducible refine blk_pass (by decide) ?_))
                refine blk_exit ?_
                have hDn := hJ.2.2.1.nb
                refine hK14 _ _ ?_
                clear hK14
                refine wp_seq_k (fun K31 hK31 => ?_)
                refine rgP H gs0 (rS 1 rfl <| rI0 ?_)
                try clear H a W
                intro a W H
                replace H : St 189 w a W [(110, .pointer (some ⟨p1, 0, none⟩)), (67, .bool false), (13, .int .i64 (((min n1 n2) : Nat) : Int)), (12, .slice Ae m ce), (11, .pointer (some ⟨g1, 0, none⟩)), (9, .pointer (some ⟨p1, 0, none⟩)), (0, .int .i64 ((nb : Nat) : Int)), (1, .slice A1 n1 c1), (2, .slice A2 n2 c2), (3, .slice A3 n3 c3)] (r ++ (([(g1, .ty 60, bvs nw)] : Hep) ++ (te ++ ([] : Hep)))) := H.perm' (((((List.Perm.refl _).append_left te).trans (List.perm_append_comm_assoc te r ([] : Hep))).append_left ([(g1, .ty 60, bvs nw)] : Hep)).trans (List.perm_append_comm_assoc ([(g1, .ty 60, bvs nw)] : Hep) r (te ++ ([] : Hep))))
                refine pl_callX rfl rfl ⟨_, Try.func19, by kernel_rfl⟩ rfl (fun K_ => po_copy (hh := (([(g1, .ty 60, bvs nw)] : Hep) ++ (te ++ ([] : Hep)))) hJ.1 w _ K_) H ?_
                try clear H a W
                rintro ⟨p5, r5⟩ a W hP5 H
                replace hP5 : PO p5 D r5 := hP5
                replace H := H.perm' (((List.perm_append_comm_assoc r ([(g1, .ty 60, bvs nw)] : Hep) (te ++ ([] : Hep))).append_left r5).trans (List.perm_append_comm_assoc r5 ([(g1, .ty 60, bvs nw)] : Hep) (r ++ (te ++ ([] : Hep)))))
                replace H : St 189 w a W [(111, .pointer (some ⟨p5, 0, none⟩)), (110, .pointer (some ⟨p1, 0, none⟩)), (67, .bool false), (13, .int .i64 (((min n1 n2) : Nat) : Int)), (12, .slice Ae m ce), (11, .pointer (some ⟨g1, 0, none⟩)), (9, .pointer (some ⟨p1, 0, none⟩)), (0, .int .i64 ((nb : Nat) : Int)), (1, .slice A1 n1 c1), (2, .slice A2 n2 c2), (3, .slice A3 n3 c3)] ((g1, 60, bvs nw) :: (r5 ++ (r ++ (te ++ ([] : Hep))))) := H
                refine rgO H gs0 (rS 1 rfl <| rI0 ?_)
                try clear H a W
                intro a W H
                replace H : St 189 w a W [(112, .pointer (some ⟨p1, 0, none⟩)), (111, .pointer (some ⟨p5, 0, none⟩)), (110, .pointer (some ⟨p1, 0, none⟩)), (67, .bool false), (13, .int .i64 (((min n1 n2) : Nat) : Int)), (12, .slice Ae m ce), (11, .pointer (some ⟨g1, 0, none⟩)), (9, .pointer (some ⟨p1, 0, none⟩)), (0, .int .i64 ((nb : Nat) : Int)), (1, .slice A1 n1 c1), (2, .slice A2 n2 c2), (3, .slice A3 n3 c3)] (r ++ (([(g1, .ty 60, bvs nw)] : Hep) ++ (r5 ++ (te ++ ([] : Hep))))) := H.perm' (((((List.Perm.refl _).append_left r5).trans (List.perm_append_comm_assoc r5 r (te ++ ([] : Hep)))).append_left ([(g1, .ty 60, bvs nw)] : Hep)).trans (List.perm_append_comm_assoc ([(g1, .ty 60, bvs nw)] : Hep) r (r5 ++ (te ++ ([] : Hep)))))
                refine pl_callX rfl rfl ⟨_, Try.func19, by kernel_rfl⟩ rfl (fun K_ => po_copy (hh := (([(g1, .ty 60, bvs nw)] : Hep) ++ (r5 ++ (te ++ ([] : Hep))))) hJ.1 w _ K_) H ?_
                try clear H a W
                rintro ⟨p6, r6⟩ a W hP6 H
                replace hP6 : PO p6 D r6 := hP6
                replace H := H.perm' (((List.perm_append_comm_assoc r ([(g1, .ty 60, bvs nw)] : Hep) (r5 ++ (te ++ ([] : Hep)))).append_left r6).trans (List.perm_append_comm_assoc r6 ([(g1, .ty 60, bvs nw)] : Hep) (r ++ (r5 ++ (te ++ ([] : Hep))))))
                replace H : St 189 w a W [(113, .pointer (some ⟨p6, 0, none⟩)), (112, .pointer (some ⟨p1, 0, none⟩)), (111, .pointer (some ⟨p5, 0, none⟩)), (110, .pointer (some ⟨p1, 0, none⟩)), (67, .bool false), (13, .int .i64 (((min n1 n2) : Nat) : Int)), (12, .slice Ae m ce), (11, .pointer (some ⟨g1, 0, none⟩)), (9, .pointer (some ⟨p1, 0, none⟩)), (0, .int .i64 ((nb : Nat) : Int)), (1, .slice A1 n1 c1), (2, .slice A2 n2 c2), (3, .slice A3 n3 c3)] ((g1, 60, bvs nw) :: (r6 ++ (r ++ (r5 ++ (te ++ ([] : Hep)))))) := H
                refine rgO H gs0 (rS 2 rfl <| rK [1, 1, 0, 0, 0, 0, 0, 0, 1, 1, 1, 1, 0, 0] [] [] <| rZ0 ?_)
                try clear H a W
                intro a W H
                refine hK31 _ _ ?_
                clear hK31
                refine wp_seq_k (fun K32 hK32 => ?_)
                refine wp_seq_k (fun K33 hK33 => ?_)
                refine rgP H gs0 (rS 1 rfl <| rV rfl (does_binOp rfl rfl rfl (fun W => ptr_nil W)) <| rS 2 rfl <| rV rfl (does_binOp rfl rfl rfl (fun W => ptr_nil W)) <| rS 4 rfl <| rI0 ?_)
                try clear H a W
                intro a W H
                replace H : St 189 w a W [(122, .slice Ae m ce), (121, .pointer (some ⟨p5, 0, none⟩)), (120, .bool false), (119, .bool false), (118, .bool false), (117, .pointer (some ⟨p6, 0, none⟩)), (116, .bool false), (115, .bool false), (114, .pointer (some ⟨p5, 0, none⟩)), (16, .pointer (some ⟨p6, 0, none⟩)), (15, .pointer (some ⟨p5, 0, none⟩)), (12, .slice Ae m ce), (11, .pointer (some ⟨g1, 0, none⟩)), (9, .pointer (some ⟨p1, 0, none⟩)), (0, .int .i64 ((nb : Nat) : Int)), (3, .slice A3 n3 c3)] (r5 ++ (([(g1, .ty 60, bvs nw)] : Hep) ++ (r6 ++ (r ++ (te ++ ([] : Hep)))))) := H.perm' (((((((List.Perm.refl _).append_left r).trans (List.perm_append_comm_assoc r r5 (te ++ ([] : Hep)))).append_left r6).trans (List.perm_append_comm_assoc r6 r5 (r ++ (te ++ ([] : Hep))))).append_left ([(g1, .ty 60, bvs nw)] : Hep)).trans (List.perm_append_comm_assoc ([(g1, .ty 60, bvs nw)] : Hep) r5 (r6 ++ (r ++ (te ++ ([] : Hep))))))
                refine pl_callX rfl rfl ⟨_, Try.func23, by kernel_rfl⟩ rfl (fun K_ => po_crash (hh := (([(g1, .ty 60, bvs nw)] : Hep) ++ (r6 ++ (r ++ (te ++ ([] : Hep)))))) w hP5 (PK.ones hJ.2.1 (fun p hp => List.mem_append_right _ (List.mem_append_right _ (List.mem_append_right _ (List.mem_append_left _ hp))))) (by omega) _ K_) H ?_
                try clear H a W
                rintro r7 a W hP7 H
                replace hP7 : PO p5 (dCrash D (List.replicate m 1)) r7 := hP7
                replace H := H.perm' (List.perm_append_comm_assoc r7 ([(g1, .ty 60, bvs nw)] : Hep) (r6 ++ (r ++ (te ++ ([] : Hep)))))
                replace H : St 189 w a W [(123, .int .i64 0), (122, .slice Ae m ce), (121, .pointer (some ⟨p5, 0, none⟩)), (120, .bool false), (119, .bool false), (118, .bool false), (117, .pointer (some ⟨p6, 0, none⟩)), (116, .bool false), (115, .bool false), (114, .pointer (some ⟨p5, 0, none⟩)), (16, .pointer (some ⟨p6, 0, none⟩)), (15, .pointer (some ⟨p5, 0, none⟩)), (12, .slice Ae m ce), (11, .pointer (some ⟨g1, 0, none⟩)), (9, .pointer (some ⟨p1, 0, none⟩)), (0, .int .i64 ((nb : Nat) : Int)), (3, .slice A3 n3 c3)] ((g1, 60, bvs nw) :: (r7 ++ (r6 ++ (r ++ (te ++ ([] : Hep)))))) := H
                refine rgO H gs0 (rV rfl (does_call rfl ⟨_, Try.func13, by kernel_rfl⟩ rfl (fun W hb => num_any _ W)) <| rS 1 rfl <| rI0 ?_)
                try clear H a W
                intro a W H
                replace H : St 189 w a W [(125, .pointer (some ⟨p6, 0, none⟩)), (124, .int .i64 0), (123, .int .i64 0), (122, .slice Ae m ce), (121, .pointer (some ⟨p5, 0, none⟩)), (120, .bool false), (119, .bool false), (118, .bool false), (117, .pointer (some ⟨p6, 0, none⟩)), (116, .bool false), (115, .bool false), (114, .pointer (some ⟨p5, 0, none⟩)), (16, .pointer (some ⟨p6, 0, none⟩)), (15, .pointer (some ⟨p5, 0, none⟩)), (12, .slice Ae m ce), (11, .pointer (some ⟨g1, 0, none⟩)), (9, .pointer (some ⟨p1, 0, none⟩)), (0, .int .i64 ((nb : Nat) : Int)), (3, .slice A3 n3 c3)] (r6 ++ (([(g1, .ty 60, bvs nw)] : Hep) ++ (r7 ++ (r ++ (te ++ ([] : Hep)))))) := H.perm' (((((List.Perm.refl _).append_left r7).trans (List.perm_append_comm_assoc r7 r6 (r ++ (te ++ ([] : Hep))))).append_left ([(g1, .ty 60, bvs nw)] : Hep)).trans (List.perm_append_comm_assoc ([(g1, .ty 60, bvs nw)] : Hep) r6 (r7 ++ (r ++ (te ++ ([] : Hep))))))
                refine pl_callX rfl rfl ⟨_, Try.func23, by kernel_rfl⟩ rfl (fun K_ => po_crash (hh := (([(g1, .ty 60, bvs nw)] : Hep) ++ (r7 ++ (r ++ (te ++ ([] : Hep)))))) w hP6 (PK.nil _ _) (by omega) _ K_) H ?_
                try clear H a W
                rintro r8 a W hP8 H
                replace hP8 : PO p6 (dCrash D ([] : List Int)) r8 := hP8
                replace H := H.perm' (List.perm_append_comm_assoc r8 ([(g1, .ty 60, bvs nw)] : Hep) (r7 ++ (r ++ (te ++ ([] : Hep)))))
                replace H : St 189 w a W [(126, .int .i64 0), (125, .pointer (some ⟨p6, 0, none⟩)), (124, .int .i64 0), (123, .int .i64 0), (122, .slice Ae m ce), (121, .pointer (some ⟨p5, 0, none⟩)), (120, .bool false), (119, .bool false), (118, .bool false), (117, .pointer (some ⟨p6, 0, none⟩)), (116, .bool false), (115, .bool false), (114, .pointer (some ⟨p5, 0, none⟩)), (16, .pointer (some ⟨p6, 0, none⟩)), (15, .pointer (some ⟨p5, 0, none⟩)), (12, .slice Ae m ce), (11, .pointer (some ⟨g1, 0, none⟩)), (9, .pointer (some ⟨p1, 0, none⟩)), (0, .int .i64 ((nb : Nat) : Int)), (3, .slice A3 n3 c3)] ((g1, 60, bvs nw) :: (r8 ++ (r7 ++ (r ++ (te ++ ([] : Hep)))))) := H
                refine rgO H gs0 (rV rfl (does_call rfl ⟨_, Try.func13, by kernel_rfl⟩ rfl (fun W hb => num_any _ W)) <| rV rfl (does_binOp rfl rfl rfl (zd_add_int (k := 0) (m := 0) (c := 0 + 0) rfl (by omega) _ _)) <| rS 1 rfl <| rI0 ?_)
                try clear H a W
                intro a W H
                replace H : St 189 w a W [(129, .pointer (some ⟨p1, 0, none⟩)), (128, .int .i64 (0 + 0)), (127, .int .i64 0), (126, .int .i64 0), (125, .pointer (some ⟨p6, 0, none⟩)), (124, .int .i64 0), (123, .int .i64 0), (122, .slice Ae m ce), (121, .pointer (some ⟨p5, 0, none⟩)), (120, .bool false), (119, .bool false), (118, .bool false), (117, .pointer (some ⟨p6, 0, none⟩)), (116, .bool false), (115, .bool false), (114, .pointer (some ⟨p5, 0, none⟩)), (16, .pointer (some ⟨p6, 0, none⟩)), (15, .pointer (some ⟨p5, 0, none⟩)), (12, .slice Ae m ce), (11, .pointer (some ⟨g1, 0, none⟩)), (9, .pointer (some ⟨p1, 0, none⟩)), (0, .int .i64 ((nb : Nat) : Int)), (3, .slice A3 n3 c3)] (r ++ (([(g1, .ty 60, bvs nw)] : Hep) ++ (r8 ++ (r7 ++ (te ++ ([] : Hep)))))) := H.perm' (((((((List.Perm.refl _).append_left r7).trans (List.perm_append_comm_assoc r7 r (te ++ ([] : Hep)))).append_left r8).trans (List.perm_append_comm_assoc r8 r (r7 ++ (te ++ ([] : Hep))))).append_left ([(g1, .ty 60, bvs nw)] : Hep)).trans (List.perm_append_comm_assoc ([(g1, .ty 60, bvs nw)] : Hep) r (r8 ++ (r7 ++ (te ++ ([] : Hep))))))
                refine pl_callX rfl rfl ⟨_, Try.func27, by kernel_rfl⟩ rfl (fun K_ => by have h_ := po_sync (hh := (([(g1, .ty 60, bvs nw)] : Hep) ++ (r8 ++ (r7 ++ (te ++ ([] : Hep)))))) hJ.1 w _ K_; rw [hJ.2.2.1.sync] at h_; exact h_) H ?_
                try clear H a W
                rintro r9 a W hP9 H
                replace hP9 : PO p1 (dSync D).1 r9 := hP9
                replace H := H.perm' (List.perm_append_comm_assoc r9 ([(g1, .ty 60, bvs nw)] : Hep) (r8 ++ (r7 ++ (te ++ ([] : Hep)))))
                replace H : St 189 w a W [(130, .int .i64 0), (129, .pointer (some ⟨p1, 0, none⟩)), (128, .int .i64 (0 + 0)), (127, .int .i64 0), (126, .int .i64 0), (125, .pointer (some ⟨p6, 0, none⟩)), (124, .int .i64 0), (123, .int .i64 0), (122, .slice Ae m ce), (121, .pointer (some ⟨p5, 0, none⟩)), (120, .bool false), (119, .bool false), (118, .bool false), (117, .pointer (some ⟨p6, 0, none⟩)), (116, .bool false), (115, .bool false), (114, .pointer (some ⟨p5, 0, none⟩)), (16, .pointer (some ⟨p6, 0, none⟩)), (15, .pointer (some ⟨p5, 0, none⟩)), (12, .slice Ae m ce), (11, .pointer (some ⟨g1, 0, none⟩)), (9, .pointer (some ⟨p1, 0, none⟩)), (0, .int .i64 ((nb : Nat) : Int)), (3, .slice A3 n3 c3)] ((g1, 60, bvs nw) :: (r9 ++ (r8 ++ (r7 ++ (te ++ ([] : Hep)))))) := H
                refine rgO H gs0 (rV rfl (does_call rfl ⟨_, Try.func13, by kernel_rfl⟩ rfl (fun W hb => num_any _ W)) <| rV rfl (does_binOp rfl rfl rfl (zd_add_int (k := (0 + 0)) (m := 0) (c := (0 + 0) + 0) rfl (by omega) _ _)) <| rS 2 rfl <| rI0 ?_)
                try clear H a W
                intro a W H
                replace H : St 189 w a W [(134, .slice A3 n3 c3), (133, .pointer (some ⟨p1, 0, none⟩)), (132, .int .i64 ((0 + 0) + 0)), (131, .int .i64 0), (130, .int .i64 0), (129, .pointer (some ⟨p1, 0, none⟩)), (128, .int .i64 (0 + 0)), (127, .int .i64 0), (126, .int .i64 0), (125, .pointer (some ⟨p6, 0, none⟩)), (124, .int .i64 0), (123, .int .i64 0), (122, .slice Ae m ce), (121, .pointer (some ⟨p5, 0, none⟩)), (120, .bool false), (119, .bool false), (118, .bool false), (117, .pointer (some ⟨p6, 0, none⟩)), (116, .bool false), (115, .bool false), (114, .pointer (some ⟨p5, 0, none⟩)), (16, .pointer (some ⟨p6, 0, none⟩)), (15, .pointer (some ⟨p5, 0, none⟩)), (12, .slice Ae m ce), (11, .pointer (some ⟨g1, 0, none⟩)), (9, .pointer (some ⟨p1, 0, none⟩)), (0, .int .i64 ((nb : Nat) : Int)), (3, .slice A3 n3 c3)] (r9 ++ (([(g1, .ty 60, bvs nw)] : Hep) ++ (r8 ++ (r7 ++ (te ++ ([] : Hep)))))) := H.perm' (((List.Perm.refl _).append_left ([(g1, .ty 60, bvs nw)] : Hep)).trans (List.perm_append_comm_assoc ([(g1, .ty 60, bvs nw)] : Hep) r9 (r8 ++ (r7 ++ (te ++ ([] : Hep))))))
                refine pl_callX rfl rfl ⟨_, Try.func23, by kernel_rfl⟩ rfl (fun K_ => po_crash (hh := (([(g1, .ty 60, bvs nw)] : Hep) ++ (r8 ++ (r7 ++ (te ++ ([] : Hep)))))) w hP9 (hQ.pk _) (by omega) _ K_) H ?_
                try clear H a W
                rintro r10 a W hP10 H
                replace hP10 : PO p1 (dCrash (dSync D).1 l3) r10 := hP10
                replace H := H.perm' (List.perm_append_comm_assoc r10 ([(g1, .ty 60, bvs nw)] : Hep) (r8 ++ (r7 ++ (te ++ ([] : Hep)))))
                replace H : St 189 w a W [(135, .int .i64 0), (134, .slice A3 n3 c3), (133, .pointer (some ⟨p1, 0, none⟩)), (132, .int .i64 ((0 + 0) + 0)), (131, .int .i64 0), (130, .int .i64 0), (129, .pointer (some ⟨p1, 0, none⟩)), (128, .int .i64 (0 + 0)), (127, .int .i64 0), (126, .int .i64 0), (125, .pointer (some ⟨p6, 0, none⟩)), (124, .int .i64 0), (123, .int .i64 0), (122, .slice Ae m ce), (121, .pointer (some ⟨p5, 0, none⟩)), (120, .bool false), (119, .bool false), (118, .bool false), (117, .pointer (some ⟨p6, 0, none⟩)), (116, .bool false), (115, .bool false), (114, .pointer (some ⟨p5, 0, none⟩)), (16, .pointer (some ⟨p6, 0, none⟩)), (15, .pointer (some ⟨p5, 0, none⟩)), (12, .slice Ae m ce), (11, .pointer (some ⟨g1, 0, none⟩)), (9, .pointer (some ⟨p1, 0, none⟩)), (0, .int .i64 ((nb : Nat) : Int)), (3, .slice A3 n3 c3)] ((g1, 60, bvs nw) :: (r10 ++ (r8 ++ (r7 ++ (te ++ ([] : Hep)))))) := H
                refine rgO H gs0 (rV rfl (does_call rfl ⟨_, Try.func13, by kernel_rfl⟩ rfl (fun W hb => num_any _ W)) <| rV rfl (does_binOp rfl rfl rfl (zd_add_int (k := ((0 + 0) + 0)) (m := 0) (c := ((0 + 0) + 0) + 0) rfl (by omega) _ _)) <| rV rfl (does_binOp rfl rfl rfl (zd_neq_int (k := (((0 + 0) + 0) + 0)) (m := 0) (decide_eq_false (by omega)) _ _)) <| rS 1 rfl <| rK [1, 0, 0, 0, 0, 0, 0, 0, 0, 0, 0, 0, 0, 0, 0, 0, 0, 0, 0, 0, 0, 0, 0, 0, 0, 0, 1, 1, 0, 1, 1, 1, 0] [] [] <| rZ0 ?_)
                try clear H a W
                intro a W H
                refine hK33 _ _ ?_
                clear hK33
                refine wp_cond_false (H.ev rfl) ?_
                refine wp_skip ?_
                refine hK32 _ _ ?_
                clear hK32
                refine wp_seq_k (fun K34 hK34 => ?_)
                refine sqR H gs0 fun Z_ z_ => rS 1 rfl <| rK [1, 0] [] [] <| rN0 z_ ?_
                try clear H a W
                intro a W H
                refine wp_block ?_
                replace H := H.perm' ((((((((List.Perm.refl _).append_left r7).trans (List.perm_append_comm_assoc r7 te ([] : Hep))).append_left r8).trans (List.perm_append_comm_assoc r8 te (r7 ++ ([] : Hep)))).append_left r10).trans (List.perm_append_comm_assoc r10 te (r8 ++ (r7 ++ ([] : Hep))))).append_left ([(g1, .ty 60, bvs nw)] : Hep))
                replace H : St 189 w a W [(17, .int .i64 0), (16, .pointer (some ⟨p6, 0, none⟩)), (15, .pointer (some ⟨p5, 0, none⟩)), (11, .pointer (some ⟨g1, 0, none⟩)), (9, .pointer (some ⟨p1, 0, none⟩)), (0, .int .i64 ((nb : Nat) : Int))] ((g1, 60, bvs nw) :: (te ++ (r10 ++ (r8 ++ (r7 ++ ([] : Hep)))))) := H
                replace H := H.perm' ((((((((List.Perm.refl _).append_left r8).trans (List.perm_append_comm_assoc r8 r7 ([] : Hep))).append_left r10).trans (List.perm_append_comm_assoc r10 r7 (r8 ++ ([] : Hep)))).append_left te).trans (List.perm_append_comm_assoc te r7 (r10 ++ (r8 ++ ([] : Hep))))).append_left ([(g1, .ty 60, bvs nw)] : Hep))
                replace H : St 189 w a W [(17, .int .i64 0), (16, .pointer (some ⟨p6, 0, none⟩)), (15, .pointer (some ⟨p5, 0, none⟩)), (11, .pointer (some ⟨g1, 0, none⟩)), (9, .pointer (some ⟨p1, 0, none⟩)), (0, .int .i64 ((nb : Nat) : Int))] ((g1, 60, bvs nw) :: (r7 ++ (te ++ (r10 ++ (r8 ++ ([] : Hep)))))) := H
                replace H := H.perm' ((((((((List.Perm.refl _).append_left r10).trans (List.perm_append_comm_assoc r10 r8 ([] : Hep))).append_left te).trans (List.perm_append_comm_assoc te r8 (r10 ++ ([] : Hep)))).append_left r7).trans (List.perm_append_comm_assoc r7 r8 (te ++ (r10 ++ ([] : Hep))))).append_left ([(g1, .ty 60, bvs nw)] : Hep))
                replace H : St 189 w a W [(17, .int .i64 0), (16, .pointer (some ⟨p6, 0, none⟩)), (15, .pointer (some ⟨p5, 0, none⟩)), (11, .pointer (some ⟨g1, 0, none⟩)), (9, .pointer (some ⟨p1, 0, none⟩)), (0, .int .i64 ((nb : Nat) : Int))] ((g1, 60, bvs nw) :: (r8 ++ (r7 ++ (te ++ (r10 ++ ([] : Hep)))))) := H
                replace H := H.perm' ((((((((List.Perm.refl _).append_left te).trans (List.perm_append_comm_assoc te r10 ([] : Hep))).append_left r7).trans (List.perm_append_comm_assoc r7 r10 (te ++ ([] : Hep)))).append_left r8).trans (List.perm_append_comm_assoc r8 r10 (r7 ++ (te ++ ([] : Hep))))).append_left ([(g1, .ty 60, bvs nw)] : Hep))
                replace H : St 189 w a W [(17, .int .i64 0), (16, .pointer (some ⟨p6, 0, none⟩)), (15, .pointer (some ⟨p5, 0, none⟩)), (11, .pointer (some ⟨g1, 0, none⟩)), (9, .pointer (some ⟨p1, 0, none⟩)), (0, .int .i64 ((nb : Nat) : Int))] ((g1, 60, bvs nw) :: (r10 ++ (r8 ++ (r7 ++ (te ++ ([] : Hep)))))) := H
                replace H : St 189 w a W [(17, .int .i64 0), (16, .pointer (some ⟨p6, 0, none⟩)), (15, .pointer (some ⟨p5, 0, none⟩)), (11, .pointer (some ⟨g1, 0, none⟩)), (9, .pointer (some ⟨p1, 0, none⟩)), (0, .int .i64 ((nb : Nat) : Int))] ((g1, 60, bvs nw) :: (r10 ++ (r8 ++ (r7 ++ (te ++ ([] : Hep)))))) := H.pickF (h := [(g1, 60, bvs nw)]) (t := (r10 ++ (r8 ++ (r7 ++ (te ++ ([] : Hep)))))) [0, 1, 2, 3, 4, 5] [0] rfl
                refine wp_rounds nb (fun i a W => ∃ u0, (u0 = 0) ∧ St 189 w a W [(17, .int .i64 ((i : Nat) : Int)), (16, .pointer (some ⟨p6, 0, none⟩)), (15, .pointer (some ⟨p5, 0, none⟩)), (11, .pointer (some ⟨g1, 0, none⟩)), (9, .pointer (some ⟨p1, 0, none⟩)), (0, .int .i64 ((nb : Nat) : Int))] ((g1, 60, bvs nw) :: (r10 ++ (r8 ++ (r7 ++ (te ++ ([] : Hep))))))) (k0 := 0) ⟨0, rfl, H⟩ (by omega) ?_
                try clear H a W
                rintro i a W hi ⟨u0, hu0, H⟩
                by_cases hi2 : i < nb
                · refine wp_seq_k (fun K36 hK36 => ?_)
                  refine sqR H gs0 fun Z_ z_ => rS 2 rfl <| rV rfl (does_binOp rfl rfl rfl (zd_lss_int (k := ((i : Nat) : Int)) (m := ((nb : Nat) : Int)) (decide_eq_true (by omega)) _ _)) <| rN0 z_ ?_
                  try clear H a W
                  intro a W H
                  refine wp_cond_true (H.ev rfl) ?_
                  refine wp_skip ?_
                  refine hK36 _ _ ?_
                  clear hK36
                  refine wp_seq_k (fun K38 hK38 => ?_)
                  refine wp_block ?_
                  refine wp_seq_k (fun K39 hK39 => ?_)
                  refine rgP H gs0 (rS 2 rfl <| rI0 ?_)
                  try clear H a W
                  intro a W H
                  replace H : St 189 w a W [(147, .int .i64 ((i : Nat) : Int)), (146, .pointer (some ⟨p5, 0, none⟩)), (142, .bool true), (141, .int .i64 ((nb : Nat) : Int)), (140, .int .i64 ((i : Nat) : Int)), (17, .int .i64 ((i : Nat) : Int)), (16, .pointer (some ⟨p6, 0, none⟩)), (15, .pointer (some ⟨p5, 0, none⟩)), (11, .pointer (some ⟨g1, 0, none⟩)), (9, .pointer (some ⟨p1, 0, none⟩)), (0, .int .i64 ((nb : Nat) : Int))] (r7 ++ (([(g1, .ty 60, bvs nw)] : Hep) ++ (r10 ++ (r8 ++ (te ++ ([] : Hep)))))) := H.perm' (((((((List.Perm.refl _).append_left r8).trans (List.perm_append_comm_assoc r8 r7 (te ++ ([] : Hep)))).append_left r10).trans (List.perm_append_comm_assoc r10 r7 (r8 ++ (te ++ ([] : Hep))))).append_left ([(g1, .ty 60, bvs nw)] : Hep)).trans (List.perm_append_comm_assoc ([(g1, .ty 60, bvs nw)] : Hep) r7 (r10 ++ (r8 ++ (te ++ ([] : Hep))))))
                  refine pl_callX rfl rfl ⟨_, Try.func18, by kernel_rfl⟩ rfl (fun K_ => by have h_ := po_read (hh := (([(g1, .ty 60, bvs nw)] : Hep) ++ (r10 ++ (r8 ++ (te ++ ([] : Hep)))))) hP7 i (by rw [crash_nb _ hDn]; omega) w _ K_; rw [hJ.2.2.1.rall hJ.1.ok (by omega)] at h_; exact h_) H ?_
                  try clear H a W
                  rintro gr11 a W - H
                  replace H := H.perm' ((List.perm_append_comm_assoc r7 ([(g1, .ty 60, bvs nw)] : Hep) (r10 ++ (r8 ++ (te ++ ([] : Hep))))).append_left ([(gr11, .ty 77, bvs (fillB (nw.getD i 0)))] : Hep))
                  replace H : St 189 w a W [(148, .tuple #[.slice (some ⟨gr11, 0, none⟩) 512 512, .int .i64 0]), (147, .int .i64 ((i : Nat) : Int)), (146, .pointer (some ⟨p5, 0, none⟩)), (142, .bool true), (141, .int .i64 ((nb : Nat) : Int)), (140, .int .i64 ((i : Nat) : Int)), (17, .int .i64 ((i : Nat) : Int)), (16, .pointer (some ⟨p6, 0, none⟩)), (15, .pointer (some ⟨p5, 0, none⟩)), (11, .pointer (some ⟨g1, 0, none⟩)), (9, .pointer (some ⟨p1, 0, none⟩)), (0, .int .i64 ((nb : Nat) : Int))] ((gr11, 77, bvs (fillB (nw.getD i 0))) :: (g1, 60, bvs nw) :: (r7 ++ (r10 ++ (r8 ++ (te ++ ([] : Hep)))))) := H
                  refine rgO H gs0 (rS 5 rfl <| rK [0] [] [] <| rZ0 ?_)
                  try clear H a W
                  intro a W H
                  refine hK39 _ _ ?_
                  clear hK39
                  refine wp_seq_k (fun K40 hK40 => ?_)
                  refine rgP H gs0 (rS 2 rfl <| rI0 ?_)
                  try clear H a W
                  intro a W H
                  replace H : St 189 w a W [(153, .int .i64 ((i : Nat) : Int)), (152, .pointer (some ⟨p6, 0, none⟩)), (18, .slice (some ⟨gr11, 0, none⟩) 512 512), (150, .int .i64 0), (149, .slice (some ⟨gr11, 0, none⟩) 512 512), (145, .tuple #[.slice (some ⟨gr11, 0, none⟩) 512 512, .int .i64 0]), (148, .tuple #[.slice (some ⟨gr11, 0, none⟩) 512 512, .int .i64 0]), (147, .int .i64 ((i : Nat) : Int)), (146, .pointer (some ⟨p5, 0, none⟩)), (142, .bool true), (141, .int .i64 ((nb : Nat) : Int)), (140, .int .i64 ((i : Nat) : Int)), (17, .int .i64 ((i : Nat) : Int)), (16, .pointer (some ⟨p6, 0, none⟩)), (15, .pointer (some ⟨p5, 0, none⟩)), (11, .pointer (some ⟨g1, 0, none⟩)), (9, .pointer (some ⟨p1, 0, none⟩)), (0, .int .i64 ((nb : Nat) : Int))] (r8 ++ (([(gr11, .ty 77, bvs (fillB (nw.getD i 0))), (g1, .ty 60, bvs nw)] : Hep) ++ (r7 ++ (r10 ++ (te ++ ([] : Hep)))))) := H.perm' (((((((List.Perm.refl _).append_left r10).trans (List.perm_append_comm_assoc r10 r8 (te ++ ([] : Hep)))).append_left r7).trans (List.perm_append_comm_assoc r7 r8 (r10 ++ (te ++ ([] : Hep))))).append_left ([(gr11, .ty 77, bvs (fillB (nw.getD i 0))), (g1, .ty 60, bvs nw)] : Hep)).trans (List.perm_append_comm_assoc ([(gr11, .ty 77, bvs (fillB (nw.getD i 0))), (g1, .ty 60, bvs nw)] : Hep) r8 (r7 ++ (r10 ++ (te ++ ([] : Hep))))))
                  refine pl_callX rfl rfl ⟨_, Try.func18, by kernel_rfl⟩ rfl (fun K_ => by have h_ := po_read (hh := (([(gr11, .ty 77, bvs (fillB (nw.getD i 0))), (g1, .ty 60, bvs nw)] : Hep) ++ (r7 ++ (r10 ++ (te ++ ([] : Hep)))))) hP8 i (by rw [crash_nb _ hDn]; omega) w _ K_; rw [hJ.2.2.1.rnone (by omega)] at h_; exact h_) H ?_
                  try clear H a W
                  rintro gr12 a W - H
                  replace H := H.perm' ((List.perm_append_comm_assoc r8 ([(gr11, .ty 77, bvs (fillB (nw.getD i 0))), (g1, .ty 60, bvs nw)] : Hep) (r7 ++ (r10 ++ (te ++ ([] : Hep))))).append_left ([(gr12, .ty 77, bvs (fillB 0))] : Hep))
                  replace H : St 189 w a W [(154, .tuple #[.slice (some ⟨gr12, 0, none⟩) 512 512, .int .i64 0]), (153, .int .i64 ((i : Nat) : Int)), (152, .pointer (some ⟨p6, 0, none⟩)), (18, .slice (some ⟨gr11, 0, none⟩) 512 512), (150, .int .i64 0), (149, .slice (some ⟨gr11, 0, none⟩) 512 512), (145, .tuple #[.slice (some ⟨gr11, 0, none⟩) 512 512, .int .i64 0]), (148, .tuple #[.slice (some ⟨gr11, 0, none⟩) 512 512, .int .i64 0]), (147, .int .i64 ((i : Nat) : Int)), (146, .pointer (some ⟨p5, 0, none⟩)), (142, .bool true), (141, .int .i64 ((nb : Nat) : Int)), (140, .int .i64 ((i : Nat) : Int)), (17, .int .i64 ((i : Nat) : Int)), (16, .pointer (some ⟨p6, 0, none⟩)), (15, .pointer (some ⟨p5, 0, none⟩)), (11, .pointer (some ⟨g1, 0, none⟩)), (9, .pointer (some ⟨p1, 0, none⟩)), (0, .int .i64 ((nb : Nat) : Int))] ((gr12, 77, bvs (fillB 0)) :: (gr11, 77, bvs (fillB (nw.getD i 0))) :: (g1, 60, bvs nw) :: (r8 ++ (r7 ++ (r10 ++ (te ++ ([] : Hep)))))) := H
                  refine rgO H gs0 (rS 5 rfl <| rK [0] [] [] <| rZ0 ?_)
                  try clear H a W
                  intro a W H
                  refine hK40 _ _ ?_
                  clear hK40
                  refine wp_seq_k (fun K41 hK41 => ?_)
                  refine rgP H gs0 (rS 2 rfl <| rI0 ?_)
                  try clear H a W
                  intro a W H
                  replace H : St 189 w a W [(159, .int .i64 ((i : Nat) : Int)), (158, .pointer (some ⟨p1, 0, none⟩)), (20, .slice (some ⟨gr12, 0, none⟩) 512 512), (156, .int .i64 0), (155, .slice (some ⟨gr12, 0, none⟩) 512 512), (151, .tuple #[.slice (some ⟨gr12, 0, none⟩) 512 512, .int .i64 0]), (154, .tuple #[.slice (some ⟨gr12, 0, none⟩) 512 512, .int .i64 0]), (153, .int .i64 ((i : Nat) : Int)), (152, .pointer (some ⟨p6, 0, none⟩)), (18, .slice (some ⟨gr11, 0, none⟩) 512 512), (150, .int .i64 0), (149, .slice (some ⟨gr11, 0, none⟩) 512 512), (145, .tuple #[.slice (some ⟨gr11, 0, none⟩) 512 512, .int .i64 0]), (148, .tuple #[.slice (some ⟨gr11, 0, none⟩) 512 512, .int .i64 0]), (147, .int .i64 ((i : Nat) : Int)), (146, .pointer (some ⟨p5, 0, none⟩)), (142, .bool true), (141, .int .i64 ((nb : Nat) : Int)), (140, .int .i64 ((i : Nat) : Int)), (17, .int .i64 ((i : Nat) : Int)), (16, .pointer (some ⟨p6, 0, none⟩)), (15, .pointer (some ⟨p5, 0, none⟩)), (11, .pointer (some ⟨g1, 0, none⟩)), (9, .pointer (some ⟨p1, 0, none⟩)), (0, .int .i64 ((nb : Nat) : Int))] (r10 ++ (([(gr12, .ty 77, bvs (fillB 0)), (gr11, .ty 77, bvs (fillB (nw.getD i 0))), (g1, .ty 60, bvs nw)] : Hep) ++ (r8 ++ (r7 ++ (te ++ ([] : Hep)))))) := H.perm' (((((((List.Perm.refl _).append_left r7).trans (List.perm_append_comm_assoc r7 r10 (te ++ ([] : Hep)))).append_left r8).trans (List.perm_append_comm_assoc r8 r10 (r7 ++ (te ++ ([] : Hep))))).append_left ([(gr12, .ty 77, bvs (fillB 0)), (gr11, .ty 77, bvs (fillB (nw.getD i 0))), (g1, .ty 60, bvs nw)] : Hep)).trans (List.perm_append_comm_assoc ([(gr12, .ty 77, bvs (fillB 0)), (gr11, .ty 77, bvs (fillB (nw.getD i 0))), (g1, .ty 60, bvs nw)] : Hep) r10 (r8 ++ (r7 ++ (te ++ ([] : Hep))))))
                  refine pl_callX rfl rfl ⟨_, Try.func18, by kernel_rfl⟩ rfl (fun K_ => by have h_ := po_read (hh := (([(gr12, .ty 77, bvs (fillB 0)), (gr11, .ty 77, bvs (fillB (nw.getD i 0))), (g1, .ty 60, bvs nw)] : Hep) ++ (r8 ++ (r7 ++ (te ++ ([] : Hep)))))) hP10 i (by rw [crash_nb _ (sync_nb hDn)]; omega) w _ K_; rw [hJ.2.2.1.rsync hJ.1.ok _ (by omega)] at h_; exact h_) H ?_
                  try clear H a W
                  rintro gr13 a W - H
                  replace H := H.perm' ((List.perm_append_comm_assoc r10 ([(gr12, .ty 77, bvs (fillB 0)), (gr11, .ty 77, bvs (fillB (nw.getD i 0))), (g1, .ty 60, bvs nw)] : Hep) (r8 ++ (r7 ++ (te ++ ([] : Hep))))).append_left ([(gr13, .ty 77, bvs (fillB (nw.getD i 0)))] : Hep))
                  replace H : St 189 w a W [(160, .tuple #[.slice (some ⟨gr13, 0, none⟩) 512 512, .int .i64 0]), (159, .int .i64 ((i : Nat) : Int)), (158, .pointer (some ⟨p1, 0, none⟩)), (20, .slice (some ⟨gr12, 0, none⟩) 512 512), (156, .int .i64 0), (155, .slice (some ⟨gr12, 0, none⟩) 512 512), (151, .tuple #[.slice (some ⟨gr12, 0, none⟩) 512 512, .int .i64 0]), (154, .tuple #[.slice (some ⟨gr12, 0, none⟩) 512 512, .int .i64 0]), (153, .int .i64 ((i : Nat) : Int)), (152, .pointer (some ⟨p6, 0, none⟩)), (18, .slice (some ⟨gr11, 0, none⟩) 512 512), (150, .int .i64 0), (149, .slice (some ⟨gr11, 0, none⟩) 512 512), (145, .tuple #[.slice (some ⟨gr11, 0, none⟩) 512 512, .int .i64 0]), (148, .tuple #[.slice (some ⟨gr11, 0, none⟩) 512 512, .int .i64 0]), (147, .int .i64 ((i : Nat) : Int)), (146, .pointer (some ⟨p5, 0, none⟩)), (142, .bool true), (141, .int .i64 ((nb : Nat) : Int)), (140, .int .i64 ((i : Nat) : Int)), (17, .int .i64 ((i : Nat) : Int)), (16, .pointer (some ⟨p6, 0, none⟩)), (15, .pointer (some ⟨p5, 0, none⟩)), (11, .pointer (some ⟨g1, 0, none⟩)), (9, .pointer (some ⟨p1, 0, none⟩)), (0, .int .i64 ((nb : Nat) : Int))] ((gr13, 77, bvs (fillB (nw.getD i 0))) :: (gr12, 77, bvs (fillB 0)) :: (gr11, 77, bvs (fillB (nw.getD i 0))) :: (g1, 60, bvs nw) :: (r10 ++ (r8 ++ (r7 ++ (te ++ ([] : Hep)))))) := H
                  refine rgO H gs0 (rS 5 rfl <| rK [0] [] [] <| rZ0 ?_)
                  try clear H a W
                  intro a W H
                  refine hK41 _ _ ?_
                  clear hK41
                  refine sqD (.v 163 _ [] :: .v 164 _ [0] :: .v 165 _ [] :: .v 166 _ [2] :: .v 167 _ [3] :: .f 168 _ [4] :: .v 169 _ [5] :: .v 170 _ [1, 6] :: .v 171 _ [7] :: .v 172 _ [8] :: .v 173 _ [9, 8] :: .f 174 _ [8] :: .v 175 _ [11, 8] :: .v 176 _ [10, 12, 8] :: .v 177 _ [8, 13] :: .v 178 _ [14] :: .v 179 _ [15] :: .v 180 _ [16, 15] :: .v 181 _ [15] :: .v 182 _ [18, 15] :: .v 183 _ [19, 15] :: .f 184 _ [20, 15] :: .v 185 _ [21, 15] :: .v 186 _ [17, 22, 15] :: .v 187 _ [15, 23] :: []) (by kernel_rfl) (by kernel_rfl) H gs0 (fun _ => ⟨oS rfl rfl, fun a W  H _ => ob_strP H (wanted_none rfl) rfl rfl (sl_bf (fill_len _) (H.blk (k := 2) rfl)), oS rfl rfl, oV rfl (does_indexAddr rfl rfl rfl (ia_arr40 (k := i) (by omega))), oV rfl (does_loadAt (v := bv (nw.getD i 0)) rfl rfl (k := 3) rfl (ld_u8t (bvs_at (by rw [hJ.2.2.1.nwl]; omega)))), ⟨fun a W  H _ => ob_callS H (wanted_none rfl) rfl ⟨_, Try.func29, by kernel_rfl⟩ rfl (fill_bf (nw.getD i 0) _), fun _ => inferInstance⟩, fun a W v168 hv168 H _ => ob_strP H (wanted_none rfl) rfl rfl hv168, oV rfl (does_binOp rfl rfl rfl (sd_neqP (l := fillB (nw.getD i 0)) (m := fillB (nw.getD i 0)) (decide_eq_false (fun h_ => h_ rfl)) _ _)), oS rfl rfl, oS rfl rfl, fun a W  H _ => ob_strP H (wanted_some rfl rfl rfl rfl rfl) rfl rfl (sl_bf (fill_len _) (H.blk (k := 1) rfl)), ⟨fun a W  H _ => ob_callS H (wanted_some rfl rfl rfl rfl rfl) rfl ⟨_, Try.func29, by kernel_rfl⟩ rfl (fill_bf 0 _), fun _ => inferInstance⟩, fun a W v174 hv174 H _ => ob_strP H (wanted_some rfl rfl rfl rfl rfl) rfl rfl hv174, oV rfl (does_binOp rfl rfl rfl (sd_neqP (l := fillB 0) (m := fillB 0) (decide_eq_false (fun h_ => h_ rfl)) _ _)), oS rfl rfl, oS rfl rfl, oS rfl rfl, fun a W  H _ => ob_strP H (wanted_some rfl rfl rfl rfl rfl) rfl rfl (sl_bf (fill_len _) (H.blk (k := 0) rfl)), oS rfl rfl, oV rfl (does_indexAddr rfl rfl rfl (ia_arr40 (k := i) (by omega))), oV rfl (does_loadAt (v := bv (nw.getD i 0)) rfl rfl (k := 3) rfl (ld_u8t (bvs_at (by rw [hJ.2.2.1.nwl]; omega)))), ⟨fun a W  H _ => ob_callS H (wanted_some rfl rfl rfl rfl rfl) rfl ⟨_, Try.func29, by kernel_rfl⟩ rfl (fill_bf (nw.getD i 0) _), fun _ => inferInstance⟩, fun a W v184 hv184 H _ => ob_strP H (wanted_some rfl rfl rfl rfl rfl) rfl rfl hv184, oV rfl (does_binOp rfl rfl rfl (sd_neqP (l := fillB (nw.getD i 0)) (m := fillB (nw.getD i 0)) (decide_eq_false (fun h_ => h_ rfl)) _ _)), oS rfl rfl, trivial⟩) fun Z_ z_ => fun v168 v174 v184 => rN z_ ?_
                  try clear H a W
                  rintro a W H ⟨hv184, hv174, hv168, -⟩
                  refine wp_cond_false (H.ev rfl) ?_
                  refine wp_skip ?_
                  refine blk_normal ?_
                  refine hK38 _ _ ?_
                  clear hK38
                  refine rgP H (gsC hv184 (gsC hv174 (gsC hv168 gs0))) (rS 1 rfl <| rV rfl (does_binOp rfl rfl rfl (zd_add_int (k := ((i : Nat) : Int)) (m := 1) (c := ((i + 1 : Nat) : Int)) (by omega) (by omega) _ _)) <| rK [1, 1, 1, 1, 1, 1, 1, 1, 1, 1, 1, 1, 1, 1, 1, 1, 1, 1, 1, 1, 1, 1, 1, 1, 1, 1, 1, 1, 1, 1, 1, 1, 1, 1, 1, 1, 1, 1, 1, 1, 1, 1, 1, 1, 1, 1, 1, 1, 1, 1, 1, 0] [] [] <| rS 1 rfl <| rZ ?_)
                  try clear hv184 hv174 hv168 H a W
                  rintro a W H ⟨hv184, hv174, hv168, -⟩
                  replace H := H.perm' ((((((((List.Perm.refl _).append_left r7).trans (List.perm_append_comm_assoc r7 te ([] : Hep))).append_left r8).trans (List.perm_append_comm_assoc r8 te (r7 ++ ([] : Hep)))).append_left r10).trans (List.perm_append_comm_assoc r10 te (r8 ++ (r7 ++ ([] : Hep))))).append_left ([(gr13, .ty 77, bvs (fillB (nw.getD i 0))), (gr12, .ty 77, bvs (fillB 0)), (gr11, .ty 77, bvs (fillB (nw.getD i 0))), (g1, .ty 60, bvs nw)] : Hep))
                  replace H : St 189 w a W [(17, .int .i64 ((i + 1 : Nat) : Int)), (144, .int .i64 ((i + 1 : Nat) : Int)), (143, .int .i64 ((i : Nat) : Int)), (187, .bool false), (186, .bool false), (185, .string (strB (fillB (nw.getD i 0)))), (184, v184), (183, bv (nw.getD i 0)), (182, .pointer (some ⟨g1, i, none⟩)), (181, .int .i64 ((i : Nat) : Int)), (180, .string (strB (fillB (nw.getD i 0)))), (179, .slice (some ⟨gr13, 0, none⟩) 512 512), (178, .bool false), (177, .bool false), (176, .bool false), (175, .string (strB (fillB 0))), (174, v174), (173, .string (strB (fillB 0))), (172, .slice (some ⟨gr12, 0, none⟩) 512 512), (171, .bool false), (170, .bool false), (169, .string (strB (fillB (nw.getD i 0)))), (168, v168), (167, bv (nw.getD i 0)), (166, .pointer (some ⟨g1, i, none⟩)), (165, .int .i64 ((i : Nat) : Int)), (164, .string (strB (fillB (nw.getD i 0)))), (163, .slice (some ⟨gr11, 0, none⟩) 512 512), (22, .slice (some ⟨gr13, 0, none⟩) 512 512), (162, .int .i64 0), (161, .slice (some ⟨gr13, 0, none⟩) 512 512), (157, .tuple #[.slice (some ⟨gr13, 0, none⟩) 512 512, .int .i64 0]), (160, .tuple #[.slice (some ⟨gr13, 0, none⟩) 512 512, .int .i64 0]), (159, .int .i64 ((i : Nat) : Int)), (158, .pointer (some ⟨p1, 0, none⟩)), (20, .slice (some ⟨gr12, 0, none⟩) 512 512), (156, .int .i64 0), (155, .slice (some ⟨gr12, 0, none⟩) 512 512), (151, .tuple #[.slice (some ⟨gr12, 0, none⟩) 512 512, .int .i64 0]), (154, .tuple #[.slice (some ⟨gr12, 0, none⟩) 512 512, .int .i64 0]), (153, .int .i64 ((i : Nat) : Int)), (152, .pointer (some ⟨p6, 0, none⟩)), (18, .slice (some ⟨gr11, 0, none⟩) 512 512), (150, .int .i64 0), (149, .slice (some ⟨gr11, 0, none⟩) 512 512), (145, .tuple #[.slice (some ⟨gr11, 0, none⟩) 512 512, .int .i64 0]), (148, .tuple #[.slice (some ⟨gr11, 0, none⟩) 512 512, .int .i64 0]), (147, .int .i64 ((i : Nat) : Int)), (146, .pointer (some ⟨p5, 0, none⟩)), (142, .bool true), (141, .int .i64 ((nb : Nat) : Int)), (140, .int .i64 ((i : Nat) : Int)), (16, .pointer (some ⟨p6, 0, none⟩)), (15, .pointer (some ⟨p5, 0, none⟩)), (11, .pointer (some ⟨g1, 0, none⟩)), (9, .pointer (some ⟨p1, 0, none⟩)), (0, .int .i64 ((nb : Nat) : Int))] ((gr13, 77, bvs (fillB (nw.getD i 0))) :: (gr12, 77, bvs (fillB 0)) :: (gr11, 77, bvs (fillB (nw.getD i 0))) :: (g1, 60, bvs nw) :: (te ++ (r10 ++ (r8 ++ (r7 ++ ([] : Hep)))))) := H
                  replace H := H.perm' ((((((((List.Perm.refl _).append_left r8).trans (List.perm_append_comm_assoc r8 r7 ([] : Hep))).append_left r10).trans (List.perm_append_comm_assoc r10 r7 (r8 ++ ([] : Hep)))).append_left te).trans (List.perm_append_comm_assoc te r7 (r10 ++ (r8 ++ ([] : Hep))))).append_left ([(gr13, .ty 77, bvs (fillB (nw.getD i 0))), (gr12, .ty 77, bvs (fillB 0)), (gr11, .ty 77, bvs (fillB (nw.getD i 0))), (g1, .ty 60, bvs nw)] : Hep))
                  replace H : St 189 w a W [(17, .int .i64 ((i + 1 : Nat) : Int)), (144, .int .i64 ((i + 1 : Nat) : Int)), (143, .int .i64 ((i : Nat) : Int)), (187, .bool false), (186, .bool false), (185, .string (strB (fillB (nw.getD i 0)))), (184, v184), (183, bv (nw.getD i 0)), (182, .pointer (some ⟨g1, i, none⟩)), (181, .int .i64 ((i : Nat) : Int)), (180, .string (strB (fillB (nw.getD i 0)))), (179, .slice (some ⟨gr13, 0, none⟩) 512 512), (178, .bool false), (177, .bool false), (176, .bool false), (175, .string (strB (fillB 0))), (174, v174), (173, .string (strB (fillB 0))), (172, .slice (some ⟨gr12, 0, none⟩) 512 512), (171, .bool false), (170, .bool false), (169, .string (strB (fillB (nw.getD i 0)))), (168, v168), (167, bv (nw.getD i 0)), (166, .pointer (some ⟨g1, i, none⟩)), (165, .int .i64 ((i : Nat) : Int)), (164, .string (strB (fillB (nw.getD i 0)))), (163, .slice (some ⟨gr11, 0, none⟩) 512 512), (22, .slice (some ⟨gr13, 0, none⟩) 512 512), (162, .int .i64 0), (161, .slice (some ⟨gr13, 0, none⟩) 512 512), (157, .tuple #[.slice (some ⟨gr13, 0, none⟩) 512 512, .int .i64 0]), (160, .tuple #[.slice (some ⟨gr13, 0, none⟩) 512 512, .int .i64 0]), (159, .int .i64 ((i : Nat) : Int)), (158, .pointer (some ⟨p1, 0, none⟩)), (20, .slice (some ⟨gr12, 0, none⟩) 512 512), (156, .int .i64 0), (155, .slice (some ⟨gr12, 0, none⟩) 512 512), (151, .tuple #[.slice (some ⟨gr12, 0, none⟩) 512 512, .int .i64 0]), (154, .tuple #[.slice (some ⟨gr12, 0, none⟩) 512 512, .int .i64 0]), (153, .int .i64 ((i : Nat) : Int)), (152, .pointer (some ⟨p6, 0, none⟩)), (18, .slice (some ⟨gr11, 0, none⟩) 512 512), (150, .int .i64 0), (149, .slice (some ⟨gr11, 0, none⟩) 512 512), (145, .tuple #[.slice (some ⟨gr11, 0, none⟩) 512 512, .int .i64 0]), (148, .tuple #[.slice (some ⟨gr11, 0, none⟩) 512 512, .int .i64 0]), (147, .int .i64 ((i : Nat) : Int)), (146, .pointer (some ⟨p5, 0, none⟩)), (142, .bool true), (141, .int .i64 ((nb : Nat) : Int)), (140, .int .i64 ((i : Nat) : Int)), (16, .pointer (some ⟨p6, 0, none⟩)), (15, .pointer (some ⟨p5, 0, none⟩)), (11, .pointer (some ⟨g1, 0, none⟩)), (9, .pointer (some ⟨p1, 0, none⟩)), (0, .int .i64 ((nb : Nat) : Int))] ((gr13, 77, bvs (fillB (nw.getD i 0))) :: (gr12, 77, bvs (fillB 0)) :: (gr11, 77, bvs (fillB (nw.getD i 0))) :: (g1, 60, bvs nw) :: (r7 ++ (te ++ (r10 ++ (r8 ++ ([] : Hep)))))) := H
                  replace H := H.perm' ((((((((List.Perm.refl _).append_left r10).trans (List.perm_append_comm_assoc r10 r8 ([] : Hep))).append_left te).trans (List.perm_append_comm_assoc te r8 (r10 ++ ([] : Hep)))).append_left r7).trans (List.perm_append_comm_assoc r7 r8 (te ++ (r10 ++ ([] : Hep))))).append_left ([(gr13, .ty 77, bvs (fillB (nw.getD i 0))), (gr12, .ty 77, bvs (fillB 0)), (gr11, .ty 77, bvs (fillB (nw.getD i 0))), (g1, .ty 60, bvs nw)] : Hep))
                  replace H : St 189 w a W [(17, .int .i64 ((i + 1 : Nat) : Int)), (144, .int .i64 ((i + 1 : Nat) : Int)), (143, .int .i64 ((i : Nat) : Int)), (187, .bool false), (186, .bool false), (185, .string (strB (fillB (nw.getD i 0)))), (184, v184), (183, bv (nw.getD i 0)), (182, .pointer (some ⟨g1, i, none⟩)), (181, .int .i64 ((i : Nat) : Int)), (180, .string (strB (fillB (nw.getD i 0)))), (179, .slice (some ⟨gr13, 0, none⟩) 512 512), (178, .bool false), (177, .bool false), (176, .bool false), (175, .string (strB (fillB 0))), (174, v174), (173, .string (strB (fillB 0))), (172, .slice (some ⟨gr12, 0, none⟩) 512 512), (171, .bool false), (170, .bool false), (169, .string (strB (fillB (nw.getD i 0)))), (168, v168), (167, bv (nw.getD i 0)), (166, .pointer (some ⟨g1, i, none⟩)), (165, .int .i64 ((i : Nat) : Int)), (164, .string (strB (fillB (nw.getD i 0)))), (163, .slice (some ⟨gr11, 0, none⟩) 512 512), (22, .slice (some ⟨gr13, 0, none⟩) 512 512), (162, .int .i64 0), (161, .slice (some ⟨gr13, 0, none⟩) 512 512), (157, .tuple #[.slice (some ⟨gr13, 0, none⟩) 512 512, .int .i64 0]), (160, .tuple #[.slice (some ⟨gr13, 0, none⟩) 512 512, .int .i64 0]), (159, .int .i64 ((i : Nat) : Int)), (158, .pointer (some ⟨p1, 0, none⟩)), (20, .slice (some ⟨gr12, 0, none⟩) 512 512), (156, .int .i64 0), (155, .slice (some ⟨gr12, 0, none⟩) 512 512), (151, .tuple #[.slice (some ⟨gr12, 0, none⟩) 512 512, .int .i64 0]), (154, .tuple #[.slice (some ⟨gr12, 0, none⟩) 512 512, .int .i64 0]), (153, .int .i64 ((i : Nat) : Int)), (152, .pointer (some ⟨p6, 0, none⟩)), (18, .slice (some ⟨gr11, 0, none⟩) 512 512), (150, .int .i64 0), (149, .slice (some ⟨gr11, 0, none⟩) 512 512), (145, .tuple #[.slice (some ⟨gr11, 0, none⟩) 512 512, .int .i64 0]), (148, .tuple #[.slice (some ⟨gr11, 0, none⟩) 512 512, .int .i64 0]), (147, .int .i64 ((i : Nat) : Int)), (146, .pointer (some ⟨p5, 0, none⟩)), (142, .bool true), (141, .int .i64 ((nb : Nat) : Int)), (140, .int .i64 ((i : Nat) : Int)), (16, .pointer (some ⟨p6, 0, none⟩)), (15, .pointer (some ⟨p5, 0, none⟩)), (11, .pointer (some ⟨g1, 0, none⟩)), (9, .pointer (some ⟨p1, 0, none⟩)), (0, .int .i64 ((nb : Nat) : Int))] ((gr13, 77, bvs (fillB (nw.getD i 0))) :: (gr12, 77, bvs (fillB 0)) :: (gr11, 77, bvs (fillB (nw.getD i 0))) :: (g1, 60, bvs nw) :: (r8 ++ (r7 ++ (te ++ (r10 ++ ([] : Hep)))))) := H
                  replace H := H.perm' ((((((((List.Perm.refl _).append_left te).trans (List.perm_append_comm_assoc te r10 ([] : Hep))).append_left r7).trans (List.perm_append_comm_assoc r7 r10 (te ++ ([] : Hep)))).append_left r8).trans (List.perm_append_comm_assoc r8 r10 (r7 ++ (te ++ ([] : Hep))))).append_left ([(gr13, .ty 77, bvs (fillB (nw.getD i 0))), (gr12, .ty 77, bvs (fillB 0)), (gr11, .ty 77, bvs (fillB (nw.getD i 0))), (g1, .ty 60, bvs nw)] : Hep))
                  replace H : St 189 w a W [(17, .int .i64 ((i + 1 : Nat) : Int)), (144, .int .i64 ((i + 1 : Nat) : Int)), (143, .int .i64 ((i : Nat) : Int)), (187, .bool false), (186, .bool false), (185, .string (strB (fillB (nw.getD i 0)))), (184, v184), (183, bv (nw.getD i 0)), (182, .pointer (some ⟨g1, i, none⟩)), (181, .int .i64 ((i : Nat) : Int)), (180, .string (strB (fillB (nw.getD i 0)))), (179, .slice (some ⟨gr13, 0, none⟩) 512 512), (178, .bool false), (177, .bool false), (176, .bool false), (175, .string (strB (fillB 0))), (174, v174), (173, .string (strB (fillB 0))), (172, .slice (some ⟨gr12, 0, none⟩) 512 512), (171, .bool false), (170, .bool false), (169, .string (strB (fillB (nw.getD i 0)))), (168, v168), (167, bv (nw.getD i 0)), (166, .pointer (some ⟨g1, i, none⟩)), (165, .int .i64 ((i : Nat) : Int)), (164, .string (strB (fillB (nw.getD i 0)))), (163, .slice (some ⟨gr11, 0, none⟩) 512 512), (22, .slice (some ⟨gr13, 0, none⟩) 512 512), (162, .int .i64 0), (161, .slice (some ⟨gr13, 0, none⟩) 512 512), (157, .tuple #[.slice (some ⟨gr13, 0, none⟩) 512 512, .int .i64 0]), (160, .tuple #[.slice (some ⟨gr13, 0, none⟩) 512 512, .int .i64 0]), (159, .int .i64 ((i : Nat) : Int)), (158, .pointer (some ⟨p1, 0, none⟩)), (20, .slice (some ⟨gr12, 0, none⟩) 512 512), (156, .int .i64 0), (155, .slice (some ⟨gr12, 0, none⟩) 512 512), (151, .tuple #[.slice (some ⟨gr12, 0, none⟩) 512 512, .int .i64 0]), (154, .tuple #[.slice (some ⟨gr12, 0, none⟩) 512 512, .int .i64 0]), (153, .int .i64 ((i : Nat) : Int)), (152, .pointer (some ⟨p6, 0, none⟩)), (18, .slice (some ⟨gr11, 0, none⟩) 512 512), (150, .int .i64 0), (149, .slice (some ⟨gr11, 0, none⟩) 512 512), (145, .tuple #[.slice (some ⟨gr11, 0, none⟩) 512 512, .int .i64 0]), (148, .tuple #[.slice (some ⟨gr11, 0, none⟩) 512 512, .int .i64 0]), (147, .int .i64 ((i : Nat) : Int)), (146, .pointer (some ⟨p5, 0, none⟩)), (142, .bool true), (141, .int .i64 ((nb : Nat) : Int)), (140, .int .i64 ((i : Nat) : Int)), (16, .pointer (some ⟨p6, 0, none⟩)), (15, .pointer (some ⟨p5, 0, none⟩)), (11, .pointer (some ⟨g1, 0, none⟩)), (9, .pointer (some ⟨p1, 0, none⟩)), (0, .int .i64 ((nb : Nat) : Int))] ((gr13, 77, bvs (fillB (nw.getD i 0))) :: (gr12, 77, bvs (fillB 0)) :: (gr11, 77, bvs (fillB (nw.getD i 0))) :: (g1, 60, bvs nw) :: (r10 ++ (r8 ++ (r7 ++ (te ++ ([] : Hep)))))) := H
                  refine ⟨i + 1, by omega, by omega, 0, rfl, ?_⟩
                  exact H.pickF (h := [(gr13, 77, bvs (fillB (nw.getD i 0))), (gr12, 77, bvs (fillB 0)), (gr11, 77, bvs (fillB (nw.getD i 0))), (g1, 60, bvs nw)]) (t := (r10 ++ (r8 ++ (r7 ++ (te ++ ([] : Hep)))))) [0, 52, 53, 54, 55, 56] [3] rfl
                · obtain rfl : nb = i := by omega
                  refine wp_seq_k (fun K43 hK43 => ?_)
                  refine sqR H gs0 fun Z_ z_ => rS 2 rfl <| rV rfl (does_binOp rfl rfl rfl (zd_lss_int (k := ((nb : Nat) : Int)) (m := ((nb : Nat) : Int)) (decide_eq_false (by omega)) _ _)) <| rK [1, 0, 0, 1, 1, 1, 1, 1, 0] [] [] <| rN0 z_ ?_
                  try clear H a W
                  intro a W H
                  refine wp_cond_false (H.ev rfl) ?_
                  refine wp_exit ?_
                  repeat (first | (with_reducible refine then_exit ?_) | (with_reducible refine blk_pass (by decide) ?_))
                  refine blk_exit ?_
                  refine hK34 _ _ ?_
                  clear hK34
                  refine sqR H gs0 fun Z_ z_ => rV rfl (does_call rfl ⟨_, Try.func11, by kernel_rfl⟩ rfl (fun W hb => known_any W)) <| rS 1 rfl <| rK [1, 0, 0, 0, 0, 0, 0, 0] [0] [] <| rN0 z_ ?_
                  try clear H a W
                  intro a W H
                  refine wp_ret ?_
                  repeat (first | (with_reducible refine then_ret ?_) | (with_reducible refine blk_ret ?_))
                  refine end_tmp (p := 8) rfl rfl H (fun hb => ?_)
                  exact ⟨rfl, hb⟩
              | false =>
                have hq8p := of_decide_eq_false hq8
                refine rgP H gs0 (rS 2 rfl <| rV rfl (does_len Try.underlying33 rfl rfl) <| rV rfl (does_binOp rfl rfl rfl (zd_lss_int (k := (((min n1 n2) : Nat) : Int)) (m := ((n1 : Nat) : Int)) hq8 _ _)) <| rS 6 rfl <| rK [1, 0, 0, 0, 0, 0, 0, 0, 0, 0] [] [] <| rZ0 ?_)
                try clear H a W
                intro a W H
                refine hK30 _ _ ?_
                clear hK30
                refine wp_cond_false (H.ev rfl) ?_
                refine wp_exit ?_
                repeat (first | (with_reducible refine then_exit ?_) | (with_reducible refine blk_pass (by decide) ?_))
                refine blk_exit ?_
                have hDn := hJ.2.2.1.nb
                refine hK14 _ _ ?_
                clear hK14
                refine wp_seq_k (fun K46 hK46 => ?_)
                refine rgP H gs0 (rS 1 rfl <| rI0 ?_)
                try clear H a W
                intro a W H
                replace H : St 189 w a W [(110, .pointer (some ⟨p1, 0, none⟩)), (67, .bool false), (13, .int .i64 (((min n1 n2) : Nat) : Int)), (12, .slice Ae m ce), (11, .pointer (some ⟨g1, 0, none⟩)), (9, .pointer (some ⟨p1, 0, none⟩)), (0, .int .i64 ((nb : Nat) : Int)), (1, .slice A1 n1 c1), (2, .slice A2 n2 c2), (3, .slice A3 n3 c3)] (r ++ (([(g1, .ty 60, bvs nw)] : Hep) ++ (te ++ ([] : Hep)))) := H.perm' (((((List.Perm.refl _).append_left te).trans (List.perm_append_comm_assoc te r ([] : Hep))).append_left ([(g1, .ty 60, bvs nw)] : Hep)).trans (List.perm_append_comm_assoc ([(g1, .ty 60, bvs nw)] : Hep) r (te ++ ([] : Hep))))
                refine pl_callX rfl rfl ⟨_, Try.func19, by kernel_rfl⟩ rfl (fun K_ => po_copy (hh := (([(g1, .ty 60, bvs nw)] : Hep) ++ (te ++ ([] : Hep)))) hJ.1 w _ K_) H ?_
                try clear H a W
                rintro ⟨p14, r14⟩ a W hP14 H
                replace hP14 : PO p14 D r14 := hP14
                replace H := H.perm' (((List.perm_append_comm_assoc r ([(g1, .ty 60, bvs nw)] : Hep) (te ++ ([] : Hep))).append_left r14).trans (List.perm_append_comm_assoc r14 ([(g1, .ty 60, bvs nw)] : Hep) (r ++ (te ++ ([] : Hep)))))
                replace H : St 189 w a W [(111, .pointer (some ⟨p14, 0, none⟩)), (110, .pointer (some ⟨p1, 0, none⟩)), (67, .bool false), (13, .int .i64 (((min n1 n2) : Nat) : Int)), (12, .slice Ae m ce), (11, .pointer (some ⟨g1, 0, none⟩)), (9, .pointer (some ⟨p1, 0, none⟩)), (0, .int .i64 ((nb : Nat) : Int)), (1, .slice A1 n1 c1), (2, .slice A2 n2 c2), (3, .slice A3 n3 c3)] ((g1, 60, bvs nw) :: (r14 ++ (r ++ (te ++ ([] : Hep))))) := H
                refine rgO H gs0 (rS 1 rfl <| rI0 ?_)
                try clear H a W
                intro a W H
                replace H : St 189 w a W [(112, .pointer (some ⟨p1, 0, none⟩)), (111, .pointer (some ⟨p14, 0, none⟩)), (110, .pointer (some ⟨p1, 0, none⟩)), (67, .bool false), (13, .int .i64 (((min n1 n2) : Nat) : Int)), (12, .slice Ae m ce), (11, .pointer (some ⟨g1, 0, none⟩)), (9, .pointer (some ⟨p1, 0, none⟩)), (0, .int .i64 ((nb : Nat) : Int)), (1, .slice A1 n1 c1), (2, .slice A2 n2 c2), (3, .slice A3 n3 c3)] (r ++ (([(g1, .ty 60, bvs nw)] : Hep) ++ (r14 ++ (te ++ ([] : Hep))))) := H.perm' (((((List.Perm.refl _).append_left r14).trans (List.perm_append_comm_assoc r14 r (te ++ ([] : Hep)))).append_left ([(g1, .ty 60, bvs nw)] : Hep)).trans (List.perm_append_comm_assoc ([(g1, .ty 60, bvs nw)] : Hep) r (r14 ++ (te ++ ([] : Hep)))))
                refine pl_callX rfl rfl ⟨_, Try.func19, by kernel_rfl⟩ rfl (fun K_ => po_copy (hh := (([(g1, .ty 60, bvs nw)] : Hep) ++ (r14 ++ (te ++ ([] : Hep))))) hJ.1 w _ K_) H ?_
                try clear H a W
                rintro ⟨p15, r15⟩ a W hP15 H
                replace hP15 : PO p15 D r15 := hP15
                replace H := H.perm' (((List.perm_append_comm_assoc r ([(g1, .ty 60, bvs nw)] : Hep) (r14 ++ (te ++ ([] : Hep)))).append_left r15).trans (List.perm_append_comm_assoc r15 ([(g1, .ty 60, bvs nw)] : Hep) (r ++ (r14 ++ (te ++ ([] : Hep))))))
                replace H : St 189 w a W [(113, .pointer (some ⟨p15, 0, none⟩)), (112, .pointer (some ⟨p1, 0, none⟩)), (111, .pointer (some ⟨p14, 0, none⟩)), (110, .pointer (some ⟨p1, 0, none⟩)), (67, .bool false), (13, .int .i64 (((min n1 n2) : Nat) : Int)), (12, .slice Ae m ce), (11, .pointer (some ⟨g1, 0, none⟩)), (9, .pointer (some ⟨p1, 0, none⟩)), (0, .int .i64 ((nb : Nat) : Int)), (1, .slice A1 n1 c1), (2, .slice A2 n2 c2), (3, .slice A3 n3 c3)] ((g1, 60, bvs nw) :: (r15 ++ (r ++ (r14 ++ (te ++ ([] : Hep)))))) := H
                refine rgO H gs0 (rS 2 rfl <| rK [1, 1, 0, 0, 0, 0, 0, 0, 1, 1, 1, 1, 0, 0] [] [] <| rZ0 ?_)
                try clear H a W
                intro a W H
                refine hK46 _ _ ?_
                clear hK46
                refine wp_seq_k (fun K47 hK47 => ?_)
                refine wp_seq_k (fun K48 hK48 => ?_)
                refine rgP H gs0 (rS 1 rfl <| rV rfl (does_binOp rfl rfl rfl (fun W => ptr_nil W)) <| rS 2 rfl <| rV rfl (does_binOp rfl rfl rfl (fun W => ptr_nil W)) <| rS 4 rfl <| rI0 ?_)
                try clear H a W
                intro a W H
                replace H : St 189 w a W [(122, .slice Ae m ce), (121, .pointer (some ⟨p14, 0, none⟩)), (120, .bool false), (119, .bool false), (118, .bool false), (117, .pointer (some ⟨p15, 0, none⟩)), (116, .bool false), (115, .bool false), (114, .pointer (some ⟨p14, 0, none⟩)), (16, .pointer (some ⟨p15, 0, none⟩)), (15, .pointer (some ⟨p14, 0, none⟩)), (12, .slice Ae m ce), (11, .pointer (some ⟨g1, 0, none⟩)), (9, .pointer (some ⟨p1, 0, none⟩)), (0, .int .i64 ((nb : Nat) : Int)), (3, .slice A3 n3 c3)] (r14 ++ (([(g1, .ty 60, bvs nw)] : Hep) ++ (r15 ++ (r ++ (te ++ ([] : Hep)))))) := H.perm' (((((((List.Perm.refl _).append_left r).trans (List.perm_append_comm_assoc r r14 (te ++ ([] : Hep)))).append_left r15).trans (List.perm_append_comm_assoc r15 r14 (r ++ (te ++ ([] : Hep))))).append_left ([(g1, .ty 60, bvs nw)] : Hep)).trans (List.perm_append_comm_assoc ([(g1, .ty 60, bvs nw)] : Hep) r14 (r15 ++ (r ++ (te ++ ([] : Hep))))))
                refine pl_callX rfl rfl ⟨_, Try.func23, by kernel_rfl⟩ rfl (fun K_ => po_crash (hh := (([(g1, .ty 60, bvs nw)] : Hep) ++ (r15 ++ (r ++ (te ++ ([] : Hep)))))) w hP14 (PK.ones hJ.2.1 (fun p hp => List.mem_append_right _ (List.mem_append_right _ (List.mem_append_right _ (List.mem_append_left _ hp))))) (by omega) _ K_) H ?_
                try clear H a W
                rintro r16 a W hP16 H
                replace hP16 : PO p14 (dCrash D (List.replicate m 1)) r16 := hP16
                replace H := H.perm' (List.perm_append_comm_assoc r16 ([(g1, .ty 60, bvs nw)] : Hep) (r15 ++ (r ++ (te ++ ([] : Hep)))))
                replace H : St 189 w a W [(123, .int .i64 0), (122, .slice Ae m ce), (121, .pointer (some ⟨p14, 0, none⟩)), (120, .bool false), (119, .bool false), (118, .bool false), (117, .pointer (some ⟨p15, 0, none⟩)), (116, .bool false), (115, .bool false), (114, .pointer (some ⟨p14, 0, none⟩)), (16, .pointer (some ⟨p15, 0, none⟩)), (15, .pointer (some ⟨p14, 0, none⟩)), (12, .slice Ae m ce), (11, .pointer (some ⟨g1, 0, none⟩)), (9, .pointer (some ⟨p1, 0, none⟩)), (0, .int .i64 ((nb : Nat) : Int)), (3, .slice A3 n3 c3)] ((g1, 60, bvs nw) :: (r16 ++ (r15 ++ (r ++ (te ++ ([] : Hep)))))) := H
                refine rgO H gs0 (rV rfl (does_call rfl ⟨_, Try.func13, by kernel_rfl⟩ rfl (fun W hb => num_any _ W)) <| rS 1 rfl <| rI0 ?_)
                try clear H a W
                intro a W H
                replace H : St 189 w a W [(125, .pointer (some ⟨p15, 0, none⟩)), (124, .int .i64 0), (123, .int .i64 0), (122, .slice Ae m ce), (121, .pointer (some ⟨p14, 0, none⟩)), (120, .bool false), (119, .bool false), (118, .bool false), (117, .pointer (some ⟨p15, 0, none⟩)), (116, .bool false), (115, .bool false), (114, .pointer (some ⟨p14, 0, none⟩)), (16, .pointer (some ⟨p15, 0, none⟩)), (15, .pointer (some ⟨p14, 0, none⟩)), (12, .slice Ae m ce), (11, .pointer (some ⟨g1, 0, none⟩)), (9, .pointer (some ⟨p1, 0, none⟩)), (0, .int .i64 ((nb : Nat) : Int)), (3, .slice A3 n3 c3)] (r15 ++ (([(g1, .ty 60, bvs nw)] : Hep) ++ (r16 ++ (r ++ (te ++ ([] : Hep)))))) := H.perm' (((((List.Perm.refl _).append_left r16).trans (List.perm_append_comm_assoc r16 r15 (r ++ (te ++ ([] : Hep))))).append_left ([(g1, .ty 60, bvs nw)] : Hep)).trans (List.perm_append_comm_assoc ([(g1, .ty 60, bvs nw)] : Hep) r15 (r16 ++ (r ++ (te ++ ([] : Hep))))))
                refine pl_callX rfl rfl ⟨_, Try.func23, by kernel_rfl⟩ rfl (fun K_ => po_crash (hh := (([(g1, .ty 60, bvs nw)] : Hep) ++ (r16 ++ (r ++ (te ++ ([] : Hep)))))) w hP15 (PK.nil _ _) (by omega) _ K_) H ?_
                try clear H a W
                rintro r17 a W hP17 H
                replace hP17 : PO p15 (dCrash D ([] : List Int)) r17 := hP17
                replace H := H.perm' (List.perm_append_comm_assoc r17 ([(g1, .ty 60, bvs nw)] : Hep) (r16 ++ (r ++ (te ++ ([] : Hep)))))
                replace H : St 189 w a W [(126, .int .i64 0), (125, .pointer (some ⟨p15, 0, none⟩)), (124, .int .i64 0), (123, .int .i64 0), (122, .slice Ae m ce), (121, .pointer (some ⟨p14, 0, none⟩)), (120, .bool false), (119, .bool false), (118, .bool false), (117, .pointer (some ⟨p15, 0, none⟩)), (116, .bool false), (115, .bool false), (114, .pointer (some ⟨p14, 0, none⟩)), (16, .pointer (some ⟨p15, 0, none⟩)), (15, .pointer (some ⟨p14, 0, none⟩)), (12, .slice Ae m ce), (11, .pointer (some ⟨g1, 0, none⟩)), (9, .pointer (some ⟨p1, 0, none⟩)), (0, .int .i64 ((nb : Nat) : Int)), (3, .slice A3 n3 c3)] ((g1, 60, bvs nw) :: (r17 ++ (r16 ++ (r ++ (te ++ ([] : Hep)))))) := H
                refine rgO H gs0 (rV rfl (does_call rfl ⟨_, Try.func13, by kernel_rfl⟩ rfl (fun W hb => num_any _ W)) <| rV rfl (does_binOp rfl rfl rfl (zd_add_int (k := 0) (m := 0) (c := 0 + 0) rfl (by omega) _ _)) <| rS 1 rfl <| rI0 ?_)
                try clear H a W
                intro a W H
                replace H : St 189 w a W [(129, .pointer (some ⟨p1, 0, none⟩)), (128, .int .i64 (0 + 0)), (127, .int .i64 0), (126, .int .i64 0), (125, .pointer (some ⟨p15, 0, none⟩)), (124, .int .i64 0), (123, .int .i64 0), (122, .slice Ae m ce), (121, .pointer (some ⟨p14, 0, none⟩)), (120, .bool false), (119, .bool false), (118, .bool false), (117, .pointer (some ⟨p15, 0, none⟩)), (116, .bool false), (115, .bool false), (114, .pointer (some ⟨p14, 0, none⟩)), (16, .pointer (some ⟨p15, 0, none⟩)), (15, .pointer (some ⟨p14, 0, none⟩)), (12, .slice Ae m ce), (11, .pointer (some ⟨g1, 0, none⟩)), (9, .pointer (some ⟨p1, 0, none⟩)), (0, .int .i64 ((nb : Nat) : Int)), (3, .slice A3 n3 c3)] (r ++ (([(g1, .ty 60, bvs nw)] : Hep) ++ (r17 ++ (r16 ++ (te ++ ([] : Hep)))))) := H.perm' (((((((List.Perm.refl _).append_left r16).trans (List.perm_append_comm_assoc r16 r (te ++ ([] : Hep)))).append_left r17).trans (List.perm_append_comm_assoc r17 r (r16 ++ (te ++ ([] : Hep))))).append_left ([(g1, .ty 60, bvs nw)] : Hep)).trans (List.perm_append_comm_assoc ([(g1, .ty 60, bvs nw)] : Hep) r (r17 ++ (r16 ++ (te ++ ([] : Hep))))))
                refine pl_callX rfl rfl ⟨_, Try.func27, by kernel_rfl⟩ rfl (fun K_ => by have h_ := po_sync (hh := (([(g1, .ty 60, bvs nw)] : Hep) ++ (r17 ++ (r16 ++ (te ++ ([] : Hep)))))) hJ.1 w _ K_; rw [hJ.2.2.1.sync] at h_; exact h_) H ?_
                try clear H a W
                rintro r18 a W hP18 H
                replace hP18 : PO p1 (dSync D).1 r18 := hP18
                replace H := H.perm' (List.perm_append_comm_assoc r18 ([(g1, .ty 60, bvs nw)] : Hep) (r17 ++ (r16 ++ (te ++ ([] : Hep)))))
                replace H : St 189 w a W [(130, .int .i64 0), (129, .pointer (some ⟨p1, 0, none⟩)), (128, .int .i64 (0 + 0)), (127, .int .i64 0), (126, .int .i64 0), (125, .pointer (some ⟨p15, 0, none⟩)), (124, .int .i64 0), (123, .int .i64 0), (122, .slice Ae m ce), (121, .pointer (some ⟨p14, 0, none⟩)), (120, .bool false), (119, .bool false), (118, .bool false), (117, .pointer (some ⟨p15, 0, none⟩)), (116, .bool false), (115, .bool false), (114, .pointer (some ⟨p14, 0, none⟩)), (16, .pointer (some ⟨p15, 0, none⟩)), (15, .pointer (some ⟨p14, 0, none⟩)), (12, .slice Ae m ce), (11, .pointer (some ⟨g1, 0, none⟩)), (9, .pointer (some ⟨p1, 0, none⟩)), (0, .int .i64 ((nb : Nat) : Int)), (3, .slice A3 n3 c3)] ((g1, 60, bvs nw) :: (r18 ++ (r17 ++ (r16 ++ (te ++ ([] : Hep)))))) := H
                refine rgO H gs0 (rV rfl (does_call rfl ⟨_, Try.func13, by kernel_rfl⟩ rfl (fun W hb => num_any _ W)) <| rV rfl (does_binOp rfl rfl rfl (zd_add_int (k := (0 + 0)) (m := 0) (c := (0 + 0) + 0) rfl (by omega) _ _)) <| rS 2 rfl <| rI0 ?_)
                try clear H a W
                intro a W H
                replace H : St 189 w a W [(134, .slice A3 n3 c3), (133, .pointer (some ⟨p1, 0, none⟩)), (132, .int .i64 ((0 + 0) + 0)), (131, .int .i64 0), (130, .int .i64 0), (129, .pointer (some ⟨p1, 0, none⟩)), (128, .int .i64 (0 + 0)), (127, .int .i64 0), (126, .int .i64 0), (125, .pointer (some ⟨p15, 0, none⟩)), (124, .int .i64 0), (123, .int .i64 0), (122, .slice Ae m ce), (121, .pointer (some ⟨p14, 0, none⟩)), (120, .bool false), (119, .bool false), (118, .bool false), (117, .pointer (some ⟨p15, 0, none⟩)), (116, .bool false), (115, .bool false), (114, .pointer (some ⟨p14, 0, none⟩)), (16, .pointer (some ⟨p15, 0, none⟩)), (15, .pointer (some ⟨p14, 0, none⟩)), (12, .slice Ae m ce), (11, .pointer (some ⟨g1, 0, none⟩)), (9, .pointer (some ⟨p1, 0, none⟩)), (0, .int .i64 ((nb : Nat) : Int)), (3, .slice A3 n3 c3)] (r18 ++ (([(g1, .ty 60, bvs nw)] : Hep) ++ (r17 ++ (r16 ++ (te ++ ([] : Hep)))))) := H.perm' (((List.Perm.refl _).append_left ([(g1, .ty 60, bvs nw)] : Hep)).trans (List.perm_append_comm_assoc ([(g1, .ty 60, bvs nw)] : Hep) r18 (r17 ++ (r16 ++ (te ++ ([] : Hep))))))
                refine pl_callX rfl rfl ⟨_, Try.func23, by kernel_rfl⟩ rfl (fun K_ => po_crash (hh := (([(g1, .ty 60, bvs nw)] : Hep) ++ (r17 ++ (r16 ++ (te ++ ([] : Hep)))))) w hP18 (hQ.pk _) (by omega) _ K_) H ?_
                try clear H a W
                rintro r19 a W hP19 H
                replace hP19 : PO p1 (dCrash (dSync D).1 l3) r19 := hP19
                replace H := H.perm' (List.perm_append_comm_assoc r19 ([(g1, .ty 60, bvs nw)] : Hep) (r17 ++ (r16 ++ (te ++ ([] : Hep)))))
                replace H : St 189 w a W [(135, .int .i64 0), (134, .slice A3 n3 c3), (133, .pointer (some ⟨p1, 0, none⟩)), (132, .int .i64 ((0 + 0) + 0)), (131, .int .i64 0), (130, .int .i64 0), (129, .pointer (some ⟨p1, 0, none⟩)), (128, .int .i64 (0 + 0)), (127, .int .i64 0), (126, .int .i64 0), (125, .pointer (some ⟨p15, 0, none⟩)), (124, .int .i64 0), (123, .int .i64 0), (122, .slice Ae m ce), (121, .pointer (some ⟨p14, 0, none⟩)), (120, .bool false), (119, .bool false), (118, .bool false), (117, .pointer (some ⟨p15, 0, none⟩)), (116, .bool false), (115, .bool false), (114, .pointer (some ⟨p14, 0, none⟩)), (16, .pointer (some ⟨p15, 0, none⟩)), (15, .pointer (some ⟨p14, 0, none⟩)), (12, .slice Ae m ce), (11, .pointer (some ⟨g1, 0, none⟩)), (9, .pointer (some ⟨p1, 0, none⟩)), (0, .int .i64 ((nb : Nat) : Int)), (3, .slice A3 n3 c3)] ((g1, 60, bvs nw) :: (r19 ++ (r17 ++ (r16 ++ (te ++ ([] : Hep)))))) := H
                refine rgO H gs0 (rV rfl (does_call rfl ⟨_, Try.func13, by kernel_rfl⟩ rfl (fun W hb => num_any _ W)) <| rV rfl (does_binOp rfl rfl rfl (zd_add_int (k := ((0 + 0) + 0)) (m := 0) (c := ((0 + 0) + 0) + 0) rfl (by omega) _ _)) <| rV rfl (does_binOp rfl rfl rfl (zd_neq_int (k := (((0 + 0) + 0) + 0)) (m := 0) (decide_eq_false (by omega)) _ _)) <| rS 1 rfl <| rK [1, 0, 0, 0, 0, 0, 0, 0, 0, 0, 0, 0, 0, 0, 0, 0, 0, 0, 0, 0, 0, 0, 0, 0, 0, 0, 1, 1, 0, 1, 1, 1, 0] [] [] <| rZ0 ?_)
                try clear H a W
                intro a W H
                refine hK48 _ _ ?_
                clear hK48
                refine wp_cond_false (H.ev rfl) ?_
                refine wp_skip ?_
                refine hK47 _ _ ?_
                clear hK47
                refine wp_seq_k (fun K49 hK49 => ?_)
                refine sqR H gs0 fun Z_ z_ => rS 1 rfl <| rK [1, 0] [] [] <| rN0 z_ ?_
                try clear H a W
                intro a W H
                refine wp_block ?_
                replace H := H.perm' ((((((((List.Perm.refl _).append_left r16).trans (List.perm_append_comm_assoc r16 te ([] : Hep))).append_left r17).trans (List.perm_append_comm_assoc r17 te (r16 ++ ([] : Hep)))).append_left r19).trans (List.perm_append_comm_assoc r19 te (r17 ++ (r16 ++ ([] : Hep))))).append_left ([(g1, .ty 60, bvs nw)] : Hep))
                replace H : St 189 w a W [(17, .int .i64 0), (16, .pointer (some ⟨p15, 0, none⟩)), (15, .pointer (some ⟨p14, 0, none⟩)), (11, .pointer (some ⟨g1, 0, none⟩)), (9, .pointer (some ⟨p1, 0, none⟩)), (0, .int .i64 ((nb : Nat) : Int))] ((g1, 60, bvs nw) :: (te ++ (r19 ++ (r17 ++ (r16 ++ ([] : Hep)))))) := H
                replace H := H.perm' ((((((((List.Perm.refl _).append_left r17).trans (List.perm_append_comm_assoc r17 r16 ([] : Hep))).append_left r19).trans (List.perm_append_comm_assoc r19 r16 (r17 ++ ([] : Hep)))).append_left te).trans (List.perm_append_comm_assoc te r16 (r19 ++ (r17 ++ ([] : Hep))))).append_left ([(g1, .ty 60, bvs nw)] : Hep))
                replace H : St 189 w a W [(17, .int .i64 0), (16, .pointer (some ⟨p15, 0, none⟩)), (15, .pointer (some ⟨p14, 0, none⟩)), (11, .pointer (some ⟨g1, 0, none⟩)), (9, .pointer (some ⟨p1, 0, none⟩)), (0, .int .i64 ((nb : Nat) : Int))] ((g1, 60, bvs nw) :: (r16 ++ (te ++ (r19 ++ (r17 ++ ([] : Hep)))))) := H
                replace H := H.perm' ((((((((List.Perm.refl _).append_left r19).trans (List.perm_append_comm_assoc r19 r17 ([] : Hep))).append_left te).trans (List.perm_append_comm_assoc te r17 (r19 ++ ([] : Hep)))).append_left r16).trans (List.perm_append_comm_assoc r16 r17 (te ++ (r19 ++ ([] : Hep))))).append_left ([(g1, .ty 60, bvs nw)] : Hep))
                replace H : St 189 w a W [(17, .int .i64 0), (16, .pointer (some ⟨p15, 0, none⟩)), (15, .pointer (some ⟨p14, 0, none⟩)), (11, .pointer (some ⟨g1, 0, none⟩)), (9, .pointer (some ⟨p1, 0, none⟩)), (0, .int .i64 ((nb : Nat) : Int))] ((g1, 60, bvs nw) :: (r17 ++ (r16 ++ (te ++ (r19 ++ ([] : Hep)))))) := H
                replace H := H.perm' ((((((((List.Perm.refl _).append_left te).trans (List.perm_append_comm_assoc te r19 ([] : Hep))).append_left r16).trans (List.perm_append_comm_assoc r16 r19 (te ++ ([] : Hep)))).append_left r17).trans (List.perm_append_comm_assoc r17 r19 (r16 ++ (te ++ ([] : Hep))))).append_left ([(g1, .ty 60, bvs nw)] : Hep))
                replace H : St 189 w a W [(17, .int .i64 0), (16, .pointer (some ⟨p15, 0, none⟩)), (15, .pointer (some ⟨p14, 0, none⟩)), (11, .pointer (some ⟨g1, 0, none⟩)), (9, .pointer (some ⟨p1, 0, none⟩)), (0, .int .i64 ((nb : Nat) : Int))] ((g1, 60, bvs nw) :: (r19 ++ (r17 ++ (r16 ++ (te ++ ([] : Hep)))))) := H
                replace H : St 189 w a W [(17, .int .i64 0), (16, .pointer (some ⟨p15, 0, none⟩)), (15, .pointer (some ⟨p14, 0, none⟩)), (11, .pointer (some ⟨g1, 0, none⟩)), (9, .pointer (some ⟨p1, 0, none⟩)), (0, .int .i64 ((nb : Nat) : Int))] ((g1, 60, bvs nw) :: (r19 ++ (r17 ++ (r16 ++ (te ++ ([] : Hep)))))) := H.pickF (h := [(g1, 60, bvs nw)]) (t := (r19 ++ (r17 ++ (r16 ++ (te ++ ([] : Hep)))))) [0, 1, 2, 3, 4, 5] [0] rfl
                refine wp_rounds nb (fun i a W => ∃ u0, (u0 = 0) ∧ St 189 w a W [(17, .int .i64 ((i : Nat) : Int)), (16, .pointer (some ⟨p15, 0, none⟩)), (15, .pointer (some ⟨p14, 0, none⟩)), (11, .pointer (some ⟨g1, 0, none⟩)), (9, .pointer (some ⟨p1, 0, none⟩)), (0, .int .i64 ((nb : Nat) : Int))] ((g1, 60, bvs nw) :: (r19 ++ (r17 ++ (r16 ++ (te ++ ([] : Hep))))))) (k0 := 0) ⟨0, rfl, H⟩ (by omega) ?_
                try clear H a W
                rintro i a W hi ⟨u0, hu0, H⟩
                by_cases hi2 : i < nb
                · refine wp_seq_k (fun K51 hK51 => ?_)
                  refine sqR H gs0 fun Z_ z_ => rS 2 rfl <| rV rfl (does_binOp rfl rfl rfl (zd_lss_int (k := ((i : Nat) : Int)) (m := ((nb : Nat) : Int)) (decide_eq_true (by omega)) _ _)) <| rN0 z_ ?_
                  try clear H a W
                  intro a W H
                  refine wp_cond_true (H.ev rfl) ?_
                  refine wp_skip ?_
                  refine hK51 _ _ ?_
                  clear hK51
                  refine wp_seq_k (fun K53 hK53 => ?_)
                  refine wp_block ?_
                  refine wp_seq_k (fun K54 hK54 => ?_)
                  refine rgP H gs0 (rS 2 rfl <| rI0 ?_)
                  try clear H a W
                  intro a W H
                  replace H : St 189 w a W [(147, .int .i64 ((i : Nat) : Int)), (146, .pointer (some ⟨p14, 0, none⟩)), (142, .bool true), (141, .int .i64 ((nb : Nat) : Int)), (140, .int .i64 ((i : Nat) : Int)), (17, .int .i64 ((i : Nat) : Int)), (16, .pointer (some ⟨p15, 0, none⟩)), (15, .pointer (some ⟨p14, 0, none⟩)), (11, .pointer (some ⟨g1, 0, none⟩)), (9, .pointer (some ⟨p1, 0, none⟩)), (0, .int .i64 ((nb : Nat) : Int))] (r16 ++ (([(g1, .ty 60, bvs nw)] : Hep) ++ (r19 ++ (r17 ++ (te ++ ([] : Hep)))))) := H.perm' (((((((List.Perm.refl _).append_left r17).trans (List.perm_append_comm_assoc r17 r16 (te ++ ([] : Hep)))).append_left r19).trans (List.perm_append_comm_assoc r19 r16 (r17 ++ (te ++ ([] : Hep))))).append_left ([(g1, .ty 60, bvs nw)] : Hep)).trans (List.perm_append_comm_assoc ([(g1, .ty 60, bvs nw)] : Hep) r16 (r19 ++ (r17 ++ (te ++ ([] : Hep))))))
                  refine pl_callX rfl rfl ⟨_, Try.func18, by kernel_rfl⟩ rfl (fun K_ => by have h_ := po_read (hh := (([(g1, .ty 60, bvs nw)] : Hep) ++ (r19 ++ (r17 ++ (te ++ ([] : Hep)))))) hP16 i (by rw [crash_nb _ hDn]; omega) w _ K_; rw [hJ.2.2.1.rall hJ.1.ok (by omega)] at h_; exact h_) H ?_
                  try clear H a W
                  rintro gr20 a W - H
                  replace H := H.perm' ((List.perm_append_comm_assoc r16 ([(g1, .ty 60, bvs nw)] : Hep) (r19 ++ (r17 ++ (te ++ ([] : Hep))))).append_left ([(gr20, .ty 77, bvs (fillB (nw.getD i 0)))] : Hep))
                  replace H : St 189 w a W [(148, .tuple #[.slice (some ⟨gr20, 0, none⟩) 512 512, .int .i64 0]), (147, .int .i64 ((i : Nat) : Int)), (146, .pointer (some ⟨p14, 0, none⟩)), (142, .bool true), (141, .int .i64 ((nb : Nat) : Int)), (140, .int .i64 ((i : Nat) : Int)), (17, .int .i64 ((i : Nat) : Int)), (16, .pointer (some ⟨p15, 0, none⟩)), (15, .pointer (some ⟨p14, 0, none⟩)), (11, .pointer (some ⟨g1, 0, none⟩)), (9, .pointer (some ⟨p1, 0, none⟩)), (0, .int .i64 ((nb : Nat) : Int))] ((gr20, 77, bvs (fillB (nw.getD i 0))) :: (g1, 60, bvs nw) :: (r16 ++ (r19 ++ (r17 ++ (te ++ ([] : Hep)))))) := H
                  refine rgO H gs0 (rS 5 rfl <| rK [0] [] [] <| rZ0 ?_)
                  try clear H a W
                  intro a W H
                  refine hK54 _ _ ?_
                  clear hK54
                  refine wp_seq_k (fun K55 hK55 => ?_)
                  refine rgP H gs0 (rS 2 rfl <| rI0 ?_)
                  try clear H a W
                  intro a W H
                  replace H : St 189 w a W [(153, .int .i64 ((i : Nat) : Int)), (152, .pointer (some ⟨p15, 0, none⟩)), (18, .slice (some ⟨gr20, 0, none⟩) 512 512), (150, .int .i64 0), (149, .slice (some ⟨gr20, 0, none⟩) 512 512), (145, .tuple #[.slice (some ⟨gr20, 0, none⟩) 512 512, .int .i64 0]), (148, .tuple #[.slice (some ⟨gr20, 0, none⟩) 512 512, .int .i64 0]), (147, .int .i64 ((i : Nat) : Int)), (146, .pointer (some ⟨p14, 0, none⟩)), (142, .bool true), (141, .int .i64 ((nb : Nat) : Int)), (140, .int .i64 ((i : Nat) : Int)), (17, .int .i64 ((i : Nat) : Int)), (16, .pointer (some ⟨p15, 0, none⟩)), (15, .pointer (some ⟨p14, 0, none⟩)), (11, .pointer (some ⟨g1, 0, none⟩)), (9, .pointer (some ⟨p1, 0, none⟩)), (0, .int .i64 ((nb : Nat) : Int))] (r17 ++ (([(gr20, .ty 77, bvs (fillB (nw.getD i 0))), (g1, .ty 60, bvs nw)] : Hep) ++ (r16 ++ (r19 ++ (te ++ ([] : Hep)))))) := H.perm' (((((((List.Perm.refl _).append_left r19).trans (List.perm_append_comm_assoc r19 r17 (te ++ ([] : Hep)))).append_left r16).trans (List.perm_append_comm_assoc r16 r17 (r19 ++ (te ++ ([] : Hep))))).append_left ([(gr20, .ty 77, bvs (fillB (nw.getD i 0))), (g1, .ty 60, bvs nw)] : Hep)).trans (List.perm_append_comm_assoc ([(gr20, .ty 77, bvs (fillB (nw.getD i 0))), (g1, .ty 60, bvs nw)] : Hep) r17 (r16 ++ (r19 ++ (te ++ ([] : Hep))))))
                  refine pl_callX rfl rfl ⟨_, Try.func18, by kernel_rfl⟩ rfl (fun K_ => by have h_ := po_read (hh := (([(gr20, .ty 77, bvs (fillB (nw.getD i 0))), (g1, .ty 60, bvs nw)] : Hep) ++ (r16 ++ (r19 ++ (te ++ ([] : Hep)))))) hP17 i (by rw [crash_nb _ hDn]; omega) w _ K_; rw [hJ.2.2.1.rnone (by omega)] at h_; exact h_) H ?_
                  try clear H a W
                  rintro gr21 a W - H
                  replace H := H.perm' ((List.perm_append_comm_assoc r17 ([(gr20, .ty 77, bvs (fillB (nw.getD i 0))), (g1, .ty 60, bvs nw)] : Hep) (r16 ++ (r19 ++ (te ++ ([] : Hep))))).append_left ([(gr21, .ty 77, bvs (fillB 0))] : Hep))
                  replace H : St 189 w a W [(154, .tuple #[.slice (some ⟨gr21, 0, none⟩) 512 512, .int .i64 0]), (153, .int .i64 ((i : Nat) : Int)), (152, .pointer (some ⟨p15, 0, none⟩)), (18, .slice (some ⟨gr20, 0, none⟩) 512 512), (150, .int .i64 0), (149, .slice (some ⟨gr20, 0, none⟩) 512 512), (145, .tuple #[.slice (some ⟨gr20, 0, none⟩) 512 512, .int .i64 0]), (148, .tuple #[.slice (some ⟨gr20, 0, none⟩) 512 512, .int .i64 0]), (147, .int .i64 ((i : Nat) : Int)), (146, .pointer (some ⟨p14, 0, none⟩)), (142, .bool true), (141, .int .i64 ((nb : Nat) : Int)), (140, .int .i64 ((i : Nat) : Int)), (17, .int .i64 ((i : Nat) : Int)), (16, .pointer (some ⟨p15, 0, none⟩)), (15, .pointer (some ⟨p14, 0, none⟩)), (11, .pointer (some ⟨g1, 0, none⟩)), (9, .pointer (some ⟨p1, 0, none⟩)), (0, .int .i64 ((nb : Nat) : Int))] ((gr21, 77, bvs (fillB 0)) :: (gr20, 77, bvs (fillB (nw.getD i 0))) :: (g1, 60, bvs nw) :: (r17 ++ (r16 ++ (r19 ++ (te ++ ([] : Hep)))))) := H
                  refine rgO H gs0 (rS 5 rfl <| rK [0] [] [] <| rZ0 ?_)
                  try clear H a W
                  intro a W H
                  refine hK55 _ _ ?_
                  clear hK55
                  refine wp_seq_k (fun K56 hK56 => ?_)
                  refine rgP H gs0 (rS 2 rfl <| rI0 ?_)
                  try clear H a W
                  intro a W H
                  replace H : St 189 w a W [(159, .int .i64 ((i : Nat) : Int)), (158, .pointer (some ⟨p1, 0, none⟩)), (20, .slice (some ⟨gr21, 0, none⟩) 512 512), (156, .int .i64 0), (155, .slice (some ⟨gr21, 0, none⟩) 512 512), (151, .tuple #[.slice (some ⟨gr21, 0, none⟩) 512 512, .int .i64 0]), (154, .tuple #[.slice (some ⟨gr21, 0, none⟩) 512 512, .int .i64 0]), (153, .int .i64 ((i : Nat) : Int)), (152, .pointer (some ⟨p15, 0, none⟩)), (18, .slice (some ⟨gr20, 0, none⟩) 512 512), (150, .int .i64 0), (149, .slice (some ⟨gr20, 0, none⟩) 512 512), (145, .tuple #[.slice (some ⟨gr20, 0, none⟩) 512 512, .int .i64 0]), (148, .tuple #[.slice (some ⟨gr20, 0, none⟩) 512 512, .int .i64 0]), (147, .int .i64 ((i : Nat) : Int)), (146, .pointer (some ⟨p14, 0, none⟩)), (142, .bool true), (141, .int .i64 ((nb : Nat) : Int)), (140, .int .i64 ((i : Nat) : Int)), (17, .int .i64 ((i : Nat) : Int)), (16, .pointer (some ⟨p15, 0, none⟩)), (15, .pointer (some ⟨p14, 0, none⟩)), (11, .pointer (some ⟨g1, 0, none⟩)), (9, .pointer (some ⟨p1, 0, none⟩)), (0, .int .i64 ((nb : Nat) : Int))] (r19 ++ (([(gr21, .ty 77, bvs (fillB 0)), (gr20, .ty 77, bvs (fillB (nw.getD i 0))), (g1, .ty 60, bvs nw)] : Hep) ++ (r17 ++ (r16 ++ (te ++ ([] : Hep)))))) := H.perm' (((((((List.Perm.refl _).append_left r16).trans (List.perm_append_comm_assoc r16 r19 (te ++ ([] : Hep)))).append_left r17).trans (List.perm_append_comm_assoc r17 r19 (r16 ++ (te ++ ([] : Hep))))).append_left ([(gr21, .ty 77, bvs (fillB 0)), (gr20, .ty 77, bvs (fillB (nw.getD i 0))), (g1, .ty 60, bvs nw)] : Hep)).trans (List.perm_append_comm_assoc ([(gr21, .ty 77, bvs (fillB 0)), (gr20, .ty 77, bvs (fillB (nw.getD i 0))), (g1, .ty 60, bvs nw)] : Hep) r19 (r17 ++ (r16 ++ (te ++ ([] : Hep))))))
                  refine pl_callX rfl rfl ⟨_, Try.func18, by kernel_rfl⟩ rfl (fun K_ => by have h_ := po_read (hh := (([(gr21, .ty 77, bvs (fillB 0)), (gr20, .ty 77, bvs (fillB (nw.getD i 0))), (g1, .ty 60, bvs nw)] : Hep) ++ (r17 ++ (r16 ++ (te ++ ([] : Hep)))))) hP19 i (by rw [crash_nb _ (sync_nb hDn)]; omega) w _ K_; rw [hJ.2.2.1.rsync hJ.1.ok _ (by omega)] at h_; exact h_) H ?_
                  try clear H a W
                  rintro gr22 a W - H
                  replace H := H.perm' ((List.perm_append_comm_assoc r19 ([(gr21, .ty 77, bvs (fillB 0)), (gr20, .ty 77, bvs (fillB (nw.getD i 0))), (g1, .ty 60, bvs nw)] : Hep) (r17 ++ (r16 ++ (te ++ ([] : Hep))))).append_left ([(gr22, .ty 77, bvs (fillB (nw.getD i 0)))] : Hep))
                  replace H : St 189 w a W [(160, .tuple #[.slice (some ⟨gr22, 0, none⟩) 512 512, .int .i64 0]), (159, .int .i64 ((i : Nat) : Int)), (158, .pointer (some ⟨p1, 0, none⟩)), (20, .slice (some ⟨gr21, 0, none⟩) 512 512), (156, .int .i64 0), (155, .slice (some ⟨gr21, 0, none⟩) 512 512), (151, .tuple #[.slice (some ⟨gr21, 0, none⟩) 512 512, .int .i64 0]), (154, .tuple #[.slice (some ⟨gr21, 0, none⟩) 512 512, .int .i64 0]), (153, .int .i64 ((i : Nat) : Int)), (152, .pointer (some ⟨p15, 0, none⟩)), (18, .slice (some ⟨gr20, 0, none⟩) 512 512), (150, .int .i64 0), (149, .slice (some ⟨gr20, 0, none⟩) 512 512), (145, .tuple #[.slice (some ⟨gr20, 0, none⟩) 512 512, .int .i64 0]), (148, .tuple #[.slice (some ⟨gr20, 0, none⟩) 512 512, .int .i64 0]), (147, .int .i64 ((i : Nat) : Int)), (146, .pointer (some ⟨p14, 0, none⟩)), (142, .bool true), (141, .int .i64 ((nb : Nat) : Int)), (140, .int .i64 ((i : Nat) : Int)), (17, .int .i64 ((i : Nat) : Int)), (16, .pointer (some ⟨p15, 0, none⟩)), (15, .pointer (some ⟨p14, 0, none⟩)), (11, .pointer (some ⟨g1, 0, none⟩)), (9, .pointer (some ⟨p1, 0, none⟩)), (0, .int .i64 ((nb : Nat) : Int))] ((gr22, 77, bvs (fillB (nw.getD i 0))) :: (gr21, 77, bvs (fillB 0)) :: (gr20, 77, bvs (fillB (nw.getD i 0))) :: (g1, 60, bvs nw) :: (r19 ++ (r17 ++ (r16 ++ (te ++ ([] : Hep)))))) := H
                  refine rgO H gs0 (rS 5 rfl <| rK [0] [] [] <| rZ0 ?_)
                  try clear H a W
                  intro a W H
                  refine hK56 _ _ ?_
                  clear hK56
                  refine sqD (.v 163 _ [] :: .v 164 _ [0] :: .v 165 _ [] :: .v 166 _ [2] :: .v 167 _ [3] :: .f 168 _ [4] :: .v 169 _ [5] :: .v 170 _ [1, 6] :: .v 171 _ [7] :: .v 172 _ [8] :: .v 173 _ [9, 8] :: .f 174 _ [8] :: .v 175 _ [11, 8] :: .v 176 _ [10, 12, 8] :: .v 177 _ [8, 13] :: .v 178 _ [14] :: .v 179 _ [15] :: .v 180 _ [16, 15] :: .v 181 _ [15] :: .v 182 _ [18, 15] :: .v 183 _ [19, 15] :: .f 184 _ [20, 15] :: .v 185 _ [21, 15] :: .v 186 _ [17, 22, 15] :: .v 187 _ [15, 23] :: []) (by kernel_rfl) (by kernel_rfl) H gs0 (fun _ => ⟨oS rfl rfl, fun a W  H _ => ob_strP H (wanted_none rfl) rfl rfl (sl_bf (fill_len _) (H.blk (k := 2) rfl)), oS rfl rfl, oV rfl (does_indexAddr rfl rfl rfl (ia_arr40 (k := i) (by omega))), oV rfl (does_loadAt (v := bv (nw.getD i 0)) rfl rfl (k := 3) rfl (ld_u8t (bvs_at (by rw [hJ.2.2.1.nwl]; omega)))), ⟨fun a W  H _ => ob_callS H (wanted_none rfl) rfl ⟨_, Try.func29, by kernel_rfl⟩ rfl (fill_bf (nw.getD i 0) _), fun _ => inferInstance⟩, fun a W v168 hv168 H _ => ob_strP H (wanted_none rfl) rfl rfl hv168, oV rfl (does_binOp rfl rfl rfl (sd_neqP (l := fillB (nw.getD i 0)) (m := fillB (nw.getD i 0)) (decide_eq_false (fun h_ => h_ rfl)) _ _)), oS rfl rfl, oS rfl rfl, fun a W  H _ => ob_strP H (wanted_some rfl rfl rfl rfl rfl) rfl rfl (sl_bf (fill_len _) (H.blk (k := 1) rfl)), ⟨fun a W  H _ => ob_callS H (wanted_some rfl rfl rfl rfl rfl) rfl ⟨_, Try.func29, by kernel_rfl⟩ rfl (fill_bf 0 _), fun _ => inferInstance⟩, fun a W v174 hv174 H _ => ob_strP H (wanted_some rfl rfl rfl rfl rfl) rfl rfl hv174, oV rfl (does_binOp rfl rfl rfl (sd_neqP (l := fillB 0) (m := fillB 0) (decide_eq_false (fun h_ => h_ rfl)) _ _)), oS rfl rfl, oS rfl rfl, oS rfl rfl, fun a W  H _ => ob_strP H (wanted_some rfl rfl rfl rfl rfl) rfl rfl (sl_bf (fill_len _) (H.blk (k := 0) rfl)), oS rfl rfl, oV rfl (does_indexAddr rfl rfl rfl (ia_arr40 (k := i) (by omega))), oV rfl (does_loadAt (v := bv (nw.getD i 0)) rfl rfl (k := 3) rfl (ld_u8t (bvs_at (by rw [hJ.2.2.1.nwl]; omega)))), ⟨fun a W  H _ => ob_callS H (wanted_some rfl rfl rfl rfl rfl) rfl ⟨_, Try.func29, by kernel_rfl⟩ rfl (fill_bf (nw.getD i 0) _), fun _ => inferInstance⟩, fun a W v184 hv184 H _ => ob_strP H (wanted_some rfl rfl rfl rfl rfl) rfl rfl hv184, oV rfl (does_binOp rfl rfl rfl (sd_neqP (l := fillB (nw.getD i 0)) (m := fillB (nw.getD i 0)) (decide_eq_false (fun h_ => h_ rfl)) _ _)), oS rfl rfl, trivial⟩) fun Z_ z_ => fun v168 v174 v184 => rN z_ ?_
                  try clear H a W
                  rintro a W H ⟨hv184, hv174, hv168, -⟩
                  refine wp_cond_false (H.ev rfl) ?_
                  refine wp_skip ?_
                  refine blk_normal ?_
                  refine hK53 _ _ ?_
                  clear hK53
                  refine rgP H (gsC hv184 (gsC hv174 (gsC hv168 gs0))) (rS 1 rfl <| rV rfl (does_binOp rfl rfl rfl (zd_add_int (k := ((i : Nat) : Int)) (m := 1) (c := ((i + 1 : Nat) : Int)) (by omega) (by omega) _ _)) <| rK [1, 1, 1, 1, 1, 1, 1, 1, 1, 1, 1, 1, 1, 1, 1, 1, 1, 1, 1, 1, 1, 1, 1, 1, 1, 1, 1, 1, 1, 1, 1, 1, 1, 1, 1, 1, 1, 1, 1, 1, 1, 1, 1, 1, 1, 1, 1, 1, 1, 1, 1, 0] [] [] <| rS 1 rfl <| rZ ?_)
                  try clear hv184 hv174 hv168 H a W
                  rintro a W H ⟨hv184, hv174, hv168, -⟩
                  replace H := H.perm' ((((((((List.Perm.refl _).append_left r16).trans (List.perm_append_comm_assoc r16 te ([] : Hep))).append_left r17).trans (List.perm_append_comm_assoc r17 te (r16 ++ ([] : Hep)))).append_left r19).trans (List.perm_append_comm_assoc r19 te (r17 ++ (r16 ++ ([] : Hep))))).append_left ([(gr22, .ty 77, bvs (fillB (nw.getD i 0))), (gr21, .ty 77, bvs (fillB 0)), (gr20, .ty 77, bvs (fillB (nw.getD i 0))), (g1, .ty 60, bvs nw)] : Hep))
                  replace H : St 189 w a W [(17, .int .i64 ((i + 1 : Nat) : Int)), (144, .int .i64 ((i + 1 : Nat) : Int)), (143, .int .i64 ((i : Nat) : Int)), (187, .bool false), (186, .bool false), (185, .string (strB (fillB (nw.getD i 0)))), (184, v184), (183, bv (nw.getD i 0)), (182, .pointer (some ⟨g1, i, none⟩)), (181, .int .i64 ((i : Nat) : Int)), (180, .string (strB (fillB (nw.getD i 0)))), (179, .slice (some ⟨gr22, 0, none⟩) 512 512), (178, .bool false), (177, .bool false), (176, .bool false), (175, .string (strB (fillB 0))), (174, v174), (173, .string (strB (fillB 0))), (172, .slice (some ⟨gr21, 0, none⟩) 512 512), (171, .bool false), (170, .bool false), (169, .string (strB (fillB (nw.getD i 0)))), (168, v168), (167, bv (nw.getD i 0)), (166, .pointer (some ⟨g1, i, none⟩)), (165, .int .i64 ((i : Nat) : Int)), (164, .string (strB (fillB (nw.getD i 0)))), (163, .slice (some ⟨gr20, 0, none⟩) 512 512), (22, .slice (some ⟨gr22, 0, none⟩) 512 512), (162, .int .i64 0), (161, .slice (some ⟨gr22, 0, none⟩) 512 512), (157, .tuple #[.slice (some ⟨gr22, 0, none⟩) 512 512, .int .i64 0]), (160, .tuple #[.slice (some ⟨gr22, 0, none⟩) 512 512, .int .i64 0]), (159, .int .i64 ((i : Nat) : Int)), (158, .pointer (some ⟨p1, 0, none⟩)), (20, .slice (some ⟨gr21, 0, none⟩) 512 512), (156, .int .i64 0), (155, .slice (some ⟨gr21, 0, none⟩) 512 512), (151, .tuple #[.slice (some ⟨gr21, 0, none⟩) 512 512, .int .i64 0]), (154, .tuple #[.slice (some ⟨gr21, 0, none⟩) 512 512, .int .i64 0]), (153, .int .i64 ((i : Nat) : Int)), (152, .pointer (some ⟨p15, 0, none⟩)), (18, .slice (some ⟨gr20, 0, none⟩) 512 512), (150, .int .i64 0), (149, .slice (some ⟨gr20, 0, none⟩) 512 512), (145, .tuple #[.slice (some ⟨gr20, 0, none⟩) 512 512, .int .i64 0]), (148, .tuple #[.slice (some ⟨gr20, 0, none⟩) 512 512, .int .i64 0]), (147, .int .i64 ((i : Nat) : Int)), (146, .pointer (some ⟨p14, 0, none⟩)), (142, .bool true), (141, .int .i64 ((nb : Nat) : Int)), (140, .int .i64 ((i : Nat) : Int)), (16, .pointer (some ⟨p15, 0, none⟩)), (15, .pointer (some ⟨p14, 0, none⟩)), (11, .pointer (some ⟨g1, 0, none⟩)), (9, .pointer (some ⟨p1, 0, none⟩)), (0, .int .i64 ((nb : Nat) : Int))] ((gr22, 77, bvs (fillB (nw.getD i 0))) :: (gr21, 77, bvs (fillB 0)) :: (gr20, 77, bvs (fillB (nw.getD i 0))) :: (g1, 60, bvs nw) :: (te ++ (r19 ++ (r17 ++ (r16 ++ ([] : Hep)))))) := H
                  replace H := H.perm' ((((((((List.Perm.refl _).append_left r17).trans (List.perm_append_comm_assoc r17 r16 ([] : Hep))).append_left r19).trans (List.perm_append_comm_assoc r19 r16 (r17 ++ ([] : Hep)))).append_left te).trans (List.perm_append_comm_assoc te r16 (r19 ++ (r17 ++ ([] : Hep))))).append_left ([(gr22, .ty 77, bvs (fillB (nw.getD i 0))), (gr21, .ty 77, bvs (fillB 0)), (gr20, .ty 77, bvs (fillB (nw.getD i 0))), (g1, .ty 60, bvs nw)] : Hep))
                  replace H : St 189 w a W [(17, .int .i64 ((i + 1 : Nat) : Int)), (144, .int .i64 ((i + 1 : Nat) : Int)), (143, .int .i64 ((i : Nat) : Int)), (187, .bool false), (186, .bool false), (185, .string (strB (fillB (nw.getD i 0)))), (184, v184), (183, bv (nw.getD i 0)), (182, .pointer (some ⟨g1, i, none⟩)), (181, .int .i64 ((i : Nat) : Int)), (180, .string (strB (fillB (nw.getD i 0)))), (179, .slice (some ⟨gr22, 0, none⟩) 512 512), (178, .bool false), (177, .bool false), (176, .bool false), (175, .string (strB (fillB 0))), (174, v174), (173, .string (strB (fillB 0))), (172, .slice (some ⟨gr21, 0, none⟩) 512 512), (171, .bool false), (170, .bool false), (169, .string (strB (fillB (nw.getD i 0)))), (168, v168), (167, bv (nw.getD i 0)), (166, .pointer (some ⟨g1, i, none⟩)), (165, .int .i64 ((i : Nat) : Int)), (164, .string (strB (fillB (nw.getD i 0)))), (163, .slice (some ⟨gr20, 0, none⟩) 512 512), (22, .slice (some ⟨gr22, 0, none⟩) 512 512), (162, .int .i64 0), (161, .slice (some ⟨gr22, 0, none⟩) 512 512), (157, .tuple #[.slice (some ⟨gr22, 0, none⟩) 512 512, .int .i64 0]), (160, .tuple #[.slice (some ⟨gr22, 0, none⟩) 512 512, .int .i64 0]), (159, .int .i64 ((i : Nat) : Int)), (158, .pointer (some ⟨p1, 0, none⟩)), (20, .slice (some ⟨gr21, 0, none⟩) 512 512), (156, .int .i64 0), (155, .slice (some ⟨gr21, 0, none⟩) 512 512), (151, .tuple #[.slice (some ⟨gr21, 0, none⟩) 512 512, .int .i64 0]), (154, .tuple #[.slice (some ⟨gr21, 0, none⟩) 512 512, .int .i64 0]), (153, .int .i64 ((i : Nat) : Int)), (152, .pointer (some ⟨p15, 0, none⟩)), (18, .slice (some ⟨gr20, 0, none⟩) 512 512), (150, .int .i64 0), (149, .slice (some ⟨gr20, 0, none⟩) 512 512), (145, .tuple #[.slice (some ⟨gr20, 0, none⟩) 512 512, .int .i64 0]), (148, .tuple #[.slice (some ⟨gr20, 0, none⟩) 512 512, .int .i64 0]), (147, .int .i64 ((i : Nat) : Int)), (146, .pointer (some ⟨p14, 0, none⟩)), (142, .bool true), (141, .int .i64 ((nb : Nat) : Int)), (140, .int .i64 ((i : Nat) : Int)), (16, .pointer (some ⟨p15, 0, none⟩)), (15, .pointer (some ⟨p14, 0, none⟩)), (11, .pointer (some ⟨g1, 0, none⟩)), (9, .pointer (some ⟨p1, 0, none⟩)), (0, .int .i64 ((nb : Nat) : Int))] ((gr22, 77, bvs (fillB (nw.getD i 0))) :: (gr21, 77, bvs (fillB 0)) :: (gr20, 77, bvs (fillB (nw.getD i 0))) :: (g1, 60, bvs nw) :: (r16 ++ (te ++ (r19 ++ (r17 ++ ([] : Hep)))))) := H
                  replace H := H.perm' ((((((((List.Perm.refl _).append_left r19).trans (List.perm_append_comm_assoc r19 r17 ([] : Hep))).append_left te).trans (List.perm_append_comm_assoc te r17 (r19 ++ ([] : Hep)))).append_left r16).trans (List.perm_append_comm_assoc r16 r17 (te ++ (r19 ++ ([] : Hep))))).append_left ([(gr22, .ty 77, bvs (fillB (nw.getD i 0))), (gr21, .ty 77, bvs (fillB 0)), (gr20, .ty 77, bvs (fillB (nw.getD i 0))), (g1, .ty 60, bvs nw)] : Hep))
                  replace H : St 189 w a W [(17, .int .i64 ((i + 1 : Nat) : Int)), (144, .int .i64 ((i + 1 : Nat) : Int)), (143, .int .i64 ((i : Nat) : Int)), (187, .bool false), (186, .bool false), (185, .string (strB (fillB (nw.getD i 0)))), (184, v184), (183, bv (nw.getD i 0)), (182, .pointer (some ⟨g1, i, none⟩)), (181, .int .i64 ((i : Nat) : Int)), (180, .string (strB (fillB (nw.getD i 0)))), (179, .slice (some ⟨gr22, 0, none⟩) 512 512), (178, .bool false), (177, .bool false), (176, .bool false), (175, .string (strB (fillB 0))), (174, v174), (173, .string (strB (fillB 0))), (172, .slice (some ⟨gr21, 0, none⟩) 512 512), (171, .bool false), (170, .bool false), (169, .string (strB (fillB (nw.getD i 0)))), (168, v168), (167, bv (nw.getD i 0)), (166, .pointer (some ⟨g1, i, none⟩)), (165, .int .i64 ((i : Nat) : Int)), (164, .string (strB (fillB (nw.getD i 0)))), (163, .slice (some ⟨gr20, 0, none⟩) 512 512), (22, .slice (some ⟨gr22, 0, none⟩) 512 512), (162, .int .i64 0), (161, .slice (some ⟨gr22, 0, none⟩) 512 512), (157, .tuple #[.slice (some ⟨gr22, 0, none⟩) 512 512, .int .i64 0]), (160, .tuple #[.slice (some ⟨gr22, 0, none⟩) 512 512, .int .i64 0]), (159, .int .i64 ((i : Nat) : Int)), (158, .pointer (some ⟨p1, 0, none⟩)), (20, .slice (some ⟨gr21, 0, none⟩) 512 512), (156, .int .i64 0), (155, .slice (some ⟨gr21, 0, none⟩) 512 512), (151, .tuple #[.slice (some ⟨gr21, 0, none⟩) 512 512, .int .i64 0]), (154, .tuple #[.slice (some ⟨gr21, 0, none⟩) 512 512, .int .i64 0]), (153, .int .i64 ((i : Nat) : Int)), (152, .pointer (some ⟨p15, 0, none⟩)), (18, .slice (some ⟨gr20, 0, none⟩) 512 512), (150, .int .i64 0), (149, .slice (some ⟨gr20, 0, none⟩) 512 512), (145, .tuple #[.slice (some ⟨gr20, 0, none⟩) 512 512, .int .i64 0]), (148, .tuple #[.slice (some ⟨gr20, 0, none⟩) 512 512, .int .i64 0]), (147, .int .i64 ((i : Nat) : Int)), (146, .pointer (some ⟨p14, 0, none⟩)), (142, .bool true), (141, .int .i64 ((nb : Nat) : Int)), (140, .int .i64 ((i : Nat) : Int)), (16, .pointer (some ⟨p15, 0, none⟩)), (15, .pointer (some ⟨p14, 0, none⟩)), (11, .pointer (some ⟨g1, 0, none⟩)), (9, .pointer (some ⟨p1, 0, none⟩)), (0, .int .i64 ((nb : Nat) : Int))] ((gr22, 77, bvs (fillB (nw.getD i 0))) :: (gr21, 77, bvs (fillB 0)) :: (gr20, 77, bvs (fillB (nw.getD i 0))) :: (g1, 60, bvs nw) :: (r17 ++ (r16 ++ (te ++ (r19 ++ ([] : Hep)))))) := H
                  replace H := H.perm' ((((((((List.Perm.refl _).append_left te).trans (List.perm_append_comm_assoc te r19 ([] : Hep))).append_left r16).trans (List.perm_append_comm_assoc r16 r19 (te ++ ([] : Hep)))).append_left r17).trans (List.perm_append_comm_assoc r17 r19 (r16 ++ (te ++ ([] : Hep))))).append_left ([(gr22, .ty 77, bvs (fillB (nw.getD i 0))), (gr21, .ty 77, bvs (fillB 0)), (gr20, .ty 77, bvs (fillB (nw.getD i 0))), (g1, .ty 60, bvs nw)] : Hep))
                  replace H : St 189 w a W [(17, .int .i64 ((i + 1 : Nat) : Int)), (144, .int .i64 ((i + 1 : Nat) : Int)), (143, .int .i64 ((i : Nat) : Int)), (187, .bool false), (186, .bool false), (185, .string (strB (fillB (nw.getD i 0)))), (184, v184), (183, bv (nw.getD i 0)), (182, .pointer (some ⟨g1, i, none⟩)), (181, .int .i64 ((i : Nat) : Int)), (180, .string (strB (fillB (nw.getD i 0)))), (179, .slice (some ⟨gr22, 0, none⟩) 512 512), (178, .bool false), (177, .bool false), (176, .bool false), (175, .string (strB (fillB 0))), (174, v174), (173, .string (strB (fillB 0))), (172, .slice (some ⟨gr21, 0, none⟩) 512 512), (171, .bool false), (170, .bool false), (169, .string (strB (fillB (nw.getD i 0)))), (168, v168), (167, bv (nw.getD i 0)), (166, .pointer (some ⟨g1, i, none⟩)), (165, .int .i64 ((i : Nat) : Int)), (164, .string (strB (fillB (nw.getD i 0)))), (163, .slice (some ⟨gr20, 0, none⟩) 512 512), (22, .slice (some ⟨gr22, 0, none⟩) 512 512), (162, .int .i64 0), (161, .slice (some ⟨gr22, 0, none⟩) 512 512), (157, .tuple #[.slice (some ⟨gr22, 0, none⟩) 512 512, .int .i64 0]), (160, .tuple #[.slice (some ⟨gr22, 0, none⟩) 512 512, .int .i64 0]), (159, .int .i64 ((i : Nat) : Int)), (158, .pointer (some ⟨p1, 0, none⟩)), (20, .slice (some ⟨gr21, 0, none⟩) 512 512), (156, .int .i64 0), (155, .slice (some ⟨gr21, 0, none⟩) 512 512), (151, .tuple #[.slice (some ⟨gr21, 0, none⟩) 512 512, .int .i64 0]), (154, .tuple #[.slice (some ⟨gr21, 0, none⟩) 512 512, .int .i64 0]), (153, .int .i64 ((i : Nat) : Int)), (152, .pointer (some ⟨p15, 0, none⟩)), (18, .slice (some ⟨gr20, 0, none⟩) 512 512), (150, .int .i64 0), (149, .slice (some ⟨gr20, 0, none⟩) 512 512), (145, .tuple #[.slice (some ⟨gr20, 0, none⟩) 512 512, .int .i64 0]), (148, .tuple #[.slice (some ⟨gr20, 0, none⟩) 512 512, .int .i64 0]), (147, .int .i64 ((i : Nat) : Int)), (146, .pointer (some ⟨p14, 0, none⟩)), (142, .bool true), (141, .int .i64 ((nb : Nat) : Int)), (140, .int .i64 ((i : Nat) : Int)), (16, .pointer (some ⟨p15, 0, none⟩)), (15, .pointer (some ⟨p14, 0, none⟩)), (11, .pointer (some ⟨g1, 0, none⟩)), (9, .pointer (some ⟨p1, 0, none⟩)), (0, .int .i64 ((nb : Nat) : Int))] ((gr22, 77, bvs (fillB (nw.getD i 0))) :: (gr21, 77, bvs (fillB 0)) :: (gr20, 77, bvs (fillB (nw.getD i 0))) :: (g1, 60, bvs nw) :: (r19 ++ (r17 ++ (r16 ++ (te ++ ([] : Hep)))))) := H
                  refine ⟨i + 1, by omega, by omega, 0, rfl, ?_⟩
                  exact H.pickF (h := [(gr22, 77, bvs (fillB (nw.getD i 0))), (gr21, 77, bvs (fillB 0)), (gr20, 77, bvs (fillB (nw.getD i 0))), (g1, 60, bvs nw)]) (t := (r19 ++ (r17 ++ (r16 ++ (te ++ ([] : Hep)))))) [0, 52, 53, 54, 55, 56] [3] rfl
                · obtain rfl : nb = i := by omega
                  refine wp_seq_k (fun K58 hK58 => ?_)
                  refine sqR H gs0 fun Z_ z_ => rS 2 rfl <| rV rfl (does_binOp rfl rfl rfl (zd_lss_int (k := ((nb : Nat) : Int)) (m := ((nb : Nat) : Int)) (decide_eq_false (by omega)) _ _)) <| rK [1, 0, 0, 1, 1, 1, 1, 1, 0] [] [] <| rN0 z_ ?_
                  try clear H a W
                  intro a W H
                  refine wp_cond_false (H.ev rfl) ?_
                  refine wp_exit ?_
                  repeat (first | (with_reducible refine then_exit ?_) | (with_reducible refine blk_pass (by decide) ?_))
                  refine blk_exit ?_
                  refine hK49 _ _ ?_
                  clear hK49
                  refine sqR H gs0 fun Z_ z_ => rV rfl (does_call rfl ⟨_, Try.func11, by kernel_rfl⟩ rfl (fun W hb => known_any W)) <| rS 1 rfl <| rK [1, 0, 0, 0, 0, 0, 0, 0] [0] [] <| rN0 z_ ?_
                  try clear H a W
                  intro a W H
                  refine wp_ret ?_
                  repeat (first | (with_reducible refine then_ret ?_) | (with_reducible refine blk_ret ?_))
                  refine end_tmp (p := 8) rfl rfl H (fun hb => ?_)
                  exact ⟨rfl, hb⟩
theorem law_latest {A1 A2 A3 : Option Addr} {n1 n2 n3 c1 c2 c3 : Nat} {l1 l3 : List Int} {lf : List UInt8} (bl : Int) (w : World) (hA : IP w w.heap.size A1 n1 l1) (hF : BS w w.heap.size A2 n2 c2 lf) (hm2 : n2 ≤ maxLen) (hQ : IP w w.heap.size A3 n3 l3) : Calls Try.prog 8 #[.int .i64 bl, .slice A1 n1 c1, .slice A2 n2 c2, .slice A3 n3 c3] w (fun rr w' => rr = .returned (.bool true) ∧ Below w.heap.size w w') := by
  by_cases h : bl < 1
  · exact law_latest_neg w hA hF hm2 hQ bl (decide_eq_true h)
  · obtain ⟨nb, rfl⟩ := Int.eq_ofNat_of_zero_le (show 0 ≤ bl by omega)
    exact law_latest_nat w hA hF hm2 hQ nb
end Go.Proofs.Ytiebelmglchbdaa
