/- Package disk (layer 14): its methods, over told rows. -/
import Derived.Test.YtiebelmglchbdaaPd
import Derived.Test.YtiebelmglchbdaaPz
namespace Go.Proofs.Ytiebelmglchbdaa
set_option linter.unusedVariables false
set_option linter.unusedSimpArgs false
set_option maxRecDepth 100000
open Go Go.RowKit

theorem Kn.sub {w0 w : World} {h h' : Hep} (K : Kn w0 w h) (hs : h'.Sublist h) : Kn w0 w h' := ⟨K.below, fun p hp => K.heap p (hs.subset hp), fun p hp => K.own p (hs.subset hp), K.apart.sublist hs⟩
theorem isNone_live {p : Nat} {nb : Int} {vM vU vQ : Value} {hf dd : Bool} {lf : Int} {hh : Hep} (hnb : 0 < nb) (w0 w : World) (K : Kn w0 w ([(p, .ty 58, dkC nb vM vU vQ hf lf dd)] ++ hh)) : Calls Try.prog 40 #[.pointer (some ⟨p, 0, none⟩)] w (fun rr w' => rr = .returned (.bool false) ∧ Kn w0 w' ([(p, .ty 58, dkC nb vM vU vQ hf lf dd)] ++ hh)) := by
  have h := isNone_p w0 w K
  rw [show decide (nb = 0) = false from decide_eq_false (by omega)] at h
  exact h
section
variable {P : Program} {n : Nat} {w0 w w' : World} {a : Act} {e : Env} {h h' t hh : Hep} {Q : Exit → Act → World → Prop} {ops : Array Oper} {rest l : List Oper} {o : Oper} {G : List (World → Prop)}
theorem end_none_ret {fn : Func} {R : Ending → World → Prop} (hr : fn.results = #[]) (H : St n w0 a w e h) (hR : Kn w0 w h → R (.returned (.tuple #[])) w) : bodyPost P fn R .ret a w := by
  refine bodyPost_ret ?_ H.defers (hR H.kn)
  simp [results, hr]
theorem does_s2a {T el m k c : Nat} {x : Operand} {A : Option Addr} (ho : o.op = .sliceToArrayPointer T x) (hx : sev e x = some (.slice A k c)) (hu : P.underlying T = some (.array m el)) (hm : m ≤ k) : Does P Q n w0 e h o (.pointer A) := does_run fun a w H => by
  unfold execOp
  simp only [ho, H.ev hx, Instr.arrayAt, Sem.run_bind, run_underlying hu, Result.andThen_ok, Sem.run_pure]
  rw [if_neg (by omega)]
  rfl

theorem made_evP {t : TypeId} {k : Nat} {ps : List (Nat × Operand)} {vs : List (Nat × Value)} {F : Nat → Value} {z : Array Value} {t' : TypeId} (ho : o.op = .buildSlice t k ps.toArray) (hx : sevp e ps = some vs)
    (hr : ∀ W, (Instr.buildSlice t k vs.toArray).run P W = .ok (F W.heap.size) (W.alloc (.cells z t'))) : ∀ a w, St n w0 a w e h → (execOp a.eval o).run P w = .ok (.value (F w.heap.size)) (w.alloc (.cells z t')) := fun a w H => by
  unfold execOp
  have e1 : ps.toArray.map (fun (p : Nat × Operand) => (p.1, a.eval p.2)) = vs.toArray := by rw [List.map_toArray, H.evp hx]
  simp only [ho]
  show (do let x ← Instr.buildSlice t k (ps.toArray.map (fun (p : Nat × Operand) => (p.1, a.eval p.2))); pure (Next.value x) : Sem Next).run P w = _
  rw [e1, Sem.run_bind, hr]
  rfl
/-- A new row, as a slice of it. -/
def NewS (k : Nat) (B : Nat) (h : Hep) (t : Tid) (z : Array Value) (v : Value) (w : World) : Prop := ∃ g, v = .slice (some ⟨g, 0, none⟩) k k ∧ NewF B h t z (.pointer (some ⟨g, 0, none⟩)) w
instance {k B : Nat} {h : Hep} {t : TypeId} {z : Array Value} {v : Value} : Lasts (NewS k B h t z v) := ⟨fun w w' ⟨g, e, hv⟩ hb => ⟨g, e, NewF.sb _ _ _ hv hb⟩⟩
theorem oNs {k : Nat} {t : TypeId} {z : Array Value} (hg : o.guard = none) (hm : ∀ a w, St n w0 a w e h → (execOp a.eval o).run P w = .ok (.value (.slice (some ⟨w.heap.size, 0, none⟩) k k)) (w.alloc (.cells z t))) : ∀ a w, St n w0 a w e h → GS G w → ObS P ops Q o a w (NewS k w0.heap.size h t z) := fun a w H _ => by
  refine ⟨by simp [Region.wanted, hg], ?_⟩
  unfold Oper.wp
  rw [hm a w H]
  exact ⟨_, rfl, (Below.refl _ _).alloc (Nat.le_refl _) _, _, rfl, _, rfl, Blk.new _ _ _, H.below.size, fun p hp => Nat.ne_of_lt (H.heap p hp).lt⟩
theorem rNwS {k : Nat} {t : Tid} {z : Array Value} {E : Value → Env} (next : ∀ g : Nat, Rn P n w0 Q ops l (E (.slice (some ⟨g, 0, none⟩) k k)) ((g, t, z) :: h) G) : ∀ v, Rn P n w0 Q ops l (E v) h (NewS k w0.heap.size h t z v :: G) := fun v a w H g => by
  obtain ⟨⟨g1, rfl, g2, e2, hb, hB, hn⟩, g⟩ := g
  injection e2 with e2
  injection e2 with e2
  injection e2 with e2
  subst e2
  exact next g1 a w (H.add hb hB hn) g
end
theorem write_infoP : (Try.prog.info? 82).map (fun i => (i.zero, i.size, i.bytes)) = some (some (.agg (dwa (0, zeroB))), 513, 520) := by kernel_rfl
section
variable {n : Nat} {w0 w w' : World} {a : Act} {e : Env} {h t hh : Hep} {Q : Exit → Act → World → Prop} {ops : Array Oper} {rest : List Oper} {o : Oper}
/-- One write more. -/
theorem pl_appW {d k : Nat} {x y : Operand} {v : Value} {gs : Nat} {L : List (Nat × List UInt8)} {p : Nat × List UInt8} (hk : h[k]? = some (gs, .ty 82, dwa p)) (hp : p.2.length = 512) (ho : o.op = .call { callee := .builtin .append, args := #[x, y], argTypes := #[55, 55] }) (hx : sev e x = some v) (hy : sev e y = some (.slice (some ⟨gs, 0, none⟩) 1 1))
    (hv : OutD 82 513 t v L.length (dwcs L)) (hs : L.length ≤ 100000) (hg : o.guard = none) (hdst : o.dst = some d) (hl : Nat.blt d n = true) (hf : e.all (fun p => !Nat.beq p.1 d) = true) (H : St n w0 a w e (h ++ (t ++ hh)))
    (next : ∀ A c t' a w', OutD 82 513 t' (.slice A (L ++ [p]).length c) (L ++ [p]).length (dwcs (L ++ [p])) → St n w0 a w' ((d, .slice A (L ++ [p]).length c) :: e) (h ++ (t' ++ hh)) → wpList Try.prog ops Q rest a w') : wpList Try.prog ops Q (o :: rest) a w :=
  wpList_plain hg fun K_ hK => by
    have H2 : St n w0 a w e ((h ++ hh) ++ t) := H.perm' (by rw [List.append_assoc]; exact List.perm_append_comm.append_left h)
    have hb : Blk w gs (.ty 82) (dwa p) := H.heap _ (List.mem_append_left _ (List.mem_iff_getElem?.2 ⟨k, hk⟩))
    have hi := write_infoP
    cases hq : Try.prog.info? 82 with
    | none => rw [hq] at hi; cases hi
    | some i =>
      rw [hq] at hi
      simp only [Option.map_some, Option.some.injEq, Prod.mk.injEq] at hi
      obtain ⟨hz0, hsz, hby⟩ := hi
      have hown := hv.owns H2
      obtain ⟨v', w', h1, h2, h3, _, h4⟩ := run_append_own_at (P := Try.prog) w w0.heap.size 55 o.type 82 i _ 513 520 Try.underlying55 hq hz0 hsz hby (dwa_size (p := (0, zeroB)) zero_len) (by omega) v L.length (dwcs L) hown ⟨gs, 0, none⟩ 1 1 (dwv p) (by rw [dwv_len hp]) (fun j y hy => by
        rw [Addr.add_lit, Nat.zero_add, hb.cell, dwa_get]
        exact hy) (dwv_one p) (by simp only [maxLen]; omega) (by omega) H.below.size
      obtain ⟨t', hv', H', _⟩ := H2.appD hv h2 h3 h4 (by omega)
      rw [← dwcs_snoc] at hv'
      obtain ⟨A, c, rfl, _⟩ := hv'.form
      have H3 : St n w0 a w' e (h ++ (t' ++ hh)) := H'.perm' (by rw [List.append_assoc]; exact List.perm_append_comm.append_left h)
      have hL : (L ++ [p]).length = L.length + 1 := by simp
      unfold Oper.wp
      simp [execOp, ho, resolve, invoke, builtin, H.ev hx, H.ev hy, h1, Result.andThen]
      refine hK _ _ (next A c t' _ _ ?_ ?_)
      · rw [hL]
        exact hv'
      · rw [hdst, hL]
        exact H3.put _ hl hf
end
/-- The rows of a slice of whole numbers can be read, in whatever world holds these rows. -/
structure PK (w0 : World) (hh : Hep) (A : Option Addr) (k : Nat) (l : List Int) : Prop where
  len : l.length = k
  big : ∀ x ∈ l, -9223372036854775808 ≤ x ∧ x < 9223372036854775808
  at_ : ∃ g o, 0 < k → A = some ⟨g, o, none⟩ ∧ ∀ W, Below w0.heap.size w0 W → (∀ p ∈ hh, Blk W p.1 p.2.1 p.2.2) → ∀ (i : Nat) (x : Int), l[i]? = some x → W.cell? ⟨g, o + i, none⟩ = some (.int .i64 x)
def ksP (picks : List Int) (n k : Nat) : Nat := lastN (picks.getD k 0) (decide (k + 1 = n))
/-- The fuse's step, as the program takes it. -/
structure StepOk (D : Dk) (lf : Int) : Prop where
  err : (stepP (decide (0 ≤ D.fuse)) lf false).2.2 = (dStep D).2
  dead : (stepP (decide (0 ≤ D.fuse)) lf false).1 = (dStep D).1.dead
  fus : decide (0 ≤ (dStep D).1.fuse) = decide (0 ≤ D.fuse)
  lf : 0 ≤ (stepP (decide (0 ≤ D.fuse)) lf false).2.1 ∧ (stepP (decide (0 ≤ D.fuse)) lf false).2.1 < 9223372036854775808 ∧ (0 ≤ (dStep D).1.fuse → (stepP (decide (0 ≤ D.fuse)) lf false).2.1 = (dStep D).1.fuse)
theorem step_ok {D : Dk} {lf : Int} (hd : D.dead = false) (h : 0 ≤ lf ∧ lf < 9223372036854775808 ∧ (0 ≤ D.fuse → lf = D.fuse)) : StepOk D lf := by
  have e1 : ¬ D.dead = true := by rw [hd]; decide
  by_cases hf : 0 ≤ D.fuse
  · have hl := h.2.2 hf
    subst hl
    have e0 : decide (0 ≤ D.fuse) = true := decide_eq_true hf
    by_cases h0 : D.fuse = 0
    · have e : dStep D = ({ D with dead := true }, 17) := by unfold dStep; rw [if_neg e1, if_pos h0]
      have e2 : stepP (decide (0 ≤ D.fuse)) D.fuse false = (true, D.fuse, 17) := by unfold stepP; rw [e0, if_neg (by decide), if_pos h0]
      exact ⟨by rw [e, e2], by rw [e, e2], by rw [e], by rw [e, e2]; exact ⟨h.1, h.2.1, fun _ => rfl⟩⟩
    · have e : dStep D = ({ D with fuse := D.fuse - 1 }, 0) := by unfold dStep; rw [if_neg e1, if_neg h0, if_pos (by omega)]
      have e2 : stepP (decide (0 ≤ D.fuse)) D.fuse false = (false, D.fuse - 1, 0) := by unfold stepP; rw [e0, if_neg (by decide), if_neg h0]
      exact ⟨by rw [e, e2], by rw [e, e2]; exact hd.symm, by rw [e]; exact (decide_eq_true (show 0 ≤ D.fuse - 1 by omega)).trans e0.symm, by rw [e, e2]; exact ⟨by show 0 ≤ D.fuse - 1; omega, by show D.fuse - 1 < _; omega, fun _ => rfl⟩⟩
  · have e0 : decide (0 ≤ D.fuse) = false := decide_eq_false hf
    have e : dStep D = (D, 0) := by
      unfold dStep
      rw [if_neg e1, if_neg (by omega), if_neg (by omega)]
    have e2 : stepP (decide (0 ≤ D.fuse)) lf false = (false, lf, 0) := by unfold stepP; rw [e0, if_pos rfl]
    exact ⟨by rw [e, e2], by rw [e, e2]; exact hd.symm, by rw [e], by rw [e, e2]; exact ⟨h.1, h.2.1, fun h' => absurd h' hf⟩⟩
attribute [local irreducible] bvs dwa entsI zeroB lastsB stepP
set_option maxHeartbeats 4000000 in
theorem blocks_x {X : DX} {p : Nat} {D : Dk} {hh : Hep}  (hX : X.ok D) (w0 w : World) (K : Kn w0 w (X.rows p D ++ hh)) : Calls Try.prog 31 #[.pointer (some ⟨p, 0, none⟩)] w (fun rr w' => rr = .returned (.int .i64 ((D.B.length : Nat) : Int)) ∧ Kn w0 w' (X.rows p D ++ hh)) := by
  have hnb := hX.nb
  have hlf := hX.lf
  have hnl := hX.nl
  refine calls_kn (vs := [.pointer (some ⟨p, 0, none⟩)]) 9 Try.func31 rfl Try.ntmps31 rfl K (fun a W H => ?_)
  replace H : St 9 w0 a W [(0, .pointer (some ⟨p, 0, none⟩))] ((p, 58, (dkC ((D.B.length : Nat) : Int) (.map (some X.m)) (.slice X.A D.L.length X.cap) (.map (some X.q)) (decide (0 ≤ D.fuse)) X.lf D.dead)) :: (X.m, .map (entsI X.es) X.c, #[]) :: (X.q, .map (entsI X.ls) X.cq, #[]) :: (X.t ++ hh)) := H
  refine sqR H gs0 fun Z_ z_ => rS 1 rfl <| rN0 z_ ?_
  try clear H a W
  intro a W H
  refine wp_seq_k (fun K2 hK2 => ?_)
  refine wp_seq_k (fun K3 hK3 => ?_)
  refine rgP H gs0 (rS 1 rfl <| rI0 ?_)
  try clear H a W
  intro a W H
  refine pl_callV rfl rfl ⟨_, Try.func40, by kernel_rfl⟩ rfl (fun K_ => isNone_live (hh := ([(X.m, .map (entsI X.es) X.c, #[]), (X.q, .map (entsI X.ls) X.cq, #[])] ++ (X.t ++ hh))) (by omega) w0 _ K_) H ?_
  try clear H a W
  intro a W H
  replace H : St 9 w0 a W [(4, .bool false), (3, .pointer (some ⟨p, 0, none⟩)), (2, .int .i64 0), (0, .pointer (some ⟨p, 0, none⟩))] ((p, 58, (dkC ((D.B.length : Nat) : Int) (.map (some X.m)) (.slice X.A D.L.length X.cap) (.map (some X.q)) (decide (0 ≤ D.fuse)) X.lf D.dead)) :: (X.m, .map (entsI X.es) X.c, #[]) :: (X.q, .map (entsI X.ls) X.cq, #[]) :: (X.t ++ hh)) := H
  refine rgO H gs0 (rK [1, 0] [] [] <| rZ0 ?_)
  try clear H a W
  intro a W H
  refine hK3 _ _ ?_
  clear hK3
  refine wp_cond_false (H.ev rfl) ?_
  refine wp_skip ?_
  refine hK2 _ _ ?_
  clear hK2
  refine sqR H gs0 fun Z_ z_ => rS 1 rfl <| rV rfl (does_nilCheckQ rfl rfl) <| rV rfl (does_fieldAddr rfl rfl (fa_dk 0 (by decide))) <| rV rfl (does_loadAt (v := .int .i64 ((D.B.length : Nat) : Int)) rfl rfl (k := 0) rfl ld_dk0) <| rK [1, 1, 1, 1, 1, 0] [] [] <| rS 1 rfl <| rK [1, 0, 0, 0, 0, 0, 0] [] [] <| rN0 z_ ?_
  try clear H a W
  intro a W H
  refine wp_ret ?_
  repeat (first | (with_reducible refine then_ret ?_) | (with_reducible refine blk_ret ?_))
  refine end_tmp (p := 2) rfl rfl H (fun hb => ?_)
  refine ⟨rfl, ?_⟩
  show Kn w0 W ((p, .ty 58, (dkC ((D.B.length : Nat) : Int) (.map (some X.m)) (.slice X.A D.L.length X.cap) (.map (some X.q)) (decide (0 ≤ D.fuse)) X.lf D.dead)) :: (X.m, .map (entsI X.es) X.c, #[]) :: (X.q, .map (entsI X.ls) X.cq, #[]) :: (X.t ++ hh))
  have H_ := H.pickF (h := [(p, .ty 58, (dkC ((D.B.length : Nat) : Int) (.map (some X.m)) (.slice X.A D.L.length X.cap) (.map (some X.q)) (decide (0 ≤ D.fuse)) X.lf D.dead)), (X.m, .map (entsI X.es) X.c, #[]), (X.q, .map (entsI X.ls) X.cq, #[])]) (t := (X.t ++ hh)) [] [0, 1, 2] rfl
  exact H_.kn
set_option maxHeartbeats 4000000 in
theorem dead_x {X : DX} {p : Nat} {D : Dk} {hh : Hep}  (hX : X.ok D) (w0 w : World) (K : Kn w0 w (X.rows p D ++ hh)) : Calls Try.prog 22 #[.pointer (some ⟨p, 0, none⟩)] w (fun rr w' => rr = .returned (.bool D.dead) ∧ Kn w0 w' (X.rows p D ++ hh)) := by
  have hnb := hX.nb
  have hlf := hX.lf
  have hnl := hX.nl
  refine calls_kn (vs := [.pointer (some ⟨p, 0, none⟩)]) 12 Try.func22 rfl Try.ntmps22 rfl K (fun a W H => ?_)
  replace H : St 12 w0 a W [(0, .pointer (some ⟨p, 0, none⟩))] ((p, 58, (dkC ((D.B.length : Nat) : Int) (.map (some X.m)) (.slice X.A D.L.length X.cap) (.map (some X.q)) (decide (0 ≤ D.fuse)) X.lf D.dead)) :: (X.m, .map (entsI X.es) X.c, #[]) :: (X.q, .map (entsI X.ls) X.cq, #[]) :: (X.t ++ hh)) := H
  refine sqR H gs0 fun Z_ z_ => rS 1 rfl <| rN0 z_ ?_
  try clear H a W
  intro a W H
  refine wp_seq_k (fun K2 hK2 => ?_)
  refine rgP H gs0 (rS 1 rfl <| rI0 ?_)
  try clear H a W
  intro a W H
  refine pl_callV rfl rfl ⟨_, Try.func40, by kernel_rfl⟩ rfl (fun K_ => isNone_live (hh := ([(X.m, .map (entsI X.es) X.c, #[]), (X.q, .map (entsI X.ls) X.cq, #[])] ++ (X.t ++ hh))) (by omega) w0 _ K_) H ?_
  try clear H a W
  intro a W H
  replace H : St 12 w0 a W [(4, .bool false), (3, .pointer (some ⟨p, 0, none⟩)), (2, .bool false), (0, .pointer (some ⟨p, 0, none⟩))] ((p, 58, (dkC ((D.B.length : Nat) : Int) (.map (some X.m)) (.slice X.A D.L.length X.cap) (.map (some X.q)) (decide (0 ≤ D.fuse)) X.lf D.dead)) :: (X.m, .map (entsI X.es) X.c, #[]) :: (X.q, .map (entsI X.ls) X.cq, #[]) :: (X.t ++ hh)) := H
  refine rgO H gs0 (rS 3 rfl <| rV rfl (does_nilCheckQ rfl rfl) <| rV rfl (does_fieldAddr rfl rfl (fa_dk 6 (by decide))) <| rV rfl (does_loadAt (v := .bool D.dead) rfl rfl (k := 0) rfl ld_dk6) <| rS 1 rfl <| rK [1, 1, 1, 1, 1, 1, 1, 1, 1, 0] [] [] <| rS 1 rfl <| rK [1, 0, 0, 0, 0, 0, 0, 0, 0, 0, 0] [] [] <| rZ0 ?_)
  try clear H a W
  intro a W H
  refine hK2 _ _ ?_
  clear hK2
  refine wp_ret ?_
  repeat (first | (with_reducible refine then_ret ?_) | (with_reducible refine blk_ret ?_))
  refine end_tmp (p := 2) rfl rfl H (fun hb => ?_)
  refine ⟨rfl, ?_⟩
  show Kn w0 W ((p, .ty 58, (dkC ((D.B.length : Nat) : Int) (.map (some X.m)) (.slice X.A D.L.length X.cap) (.map (some X.q)) (decide (0 ≤ D.fuse)) X.lf D.dead)) :: (X.m, .map (entsI X.es) X.c, #[]) :: (X.q, .map (entsI X.ls) X.cq, #[]) :: (X.t ++ hh))
  have H_ := H.pickF (h := [(p, .ty 58, (dkC ((D.B.length : Nat) : Int) (.map (some X.m)) (.slice X.A D.L.length X.cap) (.map (some X.q)) (decide (0 ≤ D.fuse)) X.lf D.dead)), (X.m, .map (entsI X.es) X.c, #[]), (X.q, .map (entsI X.ls) X.cq, #[])]) (t := (X.t ++ hh)) [] [0, 1, 2] rfl
  exact H_.kn
set_option maxHeartbeats 4000000 in
theorem unsynced_x {X : DX} {p : Nat} {D : Dk} {hh : Hep}  (hX : X.ok D) (w0 w : World) (K : Kn w0 w (X.rows p D ++ hh)) : Calls Try.prog 21 #[.pointer (some ⟨p, 0, none⟩)] w (fun rr w' => rr = .returned (.int .i64 ((D.L.length : Nat) : Int)) ∧ Kn w0 w' (X.rows p D ++ hh)) := by
  have hnb := hX.nb
  have hlf := hX.lf
  have hnl := hX.nl
  refine calls_kn (vs := [.pointer (some ⟨p, 0, none⟩)]) 10 Try.func21 rfl Try.ntmps21 rfl K (fun a W H => ?_)
  replace H : St 10 w0 a W [(0, .pointer (some ⟨p, 0, none⟩))] ((p, 58, (dkC ((D.B.length : Nat) : Int) (.map (some X.m)) (.slice X.A D.L.length X.cap) (.map (some X.q)) (decide (0 ≤ D.fuse)) X.lf D.dead)) :: (X.m, .map (entsI X.es) X.c, #[]) :: (X.q, .map (entsI X.ls) X.cq, #[]) :: (X.t ++ hh)) := H
  refine sqR H gs0 fun Z_ z_ => rS 1 rfl <| rN0 z_ ?_
  try clear H a W
  intro a W H
  refine wp_seq_k (fun K2 hK2 => ?_)
  refine wp_seq_k (fun K3 hK3 => ?_)
  refine rgP H gs0 (rS 1 rfl <| rI0 ?_)
  try clear H a W
  intro a W H
  refine pl_callV rfl rfl ⟨_, Try.func40, by kernel_rfl⟩ rfl (fun K_ => isNone_live (hh := ([(X.m, .map (entsI X.es) X.c, #[]), (X.q, .map (entsI X.ls) X.cq, #[])] ++ (X.t ++ hh))) (by omega) w0 _ K_) H ?_
  try clear H a W
  intro a W H
  replace H : St 10 w0 a W [(4, .bool false), (3, .pointer (some ⟨p, 0, none⟩)), (2, .int .i64 0), (0, .pointer (some ⟨p, 0, none⟩))] ((p, 58, (dkC ((D.B.length : Nat) : Int) (.map (some X.m)) (.slice X.A D.L.length X.cap) (.map (some X.q)) (decide (0 ≤ D.fuse)) X.lf D.dead)) :: (X.m, .map (entsI X.es) X.c, #[]) :: (X.q, .map (entsI X.ls) X.cq, #[]) :: (X.t ++ hh)) := H
  refine rgO H gs0 (rK [1, 0] [] [] <| rZ0 ?_)
  try clear H a W
  intro a W H
  refine hK3 _ _ ?_
  clear hK3
  refine wp_cond_false (H.ev rfl) ?_
  refine wp_skip ?_
  refine hK2 _ _ ?_
  clear hK2
  refine sqR H gs0 fun Z_ z_ => rS 1 rfl <| rV rfl (does_nilCheckQ rfl rfl) <| rV rfl (does_fieldAddr rfl rfl (fa_dk 2 (by decide))) <| rV rfl (does_loadAt (v := .slice X.A D.L.length X.cap) rfl rfl (k := 0) rfl ld_dk2) <| rV rfl (does_len Try.underlying55 rfl rfl) <| rK [1, 1, 1, 1, 1, 1, 0] [] [] <| rS 1 rfl <| rK [1, 0, 0, 0, 0, 0, 0, 0] [] [] <| rN0 z_ ?_
  try clear H a W
  intro a W H
  refine wp_ret ?_
  repeat (first | (with_reducible refine then_ret ?_) | (with_reducible refine blk_ret ?_))
  refine end_tmp (p := 2) rfl rfl H (fun hb => ?_)
  refine ⟨rfl, ?_⟩
  show Kn w0 W ((p, .ty 58, (dkC ((D.B.length : Nat) : Int) (.map (some X.m)) (.slice X.A D.L.length X.cap) (.map (some X.q)) (decide (0 ≤ D.fuse)) X.lf D.dead)) :: (X.m, .map (entsI X.es) X.c, #[]) :: (X.q, .map (entsI X.ls) X.cq, #[]) :: (X.t ++ hh))
  have H_ := H.pickF (h := [(p, .ty 58, (dkC ((D.B.length : Nat) : Int) (.map (some X.m)) (.slice X.A D.L.length X.cap) (.map (some X.q)) (decide (0 ≤ D.fuse)) X.lf D.dead)), (X.m, .map (entsI X.es) X.c, #[]), (X.q, .map (entsI X.ls) X.cq, #[])]) (t := (X.t ++ hh)) [] [0, 1, 2] rfl
  exact H_.kn
set_option maxHeartbeats 4000000 in
theorem read_no {X : DX} {p : Nat} {D : Dk} {hh : Hep} (n : Int) (hno : decide (0 ≤ n ∧ n < ((D.B.length : Nat) : Int)) = false) (hX : X.ok D) (w0 w : World) (K : Kn w0 w (X.rows p D ++ hh)) : Calls Try.prog 18 #[.pointer (some ⟨p, 0, none⟩), .int .i64 n] w (fun rr w' => rr = .returned (.tuple #[.slice none 0 0, .int .i64 2]) ∧ Kn w0 w' (X.rows p D ++ hh)) := by
  have hnb := hX.nb
  have hlf := hX.lf
  have hnl := hX.nl
  refine calls_kn (vs := [.pointer (some ⟨p, 0, none⟩), .int .i64 n]) 17 Try.func18 rfl Try.ntmps18 rfl K (fun a W H => ?_)
  replace H : St 17 w0 a W [(0, .pointer (some ⟨p, 0, none⟩)), (1, .int .i64 n)] ((p, 58, (dkC ((D.B.length : Nat) : Int) (.map (some X.m)) (.slice X.A D.L.length X.cap) (.map (some X.q)) (decide (0 ≤ D.fuse)) X.lf D.dead)) :: (X.m, .map (entsI X.es) X.c, #[]) :: (X.q, .map (entsI X.ls) X.cq, #[]) :: (X.t ++ hh)) := H
  refine sqR H gs0 fun Z_ z_ => rS 2 rfl <| rN0 z_ ?_
  try clear H a W
  intro a W H
  refine wp_seq_k (fun K2 hK2 => ?_)
  refine wp_seq_k (fun K3 hK3 => ?_)
  refine rgP H gs0 (rS 1 rfl <| rI0 ?_)
  try clear H a W
  intro a W H
  refine pl_callV rfl rfl ⟨_, Try.func40, by kernel_rfl⟩ rfl (fun K_ => isNone_live (hh := ([(X.m, .map (entsI X.es) X.c, #[]), (X.q, .map (entsI X.ls) X.cq, #[])] ++ (X.t ++ hh))) (by omega) w0 _ K_) H ?_
  try clear H a W
  intro a W H
  replace H : St 17 w0 a W [(8, .bool false), (7, .pointer (some ⟨p, 0, none⟩)), (5, .int .i64 0), (4, .slice none 0 0), (0, .pointer (some ⟨p, 0, none⟩)), (1, .int .i64 n)] ((p, 58, (dkC ((D.B.length : Nat) : Int) (.map (some X.m)) (.slice X.A D.L.length X.cap) (.map (some X.q)) (decide (0 ≤ D.fuse)) X.lf D.dead)) :: (X.m, .map (entsI X.es) X.c, #[]) :: (X.q, .map (entsI X.ls) X.cq, #[]) :: (X.t ++ hh)) := H
  refine rgO H gs0 (rK [1, 0] [] [] <| rZ0 ?_)
  try clear H a W
  intro a W H
  refine hK3 _ _ ?_
  clear hK3
  refine wp_cond_false (H.ev rfl) ?_
  refine wp_skip ?_
  refine hK2 _ _ ?_
  clear hK2
  refine wp_seq_k (fun K4 hK4 => ?_)
  refine wp_seq_k (fun K5 hK5 => ?_)
  refine rgP H gs0 (rS 2 rfl <| rI0 ?_)
  try clear H a W
  intro a W H
  refine pl_callV rfl rfl ⟨_, Try.func41, by kernel_rfl⟩ rfl (fun K_ => by have h_ := has_p (hh := ([(X.m, .map (entsI X.es) X.c, #[]), (X.q, .map (entsI X.ls) X.cq, #[])] ++ (X.t ++ hh))) n w0 _ K_; rw [hno] at h_; exact h_) H ?_
  try clear H a W
  intro a W H
  replace H : St 17 w0 a W [(11, .bool false), (10, .int .i64 n), (9, .pointer (some ⟨p, 0, none⟩)), (8, .bool false), (5, .int .i64 0), (4, .slice none 0 0), (0, .pointer (some ⟨p, 0, none⟩)), (1, .int .i64 n)] ((p, 58, (dkC ((D.B.length : Nat) : Int) (.map (some X.m)) (.slice X.A D.L.length X.cap) (.map (some X.q)) (decide (0 ≤ D.fuse)) X.lf D.dead)) :: (X.m, .map (entsI X.es) X.c, #[]) :: (X.q, .map (entsI X.ls) X.cq, #[]) :: (X.t ++ hh)) := H
  refine rgO H gs0 (rS 1 rfl <| rK [1, 0, 0, 0, 0] [] [] <| rZ0 ?_)
  try clear H a W
  intro a W H
  refine hK5 _ _ ?_
  clear hK5
  refine wp_cond_true (H.ev rfl) ?_
  refine sqR H gs0 fun Z_ z_ => rK [1, 1, 0] [] [] <| rS 1 rfl <| rK [1, 1, 0] [] [] <| rS 1 rfl <| rK [1, 1, 0] [] [] <| rN0 z_ ?_
  try clear H a W
  intro a W H
  refine wp_ret ?_
  repeat (first | (with_reducible refine then_ret ?_) | (with_reducible refine blk_ret ?_))
  refine end_tmps2 (p := 4) (q := 5) rfl rfl rfl H (fun hb => ?_)
  refine ⟨rfl, ?_⟩
  show Kn w0 W ((p, .ty 58, (dkC ((D.B.length : Nat) : Int) (.map (some X.m)) (.slice X.A D.L.length X.cap) (.map (some X.q)) (decide (0 ≤ D.fuse)) X.lf D.dead)) :: (X.m, .map (entsI X.es) X.c, #[]) :: (X.q, .map (entsI X.ls) X.cq, #[]) :: (X.t ++ hh))
  have H_ := H.pickF (h := [(p, .ty 58, (dkC ((D.B.length : Nat) : Int) (.map (some X.m)) (.slice X.A D.L.length X.cap) (.map (some X.q)) (decide (0 ≤ D.fuse)) X.lf D.dead)), (X.m, .map (entsI X.es) X.c, #[]), (X.q, .map (entsI X.ls) X.cq, #[])]) (t := (X.t ++ hh)) [] [0, 1, 2] rfl
  exact H_.kn
set_option maxHeartbeats 4000000 in
theorem read_yes {X : DX} {p : Nat} {D : Dk} {hh : Hep} (n : Nat) (hn : n < D.B.length) (hX : X.ok D) (w0 w : World) (K : Kn w0 w (X.rows p D ++ hh)) : Calls Try.prog 18 #[.pointer (some ⟨p, 0, none⟩), .int .i64 ((n : Nat) : Int)] w (fun rr w' => ∃ g : Nat, rr = .returned (.tuple #[.slice (some ⟨g, 0, none⟩) 512 512, .int .i64 0]) ∧ Kn w0 w' ((g, .ty 77, bvs (readB D n)) :: (X.rows p D ++ hh))) := by
  have hnb := hX.nb
  have hlf := hX.lf
  have hnl := hX.nl
  have hhas : decide (0 ≤ ((n : Nat) : Int) ∧ ((n : Nat) : Int) < ((D.B.length : Nat) : Int)) = true := decide_eq_true (by omega)
  have hl_r := read_len hX.dk hn
  refine calls_kn (vs := [.pointer (some ⟨p, 0, none⟩), .int .i64 ((n : Nat) : Int)]) 17 Try.func18 rfl Try.ntmps18 rfl K (fun a W H => ?_)
  replace H : St 17 w0 a W [(0, .pointer (some ⟨p, 0, none⟩)), (1, .int .i64 ((n : Nat) : Int))] ((p, 58, (dkC ((D.B.length : Nat) : Int) (.map (some X.m)) (.slice X.A D.L.length X.cap) (.map (some X.q)) (decide (0 ≤ D.fuse)) X.lf D.dead)) :: (X.m, .map (entsI X.es) X.c, #[]) :: (X.q, .map (entsI X.ls) X.cq, #[]) :: (X.t ++ hh)) := H
  refine sqR H gs0 fun Z_ z_ => rS 2 rfl <| rN0 z_ ?_
  try clear H a W
  intro a W H
  refine wp_seq_k (fun K2 hK2 => ?_)
  refine wp_seq_k (fun K3 hK3 => ?_)
  refine rgP H gs0 (rS 1 rfl <| rI0 ?_)
  try clear H a W
  intro a W H
  refine pl_callV rfl rfl ⟨_, Try.func40, by kernel_rfl⟩ rfl (fun K_ => isNone_live (hh := ([(X.m, .map (entsI X.es) X.c, #[]), (X.q, .map (entsI X.ls) X.cq, #[])] ++ (X.t ++ hh))) (by omega) w0 _ K_) H ?_
  try clear H a W
  intro a W H
  replace H : St 17 w0 a W [(8, .bool false), (7, .pointer (some ⟨p, 0, none⟩)), (5, .int .i64 0), (4, .slice none 0 0), (0, .pointer (some ⟨p, 0, none⟩)), (1, .int .i64 ((n : Nat) : Int))] ((p, 58, (dkC ((D.B.length : Nat) : Int) (.map (some X.m)) (.slice X.A D.L.length X.cap) (.map (some X.q)) (decide (0 ≤ D.fuse)) X.lf D.dead)) :: (X.m, .map (entsI X.es) X.c, #[]) :: (X.q, .map (entsI X.ls) X.cq, #[]) :: (X.t ++ hh)) := H
  refine rgO H gs0 (rK [1, 0] [] [] <| rZ0 ?_)
  try clear H a W
  intro a W H
  refine hK3 _ _ ?_
  clear hK3
  refine wp_cond_false (H.ev rfl) ?_
  refine wp_skip ?_
  refine hK2 _ _ ?_
  clear hK2
  refine wp_seq_k (fun K4 hK4 => ?_)
  refine wp_seq_k (fun K5 hK5 => ?_)
  refine rgP H gs0 (rS 2 rfl <| rI0 ?_)
  try clear H a W
  intro a W H
  refine pl_callV rfl rfl ⟨_, Try.func41, by kernel_rfl⟩ rfl (fun K_ => by have h_ := has_p (hh := ([(X.m, .map (entsI X.es) X.c, #[]), (X.q, .map (entsI X.ls) X.cq, #[])] ++ (X.t ++ hh))) ((n : Nat) : Int) w0 _ K_; rw [hhas] at h_; exact h_) H ?_
  try clear H a W
  intro a W H
  replace H : St 17 w0 a W [(11, .bool true), (10, .int .i64 ((n : Nat) : Int)), (9, .pointer (some ⟨p, 0, none⟩)), (8, .bool false), (5, .int .i64 0), (4, .slice none 0 0), (0, .pointer (some ⟨p, 0, none⟩)), (1, .int .i64 ((n : Nat) : Int))] ((p, 58, (dkC ((D.B.length : Nat) : Int) (.map (some X.m)) (.slice X.A D.L.length X.cap) (.map (some X.q)) (decide (0 ≤ D.fuse)) X.lf D.dead)) :: (X.m, .map (entsI X.es) X.c, #[]) :: (X.q, .map (entsI X.ls) X.cq, #[]) :: (X.t ++ hh)) := H
  refine rgO H gs0 (rS 1 rfl <| rK [1, 0, 0, 0, 0] [] [] <| rZ0 ?_)
  try clear H a W
  intro a W H
  refine hK5 _ _ ?_
  clear hK5
  refine wp_cond_false (H.ev rfl) ?_
  refine wp_skip ?_
  refine hK4 _ _ ?_
  clear hK4
  refine wp_seq_k (fun K6 hK6 => ?_)
  refine rgP H gs0 (rS 2 rfl <| rI0 ?_)
  try clear H a W
  intro a W H
  replace H : St 17 w0 a W [(14, .int .i64 ((n : Nat) : Int)), (13, .pointer (some ⟨p, 0, none⟩)), (12, .bool false), (5, .int .i64 0), (4, .slice none 0 0), (0, .pointer (some ⟨p, 0, none⟩)), (1, .int .i64 ((n : Nat) : Int))] ((X.q, .map (entsI X.ls) X.cq, #[]) :: (p, 58, (dkC ((D.B.length : Nat) : Int) (.map (some X.m)) (.slice X.A D.L.length X.cap) (.map (some X.q)) (decide (0 ≤ D.fuse)) X.lf D.dead)) :: (X.m, .map (entsI X.es) X.c, #[]) :: (X.t ++ hh)) := H.perm' (@List.perm_middle (Nat × Tid × Array Value) (X.q, .map (entsI X.ls) X.cq, #[]) [(p, .ty 58, (dkC ((D.B.length : Nat) : Int) (.map (some X.m)) (.slice X.A D.L.length X.cap) (.map (some X.q)) (decide (0 ≤ D.fuse)) X.lf D.dead)), (X.m, .map (entsI X.es) X.c, #[])] (X.t ++ hh))
  replace H : St 17 w0 a W [(14, .int .i64 ((n : Nat) : Int)), (13, .pointer (some ⟨p, 0, none⟩)), (12, .bool false), (5, .int .i64 0), (4, .slice none 0 0), (0, .pointer (some ⟨p, 0, none⟩)), (1, .int .i64 ((n : Nat) : Int))] ((X.m, .map (entsI X.es) X.c, #[]) :: (X.q, .map (entsI X.ls) X.cq, #[]) :: (p, 58, (dkC ((D.B.length : Nat) : Int) (.map (some X.m)) (.slice X.A D.L.length X.cap) (.map (some X.q)) (decide (0 ≤ D.fuse)) X.lf D.dead)) :: (X.t ++ hh)) := H.perm' (@List.perm_middle (Nat × Tid × Array Value) (X.m, .map (entsI X.es) X.c, #[]) [(X.q, .map (entsI X.ls) X.cq, #[]), (p, .ty 58, (dkC ((D.B.length : Nat) : Int) (.map (some X.m)) (.slice X.A D.L.length X.cap) (.map (some X.q)) (decide (0 ≤ D.fuse)) X.lf D.dead))] (X.t ++ hh))
  replace H : St 17 w0 a W [(14, .int .i64 ((n : Nat) : Int)), (13, .pointer (some ⟨p, 0, none⟩)), (12, .bool false), (5, .int .i64 0), (4, .slice none 0 0), (0, .pointer (some ⟨p, 0, none⟩)), (1, .int .i64 ((n : Nat) : Int))] ((p, 58, (dkC ((D.B.length : Nat) : Int) (.map (some X.m)) (.slice X.A D.L.length X.cap) (.map (some X.q)) (decide (0 ≤ D.fuse)) X.lf D.dead)) :: (X.m, .map (entsI X.es) X.c, #[]) :: (X.q, .map (entsI X.ls) X.cq, #[]) :: (X.t ++ hh)) := H.perm' (@List.perm_middle (Nat × Tid × Array Value) (p, .ty 58, (dkC ((D.B.length : Nat) : Int) (.map (some X.m)) (.slice X.A D.L.length X.cap) (.map (some X.q)) (decide (0 ≤ D.fuse)) X.lf D.dead)) [(X.m, .map (entsI X.es) X.c, #[]), (X.q, .map (entsI X.ls) X.cq, #[])] (X.t ++ hh))
  refine pl_callV rfl rfl ⟨_, Try.func42, by kernel_rfl⟩ rfl (fun K_ => read_x (X := X) (p := p) (hh := hh) hX hn w0 _ K_) H ?_
  try clear H a W
  intro a W H
  replace H : St 17 w0 a W [(15, .agg (bvs (readB D n))), (14, .int .i64 ((n : Nat) : Int)), (13, .pointer (some ⟨p, 0, none⟩)), (12, .bool false), (5, .int .i64 0), (4, .slice none 0 0), (0, .pointer (some ⟨p, 0, none⟩)), (1, .int .i64 ((n : Nat) : Int))] ((p, 58, (dkC ((D.B.length : Nat) : Int) (.map (some X.m)) (.slice X.A D.L.length X.cap) (.map (some X.q)) (decide (0 ≤ D.fuse)) X.lf D.dead)) :: (X.m, .map (entsI X.es) X.c, #[]) :: (X.q, .map (entsI X.ls) X.cq, #[]) :: (X.t ++ hh)) := H
  refine rgO H gs0 (rA rfl rfl al_block fun g1 => rW [1] ⟨rfl, rfl⟩ rfl rfl rfl (info_block hl_r) (size_block zero_len hl_r) (bvs_oneP _) <| rK [1, 0, 0, 0, 0, 1, 1, 0, 0] [] [] <| rZ0 ?_)
  try clear H a W
  intro a W H
  refine hK6 _ _ ?_
  clear hK6
  refine sqR H gs0 fun Z_ z_ => rV rfl (does_slice rfl rfl (vl := none) (vh := none) rfl rfl sl_block) <| rK [1, 1, 1, 0] [] [] <| rS 1 rfl <| rK [1, 1, 1, 0] [] [] <| rS 1 rfl <| rK [1, 1, 0, 0] [] [] <| rN0 z_ ?_
  try clear H a W
  intro a W H
  refine wp_ret ?_
  repeat (first | (with_reducible refine then_ret ?_) | (with_reducible refine blk_ret ?_))
  refine end_tmps2 (p := 4) (q := 5) rfl rfl rfl H (fun hb => ?_)
  refine ⟨g1, rfl, ?_⟩
  show Kn w0 W ((g1, .ty 77, bvs (readB D n)) :: (p, .ty 58, (dkC ((D.B.length : Nat) : Int) (.map (some X.m)) (.slice X.A D.L.length X.cap) (.map (some X.q)) (decide (0 ≤ D.fuse)) X.lf D.dead)) :: (X.m, .map (entsI X.es) X.c, #[]) :: (X.q, .map (entsI X.ls) X.cq, #[]) :: (X.t ++ hh))
  have H_ := H.pickF (h := [(g1, .ty 77, bvs (readB D n)), (p, .ty 58, (dkC ((D.B.length : Nat) : Int) (.map (some X.m)) (.slice X.A D.L.length X.cap) (.map (some X.q)) (decide (0 ≤ D.fuse)) X.lf D.dead)), (X.m, .map (entsI X.es) X.c, #[]), (X.q, .map (entsI X.ls) X.cq, #[])]) (t := (X.t ++ hh)) [] [0, 1, 2, 3] rfl
  exact H_.kn
set_option maxHeartbeats 4000000 in
theorem fuse_no {X : DX} {p : Nat} {D : Dk} {hh : Hep} (n : Int) (hno : decide (n < 0) = true) (hX : X.ok D) (w0 w : World) (K : Kn w0 w (X.rows p D ++ hh)) : Calls Try.prog 26 #[.pointer (some ⟨p, 0, none⟩), .int .i64 n] w (fun rr w' => rr = .returned (.int .i64 2) ∧ Kn w0 w' (X.rows p D ++ hh)) := by
  have hnb := hX.nb
  have hlf := hX.lf
  have hnl := hX.nl
  refine calls_kn (vs := [.pointer (some ⟨p, 0, none⟩), .int .i64 n]) 16 Try.func26 rfl Try.ntmps26 rfl K (fun a W H => ?_)
  replace H : St 16 w0 a W [(0, .pointer (some ⟨p, 0, none⟩)), (1, .int .i64 n)] ((p, 58, (dkC ((D.B.length : Nat) : Int) (.map (some X.m)) (.slice X.A D.L.length X.cap) (.map (some X.q)) (decide (0 ≤ D.fuse)) X.lf D.dead)) :: (X.m, .map (entsI X.es) X.c, #[]) :: (X.q, .map (entsI X.ls) X.cq, #[]) :: (X.t ++ hh)) := H
  refine sqR H gs0 fun Z_ z_ => rS 1 rfl <| rN0 z_ ?_
  try clear H a W
  intro a W H
  refine wp_seq_k (fun K2 hK2 => ?_)
  refine wp_seq_k (fun K3 hK3 => ?_)
  refine rgP H gs0 (rS 1 rfl <| rI0 ?_)
  try clear H a W
  intro a W H
  refine pl_callV rfl rfl ⟨_, Try.func40, by kernel_rfl⟩ rfl (fun K_ => isNone_live (hh := ([(X.m, .map (entsI X.es) X.c, #[]), (X.q, .map (entsI X.ls) X.cq, #[])] ++ (X.t ++ hh))) (by omega) w0 _ K_) H ?_
  try clear H a W
  intro a W H
  replace H : St 16 w0 a W [(6, .bool false), (5, .pointer (some ⟨p, 0, none⟩)), (4, .int .i64 0), (0, .pointer (some ⟨p, 0, none⟩)), (1, .int .i64 n)] ((p, 58, (dkC ((D.B.length : Nat) : Int) (.map (some X.m)) (.slice X.A D.L.length X.cap) (.map (some X.q)) (decide (0 ≤ D.fuse)) X.lf D.dead)) :: (X.m, .map (entsI X.es) X.c, #[]) :: (X.q, .map (entsI X.ls) X.cq, #[]) :: (X.t ++ hh)) := H
  refine rgO H gs0 (rK [1, 0] [] [] <| rZ0 ?_)
  try clear H a W
  intro a W H
  refine hK3 _ _ ?_
  clear hK3
  refine wp_cond_false (H.ev rfl) ?_
  refine wp_skip ?_
  refine hK2 _ _ ?_
  clear hK2
  refine wp_seq_k (fun K4 hK4 => ?_)
  refine sqR H gs0 fun Z_ z_ => rS 1 rfl <| rV rfl (does_binOp rfl rfl rfl (zd_lss_int (k := n) (m := 0) hno _ _)) <| rK [1, 0, 0] [] [] <| rN0 z_ ?_
  try clear H a W
  intro a W H
  refine wp_cond_true (H.ev rfl) ?_
  refine sqR H gs0 fun Z_ z_ => rK [1, 0] [] [] <| rS 1 rfl <| rK [1, 0] [] [] <| rN0 z_ ?_
  try clear H a W
  intro a W H
  refine wp_ret ?_
  repeat (first | (with_reducible refine then_ret ?_) | (with_reducible refine blk_ret ?_))
  refine end_tmp (p := 4) rfl rfl H (fun hb => ?_)
  refine ⟨rfl, ?_⟩
  show Kn w0 W ((p, .ty 58, (dkC ((D.B.length : Nat) : Int) (.map (some X.m)) (.slice X.A D.L.length X.cap) (.map (some X.q)) (decide (0 ≤ D.fuse)) X.lf D.dead)) :: (X.m, .map (entsI X.es) X.c, #[]) :: (X.q, .map (entsI X.ls) X.cq, #[]) :: (X.t ++ hh))
  have H_ := H.pickF (h := [(p, .ty 58, (dkC ((D.B.length : Nat) : Int) (.map (some X.m)) (.slice X.A D.L.length X.cap) (.map (some X.q)) (decide (0 ≤ D.fuse)) X.lf D.dead)), (X.m, .map (entsI X.es) X.c, #[]), (X.q, .map (entsI X.ls) X.cq, #[])]) (t := (X.t ++ hh)) [] [0, 1, 2] rfl
  exact H_.kn
set_option maxHeartbeats 4000000 in
theorem fuse_yes {X : DX} {p : Nat} {D : Dk} {hh : Hep} (n : Int) (h0 : 0 ≤ n) (h1 : n < 9223372036854775808) (hX : X.ok D) (w0 w : World) (K : Kn w0 w (X.rows p D ++ hh)) : Calls Try.prog 26 #[.pointer (some ⟨p, 0, none⟩), .int .i64 n] w (fun rr w' => ∃ r', rr = .returned (.int .i64 0) ∧ PO p { D with fuse := n } r' ∧ Kn w0 w' (r' ++ hh)) := by
  have hnb := hX.nb
  have hlf := hX.lf
  have hnl := hX.nl
  have hno : decide (n < 0) = false := decide_eq_false (by omega)
  refine calls_kn (vs := [.pointer (some ⟨p, 0, none⟩), .int .i64 n]) 16 Try.func26 rfl Try.ntmps26 rfl K (fun a W H => ?_)
  replace H : St 16 w0 a W [(0, .pointer (some ⟨p, 0, none⟩)), (1, .int .i64 n)] ((p, 58, (dkC ((D.B.length : Nat) : Int) (.map (some X.m)) (.slice X.A D.L.length X.cap) (.map (some X.q)) (decide (0 ≤ D.fuse)) X.lf D.dead)) :: (X.m, .map (entsI X.es) X.c, #[]) :: (X.q, .map (entsI X.ls) X.cq, #[]) :: (X.t ++ hh)) := H
  refine sqR H gs0 fun Z_ z_ => rS 1 rfl <| rN0 z_ ?_
  try clear H a W
  intro a W H
  refine wp_seq_k (fun K2 hK2 => ?_)
  refine wp_seq_k (fun K3 hK3 => ?_)
  refine rgP H gs0 (rS 1 rfl <| rI0 ?_)
  try clear H a W
  intro a W H
  refine pl_callV rfl rfl ⟨_, Try.func40, by kernel_rfl⟩ rfl (fun K_ => isNone_live (hh := ([(X.m, .map (entsI X.es) X.c, #[]), (X.q, .map (entsI X.ls) X.cq, #[])] ++ (X.t ++ hh))) (by omega) w0 _ K_) H ?_
  try clear H a W
  intro a W H
  replace H : St 16 w0 a W [(6, .bool false), (5, .pointer (some ⟨p, 0, none⟩)), (4, .int .i64 0), (0, .pointer (some ⟨p, 0, none⟩)), (1, .int .i64 n)] ((p, 58, (dkC ((D.B.length : Nat) : Int) (.map (some X.m)) (.slice X.A D.L.length X.cap) (.map (some X.q)) (decide (0 ≤ D.fuse)) X.lf D.dead)) :: (X.m, .map (entsI X.es) X.c, #[]) :: (X.q, .map (entsI X.ls) X.cq, #[]) :: (X.t ++ hh)) := H
  refine rgO H gs0 (rK [1, 0] [] [] <| rZ0 ?_)
  try clear H a W
  intro a W H
  refine hK3 _ _ ?_
  clear hK3
  refine wp_cond_false (H.ev rfl) ?_
  refine wp_skip ?_
  refine hK2 _ _ ?_
  clear hK2
  refine wp_seq_k (fun K4 hK4 => ?_)
  refine sqR H gs0 fun Z_ z_ => rS 1 rfl <| rV rfl (does_binOp rfl rfl rfl (zd_lss_int (k := n) (m := 0) hno _ _)) <| rK [1, 0, 0] [] [] <| rN0 z_ ?_
  try clear H a W
  intro a W H
  refine wp_cond_false (H.ev rfl) ?_
  refine wp_skip ?_
  refine hK4 _ _ ?_
  clear hK4
  refine sqR H gs0 fun Z_ z_ => rS 3 rfl <| rV rfl (does_nilCheckQ rfl rfl) <| rV rfl (does_fieldAddr rfl rfl (fa_dk 4 (by decide))) <| rX [1] (c := (dkC ((D.B.length : Nat) : Int) (.map (some X.m)) (.slice X.A D.L.length X.cap) (.map (some X.q)) true X.lf D.dead)) ⟨rfl, rfl⟩ rfl rfl rfl (st_dk4) rfl <| rV rfl (does_nilCheckQ rfl rfl) <| rV rfl (does_fieldAddr rfl rfl (fa_dk 5 (by decide))) <| rX [1] (c := (dkC ((D.B.length : Nat) : Int) (.map (some X.m)) (.slice X.A D.L.length X.cap) (.map (some X.q)) true n D.dead)) ⟨rfl, rfl⟩ rfl rfl rfl (st_dk5) rfl <| rK [0, 0, 0, 0, 0, 0, 0, 0, 1, 0, 0] [] [] <| rN0 z_ ?_
  try clear H a W
  intro a W H
  refine sqR H gs0 fun Z_ z_ => rK [0] [] [] <| rS 1 rfl <| rN0 z_ ?_
  try clear H a W
  intro a W H
  refine wp_ret ?_
  repeat (first | (with_reducible refine then_ret ?_) | (with_reducible refine blk_ret ?_))
  refine end_tmp (p := 4) rfl rfl H (fun hb => ?_)
  have eR : DX.row { X with lf := n } { D with fuse := n } = dkC ((D.B.length : Nat) : Int) (.map (some X.m)) (.slice X.A D.L.length X.cap) (.map (some X.q)) true n D.dead := by unfold DX.row; dsimp only; rw [show decide (0 ≤ n) = true from decide_eq_true (by omega)]
  refine ⟨DX.rows { X with lf := n } p { D with fuse := n }, rfl, ⟨{ X with lf := n }, rfl, ⟨hX.od, hX.sb, hX.lt, ⟨by show 0 ≤ n; omega, by show n < _; omega, fun _ => rfl⟩, ⟨hX.dk.B, hX.dk.L⟩, hX.nb, hX.nl⟩⟩, ?_⟩
  unfold DX.rows
  rw [eR]
  show Kn w0 W ((p, .ty 58, (dkC ((D.B.length : Nat) : Int) (.map (some X.m)) (.slice X.A D.L.length X.cap) (.map (some X.q)) true n D.dead)) :: (X.m, .map (entsI X.es) X.c, #[]) :: (X.q, .map (entsI X.ls) X.cq, #[]) :: (X.t ++ hh))
  have H_ := H.pickF (h := [(p, .ty 58, (dkC ((D.B.length : Nat) : Int) (.map (some X.m)) (.slice X.A D.L.length X.cap) (.map (some X.q)) true n D.dead)), (X.m, .map (entsI X.es) X.c, #[]), (X.q, .map (entsI X.ls) X.cq, #[])]) (t := (X.t ++ hh)) [] [0, 1, 2] rfl
  exact H_.kn
set_option maxHeartbeats 4000000 in
theorem write_no1 {X : DX} {p : Nat} {D : Dk} {hh : Hep} {Ab : Option Addr} {kb cb : Nat} (hkb : kb < 9223372036854775808) (n : Int) (hno : decide (0 ≤ n ∧ n < ((D.B.length : Nat) : Int)) = false) (hX : X.ok D) (w0 w : World) (K : Kn w0 w (X.rows p D ++ hh)) : Calls Try.prog 28 #[.pointer (some ⟨p, 0, none⟩), .int .i64 n, .slice Ab kb cb] w (fun rr w' => rr = .returned (.int .i64 2) ∧ Kn w0 w' (X.rows p D ++ hh)) := by
  have hnb := hX.nb
  have hlf := hX.lf
  have hnl := hX.nl
  refine calls_kn (vs := [.pointer (some ⟨p, 0, none⟩), .int .i64 n, .slice Ab kb cb]) 48 Try.func28 rfl Try.ntmps28 rfl K (fun a W H => ?_)
  replace H : St 48 w0 a W [(0, .pointer (some ⟨p, 0, none⟩)), (1, .int .i64 n), (2, .slice Ab kb cb)] ((p, 58, (dkC ((D.B.length : Nat) : Int) (.map (some X.m)) (.slice X.A D.L.length X.cap) (.map (some X.q)) (decide (0 ≤ D.fuse)) X.lf D.dead)) :: (X.m, .map (entsI X.es) X.c, #[]) :: (X.q, .map (entsI X.ls) X.cq, #[]) :: (X.t ++ hh)) := H
  refine sqR H gs0 fun Z_ z_ => rS 1 rfl <| rN0 z_ ?_
  try clear H a W
  intro a W H
  refine wp_seq_k (fun K2 hK2 => ?_)
  refine wp_seq_k (fun K3 hK3 => ?_)
  refine rgP H gs0 (rS 1 rfl <| rI0 ?_)
  try clear H a W
  intro a W H
  refine pl_callV rfl rfl ⟨_, Try.func40, by kernel_rfl⟩ rfl (fun K_ => isNone_live (hh := ([(X.m, .map (entsI X.es) X.c, #[]), (X.q, .map (entsI X.ls) X.cq, #[])] ++ (X.t ++ hh))) (by omega) w0 _ K_) H ?_
  try clear H a W
  intro a W H
  replace H : St 48 w0 a W [(8, .bool false), (7, .pointer (some ⟨p, 0, none⟩)), (6, .int .i64 0), (0, .pointer (some ⟨p, 0, none⟩)), (1, .int .i64 n), (2, .slice Ab kb cb)] ((p, 58, (dkC ((D.B.length : Nat) : Int) (.map (some X.m)) (.slice X.A D.L.length X.cap) (.map (some X.q)) (decide (0 ≤ D.fuse)) X.lf D.dead)) :: (X.m, .map (entsI X.es) X.c, #[]) :: (X.q, .map (entsI X.ls) X.cq, #[]) :: (X.t ++ hh)) := H
  refine rgO H gs0 (rK [1, 0] [] [] <| rZ0 ?_)
  try clear H a W
  intro a W H
  refine hK3 _ _ ?_
  clear hK3
  refine wp_cond_false (H.ev rfl) ?_
  refine wp_skip ?_
  refine hK2 _ _ ?_
  clear hK2
  refine wp_seq_k (fun K4 hK4 => ?_)
  refine wp_seq_k (fun K5 hK5 => ?_)
  refine rgP H gs0 (rS 2 rfl <| rI0 ?_)
  try clear H a W
  intro a W H
  refine pl_callV rfl rfl ⟨_, Try.func41, by kernel_rfl⟩ rfl (fun K_ => by have h_ := has_p (hh := ([(X.m, .map (entsI X.es) X.c, #[]), (X.q, .map (entsI X.ls) X.cq, #[])] ++ (X.t ++ hh))) n w0 _ K_; rw [hno] at h_; exact h_) H ?_
  try clear H a W
  intro a W H
  replace H : St 48 w0 a W [(11, .bool false), (10, .int .i64 n), (9, .pointer (some ⟨p, 0, none⟩)), (8, .bool false), (6, .int .i64 0), (0, .pointer (some ⟨p, 0, none⟩)), (1, .int .i64 n), (2, .slice Ab kb cb)] ((p, 58, (dkC ((D.B.length : Nat) : Int) (.map (some X.m)) (.slice X.A D.L.length X.cap) (.map (some X.q)) (decide (0 ≤ D.fuse)) X.lf D.dead)) :: (X.m, .map (entsI X.es) X.c, #[]) :: (X.q, .map (entsI X.ls) X.cq, #[]) :: (X.t ++ hh)) := H
  refine rgO H gs0 (rS 6 rfl <| rK [1, 0, 0, 0, 0, 0, 0, 0, 0, 0] [] [] <| rZ0 ?_)
  try clear H a W
  intro a W H
  refine hK5 _ _ ?_
  clear hK5
  refine wp_cond_true (H.ev rfl) ?_
  refine sqR H gs0 fun Z_ z_ => rK [1, 0] [] [] <| rS 1 rfl <| rK [1, 0] [] [] <| rN0 z_ ?_
  try clear H a W
  intro a W H
  refine wp_ret ?_
  repeat (first | (with_reducible refine then_ret ?_) | (with_reducible refine blk_ret ?_))
  refine end_tmp (p := 6) rfl rfl H (fun hb => ?_)
  refine ⟨rfl, ?_⟩
  show Kn w0 W ((p, .ty 58, (dkC ((D.B.length : Nat) : Int) (.map (some X.m)) (.slice X.A D.L.length X.cap) (.map (some X.q)) (decide (0 ≤ D.fuse)) X.lf D.dead)) :: (X.m, .map (entsI X.es) X.c, #[]) :: (X.q, .map (entsI X.ls) X.cq, #[]) :: (X.t ++ hh))
  have H_ := H.pickF (h := [(p, .ty 58, (dkC ((D.B.length : Nat) : Int) (.map (some X.m)) (.slice X.A D.L.length X.cap) (.map (some X.q)) (decide (0 ≤ D.fuse)) X.lf D.dead)), (X.m, .map (entsI X.es) X.c, #[]), (X.q, .map (entsI X.ls) X.cq, #[])]) (t := (X.t ++ hh)) [] [0, 1, 2] rfl
  exact H_.kn
set_option maxHeartbeats 4000000 in
theorem write_no2 {X : DX} {p : Nat} {D : Dk} {hh : Hep} {Ab : Option Addr} {kb cb : Nat} (hkb : kb < 9223372036854775808) (n : Nat) (hn : n < D.B.length) (hno : decide (((kb : Nat) : Int) ≠ 512) = true) (hX : X.ok D) (w0 w : World) (K : Kn w0 w (X.rows p D ++ hh)) : Calls Try.prog 28 #[.pointer (some ⟨p, 0, none⟩), .int .i64 ((n : Nat) : Int), .slice Ab kb cb] w (fun rr w' => rr = .returned (.int .i64 2) ∧ Kn w0 w' (X.rows p D ++ hh)) := by
  have hnb := hX.nb
  have hlf := hX.lf
  have hnl := hX.nl
  have hhas : decide (0 ≤ ((n : Nat) : Int) ∧ ((n : Nat) : Int) < ((D.B.length : Nat) : Int)) = true := decide_eq_true (by omega)
  refine calls_kn (vs := [.pointer (some ⟨p, 0, none⟩), .int .i64 ((n : Nat) : Int), .slice Ab kb cb]) 48 Try.func28 rfl Try.ntmps28 rfl K (fun a W H => ?_)
  replace H : St 48 w0 a W [(0, .pointer (some ⟨p, 0, none⟩)), (1, .int .i64 ((n : Nat) : Int)), (2, .slice Ab kb cb)] ((p, 58, (dkC ((D.B.length : Nat) : Int) (.map (some X.m)) (.slice X.A D.L.length X.cap) (.map (some X.q)) (decide (0 ≤ D.fuse)) X.lf D.dead)) :: (X.m, .map (entsI X.es) X.c, #[]) :: (X.q, .map (entsI X.ls) X.cq, #[]) :: (X.t ++ hh)) := H
  refine sqR H gs0 fun Z_ z_ => rS 1 rfl <| rN0 z_ ?_
  try clear H a W
  intro a W H
  refine wp_seq_k (fun K2 hK2 => ?_)
  refine wp_seq_k (fun K3 hK3 => ?_)
  refine rgP H gs0 (rS 1 rfl <| rI0 ?_)
  try clear H a W
  intro a W H
  refine pl_callV rfl rfl ⟨_, Try.func40, by kernel_rfl⟩ rfl (fun K_ => isNone_live (hh := ([(X.m, .map (entsI X.es) X.c, #[]), (X.q, .map (entsI X.ls) X.cq, #[])] ++ (X.t ++ hh))) (by omega) w0 _ K_) H ?_
  try clear H a W
  intro a W H
  replace H : St 48 w0 a W [(8, .bool false), (7, .pointer (some ⟨p, 0, none⟩)), (6, .int .i64 0), (0, .pointer (some ⟨p, 0, none⟩)), (1, .int .i64 ((n : Nat) : Int)), (2, .slice Ab kb cb)] ((p, 58, (dkC ((D.B.length : Nat) : Int) (.map (some X.m)) (.slice X.A D.L.length X.cap) (.map (some X.q)) (decide (0 ≤ D.fuse)) X.lf D.dead)) :: (X.m, .map (entsI X.es) X.c, #[]) :: (X.q, .map (entsI X.ls) X.cq, #[]) :: (X.t ++ hh)) := H
  refine rgO H gs0 (rK [1, 0] [] [] <| rZ0 ?_)
  try clear H a W
  intro a W H
  refine hK3 _ _ ?_
  clear hK3
  refine wp_cond_false (H.ev rfl) ?_
  refine wp_skip ?_
  refine hK2 _ _ ?_
  clear hK2
  refine wp_seq_k (fun K4 hK4 => ?_)
  refine wp_seq_k (fun K5 hK5 => ?_)
  refine rgP H gs0 (rS 2 rfl <| rI0 ?_)
  try clear H a W
  intro a W H
  refine pl_callV rfl rfl ⟨_, Try.func41, by kernel_rfl⟩ rfl (fun K_ => by have h_ := has_p (hh := ([(X.m, .map (entsI X.es) X.c, #[]), (X.q, .map (entsI X.ls) X.cq, #[])] ++ (X.t ++ hh))) ((n : Nat) : Int) w0 _ K_; rw [hhas] at h_; exact h_) H ?_
  try clear H a W
  intro a W H
  replace H : St 48 w0 a W [(11, .bool true), (10, .int .i64 ((n : Nat) : Int)), (9, .pointer (some ⟨p, 0, none⟩)), (8, .bool false), (6, .int .i64 0), (0, .pointer (some ⟨p, 0, none⟩)), (1, .int .i64 ((n : Nat) : Int)), (2, .slice Ab kb cb)] ((p, 58, (dkC ((D.B.length : Nat) : Int) (.map (some X.m)) (.slice X.A D.L.length X.cap) (.map (some X.q)) (decide (0 ≤ D.fuse)) X.lf D.dead)) :: (X.m, .map (entsI X.es) X.c, #[]) :: (X.q, .map (entsI X.ls) X.cq, #[]) :: (X.t ++ hh)) := H
  refine rgO H gs0 (rS 3 rfl <| rV rfl (does_len Try.underlying39 rfl rfl) <| rV rfl (does_binOp rfl rfl rfl (zd_neq_int (k := ((kb : Nat) : Int)) (m := 512) hno _ _)) <| rS 1 rfl <| rK [1, 0, 0, 0, 0, 0, 0, 0, 0, 0] [] [] <| rZ0 ?_)
  try clear H a W
  intro a W H
  refine hK5 _ _ ?_
  clear hK5
  refine wp_cond_true (H.ev rfl) ?_
  refine sqR H gs0 fun Z_ z_ => rK [1, 0] [] [] <| rS 1 rfl <| rK [1, 0] [] [] <| rN0 z_ ?_
  try clear H a W
  intro a W H
  refine wp_ret ?_
  repeat (first | (with_reducible refine then_ret ?_) | (with_reducible refine blk_ret ?_))
  refine end_tmp (p := 6) rfl rfl H (fun hb => ?_)
  refine ⟨rfl, ?_⟩
  show Kn w0 W ((p, .ty 58, (dkC ((D.B.length : Nat) : Int) (.map (some X.m)) (.slice X.A D.L.length X.cap) (.map (some X.q)) (decide (0 ≤ D.fuse)) X.lf D.dead)) :: (X.m, .map (entsI X.es) X.c, #[]) :: (X.q, .map (entsI X.ls) X.cq, #[]) :: (X.t ++ hh))
  have H_ := H.pickF (h := [(p, .ty 58, (dkC ((D.B.length : Nat) : Int) (.map (some X.m)) (.slice X.A D.L.length X.cap) (.map (some X.q)) (decide (0 ≤ D.fuse)) X.lf D.dead)), (X.m, .map (entsI X.es) X.c, #[]), (X.q, .map (entsI X.ls) X.cq, #[])]) (t := (X.t ++ hh)) [] [0, 1, 2] rfl
  exact H_.kn
set_option maxHeartbeats 4000000 in
theorem write_dead {X : DX} {p : Nat} {D : Dk} {hh : Hep} {gb cb : Nat} (n : Nat) (hn : n < D.B.length) (hdd : D.dead = true) (hX : X.ok D) (w0 w : World) (K : Kn w0 w (X.rows p D ++ hh)) : Calls Try.prog 28 #[.pointer (some ⟨p, 0, none⟩), .int .i64 ((n : Nat) : Int), .slice (some ⟨gb, 0, none⟩) 512 cb] w (fun rr w' => rr = .returned (.int .i64 14) ∧ Kn w0 w' (X.rows p D ++ hh)) := by
  have hnb := hX.nb
  have hlf := hX.lf
  have hnl := hX.nl
  have hhas : decide (0 ≤ ((n : Nat) : Int) ∧ ((n : Nat) : Int) < ((D.B.length : Nat) : Int)) = true := decide_eq_true (by omega)
  unfold DX.rows DX.row at K ⊢
  rw [hdd] at K ⊢
  refine calls_kn (vs := [.pointer (some ⟨p, 0, none⟩), .int .i64 ((n : Nat) : Int), .slice (some ⟨gb, 0, none⟩) 512 cb]) 48 Try.func28 rfl Try.ntmps28 rfl K (fun a W H => ?_)
  replace H : St 48 w0 a W [(0, .pointer (some ⟨p, 0, none⟩)), (1, .int .i64 ((n : Nat) : Int)), (2, .slice (some ⟨gb, 0, none⟩) 512 cb)] ((p, 58, (dkC ((D.B.length : Nat) : Int) (.map (some X.m)) (.slice X.A D.L.length X.cap) (.map (some X.q)) (decide (0 ≤ D.fuse)) X.lf true)) :: (X.m, .map (entsI X.es) X.c, #[]) :: (X.q, .map (entsI X.ls) X.cq, #[]) :: (X.t ++ hh)) := H
  refine sqR H gs0 fun Z_ z_ => rS 1 rfl <| rN0 z_ ?_
  try clear H a W
  intro a W H
  refine wp_seq_k (fun K2 hK2 => ?_)
  refine wp_seq_k (fun K3 hK3 => ?_)
  refine rgP H gs0 (rS 1 rfl <| rI0 ?_)
  try clear H a W
  intro a W H
  refine pl_callV rfl rfl ⟨_, Try.func40, by kernel_rfl⟩ rfl (fun K_ => isNone_live (hh := ([(X.m, .map (entsI X.es) X.c, #[]), (X.q, .map (entsI X.ls) X.cq, #[])] ++ (X.t ++ hh))) (by omega) w0 _ K_) H ?_
  try clear H a W
  intro a W H
  replace H : St 48 w0 a W [(8, .bool false), (7, .pointer (some ⟨p, 0, none⟩)), (6, .int .i64 0), (0, .pointer (some ⟨p, 0, none⟩)), (1, .int .i64 ((n : Nat) : Int)), (2, .slice (some ⟨gb, 0, none⟩) 512 cb)] ((p, 58, (dkC ((D.B.length : Nat) : Int) (.map (some X.m)) (.slice X.A D.L.length X.cap) (.map (some X.q)) (decide (0 ≤ D.fuse)) X.lf true)) :: (X.m, .map (entsI X.es) X.c, #[]) :: (X.q, .map (entsI X.ls) X.cq, #[]) :: (X.t ++ hh)) := H
  refine rgO H gs0 (rK [1, 0] [] [] <| rZ0 ?_)
  try clear H a W
  intro a W H
  refine hK3 _ _ ?_
  clear hK3
  refine wp_cond_false (H.ev rfl) ?_
  refine wp_skip ?_
  refine hK2 _ _ ?_
  clear hK2
  refine wp_seq_k (fun K4 hK4 => ?_)
  refine wp_seq_k (fun K5 hK5 => ?_)
  refine rgP H gs0 (rS 2 rfl <| rI0 ?_)
  try clear H a W
  intro a W H
  refine pl_callV rfl rfl ⟨_, Try.func41, by kernel_rfl⟩ rfl (fun K_ => by have h_ := has_p (hh := ([(X.m, .map (entsI X.es) X.c, #[]), (X.q, .map (entsI X.ls) X.cq, #[])] ++ (X.t ++ hh))) ((n : Nat) : Int) w0 _ K_; rw [hhas] at h_; exact h_) H ?_
  try clear H a W
  intro a W H
  replace H : St 48 w0 a W [(11, .bool true), (10, .int .i64 ((n : Nat) : Int)), (9, .pointer (some ⟨p, 0, none⟩)), (8, .bool false), (6, .int .i64 0), (0, .pointer (some ⟨p, 0, none⟩)), (1, .int .i64 ((n : Nat) : Int)), (2, .slice (some ⟨gb, 0, none⟩) 512 cb)] ((p, 58, (dkC ((D.B.length : Nat) : Int) (.map (some X.m)) (.slice X.A D.L.length X.cap) (.map (some X.q)) (decide (0 ≤ D.fuse)) X.lf true)) :: (X.m, .map (entsI X.es) X.c, #[]) :: (X.q, .map (entsI X.ls) X.cq, #[]) :: (X.t ++ hh)) := H
  refine rgO H gs0 (rS 3 rfl <| rV rfl (does_len Try.underlying39 rfl rfl) <| rV rfl (does_binOp rfl rfl rfl (zd_neq_int (k := ((512 : Nat) : Int)) (m := 512) (decide_eq_false (by decide)) _ _)) <| rS 1 rfl <| rK [1, 0, 0, 0, 0, 0, 0, 0, 0, 0] [] [] <| rZ0 ?_)
  try clear H a W
  intro a W H
  refine hK5 _ _ ?_
  clear hK5
  refine wp_cond_false (H.ev rfl) ?_
  refine wp_skip ?_
  refine hK4 _ _ ?_
  clear hK4
  refine wp_seq_k (fun K6 hK6 => ?_)
  refine sqR H gs0 fun Z_ z_ => rS 1 rfl <| rV rfl (does_nilCheckQ rfl rfl) <| rV rfl (does_fieldAddr rfl rfl (fa_dk 6 (by decide))) <| rV rfl (does_loadAt (v := .bool true) rfl rfl (k := 0) rfl ld_dk6) <| rK [1, 0, 0, 0, 0] [] [] <| rN0 z_ ?_
  try clear H a W
  intro a W H
  refine wp_cond_true (H.ev rfl) ?_
  refine sqR H gs0 fun Z_ z_ => rK [1, 0] [] [] <| rS 1 rfl <| rK [1, 0] [] [] <| rN0 z_ ?_
  try clear H a W
  intro a W H
  refine wp_ret ?_
  repeat (first | (with_reducible refine then_ret ?_) | (with_reducible refine blk_ret ?_))
  refine end_tmp (p := 6) rfl rfl H (fun hb => ?_)
  refine ⟨rfl, ?_⟩
  show Kn w0 W ((p, .ty 58, (dkC ((D.B.length : Nat) : Int) (.map (some X.m)) (.slice X.A D.L.length X.cap) (.map (some X.q)) (decide (0 ≤ D.fuse)) X.lf true)) :: (X.m, .map (entsI X.es) X.c, #[]) :: (X.q, .map (entsI X.ls) X.cq, #[]) :: (X.t ++ hh))
  have H_ := H.pickF (h := [(p, .ty 58, (dkC ((D.B.length : Nat) : Int) (.map (some X.m)) (.slice X.A D.L.length X.cap) (.map (some X.q)) (decide (0 ≤ D.fuse)) X.lf true)), (X.m, .map (entsI X.es) X.c, #[]), (X.q, .map (entsI X.ls) X.cq, #[])]) (t := (X.t ++ hh)) [] [0, 1, 2] rfl
  exact H_.kn
set_option maxHeartbeats 4000000 in
theorem write_yes {X : DX} {p : Nat} {D : Dk} {hh : Hep} {gb cb : Nat} (n : Nat) (hn : n < D.B.length) {b : List UInt8} (hl_b : b.length = 512) (hb : (gb, .ty 5, bvs b) ∈ hh) (hdd : D.dead = false) (hnl2 : D.L.length < 10000) (hX : X.ok D) (w0 w : World) (K : Kn w0 w (X.rows p D ++ hh)) : Calls Try.prog 28 #[.pointer (some ⟨p, 0, none⟩), .int .i64 ((n : Nat) : Int), .slice (some ⟨gb, 0, none⟩) 512 cb] w (fun rr w' => ∃ r', rr = .returned (.int .i64 (dStep D).2) ∧ PO p (Dk.mk D.B (D.L ++ [(n, b)]) (dStep D).1.fuse (dStep D).1.dead) r' ∧ Kn w0 w' (r' ++ hh)) := by
  have hnb := hX.nb
  have hlf := hX.lf
  have hnl := hX.nl
  have hhas : decide (0 ≤ ((n : Nat) : Int) ∧ ((n : Nat) : Int) < ((D.B.length : Nat) : Int)) = true := decide_eq_true (by omega)
  have hso := step_ok hdd hlf
  obtain ⟨hB, _⟩ := step_same D
  have hok2 : Dk.ok (Dk.mk D.B (D.L ++ [(n, b)]) (dStep D).1.fuse (dStep D).1.dead) := ⟨hX.dk.B, fun q hq => by
    rcases List.mem_append.1 hq with hq | hq
    · exact hX.dk.L q hq
    · rw [List.mem_singleton.1 hq]; exact ⟨hn, hl_b⟩⟩
  unfold DX.rows DX.row at K
  rw [hdd] at K
  refine calls_kn (vs := [.pointer (some ⟨p, 0, none⟩), .int .i64 ((n : Nat) : Int), .slice (some ⟨gb, 0, none⟩) 512 cb]) 48 Try.func28 rfl Try.ntmps28 rfl K (fun a W H => ?_)
  replace H : St 48 w0 a W [(0, .pointer (some ⟨p, 0, none⟩)), (1, .int .i64 ((n : Nat) : Int)), (2, .slice (some ⟨gb, 0, none⟩) 512 cb)] ((p, 58, (dkC ((D.B.length : Nat) : Int) (.map (some X.m)) (.slice X.A D.L.length X.cap) (.map (some X.q)) (decide (0 ≤ D.fuse)) X.lf false)) :: (X.m, .map (entsI X.es) X.c, #[]) :: (X.q, .map (entsI X.ls) X.cq, #[]) :: (X.t ++ hh)) := H
  refine sqR H gs0 fun Z_ z_ => rS 1 rfl <| rN0 z_ ?_
  try clear H a W
  intro a W H
  refine wp_seq_k (fun K2 hK2 => ?_)
  refine wp_seq_k (fun K3 hK3 => ?_)
  refine rgP H gs0 (rS 1 rfl <| rI0 ?_)
  try clear H a W
  intro a W H
  refine pl_callV rfl rfl ⟨_, Try.func40, by kernel_rfl⟩ rfl (fun K_ => isNone_live (hh := ([(X.m, .map (entsI X.es) X.c, #[]), (X.q, .map (entsI X.ls) X.cq, #[])] ++ (X.t ++ hh))) (by omega) w0 _ K_) H ?_
  try clear H a W
  intro a W H
  replace H : St 48 w0 a W [(8, .bool false), (7, .pointer (some ⟨p, 0, none⟩)), (6, .int .i64 0), (0, .pointer (some ⟨p, 0, none⟩)), (1, .int .i64 ((n : Nat) : Int)), (2, .slice (some ⟨gb, 0, none⟩) 512 cb)] ((p, 58, (dkC ((D.B.length : Nat) : Int) (.map (some X.m)) (.slice X.A D.L.length X.cap) (.map (some X.q)) (decide (0 ≤ D.fuse)) X.lf false)) :: (X.m, .map (entsI X.es) X.c, #[]) :: (X.q, .map (entsI X.ls) X.cq, #[]) :: (X.t ++ hh)) := H
  refine rgO H gs0 (rK [1, 0] [] [] <| rZ0 ?_)
  try clear H a W
  intro a W H
  refine hK3 _ _ ?_
  clear hK3
  refine wp_cond_false (H.ev rfl) ?_
  refine wp_skip ?_
  refine hK2 _ _ ?_
  clear hK2
  refine wp_seq_k (fun K4 hK4 => ?_)
  refine wp_seq_k (fun K5 hK5 => ?_)
  refine rgP H gs0 (rS 2 rfl <| rI0 ?_)
  try clear H a W
  intro a W H
  refine pl_callV rfl rfl ⟨_, Try.func41, by kernel_rfl⟩ rfl (fun K_ => by have h_ := has_p (hh := ([(X.m, .map (entsI X.es) X.c, #[]), (X.q, .map (entsI X.ls) X.cq, #[])] ++ (X.t ++ hh))) ((n : Nat) : Int) w0 _ K_; rw [hhas] at h_; exact h_) H ?_
  try clear H a W
  intro a W H
  replace H : St 48 w0 a W [(11, .bool true), (10, .int .i64 ((n : Nat) : Int)), (9, .pointer (some ⟨p, 0, none⟩)), (8, .bool false), (6, .int .i64 0), (0, .pointer (some ⟨p, 0, none⟩)), (1, .int .i64 ((n : Nat) : Int)), (2, .slice (some ⟨gb, 0, none⟩) 512 cb)] ((p, 58, (dkC ((D.B.length : Nat) : Int) (.map (some X.m)) (.slice X.A D.L.length X.cap) (.map (some X.q)) (decide (0 ≤ D.fuse)) X.lf false)) :: (X.m, .map (entsI X.es) X.c, #[]) :: (X.q, .map (entsI X.ls) X.cq, #[]) :: (X.t ++ hh)) := H
  refine rgO H gs0 (rS 3 rfl <| rV rfl (does_len Try.underlying39 rfl rfl) <| rV rfl (does_binOp rfl rfl rfl (zd_neq_int (k := ((512 : Nat) : Int)) (m := 512) (decide_eq_false (by decide)) _ _)) <| rS 1 rfl <| rK [1, 0, 0, 0, 0, 0, 0, 0, 0, 0] [] [] <| rZ0 ?_)
  try clear H a W
  intro a W H
  refine hK5 _ _ ?_
  clear hK5
  refine wp_cond_false (H.ev rfl) ?_
  refine wp_skip ?_
  refine hK4 _ _ ?_
  clear hK4
  refine wp_seq_k (fun K6 hK6 => ?_)
  refine sqR H gs0 fun Z_ z_ => rS 1 rfl <| rV rfl (does_nilCheckQ rfl rfl) <| rV rfl (does_fieldAddr rfl rfl (fa_dk 6 (by decide))) <| rV rfl (does_loadAt (v := .bool false) rfl rfl (k := 0) rfl ld_dk6) <| rK [1, 0, 0, 0, 0] [] [] <| rN0 z_ ?_
  try clear H a W
  intro a W H
  refine wp_cond_false (H.ev rfl) ?_
  refine wp_skip ?_
  refine hK6 _ _ ?_
  clear hK6
  refine wp_seq_k (fun K8 hK8 => ?_)
  refine d2 [.v 22 _ [], .v 23 _ [0], .v 24 _ [1], .v 25 _ [2], .v 26 _ [], .v 27 _ [], .v 28 _ [5], .v 29 _ [6], .v 30 _ [7], .v 31 _ [8]] (by kernel_rfl) (by kernel_rfl) H gs0 ⟨oS rfl rfl, oV rfl (does_nilCheckQ rfl rfl), oV rfl (does_fieldAddr rfl rfl (fa_dk 3 (by decide))), oV rfl (does_loadAt (v := .map (some X.q)) rfl rfl (k := 0) rfl ld_dk3), oS rfl rfl, oS rfl rfl, oV rfl (does_nilCheckQ rfl rfl), oV rfl (does_fieldAddr rfl rfl (fa_dk 2 (by decide))), oV rfl (does_loadAt (v := .slice X.A D.L.length X.cap) rfl rfl (k := 0) rfl ld_dk2), oV rfl (does_len Try.underlying55 rfl rfl), trivial⟩ (rI0 ?_)
  try clear H a W
  intro a W H
  refine pl_setI (k := 2) rfl rfl rfl rfl rfl Try.underlying56 Try.underlying3 rfl rfl H ?_
  try clear H a W
  intro a W H
  replace H : St 48 w0 a W [(31, .int .i64 ((D.L.length : Nat) : Int)), (30, .slice X.A D.L.length X.cap), (29, .pointer (some ⟨p, 2, none⟩)), (28, .pointer (some ⟨p, 0, none⟩)), (27, .pointer (some ⟨p, 0, none⟩)), (26, .int .i64 ((n : Nat) : Int)), (25, .map (some X.q)), (24, .pointer (some ⟨p, 3, none⟩)), (23, .pointer (some ⟨p, 0, none⟩)), (22, .pointer (some ⟨p, 0, none⟩)), (21, .bool false), (6, .int .i64 0), (0, .pointer (some ⟨p, 0, none⟩)), (1, .int .i64 ((n : Nat) : Int)), (2, .slice (some ⟨gb, 0, none⟩) 512 cb)] ((p, 58, (dkC ((D.B.length : Nat) : Int) (.map (some X.m)) (.slice X.A D.L.length X.cap) (.map (some X.q)) (decide (0 ≤ D.fuse)) X.lf false)) :: (X.m, .map (entsI X.es) X.c, #[]) :: (X.q, .map (entsI (setI ((n : Nat) : Int) (.int .i64 ((D.L.length : Nat) : Int)) X.cq X.ls)) (clockI X.ls ((n : Nat) : Int) X.cq), #[]) :: (X.t ++ hh)) := H
  refine rgO H gs0 (rK [0, 0, 0, 0, 0, 0, 0, 0, 0, 0, 0] [] [] <| rZ0 ?_)
  try clear H a W
  intro a W H
  refine hK8 _ _ ?_
  clear hK8
  refine wp_seq_k (fun K9 hK9 => ?_)
  refine d2P [.v 32 _ [], .v 33 _ [], .v 34 _ [1], .v 35 _ [2], .v 36 _ [3], .v 37 _ [], .v 38 _ [], .v 39 _ [6], .v 40 _ [7], .v 41 _ [5, 8], .f 42 _ [9]] 0 rfl rfl rfl (runP H rfl) (by kernel_rfl) (fun _ _ _ _ _ h => h) (by kernel_rfl) (by kernel_rfl) H gs0 ⟨oS rfl rfl, oS rfl rfl, oV rfl (does_nilCheckQ rfl rfl), oV rfl (does_fieldAddr rfl rfl (fa_dk 2 (by decide))), oV rfl (does_loadAt (v := .slice X.A D.L.length X.cap) rfl rfl (k := 0) rfl ld_dk2), oS rfl rfl, oS rfl rfl, oV rfl (does_s2a rfl rfl Try.underlying77 (by omega)), oV rfl (does_loadMem (v := .agg (bvs b)) rfl rfl (List.mem_cons_of_mem _ (List.mem_cons_of_mem _ (List.mem_cons_of_mem _ (List.mem_append_right _ hb)))) (fun W hW => ld_block hl_b W (fun j x hx => by rw [hW.cell, Nat.zero_add, bvs_get, hx]; rfl))), oV rfl (does_build rfl rfl (bd_write (p := (n, b)) hl_b)), ⟨oNs rfl (made_evP (F := fun g => .slice (some ⟨g, 0, none⟩) 1 1) (vs := [(0, .agg (dwa (n, b)))]) rfl (by kernel_rfl) (bs_write (p := (n, b)) hl_b)), fun _ => inferInstance⟩, trivial⟩ (rNwS fun g1 => rI0 ?_)
  try clear H a W
  intro a W H
  refine pl_appW (h := [(g1, .ty 82, dwa (n, b)), (p, .ty 58, (dkC ((D.B.length : Nat) : Int) (.map (some X.m)) (.slice X.A D.L.length X.cap) (.map (some X.q)) (decide (0 ≤ D.fuse)) X.lf false)), (X.m, .map (entsI X.es) X.c, #[]), (X.q, .map (entsI (setI ((n : Nat) : Int) (.int .i64 ((D.L.length : Nat) : Int)) X.cq X.ls)) (clockI X.ls ((n : Nat) : Int) X.cq), #[])]) (t := X.t) (k := 0) (p := (n, b)) rfl hl_b rfl rfl rfl hX.od (by omega) rfl rfl rfl rfl H ?_
  try clear H a W
  intro A2 cap2 t2 a W hod2 H
  replace H : St 48 w0 a W [(43, .slice A2 (D.L ++ [(n, b)]).length cap2), (42, .slice (some ⟨g1, 0, none⟩) 1 1), (41, .agg (dwa (n, b))), (40, .agg (bvs b)), (39, .pointer (some ⟨gb, 0, none⟩)), (38, .slice (some ⟨gb, 0, none⟩) 512 cb), (37, .int .i64 ((n : Nat) : Int)), (36, .slice X.A D.L.length X.cap), (35, .pointer (some ⟨p, 2, none⟩)), (34, .pointer (some ⟨p, 0, none⟩)), (33, .pointer (some ⟨p, 0, none⟩)), (32, .pointer (some ⟨p, 0, none⟩)), (6, .int .i64 0), (0, .pointer (some ⟨p, 0, none⟩)), (1, .int .i64 ((n : Nat) : Int)), (2, .slice (some ⟨gb, 0, none⟩) 512 cb)] ((g1, 82, dwa (n, b)) :: (p, 58, (dkC ((D.B.length : Nat) : Int) (.map (some X.m)) (.slice X.A D.L.length X.cap) (.map (some X.q)) (decide (0 ≤ D.fuse)) X.lf false)) :: (X.m, .map (entsI X.es) X.c, #[]) :: (X.q, .map (entsI (setI ((n : Nat) : Int) (.int .i64 ((D.L.length : Nat) : Int)) X.cq X.ls)) (clockI X.ls ((n : Nat) : Int) X.cq), #[]) :: (t2 ++ hh)) := H
  refine rgO H gs0 (rV rfl (does_nilCheckQ rfl rfl) <| rV rfl (does_fieldAddr rfl rfl (fa_dk 2 (by decide))) <| rX [0, 1] (c := (dkC ((D.B.length : Nat) : Int) (.map (some X.m)) (.slice A2 (D.L ++ [(n, b)]).length cap2) (.map (some X.q)) (decide (0 ≤ D.fuse)) X.lf false)) ⟨rfl, rfl⟩ rfl rfl rfl (st_dk2) rfl <| rK [0, 0, 0, 0, 0, 0, 0, 0, 0, 0, 0, 0, 0, 0, 1, 1, 0, 0] [0] [] <| rZ0 ?_)
  try clear H a W
  intro a W H
  refine hK9 _ _ ?_
  clear hK9
  refine wp_seq_k (fun K10 hK10 => ?_)
  refine rgP H gs0 (rS 1 rfl <| rI0 ?_)
  try clear H a W
  intro a W H
  refine pl_callV rfl rfl ⟨_, Try.func48, by kernel_rfl⟩ rfl (fun K_ => step_p (hh := ([(X.m, .map (entsI X.es) X.c, #[]), (X.q, .map (entsI (setI ((n : Nat) : Int) (.int .i64 ((D.L.length : Nat) : Int)) X.cq X.ls)) (clockI X.ls ((n : Nat) : Int) X.cq), #[])] ++ (t2 ++ hh))) (by omega) w0 _ K_) H ?_
  try clear H a W
  intro a W H
  replace H : St 48 w0 a W [(47, .int .i64 ((stepP (decide (0 ≤ D.fuse)) X.lf false).2.2)), (46, .pointer (some ⟨p, 0, none⟩)), (6, .int .i64 0), (0, .pointer (some ⟨p, 0, none⟩))] ((p, 58, (dkC ((D.B.length : Nat) : Int) (.map (some X.m)) (.slice A2 (D.L ++ [(n, b)]).length cap2) (.map (some X.q)) (decide (0 ≤ D.fuse)) ((stepP (decide (0 ≤ D.fuse)) X.lf false).2.1) ((stepP (decide (0 ≤ D.fuse)) X.lf false).1))) :: (X.m, .map (entsI X.es) X.c, #[]) :: (X.q, .map (entsI (setI ((n : Nat) : Int) (.int .i64 ((D.L.length : Nat) : Int)) X.cq X.ls)) (clockI X.ls ((n : Nat) : Int) X.cq), #[]) :: (t2 ++ hh)) := H
  refine rgO H gs0 (rK [1, 1, 0] [] [] <| rS 1 rfl <| rK [1, 0, 0, 0] [] [] <| rZ0 ?_)
  try clear H a W
  intro a W H
  refine hK10 _ _ ?_
  clear hK10
  refine wp_ret ?_
  repeat (first | (with_reducible refine then_ret ?_) | (with_reducible refine blk_ret ?_))
  refine end_tmp (p := 6) rfl rfl H (fun hb => ?_)
  have eR : DX.row (DX.mk X.m X.q X.c (clockI X.ls ((n : Nat) : Int) X.cq) cap2 A2 X.es (setI ((n : Nat) : Int) (.int .i64 ((D.L.length : Nat) : Int)) X.cq X.ls) (stepP (decide (0 ≤ D.fuse)) X.lf false).2.1 t2) (Dk.mk D.B (D.L ++ [(n, b)]) (dStep D).1.fuse (dStep D).1.dead) = dkC ((D.B.length : Nat) : Int) (.map (some X.m)) (.slice A2 (D.L ++ [(n, b)]).length cap2) (.map (some X.q)) (decide (0 ≤ D.fuse)) ((stepP (decide (0 ≤ D.fuse)) X.lf false).2.1) ((stepP (decide (0 ≤ D.fuse)) X.lf false).1) := by unfold DX.row; dsimp only; rw [hso.dead, hso.fus]
  refine ⟨DX.rows (DX.mk X.m X.q X.c (clockI X.ls ((n : Nat) : Int) X.cq) cap2 A2 X.es (setI ((n : Nat) : Int) (.int .i64 ((D.L.length : Nat) : Int)) X.cq X.ls) (stepP (decide (0 ≤ D.fuse)) X.lf false).2.1 t2) p (Dk.mk D.B (D.L ++ [(n, b)]) (dStep D).1.fuse (dStep D).1.dead), by rw [hso.err], ⟨(DX.mk X.m X.q X.c (clockI X.ls ((n : Nat) : Int) X.cq) cap2 A2 X.es (setI ((n : Nat) : Int) (.int .i64 ((D.L.length : Nat) : Int)) X.cq X.ls) (stepP (decide (0 ≤ D.fuse)) X.lf false).2.1 t2), rfl, ⟨hod2, hX.sb, hX.lt.snoc (n, b) X.cq, hso.lf, hok2, hX.nb, by show (D.L ++ [(n, b)]).length ≤ 10000; rw [List.length_append]; show D.L.length + 1 ≤ 10000; omega⟩⟩, ?_⟩
  unfold DX.rows
  rw [eR]
  show Kn w0 W ((p, .ty 58, (dkC ((D.B.length : Nat) : Int) (.map (some X.m)) (.slice A2 (D.L ++ [(n, b)]).length cap2) (.map (some X.q)) (decide (0 ≤ D.fuse)) ((stepP (decide (0 ≤ D.fuse)) X.lf false).2.1) ((stepP (decide (0 ≤ D.fuse)) X.lf false).1))) :: (X.m, .map (entsI X.es) X.c, #[]) :: (X.q, .map (entsI (setI ((n : Nat) : Int) (.int .i64 ((D.L.length : Nat) : Int)) X.cq X.ls)) (clockI X.ls ((n : Nat) : Int) X.cq), #[]) :: (t2 ++ hh))
  have H_ := H.pickF (h := [(p, .ty 58, (dkC ((D.B.length : Nat) : Int) (.map (some X.m)) (.slice A2 (D.L ++ [(n, b)]).length cap2) (.map (some X.q)) (decide (0 ≤ D.fuse)) ((stepP (decide (0 ≤ D.fuse)) X.lf false).2.1) ((stepP (decide (0 ≤ D.fuse)) X.lf false).1))), (X.m, .map (entsI X.es) X.c, #[]), (X.q, .map (entsI (setI ((n : Nat) : Int) (.int .i64 ((D.L.length : Nat) : Int)) X.cq X.ls)) (clockI X.ls ((n : Nat) : Int) X.cq), #[])]) (t := (t2 ++ hh)) [] [0, 1, 2] rfl
  exact H_.kn
end Go.Proofs.Ytiebelmglchbdaa
