/- Package disk (layer 14): new ones; syncs; losses of power. -/
import Derived.Test.YtiebelmglchbdaaPe
namespace Go.Proofs.Ytiebelmglchbdaa
set_option linter.unusedVariables false
set_option linter.unusedSimpArgs false
set_option maxRecDepth 100000
open Go Go.RowKit

theorem sync_err {D : Dk} (h : (dStep D).2 ≠ 0) : dSync D = (Dk.mk D.B D.L (dStep D).1.fuse (dStep D).1.dead, (dStep D).2) := by
  obtain ⟨h1, h2⟩ := step_same D
  unfold dSync
  rw [if_neg h]
  cases hq : dStep D with
  | mk a b =>
    rw [hq] at h1 h2
    cases a
    simp only at h1 h2
    rw [h1, h2]
theorem sync_ok2 {D : Dk} (h : (dStep D).2 = 0) : dSync D = (Dk.mk (settle D.L D.B) [] (dStep D).1.fuse (dStep D).1.dead, 0) := by
  unfold dSync
  rw [if_pos h]
theorem ksP_le (picks : List Int) (n k : Nat) : ksP picks n k ≤ 512 := lastN_le _ _
theorem getD_some {l : List Int} {i : Nat} (h : i < l.length) : l[i]? = some (l.getD i 0) := by
  rw [List.getD_eq_getElem?_getD, List.getElem?_eq_getElem h]
  rfl
theorem ia_ints {A : Option Addr} {j n c o g : Nat} (hA : A = some ⟨g, o, none⟩) (hj : j < n) (W : World) : (Instr.indexAt 33 (.slice A n c) (.int .i64 (j : Int))).run Try.prog W = .ok (.pointer (some ⟨g, o + j, none⟩)) W := by
  subst hA
  have h1 : (0 : Int) ≤ (j : Int) := by omega
  have h2 : (j : Int) < (n : Int) := by omega
  go_simp
theorem ld_intP {g f : Nat} {x : Int} (W : World) (hc : W.cell? ⟨g, f, none⟩ = some (.int .i64 x)) : (Instr.loadAt 3 (.pointer (some ⟨g, f, none⟩))).run Try.prog W = .ok (.int .i64 x) W := by go_simp
theorem does_loadPK {n : Nat} {w0 : World} {e : Env} {h hh : Hep} {Q : Exit → Act → World → Prop} {o : Oper} {x : Operand} {g f : Nat} {v : Int} (ho : o.op = .load 3 x) (hx : sev e x = some (.pointer (some ⟨g, f, none⟩))) (hs : ∀ q ∈ hh, q ∈ h)
    (hv : ∀ W, Below w0.heap.size w0 W → (∀ q ∈ hh, Blk W q.1 q.2.1 q.2.2) → W.cell? ⟨g, f, none⟩ = some (.int .i64 v)) : Does Try.prog Q n w0 e h o (.int .i64 v) := does_run fun a w H => by
  unfold execOp
  have hc := hv w H.below fun q hq => H.heap q (hs q hq)
  simp only [ho, H.ev hx, Sem.run_bind, ld_intP w hc, Result.andThen_ok, Sem.run_pure]
attribute [local irreducible] bvs dwa entsI zeroB lastsB stepP lastN
set_option maxHeartbeats 4000000 in
theorem fresh_x {hh : Hep} (nb : Int) (m : Nat) (w0 w : World) (K : Kn w0 w hh) : Calls Try.prog 32 #[.int .i64 nb, .map (some m)] w (fun rr w' => ∃ i : Nat × Nat, rr = .returned (.pointer (some ⟨i.1, 0, none⟩)) ∧ True ∧ Kn w0 w' ([(i.1, .ty 58, dkC nb (.map (some m)) (.slice none 0 0) (.map (some i.2)) false 0 false), (i.2, .map (entsI []) 0, #[])] ++ hh)) := by
  refine calls_kn (vs := [.int .i64 nb, .map (some m)]) 10 Try.func32 rfl Try.ntmps32 rfl K (fun a W H => ?_)
  replace H : St 10 w0 a W [(0, .int .i64 nb), (1, .map (some m))] (hh) := H
  refine sqR H gs0 fun Z_ z_ => rS 1 rfl <| rN0 z_ ?_
  try clear H a W
  intro a W H
  refine wp_seq_k (fun K2 hK2 => ?_)
  refine rgP H gs0 (rS 2 rfl <| rI0 ?_)
  try clear H a W
  intro a W H
  refine pl_makeMap rfl rfl rfl rfl rfl H ?_
  try clear H a W
  intro g1 a W H
  replace H : St 10 w0 a W [(7, .map (some g1)), (6, .map (some m)), (5, .int .i64 nb), (4, .pointer none), (0, .int .i64 nb), (1, .map (some m))] ((g1, .map (entsI []) 0, #[]) :: hh) := H
  refine rgO H gs0 (rV rfl (does_build rfl rfl (bd_disk _ _ _)) <| rB rfl rfl rfl (bx_disk _) fun g2 => rK [1, 1, 1, 1, 1, 0] [] [] <| rS 1 rfl <| rK [1, 0, 0, 0, 0, 0, 0, 0] [] [] <| rZ0 ?_)
  try clear H a W
  intro a W H
  refine hK2 _ _ ?_
  clear hK2
  refine wp_ret ?_
  repeat (first | (with_reducible refine then_ret ?_) | (with_reducible refine blk_ret ?_))
  refine end_tmp (p := 4) rfl rfl H (fun hb => ?_)
  refine ⟨(g2, g1), rfl, trivial, ?_⟩
  show Kn w0 W ((g2, .ty 58, dkC nb (.map (some m)) (.slice none 0 0) (.map (some g1)) false 0 false) :: (g1, .map (entsI []) 0, #[]) :: hh)
  have H_ := H.pickF (h := [(g2, .ty 58, dkC nb (.map (some m)) (.slice none 0 0) (.map (some g1)) false 0 false), (g1, .map (entsI []) 0, #[])]) (t := hh) [] [0, 1] rfl
  exact H_.kn
set_option maxHeartbeats 4000000 in
theorem new_no1 {hh : Hep} (n : Int) (hno : decide (n < 1) = true) (w0 w : World) (K : Kn w0 w hh) : Calls Try.prog 12 #[.int .i64 n] w (fun rr w' => rr = .returned (.tuple #[.pointer none, .int .i64 2]) ∧ Kn w0 w' hh) := by
  refine calls_kn (vs := [.int .i64 n]) 13 Try.func12 rfl Try.ntmps12 rfl K (fun a W H => ?_)
  replace H : St 13 w0 a W [(0, .int .i64 n)] (hh) := H
  refine sqR H gs0 fun Z_ z_ => rS 2 rfl <| rN0 z_ ?_
  try clear H a W
  intro a W H
  refine wp_seq_k (fun K2 hK2 => ?_)
  refine sqR H gs0 fun Z_ z_ => rS 1 rfl <| rV rfl (does_binOp rfl rfl rfl (zd_lss_int (k := n) (m := 1) hno _ _)) <| rS 4 rfl <| rK [1, 0, 0, 0, 0, 0] [] [] <| rN0 z_ ?_
  try clear H a W
  intro a W H
  refine wp_cond_true (H.ev rfl) ?_
  refine sqR H gs0 fun Z_ z_ => rK [1, 1, 0] [] [] <| rS 1 rfl <| rK [1, 1, 0] [] [] <| rS 1 rfl <| rK [1, 1, 0] [] [] <| rN0 z_ ?_
  try clear H a W
  intro a W H
  refine wp_ret ?_
  repeat (first | (with_reducible refine then_ret ?_) | (with_reducible refine blk_ret ?_))
  refine end_tmps2 (p := 2) (q := 3) rfl rfl rfl H (fun hb => ?_)
  refine ⟨rfl, ?_⟩
  show Kn w0 W (hh)
  have H_ := H.pickF (h := []) (t := hh) [] [] rfl
  exact H_.kn
set_option maxHeartbeats 4000000 in
theorem new_no2 {hh : Hep} (n : Int) (hno : decide (8192 < n) = true) (w0 w : World) (K : Kn w0 w hh) : Calls Try.prog 12 #[.int .i64 n] w (fun rr w' => rr = .returned (.tuple #[.pointer none, .int .i64 2]) ∧ Kn w0 w' hh) := by
  have hno1 : decide (n < 1) = false := decide_eq_false (by have := of_decide_eq_true hno; omega)
  refine calls_kn (vs := [.int .i64 n]) 13 Try.func12 rfl Try.ntmps12 rfl K (fun a W H => ?_)
  replace H : St 13 w0 a W [(0, .int .i64 n)] (hh) := H
  refine sqR H gs0 fun Z_ z_ => rS 2 rfl <| rN0 z_ ?_
  try clear H a W
  intro a W H
  refine wp_seq_k (fun K2 hK2 => ?_)
  refine sqR H gs0 fun Z_ z_ => rS 1 rfl <| rV rfl (does_binOp rfl rfl rfl (zd_lss_int (k := n) (m := 1) hno1 _ _)) <| rS 2 rfl <| rV rfl (does_binOp rfl rfl rfl (zd_gtr_int (k := n) (m := 8192) hno _ _)) <| rS 1 rfl <| rK [1, 0, 0, 0, 0, 0] [] [] <| rN0 z_ ?_
  try clear H a W
  intro a W H
  refine wp_cond_true (H.ev rfl) ?_
  refine sqR H gs0 fun Z_ z_ => rK [1, 1, 0] [] [] <| rS 1 rfl <| rK [1, 1, 0] [] [] <| rS 1 rfl <| rK [1, 1, 0] [] [] <| rN0 z_ ?_
  try clear H a W
  intro a W H
  refine wp_ret ?_
  repeat (first | (with_reducible refine then_ret ?_) | (with_reducible refine blk_ret ?_))
  refine end_tmps2 (p := 2) (q := 3) rfl rfl rfl H (fun hb => ?_)
  refine ⟨rfl, ?_⟩
  show Kn w0 W (hh)
  have H_ := H.pickF (h := []) (t := hh) [] [] rfl
  exact H_.kn
set_option maxHeartbeats 4000000 in
theorem new_yes {hh : Hep} (n : Nat) (hn : 1 ≤ n ∧ n ≤ 8192) (w0 w : World) (K : Kn w0 w hh) : Calls Try.prog 12 #[.int .i64 ((n : Nat) : Int)] w (fun rr w' => ∃ i : Nat × Hep, rr = .returned (.tuple #[.pointer (some ⟨i.1, 0, none⟩), .int .i64 0]) ∧ PO i.1 (dNew n) i.2 ∧ Kn w0 w' (i.2 ++ hh)) := by
  have h1 : decide (((n : Nat) : Int) < 1) = false := decide_eq_false (by omega)
  have h2 : decide (8192 < ((n : Nat) : Int)) = false := decide_eq_false (by omega)
  refine calls_kn (vs := [.int .i64 ((n : Nat) : Int)]) 13 Try.func12 rfl Try.ntmps12 rfl K (fun a W H => ?_)
  replace H : St 13 w0 a W [(0, .int .i64 ((n : Nat) : Int))] (hh) := H
  refine sqR H gs0 fun Z_ z_ => rS 2 rfl <| rN0 z_ ?_
  try clear H a W
  intro a W H
  refine wp_seq_k (fun K2 hK2 => ?_)
  refine sqR H gs0 fun Z_ z_ => rS 1 rfl <| rV rfl (does_binOp rfl rfl rfl (zd_lss_int (k := ((n : Nat) : Int)) (m := 1) h1 _ _)) <| rS 2 rfl <| rV rfl (does_binOp rfl rfl rfl (zd_gtr_int (k := ((n : Nat) : Int)) (m := 8192) h2 _ _)) <| rS 1 rfl <| rK [1, 0, 0, 0, 0, 0] [] [] <| rN0 z_ ?_
  try clear H a W
  intro a W H
  refine wp_cond_false (H.ev rfl) ?_
  refine wp_skip ?_
  refine hK2 _ _ ?_
  clear hK2
  refine wp_seq_k (fun K4 hK4 => ?_)
  refine rgP H gs0 (rS 1 rfl <| rI0 ?_)
  try clear H a W
  intro a W H
  refine pl_makeMap rfl rfl rfl rfl rfl H ?_
  try clear H a W
  intro g1 a W H
  replace H : St 13 w0 a W [(11, .map (some g1)), (10, .int .i64 ((n : Nat) : Int)), (9, .bool false), (3, .int .i64 0), (2, .pointer none), (0, .int .i64 ((n : Nat) : Int))] ((g1, .map (entsI []) 0, #[]) :: hh) := H
  refine pl_callX rfl rfl ⟨_, Try.func32, by kernel_rfl⟩ rfl (fun K_ => fresh_x (hh := ([(g1, .map (entsI []) 0, #[])] ++ hh)) ((n : Nat) : Int) _ w0 _ K_) H ?_
  try clear H a W
  rintro ⟨f1, q1⟩ a W - H
  replace H : St 13 w0 a W [(12, .pointer (some ⟨f1, 0, none⟩)), (11, .map (some g1)), (10, .int .i64 ((n : Nat) : Int)), (9, .bool false), (3, .int .i64 0), (2, .pointer none), (0, .int .i64 ((n : Nat) : Int))] ((f1, 58, (dkC ((n : Nat) : Int) (.map (some g1)) (.slice none 0 0) (.map (some q1)) false 0 false)) :: (q1, .map (entsI []) 0, #[]) :: (g1, .map (entsI []) 0, #[]) :: hh) := H
  refine rgO H gs0 (rK [1, 1, 1, 1, 1, 0] [] [] <| rS 1 rfl <| rK [1, 1, 1, 1, 1, 0] [] [] <| rS 1 rfl <| rK [1, 1, 0, 0, 0, 0, 0] [] [] <| rZ0 ?_)
  try clear H a W
  intro a W H
  refine hK4 _ _ ?_
  clear hK4
  refine wp_ret ?_
  repeat (first | (with_reducible refine then_ret ?_) | (with_reducible refine blk_ret ?_))
  refine end_tmps2 (p := 2) (q := 3) rfl rfl rfl H (fun hb => ?_)
  have eR : DX.row (DX.mk g1 q1 0 0 0 none [] [] 0 []) (dNew n) = dkC ((n : Nat) : Int) (.map (some g1)) (.slice none 0 0) (.map (some q1)) false 0 false := by
    unfold DX.row dNew
    dsimp only
    rw [List.length_replicate]
    rfl
  refine ⟨(f1, DX.rows (DX.mk g1 q1 0 0 0 none [] [] 0 []) f1 (dNew n)), rfl, ⟨(DX.mk g1 q1 0 0 0 none [] [] 0 []), rfl, ⟨OutD.nil _ _, SBk.new n, LTk.nil _, ⟨Int.le_refl 0, (by decide : (0 : Int) < 9223372036854775808), fun h => absurd h (by decide : ¬ (0 : Int) ≤ -1)⟩, new_ok n, by show 0 < (List.replicate n zeroB).length ∧ (List.replicate n zeroB).length ≤ 8192; rw [List.length_replicate]; omega, Nat.zero_le _⟩⟩, ?_⟩
  show Kn w0 W (DX.rows _ _ _ ++ hh)
  unfold DX.rows
  rw [eR]
  replace H : St 13 w0 a W [(3, .int .i64 0), (2, .pointer (some ⟨f1, 0, none⟩))] ((q1, .map (entsI []) 0, #[]) :: (f1, 58, (dkC ((n : Nat) : Int) (.map (some g1)) (.slice none 0 0) (.map (some q1)) false 0 false)) :: (g1, .map (entsI []) 0, #[]) :: hh) := H.perm' (@List.perm_middle (Nat × Tid × Array Value) (q1, .map (entsI []) 0, #[]) [(f1, .ty 58, (dkC ((n : Nat) : Int) (.map (some g1)) (.slice none 0 0) (.map (some q1)) false 0 false))] (([(g1, .map (entsI []) 0, #[])] : Hep) ++ hh))
  replace H : St 13 w0 a W [(3, .int .i64 0), (2, .pointer (some ⟨f1, 0, none⟩))] ((g1, .map (entsI []) 0, #[]) :: (q1, .map (entsI []) 0, #[]) :: (f1, 58, (dkC ((n : Nat) : Int) (.map (some g1)) (.slice none 0 0) (.map (some q1)) false 0 false)) :: hh) := H.perm' (@List.perm_middle (Nat × Tid × Array Value) (g1, .map (entsI []) 0, #[]) [(q1, .map (entsI []) 0, #[]), (f1, .ty 58, (dkC ((n : Nat) : Int) (.map (some g1)) (.slice none 0 0) (.map (some q1)) false 0 false))] hh)
  replace H : St 13 w0 a W [(3, .int .i64 0), (2, .pointer (some ⟨f1, 0, none⟩))] ((f1, 58, (dkC ((n : Nat) : Int) (.map (some g1)) (.slice none 0 0) (.map (some q1)) false 0 false)) :: (g1, .map (entsI []) 0, #[]) :: (q1, .map (entsI []) 0, #[]) :: hh) := H.perm' (@List.perm_middle (Nat × Tid × Array Value) (f1, .ty 58, (dkC ((n : Nat) : Int) (.map (some g1)) (.slice none 0 0) (.map (some q1)) false 0 false)) [(g1, .map (entsI []) 0, #[]), (q1, .map (entsI []) 0, #[])] hh)
  show Kn w0 W ((f1, .ty 58, (dkC ((n : Nat) : Int) (.map (some g1)) (.slice none 0 0) (.map (some q1)) false 0 false)) :: (g1, .map (entsI []) 0, #[]) :: (q1, .map (entsI []) 0, #[]) :: hh)
  have H_ := H.pickF (h := [(f1, .ty 58, (dkC ((n : Nat) : Int) (.map (some g1)) (.slice none 0 0) (.map (some q1)) false 0 false)), (g1, .map (entsI []) 0, #[]), (q1, .map (entsI []) 0, #[])]) (t := hh) [] [0, 1, 2] rfl
  exact H_.kn
set_option maxHeartbeats 4000000 in
theorem sync_dead {X : DX} {p : Nat} {D : Dk} {hh : Hep} (hdd : D.dead = true) (hX : X.ok D) (w0 w : World) (K : Kn w0 w (X.rows p D ++ hh)) : Calls Try.prog 27 #[.pointer (some ⟨p, 0, none⟩)] w (fun rr w' => rr = .returned (.int .i64 14) ∧ Kn w0 w' (X.rows p D ++ hh)) := by
  have hnb := hX.nb
  have hlf := hX.lf
  have hnl := hX.nl
  unfold DX.rows DX.row at K ⊢
  rw [hdd] at K ⊢
  refine calls_kn (vs := [.pointer (some ⟨p, 0, none⟩)]) 37 Try.func27 rfl Try.ntmps27 rfl K (fun a W H => ?_)
  replace H : St 37 w0 a W [(0, .pointer (some ⟨p, 0, none⟩))] ((p, 58, (dkC ((D.B.length : Nat) : Int) (.map (some X.m)) (.slice X.A D.L.length X.cap) (.map (some X.q)) (decide (0 ≤ D.fuse)) X.lf true)) :: (X.m, .map (entsI X.es) X.c, #[]) :: (X.q, .map (entsI X.ls) X.cq, #[]) :: (X.t ++ hh)) := H
  refine sqR H gs0 fun Z_ z_ => rS 1 rfl <| rN0 z_ ?_
  try clear H a W
  intro a W H
  refine wp_seq_k (fun K2 hK2 => ?_)
  refine wp_seq_k (fun K3 hK3 => ?_)
  refine rgP H gs0 (rS 1 rfl <| rI0 ?_)
  try clear H a W
  intro a W H
  refine pl_callV rfl rfl ⟨_, Try.func40, by kernel_rfl⟩ rfl (fun K_ => isNone_live (hh := ([(X.m, .map (entsI X.es) X.c, #[]), (X.q, .map (entsI X.ls) X.cq, #[])] ++ (X.t ++ hh))) (by omega) w0 _ K_) H ?_
  try clear H a W
  intro a W H
  replace H : St 37 w0 a W [(7, .bool false), (6, .pointer (some ⟨p, 0, none⟩)), (2, .int .i64 0), (0, .pointer (some ⟨p, 0, none⟩))] ((p, 58, (dkC ((D.B.length : Nat) : Int) (.map (some X.m)) (.slice X.A D.L.length X.cap) (.map (some X.q)) (decide (0 ≤ D.fuse)) X.lf true)) :: (X.m, .map (entsI X.es) X.c, #[]) :: (X.q, .map (entsI X.ls) X.cq, #[]) :: (X.t ++ hh)) := H
  refine rgO H gs0 (rK [1, 0] [] [] <| rZ0 ?_)
  try clear H a W
  intro a W H
  refine hK3 _ _ ?_
  clear hK3
  refine wp_cond_false (H.ev rfl) ?_
  refine wp_skip ?_
  refine hK2 _ _ ?_
  clear hK2
  refine wp_seq_k (fun K4 hK4 => ?_)
  refine sqR H gs0 fun Z_ z_ => rS 1 rfl <| rV rfl (does_nilCheckQ rfl rfl) <| rV rfl (does_fieldAddr rfl rfl (fa_dk 6 (by decide))) <| rV rfl (does_loadAt (v := .bool true) rfl rfl (k := 0) rfl ld_dk6) <| rK [1, 0, 0, 0, 0] [] [] <| rN0 z_ ?_
  try clear H a W
  intro a W H
  refine wp_cond_true (H.ev rfl) ?_
  refine sqR H gs0 fun Z_ z_ => rK [1, 0] [] [] <| rS 1 rfl <| rK [1, 0] [] [] <| rN0 z_ ?_
  try clear H a W
  intro a W H
  refine wp_ret ?_
  repeat (first | (with_reducible refine then_ret ?_) | (with_reducible refine blk_ret ?_))
  refine end_tmp (p := 2) rfl rfl H (fun hb => ?_)
  refine ⟨rfl, ?_⟩
  show Kn w0 W ((p, .ty 58, (dkC ((D.B.length : Nat) : Int) (.map (some X.m)) (.slice X.A D.L.length X.cap) (.map (some X.q)) (decide (0 ≤ D.fuse)) X.lf true)) :: (X.m, .map (entsI X.es) X.c, #[]) :: (X.q, .map (entsI X.ls) X.cq, #[]) :: (X.t ++ hh))
  have H_ := H.pickF (h := [(p, .ty 58, (dkC ((D.B.length : Nat) : Int) (.map (some X.m)) (.slice X.A D.L.length X.cap) (.map (some X.q)) (decide (0 ≤ D.fuse)) X.lf true)), (X.m, .map (entsI X.es) X.c, #[]), (X.q, .map (entsI X.ls) X.cq, #[])]) (t := (X.t ++ hh)) [] [0, 1, 2] rfl
  exact H_.kn
set_option maxHeartbeats 4000000 in
theorem sync_live {X : DX} {p : Nat} {D : Dk} {hh : Hep} (hdd : D.dead = false) (hX : X.ok D) (w0 w : World) (K : Kn w0 w (X.rows p D ++ hh)) : Calls Try.prog 27 #[.pointer (some ⟨p, 0, none⟩)] w (fun rr w' => ∃ r', rr = .returned (.int .i64 (dSync D).2) ∧ PO p (dSync D).1 r' ∧ Kn w0 w' (r' ++ hh)) := by
  have hnb := hX.nb
  have hlf := hX.lf
  have hnl := hX.nl
  obtain ⟨gu, cur, hat⟩ := hX.at_
  have hso := step_ok hdd hlf
  unfold DX.rows DX.row at K
  rw [hdd] at K
  refine calls_kn (vs := [.pointer (some ⟨p, 0, none⟩)]) 37 Try.func27 rfl Try.ntmps27 rfl K (fun a W H => ?_)
  replace H : St 37 w0 a W [(0, .pointer (some ⟨p, 0, none⟩))] ((p, 58, (dkC ((D.B.length : Nat) : Int) (.map (some X.m)) (.slice X.A D.L.length X.cap) (.map (some X.q)) (decide (0 ≤ D.fuse)) X.lf false)) :: (X.m, .map (entsI X.es) X.c, #[]) :: (X.q, .map (entsI X.ls) X.cq, #[]) :: (X.t ++ hh)) := H
  refine sqR H gs0 fun Z_ z_ => rS 1 rfl <| rN0 z_ ?_
  try clear H a W
  intro a W H
  refine wp_seq_k (fun K2 hK2 => ?_)
  refine wp_seq_k (fun K3 hK3 => ?_)
  refine rgP H gs0 (rS 1 rfl <| rI0 ?_)
  try clear H a W
  intro a W H
  refine pl_callV rfl rfl ⟨_, Try.func40, by kernel_rfl⟩ rfl (fun K_ => isNone_live (hh := ([(X.m, .map (entsI X.es) X.c, #[]), (X.q, .map (entsI X.ls) X.cq, #[])] ++ (X.t ++ hh))) (by omega) w0 _ K_) H ?_
  try clear H a W
  intro a W H
  replace H : St 37 w0 a W [(7, .bool false), (6, .pointer (some ⟨p, 0, none⟩)), (2, .int .i64 0), (0, .pointer (some ⟨p, 0, none⟩))] ((p, 58, (dkC ((D.B.length : Nat) : Int) (.map (some X.m)) (.slice X.A D.L.length X.cap) (.map (some X.q)) (decide (0 ≤ D.fuse)) X.lf false)) :: (X.m, .map (entsI X.es) X.c, #[]) :: (X.q, .map (entsI X.ls) X.cq, #[]) :: (X.t ++ hh)) := H
  refine rgO H gs0 (rK [1, 0] [] [] <| rZ0 ?_)
  try clear H a W
  intro a W H
  refine hK3 _ _ ?_
  clear hK3
  refine wp_cond_false (H.ev rfl) ?_
  refine wp_skip ?_
  refine hK2 _ _ ?_
  clear hK2
  refine wp_seq_k (fun K4 hK4 => ?_)
  refine sqR H gs0 fun Z_ z_ => rS 1 rfl <| rV rfl (does_nilCheckQ rfl rfl) <| rV rfl (does_fieldAddr rfl rfl (fa_dk 6 (by decide))) <| rV rfl (does_loadAt (v := .bool false) rfl rfl (k := 0) rfl ld_dk6) <| rK [1, 0, 0, 0, 0] [] [] <| rN0 z_ ?_
  try clear H a W
  intro a W H
  refine wp_cond_false (H.ev rfl) ?_
  refine wp_skip ?_
  refine hK4 _ _ ?_
  clear hK4
  refine wp_seq_k (fun K6 hK6 => ?_)
  refine wp_seq_k (fun K7 hK7 => ?_)
  refine rgP H gs0 (rS 1 rfl <| rI0 ?_)
  try clear H a W
  intro a W H
  refine pl_callV rfl rfl ⟨_, Try.func48, by kernel_rfl⟩ rfl (fun K_ => step_p (hh := ([(X.m, .map (entsI X.es) X.c, #[]), (X.q, .map (entsI X.ls) X.cq, #[])] ++ (X.t ++ hh))) (by omega) w0 _ K_) H ?_
  try clear H a W
  intro a W H
  replace H : St 37 w0 a W [(13, .int .i64 ((stepP (decide (0 ≤ D.fuse)) X.lf false).2.2)), (12, .pointer (some ⟨p, 0, none⟩)), (11, .bool false), (2, .int .i64 0), (0, .pointer (some ⟨p, 0, none⟩))] ((p, 58, (dkC ((D.B.length : Nat) : Int) (.map (some X.m)) (.slice X.A D.L.length X.cap) (.map (some X.q)) (decide (0 ≤ D.fuse)) ((stepP (decide (0 ≤ D.fuse)) X.lf false).2.1) ((stepP (decide (0 ≤ D.fuse)) X.lf false).1))) :: (X.m, .map (entsI X.es) X.c, #[]) :: (X.q, .map (entsI X.ls) X.cq, #[]) :: (X.t ++ hh)) := H
  refine rgO H gs0 (rS 1 rfl <| rK [1, 0, 0, 0] [] [] <| rZ0 ?_)
  try clear H a W
  intro a W H
  refine hK7 _ _ ?_
  clear hK7
  refine sqR H gs0 fun Z_ z_ => rS 1 rfl <| rV rfl (does_binOp rfl rfl rfl (zd_neq_errno (k := ((stepP (decide (0 ≤ D.fuse)) X.lf false).2.2)) (m := 0) rfl _ _)) <| rK [1, 0] [] [] <| rN0 z_ ?_
  try clear H a W
  intro a W H
  cases hq1 : decide (((stepP (decide (0 ≤ D.fuse)) X.lf false).2.2) ≠ 0) with
  | true =>
    rw [hq1] at H
    have hq1p := of_decide_eq_true hq1
    refine wp_cond_true (H.ev rfl) ?_
    refine sqR H gs0 fun Z_ z_ => rS 1 rfl <| rK [1, 1, 1, 0] [] [] <| rS 1 rfl <| rK [1, 0, 0, 0] [] [] <| rN0 z_ ?_
    try clear H a W
    intro a W H
    refine wp_ret ?_
    repeat (first | (with_reducible refine then_ret ?_) | (with_reducible refine blk_ret ?_))
    refine end_tmp (p := 2) rfl rfl H (fun hb => ?_)
    have hse : (dStep D).2 ≠ 0 := by have h_ := hq1p; rw [hso.err] at h_; exact h_
    rw [sync_err hse]
    have eR : DX.row { X with lf := (stepP (decide (0 ≤ D.fuse)) X.lf false).2.1 } (Dk.mk D.B D.L (dStep D).1.fuse (dStep D).1.dead) = dkC ((D.B.length : Nat) : Int) (.map (some X.m)) (.slice X.A D.L.length X.cap) (.map (some X.q)) (decide (0 ≤ D.fuse)) ((stepP (decide (0 ≤ D.fuse)) X.lf false).2.1) ((stepP (decide (0 ≤ D.fuse)) X.lf false).1) := by unfold DX.row; dsimp only; rw [hso.dead, hso.fus]
    refine ⟨DX.rows { X with lf := (stepP (decide (0 ≤ D.fuse)) X.lf false).2.1 } p (Dk.mk D.B D.L (dStep D).1.fuse (dStep D).1.dead), by rw [hso.err], ⟨{ X with lf := (stepP (decide (0 ≤ D.fuse)) X.lf false).2.1 }, rfl, ⟨hX.od, hX.sb, hX.lt, hso.lf, ⟨hX.dk.B, hX.dk.L⟩, hX.nb, hX.nl⟩⟩, ?_⟩
    unfold DX.rows
    rw [eR]
    show Kn w0 W ((p, .ty 58, (dkC ((D.B.length : Nat) : Int) (.map (some X.m)) (.slice X.A D.L.length X.cap) (.map (some X.q)) (decide (0 ≤ D.fuse)) ((stepP (decide (0 ≤ D.fuse)) X.lf false).2.1) ((stepP (decide (0 ≤ D.fuse)) X.lf false).1))) :: (X.m, .map (entsI X.es) X.c, #[]) :: (X.q, .map (entsI X.ls) X.cq, #[]) :: (X.t ++ hh))
    have H_ := H.pickF (h := [(p, .ty 58, (dkC ((D.B.length : Nat) : Int) (.map (some X.m)) (.slice X.A D.L.length X.cap) (.map (some X.q)) (decide (0 ≤ D.fuse)) ((stepP (decide (0 ≤ D.fuse)) X.lf false).2.1) ((stepP (decide (0 ≤ D.fuse)) X.lf false).1))), (X.m, .map (entsI X.es) X.c, #[]), (X.q, .map (entsI X.ls) X.cq, #[])]) (t := (X.t ++ hh)) [] [0, 1, 2] rfl
    exact H_.kn
  | false =>
    rw [hq1] at H
    have hq1p := of_decide_eq_false hq1
    refine wp_cond_false (H.ev rfl) ?_
    refine wp_skip ?_
    refine hK6 _ _ ?_
    clear hK6
    refine wp_seq_k (fun K10 hK10 => ?_)
    refine sqR H gs0 fun Z_ z_ => rS 1 rfl <| rV rfl (does_nilCheckQ rfl rfl) <| rV rfl (does_fieldAddr rfl rfl (fa_dk 2 (by decide))) <| rV rfl (does_loadAt (v := .slice X.A D.L.length X.cap) rfl rfl (k := 0) rfl ld_dk2) <| rV rfl (does_len Try.underlying55 rfl rfl) <| rS 1 rfl <| rK [1, 1, 1, 0, 0, 0, 0, 0] [] [] <| rN0 z_ ?_
    try clear H a W
    intro a W H
    refine wp_block ?_
    replace H : St 37 w0 a W [(22, .int .i64 ((0 : Nat) : Int)), (21, .int .i64 ((D.L.length : Nat) : Int)), (20, .slice X.A D.L.length X.cap), (2, .int .i64 0), (0, .pointer (some ⟨p, 0, none⟩))] ((p, 58, (dkC ((D.B.length : Nat) : Int) (.map (some X.m)) (.slice X.A D.L.length X.cap) (.map (some X.q)) (decide (0 ≤ D.fuse)) ((stepP (decide (0 ≤ D.fuse)) X.lf false).2.1) ((stepP (decide (0 ≤ D.fuse)) X.lf false).1))) :: (X.m, .map (entsI (EK D.L (fun _ => 512) D.B X.es X.c 0).1) (EK D.L (fun _ => 512) D.B X.es X.c 0).2, #[]) :: (X.q, .map (entsI X.ls) X.cq, #[]) :: (X.t ++ hh)) := H.pickF (h := [(p, 58, (dkC ((D.B.length : Nat) : Int) (.map (some X.m)) (.slice X.A D.L.length X.cap) (.map (some X.q)) (decide (0 ≤ D.fuse)) ((stepP (decide (0 ≤ D.fuse)) X.lf false).2.1) ((stepP (decide (0 ≤ D.fuse)) X.lf false).1))), (X.m, .map (entsI X.es) X.c, #[]), (X.q, .map (entsI X.ls) X.cq, #[])]) (t := (X.t ++ hh)) [0, 1, 2, 3, 4] [0, 1, 2] rfl
    refine wp_rounds D.L.length (fun k a W => St 37 w0 a W [(22, .int .i64 ((k : Nat) : Int)), (21, .int .i64 ((D.L.length : Nat) : Int)), (20, .slice X.A D.L.length X.cap), (2, .int .i64 0), (0, .pointer (some ⟨p, 0, none⟩))] ((p, 58, (dkC ((D.B.length : Nat) : Int) (.map (some X.m)) (.slice X.A D.L.length X.cap) (.map (some X.q)) (decide (0 ≤ D.fuse)) ((stepP (decide (0 ≤ D.fuse)) X.lf false).2.1) ((stepP (decide (0 ≤ D.fuse)) X.lf false).1))) :: (X.m, .map (entsI (EK D.L (fun _ => 512) D.B X.es X.c k).1) (EK D.L (fun _ => 512) D.B X.es X.c k).2, #[]) :: (X.q, .map (entsI X.ls) X.cq, #[]) :: (X.t ++ hh))) (k0 := 0) H (by omega) ?_
    try clear H a W
    intro k a W hk H
    by_cases hk2 : k < D.L.length
    · obtain ⟨⟨nk, bk⟩, hLk⟩ : ∃ q, D.L[k]? = some q := ⟨_, List.getElem?_eq_getElem hk2⟩
      have hdk := hX.dk.L _ (List.mem_iff_getElem?.2 ⟨k, hLk⟩)
      have hl_bk : bk.length = 512 := hdk.2
      have hl_old : ((BK D.L (fun _ => 512) D.B k).getD nk []).length = 512 := getD_len (BK_all hX.dk.B hX.dk.L (fun _ => Nat.le_refl _) k (by omega)) (by rw [BK_len]; exact hdk.1)
      have hek := EK_ok (ks := (fun _ => 512)) (c := X.c) hX.sb (fun q hq => (hX.dk.L q hq).1) k (by omega) nk (by rw [BK_len]; exact hdk.1)
      refine sqR H gs0 fun Z_ z_ => rV rfl (does_binOp rfl rfl rfl (zd_lss_int (k := ((k : Nat) : Int)) (m := ((D.L.length : Nat) : Int)) (decide_eq_true (by omega)) _ _)) <| rN0 z_ ?_
      try clear H a W
      intro a W H
      refine cdT H rfl ?_
      refine wp_seq_k (fun K13 hK13 => ?_)
      refine wp_block ?_
      refine sqR H gs0 fun Z_ z_ => rV rfl (does_indexAddr rfl rfl rfl (ia_writes (j := k) (hat (by omega)).1 (by omega))) <| rV rfl (does_loadMem (v := .agg (dwa (nk, bk))) rfl rfl (List.mem_cons_of_mem _ (List.mem_cons_of_mem _ (List.mem_cons_of_mem _ (List.mem_append_left _ (hat (by omega)).2.1)))) (fun W hW => ld_wAt hX.l512 (hat (by omega)).2.2 hLk W hW)) <| rA rfl rfl al_write fun g1 => rW [1] ⟨rfl, rfl⟩ rfl rfl rfl (info_write hl_bk) (size_write zero_len hl_bk) (dwa_one _) <| rN0 z_ ?_
      try clear H a W
      intro a W H
      refine rgP H gs0 (rS 1 rfl <| rV rfl (does_load rfl rfl (k := 0) rfl Try.underlying82 rfl (info_write hl_bk)) <| rI0 ?_)
      try clear H a W
      intro a W H
      replace H : St 37 w0 a W [(27, .agg (dwa (nk, bk))), (26, .pointer (some ⟨p, 0, none⟩)), (5, .pointer (some ⟨g1, 0, none⟩)), (25, .agg (dwa (nk, bk))), (24, .pointer (some ⟨gu, 0 + k * 513, none⟩)), (23, .bool true), (22, .int .i64 ((k : Nat) : Int)), (21, .int .i64 ((D.L.length : Nat) : Int)), (20, .slice X.A D.L.length X.cap), (2, .int .i64 0), (0, .pointer (some ⟨p, 0, none⟩))] ((X.m, .map (entsI (EK D.L (fun _ => 512) D.B X.es X.c k).1) (EK D.L (fun _ => 512) D.B X.es X.c k).2, #[]) :: (g1, 82, dwa (nk, bk)) :: (p, 58, (dkC ((D.B.length : Nat) : Int) (.map (some X.m)) (.slice X.A D.L.length X.cap) (.map (some X.q)) (decide (0 ≤ D.fuse)) ((stepP (decide (0 ≤ D.fuse)) X.lf false).2.1) ((stepP (decide (0 ≤ D.fuse)) X.lf false).1))) :: (X.q, .map (entsI X.ls) X.cq, #[]) :: (X.t ++ hh)) := H.perm' (@List.perm_middle (Nat × Tid × Array Value) (X.m, .map (entsI (EK D.L (fun _ => 512) D.B X.es X.c k).1) (EK D.L (fun _ => 512) D.B X.es X.c k).2, #[]) [(g1, .ty 82, dwa (nk, bk)), (p, .ty 58, (dkC ((D.B.length : Nat) : Int) (.map (some X.m)) (.slice X.A D.L.length X.cap) (.map (some X.q)) (decide (0 ≤ D.fuse)) ((stepP (decide (0 ≤ D.fuse)) X.lf false).2.1) ((stepP (decide (0 ≤ D.fuse)) X.lf false).1)))] (([(X.q, .map (entsI X.ls) X.cq, #[])] : Hep) ++ (X.t ++ hh)))
      replace H : St 37 w0 a W [(27, .agg (dwa (nk, bk))), (26, .pointer (some ⟨p, 0, none⟩)), (5, .pointer (some ⟨g1, 0, none⟩)), (25, .agg (dwa (nk, bk))), (24, .pointer (some ⟨gu, 0 + k * 513, none⟩)), (23, .bool true), (22, .int .i64 ((k : Nat) : Int)), (21, .int .i64 ((D.L.length : Nat) : Int)), (20, .slice X.A D.L.length X.cap), (2, .int .i64 0), (0, .pointer (some ⟨p, 0, none⟩))] ((p, 58, (dkC ((D.B.length : Nat) : Int) (.map (some X.m)) (.slice X.A D.L.length X.cap) (.map (some X.q)) (decide (0 ≤ D.fuse)) ((stepP (decide (0 ≤ D.fuse)) X.lf false).2.1) ((stepP (decide (0 ≤ D.fuse)) X.lf false).1))) :: (X.m, .map (entsI (EK D.L (fun _ => 512) D.B X.es X.c k).1) (EK D.L (fun _ => 512) D.B X.es X.c k).2, #[]) :: (g1, 82, dwa (nk, bk)) :: (X.q, .map (entsI X.ls) X.cq, #[]) :: (X.t ++ hh)) := H.perm' (@List.perm_middle (Nat × Tid × Array Value) (p, .ty 58, (dkC ((D.B.length : Nat) : Int) (.map (some X.m)) (.slice X.A D.L.length X.cap) (.map (some X.q)) (decide (0 ≤ D.fuse)) ((stepP (decide (0 ≤ D.fuse)) X.lf false).2.1) ((stepP (decide (0 ≤ D.fuse)) X.lf false).1))) [(X.m, .map (entsI (EK D.L (fun _ => 512) D.B X.es X.c k).1) (EK D.L (fun _ => 512) D.B X.es X.c k).2, #[]), (g1, .ty 82, dwa (nk, bk))] (([(X.q, .map (entsI X.ls) X.cq, #[])] : Hep) ++ (X.t ++ hh)))
      refine pl_callV rfl rfl ⟨_, Try.func46, by kernel_rfl⟩ rfl (fun K_ => settle_p (hh := ([(g1, .ty 82, dwa (nk, bk)), (X.q, .map (entsI X.ls) X.cq, #[])] ++ (X.t ++ hh))) nk 512 bk ((BK D.L (fun _ => 512) D.B k).getD nk []) (by omega) hl_bk hl_old hek w0 _ K_) H ?_
      try clear H a W
      intro a W H
      replace H : St 37 w0 a W [(28, .tuple #[]), (27, .agg (dwa (nk, bk))), (26, .pointer (some ⟨p, 0, none⟩)), (5, .pointer (some ⟨g1, 0, none⟩)), (25, .agg (dwa (nk, bk))), (24, .pointer (some ⟨gu, 0 + k * 513, none⟩)), (23, .bool true), (22, .int .i64 ((k : Nat) : Int)), (21, .int .i64 ((D.L.length : Nat) : Int)), (20, .slice X.A D.L.length X.cap), (2, .int .i64 0), (0, .pointer (some ⟨p, 0, none⟩))] ((p, 58, (dkC ((D.B.length : Nat) : Int) (.map (some X.m)) (.slice X.A D.L.length X.cap) (.map (some X.q)) (decide (0 ≤ D.fuse)) ((stepP (decide (0 ≤ D.fuse)) X.lf false).2.1) ((stepP (decide (0 ≤ D.fuse)) X.lf false).1))) :: (X.m, .map (entsI (setI ((nk : Nat) : Int) (.agg (bvs (tornB 512 bk ((BK D.L (fun _ => 512) D.B k).getD nk [])))) (EK D.L (fun _ => 512) D.B X.es X.c k).2 (EK D.L (fun _ => 512) D.B X.es X.c k).1)) (clockI (EK D.L (fun _ => 512) D.B X.es X.c k).1 ((nk : Nat) : Int) (EK D.L (fun _ => 512) D.B X.es X.c k).2), #[]) :: (g1, 82, dwa (nk, bk)) :: (X.q, .map (entsI X.ls) X.cq, #[]) :: (X.t ++ hh)) := H
      refine rgO H gs0 (rK [0] [] [] <| rZ0 ?_)
      try clear H a W
      intro a W H
      refine blk_normal ?_
      refine hK13 _ _ ?_
      clear hK13
      refine rgP H gs0 (rV rfl (does_binOp rfl rfl rfl (zd_add_int (k := ((k : Nat) : Int)) (m := 1) (c := ((k + 1 : Nat) : Int)) (by omega) (by omega) _ _)) <| rK [1, 1, 1, 1, 1, 1, 1, 0] [] [] <| rS 1 rfl <| rZ0 ?_)
      try clear H a W
      intro a W H
      refine ⟨k + 1, by omega, by omega, ?_⟩
      show St 37 w0 a W [(22, .int .i64 ((k + 1 : Nat) : Int)), (21, .int .i64 ((D.L.length : Nat) : Int)), (20, .slice X.A D.L.length X.cap), (2, .int .i64 0), (0, .pointer (some ⟨p, 0, none⟩))] ((p, 58, (dkC ((D.B.length : Nat) : Int) (.map (some X.m)) (.slice X.A D.L.length X.cap) (.map (some X.q)) (decide (0 ≤ D.fuse)) ((stepP (decide (0 ≤ D.fuse)) X.lf false).2.1) ((stepP (decide (0 ≤ D.fuse)) X.lf false).1))) :: (X.m, .map (entsI (EK D.L (fun _ => 512) D.B X.es X.c (k + 1)).1) (EK D.L (fun _ => 512) D.B X.es X.c (k + 1)).2, #[]) :: (X.q, .map (entsI X.ls) X.cq, #[]) :: (X.t ++ hh))
      replace H : St 37 w0 a W [(22, .int .i64 ((k + 1 : Nat) : Int)), (29, .int .i64 ((k + 1 : Nat) : Int)), (27, .agg (dwa (nk, bk))), (26, .pointer (some ⟨p, 0, none⟩)), (5, .pointer (some ⟨g1, 0, none⟩)), (25, .agg (dwa (nk, bk))), (24, .pointer (some ⟨gu, 0 + k * 513, none⟩)), (23, .bool true), (21, .int .i64 ((D.L.length : Nat) : Int)), (20, .slice X.A D.L.length X.cap), (2, .int .i64 0), (0, .pointer (some ⟨p, 0, none⟩))] ((X.q, .map (entsI X.ls) X.cq, #[]) :: (p, 58, (dkC ((D.B.length : Nat) : Int) (.map (some X.m)) (.slice X.A D.L.length X.cap) (.map (some X.q)) (decide (0 ≤ D.fuse)) ((stepP (decide (0 ≤ D.fuse)) X.lf false).2.1) ((stepP (decide (0 ≤ D.fuse)) X.lf false).1))) :: (X.m, .map (entsI (setI ((nk : Nat) : Int) (.agg (bvs (tornB 512 bk ((BK D.L (fun _ => 512) D.B k).getD nk [])))) (EK D.L (fun _ => 512) D.B X.es X.c k).2 (EK D.L (fun _ => 512) D.B X.es X.c k).1)) (clockI (EK D.L (fun _ => 512) D.B X.es X.c k).1 ((nk : Nat) : Int) (EK D.L (fun _ => 512) D.B X.es X.c k).2), #[]) :: (g1, 82, dwa (nk, bk)) :: (X.t ++ hh)) := H.perm' (@List.perm_middle (Nat × Tid × Array Value) (X.q, .map (entsI X.ls) X.cq, #[]) [(p, .ty 58, (dkC ((D.B.length : Nat) : Int) (.map (some X.m)) (.slice X.A D.L.length X.cap) (.map (some X.q)) (decide (0 ≤ D.fuse)) ((stepP (decide (0 ≤ D.fuse)) X.lf false).2.1) ((stepP (decide (0 ≤ D.fuse)) X.lf false).1))), (X.m, .map (entsI (setI ((nk : Nat) : Int) (.agg (bvs (tornB 512 bk ((BK D.L (fun _ => 512) D.B k).getD nk [])))) (EK D.L (fun _ => 512) D.B X.es X.c k).2 (EK D.L (fun _ => 512) D.B X.es X.c k).1)) (clockI (EK D.L (fun _ => 512) D.B X.es X.c k).1 ((nk : Nat) : Int) (EK D.L (fun _ => 512) D.B X.es X.c k).2), #[]), (g1, .ty 82, dwa (nk, bk))] (X.t ++ hh))
      replace H : St 37 w0 a W [(22, .int .i64 ((k + 1 : Nat) : Int)), (29, .int .i64 ((k + 1 : Nat) : Int)), (27, .agg (dwa (nk, bk))), (26, .pointer (some ⟨p, 0, none⟩)), (5, .pointer (some ⟨g1, 0, none⟩)), (25, .agg (dwa (nk, bk))), (24, .pointer (some ⟨gu, 0 + k * 513, none⟩)), (23, .bool true), (21, .int .i64 ((D.L.length : Nat) : Int)), (20, .slice X.A D.L.length X.cap), (2, .int .i64 0), (0, .pointer (some ⟨p, 0, none⟩))] ((X.m, .map (entsI (setI ((nk : Nat) : Int) (.agg (bvs (tornB 512 bk ((BK D.L (fun _ => 512) D.B k).getD nk [])))) (EK D.L (fun _ => 512) D.B X.es X.c k).2 (EK D.L (fun _ => 512) D.B X.es X.c k).1)) (clockI (EK D.L (fun _ => 512) D.B X.es X.c k).1 ((nk : Nat) : Int) (EK D.L (fun _ => 512) D.B X.es X.c k).2), #[]) :: (X.q, .map (entsI X.ls) X.cq, #[]) :: (p, 58, (dkC ((D.B.length : Nat) : Int) (.map (some X.m)) (.slice X.A D.L.length X.cap) (.map (some X.q)) (decide (0 ≤ D.fuse)) ((stepP (decide (0 ≤ D.fuse)) X.lf false).2.1) ((stepP (decide (0 ≤ D.fuse)) X.lf false).1))) :: (g1, 82, dwa (nk, bk)) :: (X.t ++ hh)) := H.perm' (@List.perm_middle (Nat × Tid × Array Value) (X.m, .map (entsI (setI ((nk : Nat) : Int) (.agg (bvs (tornB 512 bk ((BK D.L (fun _ => 512) D.B k).getD nk [])))) (EK D.L (fun _ => 512) D.B X.es X.c k).2 (EK D.L (fun _ => 512) D.B X.es X.c k).1)) (clockI (EK D.L (fun _ => 512) D.B X.es X.c k).1 ((nk : Nat) : Int) (EK D.L (fun _ => 512) D.B X.es X.c k).2), #[]) [(X.q, .map (entsI X.ls) X.cq, #[]), (p, .ty 58, (dkC ((D.B.length : Nat) : Int) (.map (some X.m)) (.slice X.A D.L.length X.cap) (.map (some X.q)) (decide (0 ≤ D.fuse)) ((stepP (decide (0 ≤ D.fuse)) X.lf false).2.1) ((stepP (decide (0 ≤ D.fuse)) X.lf false).1)))] (([(g1, .ty 82, dwa (nk, bk))] : Hep) ++ (X.t ++ hh)))
      replace H : St 37 w0 a W [(22, .int .i64 ((k + 1 : Nat) : Int)), (29, .int .i64 ((k + 1 : Nat) : Int)), (27, .agg (dwa (nk, bk))), (26, .pointer (some ⟨p, 0, none⟩)), (5, .pointer (some ⟨g1, 0, none⟩)), (25, .agg (dwa (nk, bk))), (24, .pointer (some ⟨gu, 0 + k * 513, none⟩)), (23, .bool true), (21, .int .i64 ((D.L.length : Nat) : Int)), (20, .slice X.A D.L.length X.cap), (2, .int .i64 0), (0, .pointer (some ⟨p, 0, none⟩))] ((p, 58, (dkC ((D.B.length : Nat) : Int) (.map (some X.m)) (.slice X.A D.L.length X.cap) (.map (some X.q)) (decide (0 ≤ D.fuse)) ((stepP (decide (0 ≤ D.fuse)) X.lf false).2.1) ((stepP (decide (0 ≤ D.fuse)) X.lf false).1))) :: (X.m, .map (entsI (setI ((nk : Nat) : Int) (.agg (bvs (tornB 512 bk ((BK D.L (fun _ => 512) D.B k).getD nk [])))) (EK D.L (fun _ => 512) D.B X.es X.c k).2 (EK D.L (fun _ => 512) D.B X.es X.c k).1)) (clockI (EK D.L (fun _ => 512) D.B X.es X.c k).1 ((nk : Nat) : Int) (EK D.L (fun _ => 512) D.B X.es X.c k).2), #[]) :: (X.q, .map (entsI X.ls) X.cq, #[]) :: (g1, 82, dwa (nk, bk)) :: (X.t ++ hh)) := H.perm' (@List.perm_middle (Nat × Tid × Array Value) (p, .ty 58, (dkC ((D.B.length : Nat) : Int) (.map (some X.m)) (.slice X.A D.L.length X.cap) (.map (some X.q)) (decide (0 ≤ D.fuse)) ((stepP (decide (0 ≤ D.fuse)) X.lf false).2.1) ((stepP (decide (0 ≤ D.fuse)) X.lf false).1))) [(X.m, .map (entsI (setI ((nk : Nat) : Int) (.agg (bvs (tornB 512 bk ((BK D.L (fun _ => 512) D.B k).getD nk [])))) (EK D.L (fun _ => 512) D.B X.es X.c k).2 (EK D.L (fun _ => 512) D.B X.es X.c k).1)) (clockI (EK D.L (fun _ => 512) D.B X.es X.c k).1 ((nk : Nat) : Int) (EK D.L (fun _ => 512) D.B X.es X.c k).2), #[]), (X.q, .map (entsI X.ls) X.cq, #[])] (([(g1, .ty 82, dwa (nk, bk))] : Hep) ++ (X.t ++ hh)))
      rw [EK_succ, get_of hLk]
      exact H.pickF (h := [(p, 58, (dkC ((D.B.length : Nat) : Int) (.map (some X.m)) (.slice X.A D.L.length X.cap) (.map (some X.q)) (decide (0 ≤ D.fuse)) ((stepP (decide (0 ≤ D.fuse)) X.lf false).2.1) ((stepP (decide (0 ≤ D.fuse)) X.lf false).1))), (X.m, .map (entsI (setI ((nk : Nat) : Int) (.agg (bvs (tornB 512 bk ((BK D.L (fun _ => 512) D.B k).getD nk [])))) (EK D.L (fun _ => 512) D.B X.es X.c k).2 (EK D.L (fun _ => 512) D.B X.es X.c k).1)) (clockI (EK D.L (fun _ => 512) D.B X.es X.c k).1 ((nk : Nat) : Int) (EK D.L (fun _ => 512) D.B X.es X.c k).2), #[]), (X.q, .map (entsI X.ls) X.cq, #[]), (g1, 82, dwa (nk, bk))]) (t := (X.t ++ hh)) [0, 8, 9, 10, 11] [0, 1, 2] rfl
    · obtain rfl : D.L.length = k := by omega
      refine sqR H gs0 fun Z_ z_ => rV rfl (does_binOp rfl rfl rfl (zd_lss_int (k := ((D.L.length : Nat) : Int)) (m := ((D.L.length : Nat) : Int)) (decide_eq_false (by omega)) _ _)) <| rK [1, 1, 0] [] [] <| rN0 z_ ?_
      try clear H a W
      intro a W H
      refine wp_seq_k (fun K16 hK16 => ?_)
      refine wp_cond_false (H.ev rfl) ?_
      refine wp_exit ?_
      repeat (first | (with_reducible refine then_exit ?_) | (with_reducible refine blk_pass (by decide) ?_))
      refine blk_exit ?_
      refine hK10 _ _ ?_
      clear hK10
      refine wp_seq_k (fun K17 hK17 => ?_)
      refine rgP H gs0 (rS 2 rfl <| rI0 ?_)
      try clear H a W
      intro a W H
      refine pl_makeMap rfl rfl rfl rfl rfl H ?_
      try clear H a W
      intro g2 a W H
      replace H : St 37 w0 a W [(32, .map (some g2)), (31, .pointer (some ⟨p, 0, none⟩)), (30, .pointer (some ⟨p, 0, none⟩)), (23, .bool false), (22, .int .i64 ((D.L.length : Nat) : Int)), (20, .slice X.A D.L.length X.cap), (2, .int .i64 0), (0, .pointer (some ⟨p, 0, none⟩))] ((g2, .map (entsI []) 0, #[]) :: (p, 58, (dkC ((D.B.length : Nat) : Int) (.map (some X.m)) (.slice X.A D.L.length X.cap) (.map (some X.q)) (decide (0 ≤ D.fuse)) ((stepP (decide (0 ≤ D.fuse)) X.lf false).2.1) ((stepP (decide (0 ≤ D.fuse)) X.lf false).1))) :: (X.m, .map (entsI (EK D.L (fun _ => 512) D.B X.es X.c D.L.length).1) (EK D.L (fun _ => 512) D.B X.es X.c D.L.length).2, #[]) :: (X.q, .map (entsI X.ls) X.cq, #[]) :: (X.t ++ hh)) := H
      refine rgO H gs0 (rV rfl (does_nilCheckQ rfl rfl) <| rV rfl (does_fieldAddr rfl rfl (fa_dk 2 (by decide))) <| rX [0, 1] (c := (dkC ((D.B.length : Nat) : Int) (.map (some X.m)) (.slice none 0 0) (.map (some X.q)) (decide (0 ≤ D.fuse)) ((stepP (decide (0 ≤ D.fuse)) X.lf false).2.1) ((stepP (decide (0 ≤ D.fuse)) X.lf false).1))) ⟨rfl, rfl⟩ rfl rfl rfl (st_dk2) rfl <| rV rfl (does_nilCheckQ rfl rfl) <| rV rfl (does_fieldAddr rfl rfl (fa_dk 3 (by decide))) <| rX [0, 1] (c := (dkC ((D.B.length : Nat) : Int) (.map (some X.m)) (.slice none 0 0) (.map (some g2)) (decide (0 ≤ D.fuse)) ((stepP (decide (0 ≤ D.fuse)) X.lf false).2.1) ((stepP (decide (0 ≤ D.fuse)) X.lf false).1))) ⟨rfl, rfl⟩ rfl rfl rfl (st_dk3) rfl <| rK [0, 0, 0, 0, 0, 0, 0, 0, 0, 0, 1, 0] [] [] <| rZ0 ?_)
      try clear H a W
      intro a W H
      refine hK17 _ _ ?_
      clear hK17
      refine sqR H gs0 fun Z_ z_ => rK [0] [] [] <| rS 1 rfl <| rN0 z_ ?_
      try clear H a W
      intro a W H
      refine wp_ret ?_
      repeat (first | (with_reducible refine then_ret ?_) | (with_reducible refine blk_ret ?_))
      refine end_tmp (p := 2) rfl rfl H (fun hb => ?_)
      have hse : (dStep D).2 = 0 := by have h_ := hq1p; rw [hso.err] at h_; omega
      rw [sync_ok2 hse]
      have hBN : settle D.L D.B = (BK D.L (fun _ => 512) D.B D.L.length) := BK_settle hX.dk.B hX.dk.L 0 (Nat.zero_le _)
      have hEN : SBk (EK D.L (fun _ => 512) D.B X.es X.c D.L.length).1 (settle D.L D.B) := by rw [hBN]; exact EK_ok hX.sb (fun q hq => (hX.dk.L q hq).1) _ (Nat.le_refl _)
      have hok2 := sync_ok hX.dk
      rw [sync_ok2 hse] at hok2
      have eR : DX.row (DX.mk X.m g2 (EK D.L (fun _ => 512) D.B X.es X.c D.L.length).2 0 0 none (EK D.L (fun _ => 512) D.B X.es X.c D.L.length).1 [] (stepP (decide (0 ≤ D.fuse)) X.lf false).2.1 []) (Dk.mk (settle D.L D.B) [] (dStep D).1.fuse (dStep D).1.dead) = dkC ((D.B.length : Nat) : Int) (.map (some X.m)) (.slice none 0 0) (.map (some g2)) (decide (0 ≤ D.fuse)) ((stepP (decide (0 ≤ D.fuse)) X.lf false).2.1) ((stepP (decide (0 ≤ D.fuse)) X.lf false).1) := by unfold DX.row; dsimp only; rw [settle_len, hso.dead, hso.fus]; rfl
      refine ⟨DX.rows (DX.mk X.m g2 (EK D.L (fun _ => 512) D.B X.es X.c D.L.length).2 0 0 none (EK D.L (fun _ => 512) D.B X.es X.c D.L.length).1 [] (stepP (decide (0 ≤ D.fuse)) X.lf false).2.1 []) p (Dk.mk (settle D.L D.B) [] (dStep D).1.fuse (dStep D).1.dead), rfl, ⟨(DX.mk X.m g2 (EK D.L (fun _ => 512) D.B X.es X.c D.L.length).2 0 0 none (EK D.L (fun _ => 512) D.B X.es X.c D.L.length).1 [] (stepP (decide (0 ≤ D.fuse)) X.lf false).2.1 []), rfl, ⟨OutD.nil _ _, hEN, LTk.nil _, hso.lf, hok2, by show 0 < (settle D.L D.B).length ∧ (settle D.L D.B).length ≤ 8192; rw [settle_len]; exact hX.nb, Nat.zero_le _⟩⟩, ?_⟩
      unfold DX.rows
      rw [eR]
      replace H : St 37 w0 a W [(2, .int .i64 0)] ((X.m, .map (entsI (EK D.L (fun _ => 512) D.B X.es X.c D.L.length).1) (EK D.L (fun _ => 512) D.B X.es X.c D.L.length).2, #[]) :: (g2, .map (entsI []) 0, #[]) :: (p, 58, (dkC ((D.B.length : Nat) : Int) (.map (some X.m)) (.slice none 0 0) (.map (some g2)) (decide (0 ≤ D.fuse)) ((stepP (decide (0 ≤ D.fuse)) X.lf false).2.1) ((stepP (decide (0 ≤ D.fuse)) X.lf false).1))) :: (X.q, .map (entsI X.ls) X.cq, #[]) :: (X.t ++ hh)) := H.perm' (@List.perm_middle (Nat × Tid × Array Value) (X.m, .map (entsI (EK D.L (fun _ => 512) D.B X.es X.c D.L.length).1) (EK D.L (fun _ => 512) D.B X.es X.c D.L.length).2, #[]) [(g2, .map (entsI []) 0, #[]), (p, .ty 58, (dkC ((D.B.length : Nat) : Int) (.map (some X.m)) (.slice none 0 0) (.map (some g2)) (decide (0 ≤ D.fuse)) ((stepP (decide (0 ≤ D.fuse)) X.lf false).2.1) ((stepP (decide (0 ≤ D.fuse)) X.lf false).1)))] (([(X.q, .map (entsI X.ls) X.cq, #[])] : Hep) ++ (X.t ++ hh)))
      replace H : St 37 w0 a W [(2, .int .i64 0)] ((p, 58, (dkC ((D.B.length : Nat) : Int) (.map (some X.m)) (.slice none 0 0) (.map (some g2)) (decide (0 ≤ D.fuse)) ((stepP (decide (0 ≤ D.fuse)) X.lf false).2.1) ((stepP (decide (0 ≤ D.fuse)) X.lf false).1))) :: (X.m, .map (entsI (EK D.L (fun _ => 512) D.B X.es X.c D.L.length).1) (EK D.L (fun _ => 512) D.B X.es X.c D.L.length).2, #[]) :: (g2, .map (entsI []) 0, #[]) :: (X.q, .map (entsI X.ls) X.cq, #[]) :: (X.t ++ hh)) := H.perm' (@List.perm_middle (Nat × Tid × Array Value) (p, .ty 58, (dkC ((D.B.length : Nat) : Int) (.map (some X.m)) (.slice none 0 0) (.map (some g2)) (decide (0 ≤ D.fuse)) ((stepP (decide (0 ≤ D.fuse)) X.lf false).2.1) ((stepP (decide (0 ≤ D.fuse)) X.lf false).1))) [(X.m, .map (entsI (EK D.L (fun _ => 512) D.B X.es X.c D.L.length).1) (EK D.L (fun _ => 512) D.B X.es X.c D.L.length).2, #[]), (g2, .map (entsI []) 0, #[])] (([(X.q, .map (entsI X.ls) X.cq, #[])] : Hep) ++ (X.t ++ hh)))
      show Kn w0 W ((p, .ty 58, (dkC ((D.B.length : Nat) : Int) (.map (some X.m)) (.slice none 0 0) (.map (some g2)) (decide (0 ≤ D.fuse)) ((stepP (decide (0 ≤ D.fuse)) X.lf false).2.1) ((stepP (decide (0 ≤ D.fuse)) X.lf false).1))) :: (X.m, .map (entsI (EK D.L (fun _ => 512) D.B X.es X.c D.L.length).1) (EK D.L (fun _ => 512) D.B X.es X.c D.L.length).2, #[]) :: (g2, .map (entsI []) 0, #[]) :: hh)
      have H_ := H.pickF (h := [(p, .ty 58, (dkC ((D.B.length : Nat) : Int) (.map (some X.m)) (.slice none 0 0) (.map (some g2)) (decide (0 ≤ D.fuse)) ((stepP (decide (0 ≤ D.fuse)) X.lf false).2.1) ((stepP (decide (0 ≤ D.fuse)) X.lf false).1))), (X.m, .map (entsI (EK D.L (fun _ => 512) D.B X.es X.c D.L.length).1) (EK D.L (fun _ => 512) D.B X.es X.c D.L.length).2, #[]), (g2, .map (entsI []) 0, #[]), (X.q, .map (entsI X.ls) X.cq, #[])]) (t := (X.t ++ hh)) [] [0, 1, 2] rfl
      exact H_.kn.sub ((List.sublist_append_right X.t hh).append_left ([(p, .ty 58, (dkC ((D.B.length : Nat) : Int) (.map (some X.m)) (.slice none 0 0) (.map (some g2)) (decide (0 ≤ D.fuse)) ((stepP (decide (0 ≤ D.fuse)) X.lf false).2.1) ((stepP (decide (0 ≤ D.fuse)) X.lf false).1))), (X.m, .map (entsI (EK D.L (fun _ => 512) D.B X.es X.c D.L.length).1) (EK D.L (fun _ => 512) D.B X.es X.c D.L.length).2, #[]), (g2, .map (entsI []) 0, #[])] : Hep))
set_option maxHeartbeats 4000000 in
theorem crash_x {X : DX} {p : Nat} {D : Dk} {hh : Hep} (w0 : World) {Ap : Option Addr} {np cp : Nat} {picks : List Int} (hP : PK w0 hh Ap np picks) (hnp : np < 9223372036854775808) (hX : X.ok D) (w : World) (K : Kn w0 w (X.rows p D ++ hh)) : Calls Try.prog 23 #[.pointer (some ⟨p, 0, none⟩), .slice Ap np cp] w (fun rr w' => ∃ r', rr = .returned (.int .i64 0) ∧ PO p (dCrash D picks) r' ∧ Kn w0 w' (r' ++ hh)) := by
  have hnb := hX.nb
  have hlf := hX.lf
  have hnl := hX.nl
  obtain ⟨gu, cur, hat⟩ := hX.at_
  obtain ⟨gp, op_, hpk⟩ := hP.at_
  have hpl := hP.len
  have hbig := hP.big
  refine calls_kn (vs := [.pointer (some ⟨p, 0, none⟩), .slice Ap np cp]) 57 Try.func23 rfl Try.ntmps23 rfl K (fun a W H => ?_)
  replace H : St 57 w0 a W [(0, .pointer (some ⟨p, 0, none⟩)), (1, .slice Ap np cp)] ((p, 58, (dkC ((D.B.length : Nat) : Int) (.map (some X.m)) (.slice X.A D.L.length X.cap) (.map (some X.q)) (decide (0 ≤ D.fuse)) X.lf D.dead)) :: (X.m, .map (entsI X.es) X.c, #[]) :: (X.q, .map (entsI X.ls) X.cq, #[]) :: (X.t ++ hh)) := H
  refine sqR H gs0 fun Z_ z_ => rS 1 rfl <| rN0 z_ ?_
  try clear H a W
  intro a W H
  refine wp_seq_k (fun K2 hK2 => ?_)
  refine wp_seq_k (fun K3 hK3 => ?_)
  refine rgP H gs0 (rS 1 rfl <| rI0 ?_)
  try clear H a W
  intro a W H
  refine pl_callV rfl rfl ⟨_, Try.func40, by kernel_rfl⟩ rfl (fun K_ => isNone_live (hh := ([(X.m, .map (entsI X.es) X.c, #[]), (X.q, .map (entsI X.ls) X.cq, #[])] ++ (X.t ++ hh))) (by omega) w0 _ K_) H ?_
  try clear H a W
  intro a W H
  replace H : St 57 w0 a W [(10, .bool false), (9, .pointer (some ⟨p, 0, none⟩)), (4, .int .i64 0), (0, .pointer (some ⟨p, 0, none⟩)), (1, .slice Ap np cp)] ((p, 58, (dkC ((D.B.length : Nat) : Int) (.map (some X.m)) (.slice X.A D.L.length X.cap) (.map (some X.q)) (decide (0 ≤ D.fuse)) X.lf D.dead)) :: (X.m, .map (entsI X.es) X.c, #[]) :: (X.q, .map (entsI X.ls) X.cq, #[]) :: (X.t ++ hh)) := H
  refine rgO H gs0 (rK [1, 0] [] [] <| rZ0 ?_)
  try clear H a W
  intro a W H
  refine hK3 _ _ ?_
  clear hK3
  refine wp_cond_false (H.ev rfl) ?_
  refine wp_skip ?_
  refine hK2 _ _ ?_
  clear hK2
  refine sqR H gs0 fun Z_ z_ => rS 1 rfl <| rV rfl (does_nilCheckQ rfl rfl) <| rV rfl (does_fieldAddr rfl rfl (fa_dk 2 (by decide))) <| rV rfl (does_loadAt (v := .slice X.A D.L.length X.cap) rfl rfl (k := 0) rfl ld_dk2) <| rV rfl (does_len Try.underlying55 rfl rfl) <| rV rfl (does_binOp rfl rfl rfl (zd_sub_int (k := ((D.L.length : Nat) : Int)) (m := 1) (c := ((D.L.length : Nat) : Int) - 1) rfl (by omega) _ _)) <| rS 1 rfl <| rK [1, 0, 0, 0, 0, 0, 0, 0] [] [] <| rN0 z_ ?_
  try clear H a W
  intro a W H
  refine wp_seq_k (fun K5 hK5 => ?_)
  refine sqR H gs0 fun Z_ z_ => rS 1 rfl <| rV rfl (does_nilCheckQ rfl rfl) <| rV rfl (does_fieldAddr rfl rfl (fa_dk 2 (by decide))) <| rV rfl (does_loadAt (v := .slice X.A D.L.length X.cap) rfl rfl (k := 0) rfl ld_dk2) <| rV rfl (does_len Try.underlying55 rfl rfl) <| rS 1 rfl <| rK [1, 1, 1, 0, 0, 0] [] [] <| rN0 z_ ?_
  try clear H a W
  intro a W H
  refine wp_block ?_
  replace H : St 57 w0 a W [(22, .int .i64 ((0 : Nat) : Int)), (21, .int .i64 ((D.L.length : Nat) : Int)), (20, .slice X.A D.L.length X.cap), (5, .int .i64 (((D.L.length : Nat) : Int) - 1)), (4, .int .i64 0), (0, .pointer (some ⟨p, 0, none⟩)), (1, .slice Ap np cp)] ((p, 58, (dkC ((D.B.length : Nat) : Int) (.map (some X.m)) (.slice X.A D.L.length X.cap) (.map (some X.q)) (decide (0 ≤ D.fuse)) X.lf D.dead)) :: (X.m, .map (entsI (EK D.L (ksP picks D.L.length) D.B X.es X.c 0).1) (EK D.L (ksP picks D.L.length) D.B X.es X.c 0).2, #[]) :: (X.q, .map (entsI X.ls) X.cq, #[]) :: (X.t ++ hh)) := H.pickF (h := [(p, 58, (dkC ((D.B.length : Nat) : Int) (.map (some X.m)) (.slice X.A D.L.length X.cap) (.map (some X.q)) (decide (0 ≤ D.fuse)) X.lf D.dead)), (X.m, .map (entsI X.es) X.c, #[]), (X.q, .map (entsI X.ls) X.cq, #[])]) (t := (X.t ++ hh)) [0, 1, 2, 3, 4, 5, 6] [0, 1, 2] rfl
  refine wp_rounds D.L.length (fun k a W => St 57 w0 a W [(22, .int .i64 ((k : Nat) : Int)), (21, .int .i64 ((D.L.length : Nat) : Int)), (20, .slice X.A D.L.length X.cap), (5, .int .i64 (((D.L.length : Nat) : Int) - 1)), (4, .int .i64 0), (0, .pointer (some ⟨p, 0, none⟩)), (1, .slice Ap np cp)] ((p, 58, (dkC ((D.B.length : Nat) : Int) (.map (some X.m)) (.slice X.A D.L.length X.cap) (.map (some X.q)) (decide (0 ≤ D.fuse)) X.lf D.dead)) :: (X.m, .map (entsI (EK D.L (ksP picks D.L.length) D.B X.es X.c k).1) (EK D.L (ksP picks D.L.length) D.B X.es X.c k).2, #[]) :: (X.q, .map (entsI X.ls) X.cq, #[]) :: (X.t ++ hh))) (k0 := 0) H (by omega) ?_
  try clear H a W
  intro k a W hk H
  by_cases hk2 : k < D.L.length
  · obtain ⟨⟨nk, bk⟩, hLk⟩ : ∃ q, D.L[k]? = some q := ⟨_, List.getElem?_eq_getElem hk2⟩
    have hdk := hX.dk.L _ (List.mem_iff_getElem?.2 ⟨k, hLk⟩)
    have hl_bk : bk.length = 512 := hdk.2
    have hl_old : ((BK D.L (ksP picks D.L.length) D.B k).getD nk []).length = 512 := getD_len (BK_all hX.dk.B hX.dk.L (ksP_le _ _) k (by omega)) (by rw [BK_len]; exact hdk.1)
    have hek := EK_ok (ks := (ksP picks D.L.length)) (c := X.c) hX.sb (fun q hq => (hX.dk.L q hq).1) k (by omega) nk (by rw [BK_len]; exact hdk.1)
    refine sqR H gs0 fun Z_ z_ => rV rfl (does_binOp rfl rfl rfl (zd_lss_int (k := ((k : Nat) : Int)) (m := ((D.L.length : Nat) : Int)) (decide_eq_true (by omega)) _ _)) <| rN0 z_ ?_
    try clear H a W
    intro a W H
    refine cdT H rfl ?_
    refine wp_seq_k (fun K8 hK8 => ?_)
    refine wp_block ?_
    refine sqR H gs0 fun Z_ z_ => rS 1 rfl <| rV rfl (does_indexAddr rfl rfl rfl (ia_writes (j := k) (hat (by omega)).1 (by omega))) <| rV rfl (does_loadMem (v := .agg (dwa (nk, bk))) rfl rfl (List.mem_cons_of_mem _ (List.mem_cons_of_mem _ (List.mem_cons_of_mem _ (List.mem_append_left _ (hat (by omega)).2.1)))) (fun W hW => ld_wAt hX.l512 (hat (by omega)).2.2 hLk W hW)) <| rA rfl rfl al_write fun g1 => rS 1 rfl <| rW [1] ⟨rfl, rfl⟩ rfl rfl rfl (info_write hl_bk) (size_write zero_len hl_bk) (dwa_one _) <| rN0 z_ ?_
    try clear H a W
    intro a W H
    refine sqR H gs0 fun Z_ z_ => rS 1 rfl <| rN0 z_ ?_
    try clear H a W
    intro a W H
    refine wp_seq_k (fun K11 hK11 => ?_)
    refine sqR H gs0 fun Z_ z_ => rS 2 rfl <| rV rfl (does_len Try.underlying33 rfl rfl) <| rV rfl (does_binOp rfl rfl rfl (zd_lss_int (k := ((k : Nat) : Int)) (m := ((np : Nat) : Int)) rfl _ _)) <| rN0 z_ ?_
    try clear H a W
    intro a W H
    cases hq1 : decide (((k : Nat) : Int) < ((np : Nat) : Int)) with
    | true =>
      rw [hq1] at H
      have hq1p := of_decide_eq_true hq1
      refine wp_cond_true (H.ev rfl) ?_
      refine rgP H gs0 (rS 2 rfl <| rV rfl (does_indexAddr rfl rfl rfl (ia_ints (j := k) (hpk (by omega)).1 (by omega))) <| rV rfl (does_loadPK rfl rfl (fun q hq => List.mem_cons_of_mem _ (List.mem_cons_of_mem _ (List.mem_cons_of_mem _ (List.mem_cons_of_mem _ (List.mem_append_right _ hq))))) (fun W hb hW => (hpk (by omega)).2 W hb hW k _ (getD_some (by omega)))) <| rK [1, 1, 1, 1, 1, 1, 1, 1, 0] [] [] <| rS 1 rfl <| rZ0 ?_)
      try clear H a W
      intro a W H
      refine hK11 _ _ ?_
      clear hK11
      refine d2 [.v 35 _ [], .v 36 _ [], .v 37 _ [], .v 38 _ [], .v 39 _ [], .v 40 _ [3, 4], .v 41 _ [2, 5]] (by kernel_rfl) (by kernel_rfl) H gs0 ⟨oS rfl rfl, oV rfl (does_load rfl rfl (k := 0) rfl Try.underlying82 rfl (info_write hl_bk)), oS rfl rfl, oS rfl rfl, oS rfl rfl, oV rfl (does_binOp rfl rfl rfl (zd_eql_int (k := ((k : Nat) : Int)) (m := (((D.L.length : Nat) : Int) - 1)) rfl _ _)), oV rfl (does_call rfl ⟨_, Try.func47, by kernel_rfl⟩ rfl (fun W hb => lasting_any (picks.getD k 0) (decide (((k : Nat) : Int) = (((D.L.length : Nat) : Int) - 1))) (by first | exact hbig _ (List.mem_iff_getElem?.2 ⟨k, getD_some (by omega)⟩) | omega) W)), trivial⟩ (rI0 ?_)
      try clear H a W
      intro a W H
      replace H : St 57 w0 a W [(41, .int .i64 ((lastN (picks.getD k 0) (decide (((k : Nat) : Int) = (((D.L.length : Nat) : Int) - 1))) : Nat) : Int)), (40, .bool (decide (((k : Nat) : Int) = (((D.L.length : Nat) : Int) - 1)))), (39, .int .i64 (((D.L.length : Nat) : Int) - 1)), (38, .int .i64 ((k : Nat) : Int)), (37, .int .i64 (picks.getD k 0)), (36, .agg (dwa (nk, bk))), (35, .pointer (some ⟨p, 0, none⟩)), (8, .int .i64 (picks.getD k 0)), (34, .int .i64 (picks.getD k 0)), (33, .pointer (some ⟨gp, op_ + k, none⟩)), (32, .int .i64 ((k : Nat) : Int)), (31, .slice Ap np cp), (30, .bool true), (29, .int .i64 ((np : Nat) : Int)), (28, .slice Ap np cp), (27, .int .i64 ((k : Nat) : Int)), (6, .int .i64 ((k : Nat) : Int)), (7, .pointer (some ⟨g1, 0, none⟩)), (26, .agg (dwa (nk, bk))), (25, .pointer (some ⟨gu, 0 + k * 513, none⟩)), (24, .int .i64 ((k : Nat) : Int)), (23, .bool true), (22, .int .i64 ((k : Nat) : Int)), (21, .int .i64 ((D.L.length : Nat) : Int)), (20, .slice X.A D.L.length X.cap), (5, .int .i64 (((D.L.length : Nat) : Int) - 1)), (4, .int .i64 0), (0, .pointer (some ⟨p, 0, none⟩)), (1, .slice Ap np cp)] ((X.m, .map (entsI (EK D.L (ksP picks D.L.length) D.B X.es X.c k).1) (EK D.L (ksP picks D.L.length) D.B X.es X.c k).2, #[]) :: (g1, 82, dwa (nk, bk)) :: (p, 58, (dkC ((D.B.length : Nat) : Int) (.map (some X.m)) (.slice X.A D.L.length X.cap) (.map (some X.q)) (decide (0 ≤ D.fuse)) X.lf D.dead)) :: (X.q, .map (entsI X.ls) X.cq, #[]) :: (X.t ++ hh)) := H.perm' (@List.perm_middle (Nat × Tid × Array Value) (X.m, .map (entsI (EK D.L (ksP picks D.L.length) D.B X.es X.c k).1) (EK D.L (ksP picks D.L.length) D.B X.es X.c k).2, #[]) [(g1, .ty 82, dwa (nk, bk)), (p, .ty 58, (dkC ((D.B.length : Nat) : Int) (.map (some X.m)) (.slice X.A D.L.length X.cap) (.map (some X.q)) (decide (0 ≤ D.fuse)) X.lf D.dead))] (([(X.q, .map (entsI X.ls) X.cq, #[])] : Hep) ++ (X.t ++ hh)))
      replace H : St 57 w0 a W [(41, .int .i64 ((lastN (picks.getD k 0) (decide (((k : Nat) : Int) = (((D.L.length : Nat) : Int) - 1))) : Nat) : Int)), (40, .bool (decide (((k : Nat) : Int) = (((D.L.length : Nat) : Int) - 1)))), (39, .int .i64 (((D.L.length : Nat) : Int) - 1)), (38, .int .i64 ((k : Nat) : Int)), (37, .int .i64 (picks.getD k 0)), (36, .agg (dwa (nk, bk))), (35, .pointer (some ⟨p, 0, none⟩)), (8, .int .i64 (picks.getD k 0)), (34, .int .i64 (picks.getD k 0)), (33, .pointer (some ⟨gp, op_ + k, none⟩)), (32, .int .i64 ((k : Nat) : Int)), (31, .slice Ap np cp), (30, .bool true), (29, .int .i64 ((np : Nat) : Int)), (28, .slice Ap np cp), (27, .int .i64 ((k : Nat) : Int)), (6, .int .i64 ((k : Nat) : Int)), (7, .pointer (some ⟨g1, 0, none⟩)), (26, .agg (dwa (nk, bk))), (25, .pointer (some ⟨gu, 0 + k * 513, none⟩)), (24, .int .i64 ((k : Nat) : Int)), (23, .bool true), (22, .int .i64 ((k : Nat) : Int)), (21, .int .i64 ((D.L.length : Nat) : Int)), (20, .slice X.A D.L.length X.cap), (5, .int .i64 (((D.L.length : Nat) : Int) - 1)), (4, .int .i64 0), (0, .pointer (some ⟨p, 0, none⟩)), (1, .slice Ap np cp)] ((p, 58, (dkC ((D.B.length : Nat) : Int) (.map (some X.m)) (.slice X.A D.L.length X.cap) (.map (some X.q)) (decide (0 ≤ D.fuse)) X.lf D.dead)) :: (X.m, .map (entsI (EK D.L (ksP picks D.L.length) D.B X.es X.c k).1) (EK D.L (ksP picks D.L.length) D.B X.es X.c k).2, #[]) :: (g1, 82, dwa (nk, bk)) :: (X.q, .map (entsI X.ls) X.cq, #[]) :: (X.t ++ hh)) := H.perm' (@List.perm_middle (Nat × Tid × Array Value) (p, .ty 58, (dkC ((D.B.length : Nat) : Int) (.map (some X.m)) (.slice X.A D.L.length X.cap) (.map (some X.q)) (decide (0 ≤ D.fuse)) X.lf D.dead)) [(X.m, .map (entsI (EK D.L (ksP picks D.L.length) D.B X.es X.c k).1) (EK D.L (ksP picks D.L.length) D.B X.es X.c k).2, #[]), (g1, .ty 82, dwa (nk, bk))] (([(X.q, .map (entsI X.ls) X.cq, #[])] : Hep) ++ (X.t ++ hh)))
      refine pl_callV rfl rfl ⟨_, Try.func46, by kernel_rfl⟩ rfl (fun K_ => settle_p (hh := ([(g1, .ty 82, dwa (nk, bk)), (X.q, .map (entsI X.ls) X.cq, #[])] ++ (X.t ++ hh))) nk (lastN (picks.getD k 0) (decide (((k : Nat) : Int) = (((D.L.length : Nat) : Int) - 1)))) bk ((BK D.L (ksP picks D.L.length) D.B k).getD nk []) (lastN_le _ _) hl_bk hl_old hek w0 _ K_) H ?_
      try clear H a W
      intro a W H
      replace H : St 57 w0 a W [(42, .tuple #[]), (41, .int .i64 ((lastN (picks.getD k 0) (decide (((k : Nat) : Int) = (((D.L.length : Nat) : Int) - 1))) : Nat) : Int)), (40, .bool (decide (((k : Nat) : Int) = (((D.L.length : Nat) : Int) - 1)))), (39, .int .i64 (((D.L.length : Nat) : Int) - 1)), (38, .int .i64 ((k : Nat) : Int)), (37, .int .i64 (picks.getD k 0)), (36, .agg (dwa (nk, bk))), (35, .pointer (some ⟨p, 0, none⟩)), (8, .int .i64 (picks.getD k 0)), (34, .int .i64 (picks.getD k 0)), (33, .pointer (some ⟨gp, op_ + k, none⟩)), (32, .int .i64 ((k : Nat) : Int)), (31, .slice Ap np cp), (30, .bool true), (29, .int .i64 ((np : Nat) : Int)), (28, .slice Ap np cp), (27, .int .i64 ((k : Nat) : Int)), (6, .int .i64 ((k : Nat) : Int)), (7, .pointer (some ⟨g1, 0, none⟩)), (26, .agg (dwa (nk, bk))), (25, .pointer (some ⟨gu, 0 + k * 513, none⟩)), (24, .int .i64 ((k : Nat) : Int)), (23, .bool true), (22, .int .i64 ((k : Nat) : Int)), (21, .int .i64 ((D.L.length : Nat) : Int)), (20, .slice X.A D.L.length X.cap), (5, .int .i64 (((D.L.length : Nat) : Int) - 1)), (4, .int .i64 0), (0, .pointer (some ⟨p, 0, none⟩)), (1, .slice Ap np cp)] ((p, 58, (dkC ((D.B.length : Nat) : Int) (.map (some X.m)) (.slice X.A D.L.length X.cap) (.map (some X.q)) (decide (0 ≤ D.fuse)) X.lf D.dead)) :: (X.m, .map (entsI (setI ((nk : Nat) : Int) (.agg (bvs (tornB (lastN (picks.getD k 0) (decide (((k : Nat) : Int) = (((D.L.length : Nat) : Int) - 1)))) bk ((BK D.L (ksP picks D.L.length) D.B k).getD nk [])))) (EK D.L (ksP picks D.L.length) D.B X.es X.c k).2 (EK D.L (ksP picks D.L.length) D.B X.es X.c k).1)) (clockI (EK D.L (ksP picks D.L.length) D.B X.es X.c k).1 ((nk : Nat) : Int) (EK D.L (ksP picks D.L.length) D.B X.es X.c k).2), #[]) :: (g1, 82, dwa (nk, bk)) :: (X.q, .map (entsI X.ls) X.cq, #[]) :: (X.t ++ hh)) := H
      refine rgO H gs0 (rK [0] [] [] <| rZ0 ?_)
      try clear H a W
      intro a W H
      refine blk_normal ?_
      refine hK8 _ _ ?_
      clear hK8
      refine rgP H gs0 (rV rfl (does_binOp rfl rfl rfl (zd_add_int (k := ((k : Nat) : Int)) (m := 1) (c := ((k + 1 : Nat) : Int)) (by omega) (by omega) _ _)) <| rK [1, 1, 1, 1, 1, 1, 1, 1, 1, 1, 1, 1, 1, 1, 1, 1, 1, 1, 1, 1, 1, 1, 1, 0] [] [] <| rS 1 rfl <| rZ0 ?_)
      try clear H a W
      intro a W H
      refine ⟨k + 1, by omega, by omega, ?_⟩
      show St 57 w0 a W [(22, .int .i64 ((k + 1 : Nat) : Int)), (21, .int .i64 ((D.L.length : Nat) : Int)), (20, .slice X.A D.L.length X.cap), (5, .int .i64 (((D.L.length : Nat) : Int) - 1)), (4, .int .i64 0), (0, .pointer (some ⟨p, 0, none⟩)), (1, .slice Ap np cp)] ((p, 58, (dkC ((D.B.length : Nat) : Int) (.map (some X.m)) (.slice X.A D.L.length X.cap) (.map (some X.q)) (decide (0 ≤ D.fuse)) X.lf D.dead)) :: (X.m, .map (entsI (EK D.L (ksP picks D.L.length) D.B X.es X.c (k + 1)).1) (EK D.L (ksP picks D.L.length) D.B X.es X.c (k + 1)).2, #[]) :: (X.q, .map (entsI X.ls) X.cq, #[]) :: (X.t ++ hh))
      replace H : St 57 w0 a W [(22, .int .i64 ((k + 1 : Nat) : Int)), (43, .int .i64 ((k + 1 : Nat) : Int)), (41, .int .i64 ((lastN (picks.getD k 0) (decide (((k : Nat) : Int) = (((D.L.length : Nat) : Int) - 1))) : Nat) : Int)), (40, .bool (decide (((k : Nat) : Int) = (((D.L.length : Nat) : Int) - 1)))), (39, .int .i64 (((D.L.length : Nat) : Int) - 1)), (38, .int .i64 ((k : Nat) : Int)), (37, .int .i64 (picks.getD k 0)), (36, .agg (dwa (nk, bk))), (35, .pointer (some ⟨p, 0, none⟩)), (8, .int .i64 (picks.getD k 0)), (34, .int .i64 (picks.getD k 0)), (33, .pointer (some ⟨gp, op_ + k, none⟩)), (32, .int .i64 ((k : Nat) : Int)), (31, .slice Ap np cp), (30, .bool true), (29, .int .i64 ((np : Nat) : Int)), (28, .slice Ap np cp), (27, .int .i64 ((k : Nat) : Int)), (6, .int .i64 ((k : Nat) : Int)), (7, .pointer (some ⟨g1, 0, none⟩)), (26, .agg (dwa (nk, bk))), (25, .pointer (some ⟨gu, 0 + k * 513, none⟩)), (24, .int .i64 ((k : Nat) : Int)), (23, .bool true), (21, .int .i64 ((D.L.length : Nat) : Int)), (20, .slice X.A D.L.length X.cap), (5, .int .i64 (((D.L.length : Nat) : Int) - 1)), (4, .int .i64 0), (0, .pointer (some ⟨p, 0, none⟩)), (1, .slice Ap np cp)] ((X.q, .map (entsI X.ls) X.cq, #[]) :: (p, 58, (dkC ((D.B.length : Nat) : Int) (.map (some X.m)) (.slice X.A D.L.length X.cap) (.map (some X.q)) (decide (0 ≤ D.fuse)) X.lf D.dead)) :: (X.m, .map (entsI (setI ((nk : Nat) : Int) (.agg (bvs (tornB (lastN (picks.getD k 0) (decide (((k : Nat) : Int) = (((D.L.length : Nat) : Int) - 1)))) bk ((BK D.L (ksP picks D.L.length) D.B k).getD nk [])))) (EK D.L (ksP picks D.L.length) D.B X.es X.c k).2 (EK D.L (ksP picks D.L.length) D.B X.es X.c k).1)) (clockI (EK D.L (ksP picks D.L.length) D.B X.es X.c k).1 ((nk : Nat) : Int) (EK D.L (ksP picks D.L.length) D.B X.es X.c k).2), #[]) :: (g1, 82, dwa (nk, bk)) :: (X.t ++ hh)) := H.perm' (@List.perm_middle (Nat × Tid × Array Value) (X.q, .map (entsI X.ls) X.cq, #[]) [(p, .ty 58, (dkC ((D.B.length : Nat) : Int) (.map (some X.m)) (.slice X.A D.L.length X.cap) (.map (some X.q)) (decide (0 ≤ D.fuse)) X.lf D.dead)), (X.m, .map (entsI (setI ((nk : Nat) : Int) (.agg (bvs (tornB (lastN (picks.getD k 0) (decide (((k : Nat) : Int) = (((D.L.length : Nat) : Int) - 1)))) bk ((BK D.L (ksP picks D.L.length) D.B k).getD nk [])))) (EK D.L (ksP picks D.L.length) D.B X.es X.c k).2 (EK D.L (ksP picks D.L.length) D.B X.es X.c k).1)) (clockI (EK D.L (ksP picks D.L.length) D.B X.es X.c k).1 ((nk : Nat) : Int) (EK D.L (ksP picks D.L.length) D.B X.es X.c k).2), #[]), (g1, .ty 82, dwa (nk, bk))] (X.t ++ hh))
      replace H : St 57 w0 a W [(22, .int .i64 ((k + 1 : Nat) : Int)), (43, .int .i64 ((k + 1 : Nat) : Int)), (41, .int .i64 ((lastN (picks.getD k 0) (decide (((k : Nat) : Int) = (((D.L.length : Nat) : Int) - 1))) : Nat) : Int)), (40, .bool (decide (((k : Nat) : Int) = (((D.L.length : Nat) : Int) - 1)))), (39, .int .i64 (((D.L.length : Nat) : Int) - 1)), (38, .int .i64 ((k : Nat) : Int)), (37, .int .i64 (picks.getD k 0)), (36, .agg (dwa (nk, bk))), (35, .pointer (some ⟨p, 0, none⟩)), (8, .int .i64 (picks.getD k 0)), (34, .int .i64 (picks.getD k 0)), (33, .pointer (some ⟨gp, op_ + k, none⟩)), (32, .int .i64 ((k : Nat) : Int)), (31, .slice Ap np cp), (30, .bool true), (29, .int .i64 ((np : Nat) : Int)), (28, .slice Ap np cp), (27, .int .i64 ((k : Nat) : Int)), (6, .int .i64 ((k : Nat) : Int)), (7, .pointer (some ⟨g1, 0, none⟩)), (26, .agg (dwa (nk, bk))), (25, .pointer (some ⟨gu, 0 + k * 513, none⟩)), (24, .int .i64 ((k : Nat) : Int)), (23, .bool true), (21, .int .i64 ((D.L.length : Nat) : Int)), (20, .slice X.A D.L.length X.cap), (5, .int .i64 (((D.L.length : Nat) : Int) - 1)), (4, .int .i64 0), (0, .pointer (some ⟨p, 0, none⟩)), (1, .slice Ap np cp)] ((X.m, .map (entsI (setI ((nk : Nat) : Int) (.agg (bvs (tornB (lastN (picks.getD k 0) (decide (((k : Nat) : Int) = (((D.L.length : Nat) : Int) - 1)))) bk ((BK D.L (ksP picks D.L.length) D.B k).getD nk [])))) (EK D.L (ksP picks D.L.length) D.B X.es X.c k).2 (EK D.L (ksP picks D.L.length) D.B X.es X.c k).1)) (clockI (EK D.L (ksP picks D.L.length) D.B X.es X.c k).1 ((nk : Nat) : Int) (EK D.L (ksP picks D.L.length) D.B X.es X.c k).2), #[]) :: (X.q, .map (entsI X.ls) X.cq, #[]) :: (p, 58, (dkC ((D.B.length : Nat) : Int) (.map (some X.m)) (.slice X.A D.L.length X.cap) (.map (some X.q)) (decide (0 ≤ D.fuse)) X.lf D.dead)) :: (g1, 82, dwa (nk, bk)) :: (X.t ++ hh)) := H.perm' (@List.perm_middle (Nat × Tid × Array Value) (X.m, .map (entsI (setI ((nk : Nat) : Int) (.agg (bvs (tornB (lastN (picks.getD k 0) (decide (((k : Nat) : Int) = (((D.L.length : Nat) : Int) - 1)))) bk ((BK D.L (ksP picks D.L.length) D.B k).getD nk [])))) (EK D.L (ksP picks D.L.length) D.B X.es X.c k).2 (EK D.L (ksP picks D.L.length) D.B X.es X.c k).1)) (clockI (EK D.L (ksP picks D.L.length) D.B X.es X.c k).1 ((nk : Nat) : Int) (EK D.L (ksP picks D.L.length) D.B X.es X.c k).2), #[]) [(X.q, .map (entsI X.ls) X.cq, #[]), (p, .ty 58, (dkC ((D.B.length : Nat) : Int) (.map (some X.m)) (.slice X.A D.L.length X.cap) (.map (some X.q)) (decide (0 ≤ D.fuse)) X.lf D.dead))] (([(g1, .ty 82, dwa (nk, bk))] : Hep) ++ (X.t ++ hh)))
      replace H : St 57 w0 a W [(22, .int .i64 ((k + 1 : Nat) : Int)), (43, .int .i64 ((k + 1 : Nat) : Int)), (41, .int .i64 ((lastN (picks.getD k 0) (decide (((k : Nat) : Int) = (((D.L.length : Nat) : Int) - 1))) : Nat) : Int)), (40, .bool (decide (((k : Nat) : Int) = (((D.L.length : Nat) : Int) - 1)))), (39, .int .i64 (((D.L.length : Nat) : Int) - 1)), (38, .int .i64 ((k : Nat) : Int)), (37, .int .i64 (picks.getD k 0)), (36, .agg (dwa (nk, bk))), (35, .pointer (some ⟨p, 0, none⟩)), (8, .int .i64 (picks.getD k 0)), (34, .int .i64 (picks.getD k 0)), (33, .pointer (some ⟨gp, op_ + k, none⟩)), (32, .int .i64 ((k : Nat) : Int)), (31, .slice Ap np cp), (30, .bool true), (29, .int .i64 ((np : Nat) : Int)), (28, .slice Ap np cp), (27, .int .i64 ((k : Nat) : Int)), (6, .int .i64 ((k : Nat) : Int)), (7, .pointer (some ⟨g1, 0, none⟩)), (26, .agg (dwa (nk, bk))), (25, .pointer (some ⟨gu, 0 + k * 513, none⟩)), (24, .int .i64 ((k : Nat) : Int)), (23, .bool true), (21, .int .i64 ((D.L.length : Nat) : Int)), (20, .slice X.A D.L.length X.cap), (5, .int .i64 (((D.L.length : Nat) : Int) - 1)), (4, .int .i64 0), (0, .pointer (some ⟨p, 0, none⟩)), (1, .slice Ap np cp)] ((p, 58, (dkC ((D.B.length : Nat) : Int) (.map (some X.m)) (.slice X.A D.L.length X.cap) (.map (some X.q)) (decide (0 ≤ D.fuse)) X.lf D.dead)) :: (X.m, .map (entsI (setI ((nk : Nat) : Int) (.agg (bvs (tornB (lastN (picks.getD k 0) (decide (((k : Nat) : Int) = (((D.L.length : Nat) : Int) - 1)))) bk ((BK D.L (ksP picks D.L.length) D.B k).getD nk [])))) (EK D.L (ksP picks D.L.length) D.B X.es X.c k).2 (EK D.L (ksP picks D.L.length) D.B X.es X.c k).1)) (clockI (EK D.L (ksP picks D.L.length) D.B X.es X.c k).1 ((nk : Nat) : Int) (EK D.L (ksP picks D.L.length) D.B X.es X.c k).2), #[]) :: (X.q, .map (entsI X.ls) X.cq, #[]) :: (g1, 82, dwa (nk, bk)) :: (X.t ++ hh)) := H.perm' (@List.perm_middle (Nat × Tid × Array Value) (p, .ty 58, (dkC ((D.B.length : Nat) : Int) (.map (some X.m)) (.slice X.A D.L.length X.cap) (.map (some X.q)) (decide (0 ≤ D.fuse)) X.lf D.dead)) [(X.m, .map (entsI (setI ((nk : Nat) : Int) (.agg (bvs (tornB (lastN (picks.getD k 0) (decide (((k : Nat) : Int) = (((D.L.length : Nat) : Int) - 1)))) bk ((BK D.L (ksP picks D.L.length) D.B k).getD nk [])))) (EK D.L (ksP picks D.L.length) D.B X.es X.c k).2 (EK D.L (ksP picks D.L.length) D.B X.es X.c k).1)) (clockI (EK D.L (ksP picks D.L.length) D.B X.es X.c k).1 ((nk : Nat) : Int) (EK D.L (ksP picks D.L.length) D.B X.es X.c k).2), #[]), (X.q, .map (entsI X.ls) X.cq, #[])] (([(g1, .ty 82, dwa (nk, bk))] : Hep) ++ (X.t ++ hh)))
      have hks : lastN (picks.getD k 0) (decide (((k : Nat) : Int) = (((D.L.length : Nat) : Int) - 1))) = ksP picks D.L.length k := by
        unfold ksP
        rw [show decide (k + 1 = D.L.length) = decide (((k : Nat) : Int) = (((D.L.length : Nat) : Int) - 1)) from decide_eq_decide.2 (by omega)]
      rw [EK_succ, get_of hLk, ← hks]
      exact H.pickF (h := [(p, 58, (dkC ((D.B.length : Nat) : Int) (.map (some X.m)) (.slice X.A D.L.length X.cap) (.map (some X.q)) (decide (0 ≤ D.fuse)) X.lf D.dead)), (X.m, .map (entsI (setI ((nk : Nat) : Int) (.agg (bvs (tornB (lastN (picks.getD k 0) (decide (((k : Nat) : Int) = (((D.L.length : Nat) : Int) - 1)))) bk ((BK D.L (ksP picks D.L.length) D.B k).getD nk [])))) (EK D.L (ksP picks D.L.length) D.B X.es X.c k).2 (EK D.L (ksP picks D.L.length) D.B X.es X.c k).1)) (clockI (EK D.L (ksP picks D.L.length) D.B X.es X.c k).1 ((nk : Nat) : Int) (EK D.L (ksP picks D.L.length) D.B X.es X.c k).2), #[]), (X.q, .map (entsI X.ls) X.cq, #[]), (g1, 82, dwa (nk, bk))]) (t := (X.t ++ hh)) [0, 24, 25, 26, 27, 28, 29] [0, 1, 2] rfl
    | false =>
      rw [hq1] at H
      have hq1p := of_decide_eq_false hq1
      refine wp_cond_false (H.ev rfl) ?_
      refine wp_skip ?_
      refine hK11 _ _ ?_
      clear hK11
      refine d2 [.v 35 _ [], .v 36 _ [], .v 37 _ [], .v 38 _ [], .v 39 _ [], .v 40 _ [3, 4], .v 41 _ [2, 5]] (by kernel_rfl) (by kernel_rfl) H gs0 ⟨oS rfl rfl, oV rfl (does_load rfl rfl (k := 0) rfl Try.underlying82 rfl (info_write hl_bk)), oS rfl rfl, oS rfl rfl, oS rfl rfl, oV rfl (does_binOp rfl rfl rfl (zd_eql_int (k := ((k : Nat) : Int)) (m := (((D.L.length : Nat) : Int) - 1)) rfl _ _)), oV rfl (does_call rfl ⟨_, Try.func47, by kernel_rfl⟩ rfl (fun W hb => lasting_any 0 (decide (((k : Nat) : Int) = (((D.L.length : Nat) : Int) - 1))) (by first | exact hbig _ (List.mem_iff_getElem?.2 ⟨k, getD_some (by omega)⟩) | omega) W)), trivial⟩ (rI0 ?_)
      try clear H a W
      intro a W H
      replace H : St 57 w0 a W [(41, .int .i64 ((lastN 0 (decide (((k : Nat) : Int) = (((D.L.length : Nat) : Int) - 1))) : Nat) : Int)), (40, .bool (decide (((k : Nat) : Int) = (((D.L.length : Nat) : Int) - 1)))), (39, .int .i64 (((D.L.length : Nat) : Int) - 1)), (38, .int .i64 ((k : Nat) : Int)), (37, .int .i64 0), (36, .agg (dwa (nk, bk))), (35, .pointer (some ⟨p, 0, none⟩)), (30, .bool false), (29, .int .i64 ((np : Nat) : Int)), (28, .slice Ap np cp), (27, .int .i64 ((k : Nat) : Int)), (8, .int .i64 0), (6, .int .i64 ((k : Nat) : Int)), (7, .pointer (some ⟨g1, 0, none⟩)), (26, .agg (dwa (nk, bk))), (25, .pointer (some ⟨gu, 0 + k * 513, none⟩)), (24, .int .i64 ((k : Nat) : Int)), (23, .bool true), (22, .int .i64 ((k : Nat) : Int)), (21, .int .i64 ((D.L.length : Nat) : Int)), (20, .slice X.A D.L.length X.cap), (5, .int .i64 (((D.L.length : Nat) : Int) - 1)), (4, .int .i64 0), (0, .pointer (some ⟨p, 0, none⟩)), (1, .slice Ap np cp)] ((X.m, .map (entsI (EK D.L (ksP picks D.L.length) D.B X.es X.c k).1) (EK D.L (ksP picks D.L.length) D.B X.es X.c k).2, #[]) :: (g1, 82, dwa (nk, bk)) :: (p, 58, (dkC ((D.B.length : Nat) : Int) (.map (some X.m)) (.slice X.A D.L.length X.cap) (.map (some X.q)) (decide (0 ≤ D.fuse)) X.lf D.dead)) :: (X.q, .map (entsI X.ls) X.cq, #[]) :: (X.t ++ hh)) := H.perm' (@List.perm_middle (Nat × Tid × Array Value) (X.m, .map (entsI (EK D.L (ksP picks D.L.length) D.B X.es X.c k).1) (EK D.L (ksP picks D.L.length) D.B X.es X.c k).2, #[]) [(g1, .ty 82, dwa (nk, bk)), (p, .ty 58, (dkC ((D.B.length : Nat) : Int) (.map (some X.m)) (.slice X.A D.L.length X.cap) (.map (some X.q)) (decide (0 ≤ D.fuse)) X.lf D.dead))] (([(X.q, .map (entsI X.ls) X.cq, #[])] : Hep) ++ (X.t ++ hh)))
      replace H : St 57 w0 a W [(41, .int .i64 ((lastN 0 (decide (((k : Nat) : Int) = (((D.L.length : Nat) : Int) - 1))) : Nat) : Int)), (40, .bool (decide (((k : Nat) : Int) = (((D.L.length : Nat) : Int) - 1)))), (39, .int .i64 (((D.L.length : Nat) : Int) - 1)), (38, .int .i64 ((k : Nat) : Int)), (37, .int .i64 0), (36, .agg (dwa (nk, bk))), (35, .pointer (some ⟨p, 0, none⟩)), (30, .bool false), (29, .int .i64 ((np : Nat) : Int)), (28, .slice Ap np cp), (27, .int .i64 ((k : Nat) : Int)), (8, .int .i64 0), (6, .int .i64 ((k : Nat) : Int)), (7, .pointer (some ⟨g1, 0, none⟩)), (26, .agg (dwa (nk, bk))), (25, .pointer (some ⟨gu, 0 + k * 513, none⟩)), (24, .int .i64 ((k : Nat) : Int)), (23, .bool true), (22, .int .i64 ((k : Nat) : Int)), (21, .int .i64 ((D.L.length : Nat) : Int)), (20, .slice X.A D.L.length X.cap), (5, .int .i64 (((D.L.length : Nat) : Int) - 1)), (4, .int .i64 0), (0, .pointer (some ⟨p, 0, none⟩)), (1, .slice Ap np cp)] ((p, 58, (dkC ((D.B.length : Nat) : Int) (.map (some X.m)) (.slice X.A D.L.length X.cap) (.map (some X.q)) (decide (0 ≤ D.fuse)) X.lf D.dead)) :: (X.m, .map (entsI (EK D.L (ksP picks D.L.length) D.B X.es X.c k).1) (EK D.L (ksP picks D.L.length) D.B X.es X.c k).2, #[]) :: (g1, 82, dwa (nk, bk)) :: (X.q, .map (entsI X.ls) X.cq, #[]) :: (X.t ++ hh)) := H.perm' (@List.perm_middle (Nat × Tid × Array Value) (p, .ty 58, (dkC ((D.B.length : Nat) : Int) (.map (some X.m)) (.slice X.A D.L.length X.cap) (.map (some X.q)) (decide (0 ≤ D.fuse)) X.lf D.dead)) [(X.m, .map (entsI (EK D.L (ksP picks D.L.length) D.B X.es X.c k).1) (EK D.L (ksP picks D.L.length) D.B X.es X.c k).2, #[]), (g1, .ty 82, dwa (nk, bk))] (([(X.q, .map (entsI X.ls) X.cq, #[])] : Hep) ++ (X.t ++ hh)))
      refine pl_callV rfl rfl ⟨_, Try.func46, by kernel_rfl⟩ rfl (fun K_ => settle_p (hh := ([(g1, .ty 82, dwa (nk, bk)), (X.q, .map (entsI X.ls) X.cq, #[])] ++ (X.t ++ hh))) nk (lastN 0 (decide (((k : Nat) : Int) = (((D.L.length : Nat) : Int) - 1)))) bk ((BK D.L (ksP picks D.L.length) D.B k).getD nk []) (lastN_le _ _) hl_bk hl_old hek w0 _ K_) H ?_
      try clear H a W
      intro a W H
      replace H : St 57 w0 a W [(42, .tuple #[]), (41, .int .i64 ((lastN 0 (decide (((k : Nat) : Int) = (((D.L.length : Nat) : Int) - 1))) : Nat) : Int)), (40, .bool (decide (((k : Nat) : Int) = (((D.L.length : Nat) : Int) - 1)))), (39, .int .i64 (((D.L.length : Nat) : Int) - 1)), (38, .int .i64 ((k : Nat) : Int)), (37, .int .i64 0), (36, .agg (dwa (nk, bk))), (35, .pointer (some ⟨p, 0, none⟩)), (30, .bool false), (29, .int .i64 ((np : Nat) : Int)), (28, .slice Ap np cp), (27, .int .i64 ((k : Nat) : Int)), (8, .int .i64 0), (6, .int .i64 ((k : Nat) : Int)), (7, .pointer (some ⟨g1, 0, none⟩)), (26, .agg (dwa (nk, bk))), (25, .pointer (some ⟨gu, 0 + k * 513, none⟩)), (24, .int .i64 ((k : Nat) : Int)), (23, .bool true), (22, .int .i64 ((k : Nat) : Int)), (21, .int .i64 ((D.L.length : Nat) : Int)), (20, .slice X.A D.L.length X.cap), (5, .int .i64 (((D.L.length : Nat) : Int) - 1)), (4, .int .i64 0), (0, .pointer (some ⟨p, 0, none⟩)), (1, .slice Ap np cp)] ((p, 58, (dkC ((D.B.length : Nat) : Int) (.map (some X.m)) (.slice X.A D.L.length X.cap) (.map (some X.q)) (decide (0 ≤ D.fuse)) X.lf D.dead)) :: (X.m, .map (entsI (setI ((nk : Nat) : Int) (.agg (bvs (tornB (lastN 0 (decide (((k : Nat) : Int) = (((D.L.length : Nat) : Int) - 1)))) bk ((BK D.L (ksP picks D.L.length) D.B k).getD nk [])))) (EK D.L (ksP picks D.L.length) D.B X.es X.c k).2 (EK D.L (ksP picks D.L.length) D.B X.es X.c k).1)) (clockI (EK D.L (ksP picks D.L.length) D.B X.es X.c k).1 ((nk : Nat) : Int) (EK D.L (ksP picks D.L.length) D.B X.es X.c k).2), #[]) :: (g1, 82, dwa (nk, bk)) :: (X.q, .map (entsI X.ls) X.cq, #[]) :: (X.t ++ hh)) := H
      refine rgO H gs0 (rK [0] [] [] <| rZ0 ?_)
      try clear H a W
      intro a W H
      refine blk_normal ?_
      refine hK8 _ _ ?_
      clear hK8
      refine rgP H gs0 (rV rfl (does_binOp rfl rfl rfl (zd_add_int (k := ((k : Nat) : Int)) (m := 1) (c := ((k + 1 : Nat) : Int)) (by omega) (by omega) _ _)) <| rK [1, 1, 1, 1, 1, 1, 1, 1, 1, 1, 1, 1, 1, 1, 1, 1, 1, 1, 1, 0] [] [] <| rS 1 rfl <| rZ0 ?_)
      try clear H a W
      intro a W H
      refine ⟨k + 1, by omega, by omega, ?_⟩
      show St 57 w0 a W [(22, .int .i64 ((k + 1 : Nat) : Int)), (21, .int .i64 ((D.L.length : Nat) : Int)), (20, .slice X.A D.L.length X.cap), (5, .int .i64 (((D.L.length : Nat) : Int) - 1)), (4, .int .i64 0), (0, .pointer (some ⟨p, 0, none⟩)), (1, .slice Ap np cp)] ((p, 58, (dkC ((D.B.length : Nat) : Int) (.map (some X.m)) (.slice X.A D.L.length X.cap) (.map (some X.q)) (decide (0 ≤ D.fuse)) X.lf D.dead)) :: (X.m, .map (entsI (EK D.L (ksP picks D.L.length) D.B X.es X.c (k + 1)).1) (EK D.L (ksP picks D.L.length) D.B X.es X.c (k + 1)).2, #[]) :: (X.q, .map (entsI X.ls) X.cq, #[]) :: (X.t ++ hh))
      replace H : St 57 w0 a W [(22, .int .i64 ((k + 1 : Nat) : Int)), (43, .int .i64 ((k + 1 : Nat) : Int)), (41, .int .i64 ((lastN 0 (decide (((k : Nat) : Int) = (((D.L.length : Nat) : Int) - 1))) : Nat) : Int)), (40, .bool (decide (((k : Nat) : Int) = (((D.L.length : Nat) : Int) - 1)))), (39, .int .i64 (((D.L.length : Nat) : Int) - 1)), (38, .int .i64 ((k : Nat) : Int)), (37, .int .i64 0), (36, .agg (dwa (nk, bk))), (35, .pointer (some ⟨p, 0, none⟩)), (30, .bool false), (29, .int .i64 ((np : Nat) : Int)), (28, .slice Ap np cp), (27, .int .i64 ((k : Nat) : Int)), (8, .int .i64 0), (6, .int .i64 ((k : Nat) : Int)), (7, .pointer (some ⟨g1, 0, none⟩)), (26, .agg (dwa (nk, bk))), (25, .pointer (some ⟨gu, 0 + k * 513, none⟩)), (24, .int .i64 ((k : Nat) : Int)), (23, .bool true), (21, .int .i64 ((D.L.length : Nat) : Int)), (20, .slice X.A D.L.length X.cap), (5, .int .i64 (((D.L.length : Nat) : Int) - 1)), (4, .int .i64 0), (0, .pointer (some ⟨p, 0, none⟩)), (1, .slice Ap np cp)] ((X.q, .map (entsI X.ls) X.cq, #[]) :: (p, 58, (dkC ((D.B.length : Nat) : Int) (.map (some X.m)) (.slice X.A D.L.length X.cap) (.map (some X.q)) (decide (0 ≤ D.fuse)) X.lf D.dead)) :: (X.m, .map (entsI (setI ((nk : Nat) : Int) (.agg (bvs (tornB (lastN 0 (decide (((k : Nat) : Int) = (((D.L.length : Nat) : Int) - 1)))) bk ((BK D.L (ksP picks D.L.length) D.B k).getD nk [])))) (EK D.L (ksP picks D.L.length) D.B X.es X.c k).2 (EK D.L (ksP picks D.L.length) D.B X.es X.c k).1)) (clockI (EK D.L (ksP picks D.L.length) D.B X.es X.c k).1 ((nk : Nat) : Int) (EK D.L (ksP picks D.L.length) D.B X.es X.c k).2), #[]) :: (g1, 82, dwa (nk, bk)) :: (X.t ++ hh)) := H.perm' (@List.perm_middle (Nat × Tid × Array Value) (X.q, .map (entsI X.ls) X.cq, #[]) [(p, .ty 58, (dkC ((D.B.length : Nat) : Int) (.map (some X.m)) (.slice X.A D.L.length X.cap) (.map (some X.q)) (decide (0 ≤ D.fuse)) X.lf D.dead)), (X.m, .map (entsI (setI ((nk : Nat) : Int) (.agg (bvs (tornB (lastN 0 (decide (((k : Nat) : Int) = (((D.L.length : Nat) : Int) - 1)))) bk ((BK D.L (ksP picks D.L.length) D.B k).getD nk [])))) (EK D.L (ksP picks D.L.length) D.B X.es X.c k).2 (EK D.L (ksP picks D.L.length) D.B X.es X.c k).1)) (clockI (EK D.L (ksP picks D.L.length) D.B X.es X.c k).1 ((nk : Nat) : Int) (EK D.L (ksP picks D.L.length) D.B X.es X.c k).2), #[]), (g1, .ty 82, dwa (nk, bk))] (X.t ++ hh))
      replace H : St 57 w0 a W [(22, .int .i64 ((k + 1 : Nat) : Int)), (43, .int .i64 ((k + 1 : Nat) : Int)), (41, .int .i64 ((lastN 0 (decide (((k : Nat) : Int) = (((D.L.length : Nat) : Int) - 1))) : Nat) : Int)), (40, .bool (decide (((k : Nat) : Int) = (((D.L.length : Nat) : Int) - 1)))), (39, .int .i64 (((D.L.length : Nat) : Int) - 1)), (38, .int .i64 ((k : Nat) : Int)), (37, .int .i64 0), (36, .agg (dwa (nk, bk))), (35, .pointer (some ⟨p, 0, none⟩)), (30, .bool false), (29, .int .i64 ((np : Nat) : Int)), (28, .slice Ap np cp), (27, .int .i64 ((k : Nat) : Int)), (8, .int .i64 0), (6, .int .i64 ((k : Nat) : Int)), (7, .pointer (some ⟨g1, 0, none⟩)), (26, .agg (dwa (nk, bk))), (25, .pointer (some ⟨gu, 0 + k * 513, none⟩)), (24, .int .i64 ((k : Nat) : Int)), (23, .bool true), (21, .int .i64 ((D.L.length : Nat) : Int)), (20, .slice X.A D.L.length X.cap), (5, .int .i64 (((D.L.length : Nat) : Int) - 1)), (4, .int .i64 0), (0, .pointer (some ⟨p, 0, none⟩)), (1, .slice Ap np cp)] ((X.m, .map (entsI (setI ((nk : Nat) : Int) (.agg (bvs (tornB (lastN 0 (decide (((k : Nat) : Int) = (((D.L.length : Nat) : Int) - 1)))) bk ((BK D.L (ksP picks D.L.length) D.B k).getD nk [])))) (EK D.L (ksP picks D.L.length) D.B X.es X.c k).2 (EK D.L (ksP picks D.L.length) D.B X.es X.c k).1)) (clockI (EK D.L (ksP picks D.L.length) D.B X.es X.c k).1 ((nk : Nat) : Int) (EK D.L (ksP picks D.L.length) D.B X.es X.c k).2), #[]) :: (X.q, .map (entsI X.ls) X.cq, #[]) :: (p, 58, (dkC ((D.B.length : Nat) : Int) (.map (some X.m)) (.slice X.A D.L.length X.cap) (.map (some X.q)) (decide (0 ≤ D.fuse)) X.lf D.dead)) :: (g1, 82, dwa (nk, bk)) :: (X.t ++ hh)) := H.perm' (@List.perm_middle (Nat × Tid × Array Value) (X.m, .map (entsI (setI ((nk : Nat) : Int) (.agg (bvs (tornB (lastN 0 (decide (((k : Nat) : Int) = (((D.L.length : Nat) : Int) - 1)))) bk ((BK D.L (ksP picks D.L.length) D.B k).getD nk [])))) (EK D.L (ksP picks D.L.length) D.B X.es X.c k).2 (EK D.L (ksP picks D.L.length) D.B X.es X.c k).1)) (clockI (EK D.L (ksP picks D.L.length) D.B X.es X.c k).1 ((nk : Nat) : Int) (EK D.L (ksP picks D.L.length) D.B X.es X.c k).2), #[]) [(X.q, .map (entsI X.ls) X.cq, #[]), (p, .ty 58, (dkC ((D.B.length : Nat) : Int) (.map (some X.m)) (.slice X.A D.L.length X.cap) (.map (some X.q)) (decide (0 ≤ D.fuse)) X.lf D.dead))] (([(g1, .ty 82, dwa (nk, bk))] : Hep) ++ (X.t ++ hh)))
      replace H : St 57 w0 a W [(22, .int .i64 ((k + 1 : Nat) : Int)), (43, .int .i64 ((k + 1 : Nat) : Int)), (41, .int .i64 ((lastN 0 (decide (((k : Nat) : Int) = (((D.L.length : Nat) : Int) - 1))) : Nat) : Int)), (40, .bool (decide (((k : Nat) : Int) = (((D.L.length : Nat) : Int) - 1)))), (39, .int .i64 (((D.L.length : Nat) : Int) - 1)), (38, .int .i64 ((k : Nat) : Int)), (37, .int .i64 0), (36, .agg (dwa (nk, bk))), (35, .pointer (some ⟨p, 0, none⟩)), (30, .bool false), (29, .int .i64 ((np : Nat) : Int)), (28, .slice Ap np cp), (27, .int .i64 ((k : Nat) : Int)), (8, .int .i64 0), (6, .int .i64 ((k : Nat) : Int)), (7, .pointer (some ⟨g1, 0, none⟩)), (26, .agg (dwa (nk, bk))), (25, .pointer (some ⟨gu, 0 + k * 513, none⟩)), (24, .int .i64 ((k : Nat) : Int)), (23, .bool true), (21, .int .i64 ((D.L.length : Nat) : Int)), (20, .slice X.A D.L.length X.cap), (5, .int .i64 (((D.L.length : Nat) : Int) - 1)), (4, .int .i64 0), (0, .pointer (some ⟨p, 0, none⟩)), (1, .slice Ap np cp)] ((p, 58, (dkC ((D.B.length : Nat) : Int) (.map (some X.m)) (.slice X.A D.L.length X.cap) (.map (some X.q)) (decide (0 ≤ D.fuse)) X.lf D.dead)) :: (X.m, .map (entsI (setI ((nk : Nat) : Int) (.agg (bvs (tornB (lastN 0 (decide (((k : Nat) : Int) = (((D.L.length : Nat) : Int) - 1)))) bk ((BK D.L (ksP picks D.L.length) D.B k).getD nk [])))) (EK D.L (ksP picks D.L.length) D.B X.es X.c k).2 (EK D.L (ksP picks D.L.length) D.B X.es X.c k).1)) (clockI (EK D.L (ksP picks D.L.length) D.B X.es X.c k).1 ((nk : Nat) : Int) (EK D.L (ksP picks D.L.length) D.B X.es X.c k).2), #[]) :: (X.q, .map (entsI X.ls) X.cq, #[]) :: (g1, 82, dwa (nk, bk)) :: (X.t ++ hh)) := H.perm' (@List.perm_middle (Nat × Tid × Array Value) (p, .ty 58, (dkC ((D.B.length : Nat) : Int) (.map (some X.m)) (.slice X.A D.L.length X.cap) (.map (some X.q)) (decide (0 ≤ D.fuse)) X.lf D.dead)) [(X.m, .map (entsI (setI ((nk : Nat) : Int) (.agg (bvs (tornB (lastN 0 (decide (((k : Nat) : Int) = (((D.L.length : Nat) : Int) - 1)))) bk ((BK D.L (ksP picks D.L.length) D.B k).getD nk [])))) (EK D.L (ksP picks D.L.length) D.B X.es X.c k).2 (EK D.L (ksP picks D.L.length) D.B X.es X.c k).1)) (clockI (EK D.L (ksP picks D.L.length) D.B X.es X.c k).1 ((nk : Nat) : Int) (EK D.L (ksP picks D.L.length) D.B X.es X.c k).2), #[]), (X.q, .map (entsI X.ls) X.cq, #[])] (([(g1, .ty 82, dwa (nk, bk))] : Hep) ++ (X.t ++ hh)))
      have hks : lastN 0 (decide (((k : Nat) : Int) = (((D.L.length : Nat) : Int) - 1))) = ksP picks D.L.length k := by
        unfold ksP
        rw [show decide (k + 1 = D.L.length) = decide (((k : Nat) : Int) = (((D.L.length : Nat) : Int) - 1)) from decide_eq_decide.2 (by omega), show picks.getD k 0 = 0 from by rw [List.getD_eq_getElem?_getD, List.getElem?_eq_none (by omega)]; rfl]
      rw [EK_succ, get_of hLk, ← hks]
      exact H.pickF (h := [(p, 58, (dkC ((D.B.length : Nat) : Int) (.map (some X.m)) (.slice X.A D.L.length X.cap) (.map (some X.q)) (decide (0 ≤ D.fuse)) X.lf D.dead)), (X.m, .map (entsI (setI ((nk : Nat) : Int) (.agg (bvs (tornB (lastN 0 (decide (((k : Nat) : Int) = (((D.L.length : Nat) : Int) - 1)))) bk ((BK D.L (ksP picks D.L.length) D.B k).getD nk [])))) (EK D.L (ksP picks D.L.length) D.B X.es X.c k).2 (EK D.L (ksP picks D.L.length) D.B X.es X.c k).1)) (clockI (EK D.L (ksP picks D.L.length) D.B X.es X.c k).1 ((nk : Nat) : Int) (EK D.L (ksP picks D.L.length) D.B X.es X.c k).2), #[]), (X.q, .map (entsI X.ls) X.cq, #[]), (g1, 82, dwa (nk, bk))]) (t := (X.t ++ hh)) [0, 20, 21, 22, 23, 24, 25] [0, 1, 2] rfl
  · obtain rfl : D.L.length = k := by omega
    refine sqR H gs0 fun Z_ z_ => rV rfl (does_binOp rfl rfl rfl (zd_lss_int (k := ((D.L.length : Nat) : Int)) (m := ((D.L.length : Nat) : Int)) (decide_eq_false (by omega)) _ _)) <| rK [1, 1, 0] [] [] <| rN0 z_ ?_
    try clear H a W
    intro a W H
    refine wp_seq_k (fun K14 hK14 => ?_)
    refine wp_cond_false (H.ev rfl) ?_
    refine wp_exit ?_
    repeat (first | (with_reducible refine then_exit ?_) | (with_reducible refine blk_pass (by decide) ?_))
    refine blk_exit ?_
    refine hK5 _ _ ?_
    clear hK5
    refine wp_seq_k (fun K15 hK15 => ?_)
    refine d2P [.v 44 _ [], .v 45 _ [], .v 46 _ [1], .v 47 _ [2], .v 48 _ [3], .v 49 _ [], .v 50 _ [5], .v 51 _ [6], .v 52 _ [7]] 0 rfl rfl rfl (runP H rfl) (by kernel_rfl) (fun _ _ _ _ _ h => h) (by kernel_rfl) (by kernel_rfl) H gs0 ⟨oS rfl rfl, oS rfl rfl, oV rfl (does_nilCheckQ rfl rfl), oV rfl (does_fieldAddr rfl rfl (fa_dk 0 (by decide))), oV rfl (does_loadAt (v := .int .i64 ((D.B.length : Nat) : Int)) rfl rfl (k := 0) rfl ld_dk0), oS rfl rfl, oV rfl (does_nilCheckQ rfl rfl), oV rfl (does_fieldAddr rfl rfl (fa_dk 1 (by decide))), oV rfl (does_loadAt (v := .map (some X.m)) rfl rfl (k := 0) rfl ld_dk1), trivial⟩ (rI0 ?_)
    try clear H a W
    intro a W H
    refine pl_callX rfl rfl ⟨_, Try.func32, by kernel_rfl⟩ rfl (fun K_ => fresh_x (hh := ([(p, .ty 58, (dkC ((D.B.length : Nat) : Int) (.map (some X.m)) (.slice X.A D.L.length X.cap) (.map (some X.q)) (decide (0 ≤ D.fuse)) X.lf D.dead)), (X.m, .map (entsI (EK D.L (ksP picks D.L.length) D.B X.es X.c D.L.length).1) (EK D.L (ksP picks D.L.length) D.B X.es X.c D.L.length).2, #[]), (X.q, .map (entsI X.ls) X.cq, #[])] ++ (X.t ++ hh))) ((D.B.length : Nat) : Int) _ w0 _ K_) H ?_
    try clear H a W
    rintro ⟨f4, q4⟩ a W - H
    replace H : St 57 w0 a W [(53, .pointer (some ⟨f4, 0, none⟩)), (52, .map (some X.m)), (51, .pointer (some ⟨p, 1, none⟩)), (50, .pointer (some ⟨p, 0, none⟩)), (49, .pointer (some ⟨p, 0, none⟩)), (48, .int .i64 ((D.B.length : Nat) : Int)), (47, .pointer (some ⟨p, 0, none⟩)), (46, .pointer (some ⟨p, 0, none⟩)), (45, .pointer (some ⟨p, 0, none⟩)), (44, .pointer (some ⟨p, 0, none⟩)), (23, .bool false), (22, .int .i64 ((D.L.length : Nat) : Int)), (20, .slice X.A D.L.length X.cap), (5, .int .i64 (((D.L.length : Nat) : Int) - 1)), (4, .int .i64 0), (0, .pointer (some ⟨p, 0, none⟩)), (1, .slice Ap np cp)] ((f4, 58, (dkC ((D.B.length : Nat) : Int) (.map (some X.m)) (.slice none 0 0) (.map (some q4)) false 0 false)) :: (q4, .map (entsI []) 0, #[]) :: (p, 58, (dkC ((D.B.length : Nat) : Int) (.map (some X.m)) (.slice X.A D.L.length X.cap) (.map (some X.q)) (decide (0 ≤ D.fuse)) X.lf D.dead)) :: (X.m, .map (entsI (EK D.L (ksP picks D.L.length) D.B X.es X.c D.L.length).1) (EK D.L (ksP picks D.L.length) D.B X.es X.c D.L.length).2, #[]) :: (X.q, .map (entsI X.ls) X.cq, #[]) :: (X.t ++ hh)) := H
    refine rgO H gs0 (rV rfl (does_nilCheckQ rfl rfl) <| rV rfl (does_load rfl rfl (k := 0) rfl Try.underlying58 rfl (info_disk _ _ _ _ _ _ _)) <| rV rfl (does_nilCheckQ rfl rfl) <| rW [0, 0, 1] ⟨rfl, rfl⟩ rfl rfl rfl (info_disk _ _ _ _ _ _ _) dk_size dk_one <| rK [0, 0, 0, 0, 0, 0, 0, 0, 0, 0, 0, 0, 0, 0, 0, 0, 0, 1, 0, 0] [0] [] <| rZ0 ?_)
    try clear H a W
    intro a W H
    refine hK15 _ _ ?_
    clear hK15
    refine sqR H gs0 fun Z_ z_ => rK [0] [] [] <| rS 1 rfl <| rN0 z_ ?_
    try clear H a W
    intro a W H
    refine wp_ret ?_
    repeat (first | (with_reducible refine then_ret ?_) | (with_reducible refine blk_ret ?_))
    refine end_tmp (p := 4) rfl rfl H (fun hb => ?_)
    have hBN : crashB picks 0 D.L D.B = (BK D.L (ksP picks D.L.length) D.B D.L.length) := BK_crash (fun q hq => (hX.dk.L q hq).1) (fun k _ => rfl) 0 (Nat.zero_le _)
    have hEN : SBk (EK D.L (ksP picks D.L.length) D.B X.es X.c D.L.length).1 (crashB picks 0 D.L D.B) := by rw [hBN]; exact EK_ok hX.sb (fun q hq => (hX.dk.L q hq).1) _ (Nat.le_refl _)
    have eR : DX.row (DX.mk X.m q4 (EK D.L (ksP picks D.L.length) D.B X.es X.c D.L.length).2 0 0 none (EK D.L (ksP picks D.L.length) D.B X.es X.c D.L.length).1 [] 0 []) (dCrash D picks) = dkC ((D.B.length : Nat) : Int) (.map (some X.m)) (.slice none 0 0) (.map (some q4)) false 0 false := by unfold DX.row dCrash; dsimp only; rw [crash_len]; rfl
    refine ⟨DX.rows (DX.mk X.m q4 (EK D.L (ksP picks D.L.length) D.B X.es X.c D.L.length).2 0 0 none (EK D.L (ksP picks D.L.length) D.B X.es X.c D.L.length).1 [] 0 []) p (dCrash D picks), rfl, ⟨(DX.mk X.m q4 (EK D.L (ksP picks D.L.length) D.B X.es X.c D.L.length).2 0 0 none (EK D.L (ksP picks D.L.length) D.B X.es X.c D.L.length).1 [] 0 []), rfl, ⟨OutD.nil _ _, hEN, LTk.nil _, ⟨Int.le_refl 0, (by decide : (0 : Int) < 9223372036854775808), fun h => absurd h (by decide : ¬ (0 : Int) ≤ -1)⟩, crash_ok hX.dk picks, by show 0 < (crashB picks 0 D.L D.B).length ∧ (crashB picks 0 D.L D.B).length ≤ 8192; rw [crash_len]; exact hX.nb, Nat.zero_le _⟩⟩, ?_⟩
    unfold DX.rows
    rw [eR]
    replace H : St 57 w0 a W [(4, .int .i64 0)] ((X.m, .map (entsI (EK D.L (ksP picks D.L.length) D.B X.es X.c D.L.length).1) (EK D.L (ksP picks D.L.length) D.B X.es X.c D.L.length).2, #[]) :: (q4, .map (entsI []) 0, #[]) :: (p, 58, (dkC ((D.B.length : Nat) : Int) (.map (some X.m)) (.slice none 0 0) (.map (some q4)) false 0 false)) :: (X.q, .map (entsI X.ls) X.cq, #[]) :: (X.t ++ hh)) := H.perm' (@List.perm_middle (Nat × Tid × Array Value) (X.m, .map (entsI (EK D.L (ksP picks D.L.length) D.B X.es X.c D.L.length).1) (EK D.L (ksP picks D.L.length) D.B X.es X.c D.L.length).2, #[]) [(q4, .map (entsI []) 0, #[]), (p, .ty 58, (dkC ((D.B.length : Nat) : Int) (.map (some X.m)) (.slice none 0 0) (.map (some q4)) false 0 false))] (([(X.q, .map (entsI X.ls) X.cq, #[])] : Hep) ++ (X.t ++ hh)))
    replace H : St 57 w0 a W [(4, .int .i64 0)] ((p, 58, (dkC ((D.B.length : Nat) : Int) (.map (some X.m)) (.slice none 0 0) (.map (some q4)) false 0 false)) :: (X.m, .map (entsI (EK D.L (ksP picks D.L.length) D.B X.es X.c D.L.length).1) (EK D.L (ksP picks D.L.length) D.B X.es X.c D.L.length).2, #[]) :: (q4, .map (entsI []) 0, #[]) :: (X.q, .map (entsI X.ls) X.cq, #[]) :: (X.t ++ hh)) := H.perm' (@List.perm_middle (Nat × Tid × Array Value) (p, .ty 58, (dkC ((D.B.length : Nat) : Int) (.map (some X.m)) (.slice none 0 0) (.map (some q4)) false 0 false)) [(X.m, .map (entsI (EK D.L (ksP picks D.L.length) D.B X.es X.c D.L.length).1) (EK D.L (ksP picks D.L.length) D.B X.es X.c D.L.length).2, #[]), (q4, .map (entsI []) 0, #[])] (([(X.q, .map (entsI X.ls) X.cq, #[])] : Hep) ++ (X.t ++ hh)))
    show Kn w0 W ((p, .ty 58, (dkC ((D.B.length : Nat) : Int) (.map (some X.m)) (.slice none 0 0) (.map (some q4)) false 0 false)) :: (X.m, .map (entsI (EK D.L (ksP picks D.L.length) D.B X.es X.c D.L.length).1) (EK D.L (ksP picks D.L.length) D.B X.es X.c D.L.length).2, #[]) :: (q4, .map (entsI []) 0, #[]) :: hh)
    have H_ := H.pickF (h := [(p, .ty 58, (dkC ((D.B.length : Nat) : Int) (.map (some X.m)) (.slice none 0 0) (.map (some q4)) false 0 false)), (X.m, .map (entsI (EK D.L (ksP picks D.L.length) D.B X.es X.c D.L.length).1) (EK D.L (ksP picks D.L.length) D.B X.es X.c D.L.length).2, #[]), (q4, .map (entsI []) 0, #[]), (X.q, .map (entsI X.ls) X.cq, #[])]) (t := (X.t ++ hh)) [] [0, 1, 2] rfl
    exact H_.kn.sub ((List.sublist_append_right X.t hh).append_left ([(p, .ty 58, (dkC ((D.B.length : Nat) : Int) (.map (some X.m)) (.slice none 0 0) (.map (some q4)) false 0 false)), (X.m, .map (entsI (EK D.L (ksP picks D.L.length) D.B X.es X.c D.L.length).1) (EK D.L (ksP picks D.L.length) D.B X.es X.c D.L.length).2, #[]), (q4, .map (entsI []) 0, #[])] : Hep))
end Go.Proofs.Ytiebelmglchbdaa
