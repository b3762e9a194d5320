/- The document's layer 10: numbers' bytes, nonces, padded bytes, the mark; what is sealed, what is opened. -/
import Derived.Test.YtghbknebaknmjaaDoorAc
namespace Go.Proofs.YtghbknebaknmjaaDoor
set_option linter.unusedVariables false
set_option linter.unusedSimpArgs false
set_option maxRecDepth 100000
open Go Go.RowKit Cha

theorem ia_nonce {j : Nat} (hj : j < 12) {g : Nat} (W : World) : (Instr.indexAt 27 (.pointer (some ⟨g, 0, none⟩)) (.int .i64 (j : Int))).run Tryd.prog W = .ok (.pointer (some ⟨g, j, none⟩)) W := by
  have h1 : (0 : Int) ≤ (j : Int) := by omega
  have h2 : (j : Int) < 12 := by omega
  go_simp
theorem nF_0 (x : Nat) : bvs (rb 12 b0s) = bvs (rb 12 (mapB (nonceF x) b0s (4 + 0))) := congrArg bvs (rb_ext fun i hi => by
  by_cases h : i < 4
  · rw [mapB_lt (by omega)]
    unfold nonceF
    rw [show Nat.blt i 4 = true by simpa [Nat.blt_eq] using h]
    rfl
  · rw [mapB_ge (by omega)])
theorem nF_step (x k : Nat) : updB (mapB (nonceF x) b0s (4 + k)) (4 + k) (UInt8.ofNat (x / 2 ^ (8 * k))) = mapB (nonceF x) b0s (4 + (k + 1)) := by
  have h := mapB_step (nonceF x) b0s (4 + k)
  have e : nonceF x (4 + k) = UInt8.ofNat (x / 2 ^ (8 * k)) := by
    unfold nonceF
    rw [show Nat.blt (4 + k) 4 = false from blt_ge (by omega), Nat.add_sub_cancel_left]
    rfl
  rw [e] at h
  exact h
theorem nF_all (x : Nat) : bvs (rb 12 (mapB (nonceF x) b0s (4 + 8))) = bvs (rb 12 (nonceF x)) := mapB_all _ _
theorem i_addE2 {k m r : Nat} (e : k + m = r) (hk : r ≤ 9223372036854775807) (p q : Operand) (W : World) : (do eqGuard .add 3 p q (.int .i64 (k : Int)) (.int .i64 (m : Int)); binOp .add 3 (.int .i64 (k : Int)) (.int .i64 (m : Int)) : Sem Value).run Tryd.prog W = .ok (.int .i64 (r : Int)) W := i_addE e hk p q W
theorem i_neqB {k m : Nat} {b : Bool} (h : decide (¬ k = m) = b) (p q : Operand) (W : World) : (do eqGuard .neq 3 p q (.int .i64 (k : Int)) (.int .i64 (m : Int)); binOp .neq 3 (.int .i64 (k : Int)) (.int .i64 (m : Int)) : Sem Value).run Tryd.prog W = .ok (.bool b) W := by
  have e : decide ((k : Int) = (m : Int)) = !b := by
    rw [← h]
    by_cases hh : k = m
    · subst hh; simp
    · rw [decide_eq_false (show ¬ (k : Int) = (m : Int) by omega)]; simp [hh]
  go_simp
  rw [show ((k : Int) != (m : Int)) = !decide ((k : Int) = (m : Int)) from rfl, e, Bool.not_not]
theorem s_neqB {l m : List UInt8} {b : Bool} (h : decide (l = m) = b) (p q : Operand) (W : World) : (do eqGuard .neq 9 p q (.string (strB l)) (.string (strB m)); binOp .neq 9 (.string (strB l)) (.string (strB m)) : Sem Value).run Tryd.prog W = .ok (.bool (!b)) W := by
  go_simp
  rw [strB_toList, strB_toList, ← h]
  rw [Bool.eq_iff_iff]
  simp only [beq_iff_eq, decide_eq_true_eq]
theorem s_eqlB {l m : List UInt8} {b : Bool} (h : decide (l = m) = b) (p q : Operand) (W : World) : (do eqGuard .eql 9 p q (.string (strB l)) (.string (strB m)); binOp .eql 9 (.string (strB l)) (.string (strB m)) : Sem Value).run Tryd.prog W = .ok (.bool b) W := by
  go_simp
  rw [strB_toList, strB_toList, ← h]
  rw [Bool.eq_iff_iff]
  simp only [beq_iff_eq, decide_eq_true_eq]
theorem key_copy (f : Nat → UInt8) : spliceA (bvs (rb 32 b0s)) 0 (((bvs (rb 64 f)).toList.drop 0).take 32) = bvs (rb 32 f) := rfl
theorem zs_snoc (l : List UInt8) (k : Nat) : (l ++ zs k) ++ [0] = l ++ zs (k + 1) := by
  have := rb_snoc k (fun _ => 0)
  rw [List.append_assoc]
  exact congrArg (l ++ ·) this
theorem zs_nil (l : List UInt8) : l = l ++ zs 0 := (List.append_nil l).symm
section
variable {n : Nat} {w0 w w' : World} {a : Act} {e : Env} {h h' : Hep} {Q : Exit → Act → World → Prop} {ops : Array Oper} {rest : List Oper} {o : Oper}
theorem ob_strS {x : Operand} {v : Value} {l : List UInt8} (H : St n w0 a w e h) (hw : ∀ a w, St n w0 a w e h → Region.wanted o (yielded ops a.tmps) = true) (ho : o.op = .convert 25 9 x) (hx : sev e x = some v) (hv : BF l v w) :
    ObS Tryd.prog ops Q o a w (fun u _ => u = .string (strB l)) := by
  obtain ⟨A, k, c, rfl, hb⟩ := hv
  refine ob_runR H hw ⟨_, w, ?_, Below.refl _ _, rfl⟩
  have hs := run_str (P := Tryd.prog) hb 25 5 9 Tryd.underlying25 Tryd.underlying5 Tryd.underlying9
  simp [execOp, ho, H.ev hx, hs, Result.andThen]
theorem ob_byte0S (H : St n w0 a w e h) (hw : ∀ a w, St n w0 a w e h → Region.wanted o (yielded ops a.tmps) = true) (ho : o.op = .buildSlice 25 1 #[(0, .const (.int .u8 0))]) : ObS Tryd.prog ops Q o a w (BF [0]) := Cha.ob_bytes1S (x0 := 0) H hw ho rfl
theorem does_lenF {x : Operand} {v : Value} {l : List UInt8} {k : Nat} (ho : o.op = .call { callee := .builtin .len, args := #[x], argTypes := #[25] }) (hx : sev e x = some v) (hv : ∀ a w, St n w0 a w e h → BF l v w) (hk : l.length = k) : Does Tryd.prog Q n w0 e h o (.int .i64 (k : Int)) := does_run fun a w H => by
  obtain ⟨A, j, c, rfl, hb⟩ := hv a w H
  have hj := hb.len
  subst hk
  simp [execOp, ho, resolve, invoke, builtin, H.ev hx, Builtin.len_, Builtin.lenOf, goInt, run_underlying Tryd.underlying25, Result.andThen, hj]
/-- A call's own bytes, as the last of the known blocks. -/
theorem of_out {v : Value} {l : List UInt8} (hv : OF w0.heap.size h l v w) (H : St n w0 a w e h) : ∃ t, OutF t v l ∧ St n w0 a w e (h ++ t) := by
  obtain ⟨ho, hap⟩ := hv
  rcases ho.2 with ⟨rfl, h0⟩ | ⟨g, cap, cur, rfl, hB, hh, hc, hm, hs, ht⟩
  · obtain rfl : l = [] := List.eq_nil_of_length_eq_zero h0
    exact ⟨[], outF_nil, by rw [List.append_nil]; exact H⟩
  · refine ⟨[(g, 5, cur)], .inr ⟨g, cap, cur, rfl, rfl, hc, hm, by rw [hs, Nat.mul_one], by rw [← ht, Nat.mul_one], by simp⟩, ?_⟩
    have H3 := H.add hh hB (hap g rfl)
    refine ⟨H3.size, H3.defers, H3.env, H3.below, fun p hp => ?_, fun p hp => ?_, List.pairwise_append.2 ⟨H.apart, List.pairwise_singleton _ _, fun p hp q hq => ?_⟩⟩
    · refine H3.heap p ?_
      rcases List.mem_append.1 hp with hp | hp
      · exact List.mem_cons_of_mem _ hp
      · rw [List.mem_singleton.1 hp]
        exact List.mem_cons_self
    · refine H3.own p ?_
      rcases List.mem_append.1 hp with hp | hp
      · exact List.mem_cons_of_mem _ hp
      · rw [List.mem_singleton.1 hp]
        exact List.mem_cons_self
    · rw [List.mem_singleton.1 hq]
      exact hap g rfl p hp
end
theorem rblock_0 (kk nn : Nat → UInt8) (W : World) : Calls Tryd.prog 24 #[.agg (bvs (rb 32 kk)), .int .u32 0, .agg (bvs (rb 12 nn))] W (fun rr w' => rr = .returned (.agg (bvs (rb 64 (blockF kk 0 nn)))) ∧ Below W.heap.size W w') := Cha.rblock_any kk 0 nn W
theorem rxor_1 {v : Value} {l : List UInt8} (kk nn : Nat → UInt8) (w : World) (hv : BF l v w) (hlim : l.length ≤ 900000) : Calls Tryd.prog 19 #[.agg (bvs (rb 32 kk)), .int .u32 1, .agg (bvs (rb 12 nn)), v] w (fun rr w' => ∃ u, rr = .returned u ∧ Below w.heap.size w w' ∧ BF (encB kk nn l) u w') := Cha.rxor_any kk 1 nn w hv hlim
theorem rtag_z {v : Value} {l : List UInt8} {kk f : Nat → UInt8} (hf : tagF kk l = f) (w : World) (hv : BF l v w) (hlim : l.length ≤ 1000000) : Calls Tryd.prog 26 #[.agg (bvs (rb 32 kk)), v] w (fun rr w' => rr = .returned (.agg (bvs (rb 16 f))) ∧ Below w.heap.size w w') := by
  subst hf
  exact rtag_any kk w hv hlim
attribute [local irreducible] nv bvs rb bv wc uc tagF blockF xorF n8 zs padN macB encB endF OutF padL strB
set_option maxHeartbeats 4000000 in
theorem rnonce_any (x : Nat) (w : World) : Calls Tryd.prog 11 #[uc x] w (fun rr w' => rr = .returned (.agg (bvs (rb 12 (nonceF x)))) ∧ Below w.heap.size w w') := by
  refine calls_st (vs := [uc x]) 19 Tryd.func11 rfl Tryd.ntmps11 rfl (fun a W H => ?_)
  replace H : St 19 w a W [(0, uc x)] [] := H
  refine wp_seq_k (fun K1 hK1 => ?_)
  refine rg_plain ?_
  refine pl_new (news_of rfl al_nonce) rfl rfl rfl rfl H ?_
  try clear H a W
  intro g1 a W H
  refine pl_end ?_
  refine hK1 _ _ ?_
  clear hK1
  refine wp_seq_k (fun K2 hK2 => ?_)
  refine rg_plain ?_
  refine pl_new (news_of rfl al_nonce) rfl rfl rfl rfl H ?_
  try clear H a W
  intro g2 a W H
  refine pl_end ?_
  refine hK2 _ _ ?_
  clear hK2
  refine wp_seq_k (fun K3 hK3 => ?_)
  refine wp_seq_k (fun K4 hK4 => ?_)
  refine rg_plain ?_
  refine pl_does (does_assign rfl rfl) rfl rfl rfl rfl H ?_
  try clear H a W
  intro a W H
  refine pl_end ?_
  refine hK4 _ _ ?_
  clear hK4
  rw [nF_0 x] at H
  replace H : St 19 w a W [(4, .int .i64 0), (3, .pointer (some ⟨g2, 0, none⟩)), (2, .pointer (some ⟨g1, 0, none⟩)), (0, uc x)] [(g2, 27, bvs (rb 12 (mapB (nonceF x) b0s (4 + 0)))), (g1, 27, bvs (rb 12 (mapB (nonceF x) b0s (4 + 0))))] := H
  refine wp_block ?_
  replace H : St 19 w a W [(4, .int .i64 ((0 : Nat) : Int)), (3, .pointer (some ⟨g2, 0, none⟩)), (2, .pointer (some ⟨g1, 0, none⟩)), (0, uc x)] [(g2, 27, bvs (rb 12 (mapB (nonceF x) b0s (4 + 0)))), (g1, 27, bvs (rb 12 (mapB (nonceF x) b0s (4 + 0))))] := H.pick [0, 1, 2, 3] [0, 1] rfl
  refine wp_rounds 8 (fun k a W => St 19 w a W [(4, .int .i64 ((k : Nat) : Int)), (3, .pointer (some ⟨g2, 0, none⟩)), (2, .pointer (some ⟨g1, 0, none⟩)), (0, uc x)] [(g2, 27, bvs (rb 12 (mapB (nonceF x) b0s (4 + k)))), (g1, 27, bvs (rb 12 (mapB (nonceF x) b0s (4 + 0))))]) (k0 := 0) H (by omega) ?_
  try clear H a W
  intro k a W hk H
  by_cases hk2 : k < 8
  · refine wp_seq_k (fun K5 hK5 => ?_)
    refine wp_seq_k (fun K6 hK6 => ?_)
    refine rg_plain ?_
    refine pl_does (does_move rfl rfl) rfl rfl rfl rfl H ?_
    try clear H a W
    intro a W H
    refine pl_does (does_binOp rfl rfl rfl (i_lss_yes (k := k) (m := 8) (by omega) _ _)) rfl rfl rfl rfl H ?_
    try clear H a W
    intro a W H
    refine pl_end ?_
    refine hK6 _ _ ?_
    clear hK6
    refine wp_cond_true (H.ev rfl) ?_
    refine wp_skip ?_
    refine hK5 _ _ ?_
    clear hK5
    refine wp_seq_k (fun K7 hK7 => ?_)
    refine wp_block ?_
    refine rg_plain ?_
    refine pl_does (does_move rfl rfl) rfl rfl rfl rfl H ?_
    try clear H a W
    intro a W H
    refine pl_does (does_binOp rfl rfl rfl (i_addE2 (k := 4) (m := k) rfl (by omega) _ _)) rfl rfl rfl rfl H ?_
    try clear H a W
    intro a W H
    refine pl_does (does_move rfl rfl) rfl rfl rfl rfl H ?_
    try clear H a W
    intro a W H
    refine pl_does (does_move rfl rfl) rfl rfl rfl rfl H ?_
    try clear H a W
    intro a W H
    refine pl_does (does_binOp rfl rfl rfl (i_mul (k := 8) (m := k) (by omega) _ _)) rfl rfl rfl rfl H ?_
    try clear H a W
    intro a W H
    refine pl_does (does_convert rfl rfl (cv_iu (by omega))) rfl rfl rfl rfl H ?_
    try clear H a W
    intro a W H
    refine pl_does (does_binOp rfl rfl rfl (u_shrU (s := (8 * k)) (by omega) _ _)) rfl rfl rfl rfl H ?_
    try clear H a W
    intro a W H
    refine pl_does (does_convert rfl rfl (cv_ub _)) rfl rfl rfl rfl H ?_
    try clear H a W
    intro a W H
    refine pl_does (does_indexAddr rfl rfl rfl (ia_nonce (j := (4 + k)) (by omega))) rfl rfl rfl rfl H ?_
    try clear H a W
    intro a W H
    refine pl_storeAt rfl rfl rfl (k := 0) rfl (st_byte (n := 12) (x := UInt8.ofNat (x / 2 ^ (8 * k))) (by omega)) (sv_byte (nF_step x k)) rfl rfl H ?_
    try clear H a W
    intro a W H
    refine pl_end ?_
    refine blk_normal ?_
    refine hK7 _ _ ?_
    clear hK7
    refine rg_plain ?_
    refine pl_does (does_move rfl rfl) rfl rfl rfl rfl H ?_
    try clear H a W
    intro a W H
    refine pl_does (does_binOp rfl rfl rfl (i_addE (k := k) (m := 1) rfl (by omega) _ _)) rfl rfl rfl rfl H ?_
    try clear H a W
    intro a W H
    replace H : St 19 w a W [(8, .int .i64 ((k + 1 : Nat) : Int)), (7, .int .i64 ((k : Nat) : Int)), (17, .pointer (some ⟨g2, 4 + k, none⟩)), (16, bv (UInt8.ofNat (x / 2 ^ (8 * k)))), (15, uc (x / 2 ^ (8 * k))), (14, .int .u64 ((8 * k : Nat) : Int)), (13, .int .i64 ((8 * k : Nat) : Int)), (12, .int .i64 ((k : Nat) : Int)), (11, uc x), (10, .int .i64 ((4 + k : Nat) : Int)), (9, .int .i64 ((k : Nat) : Int)), (6, .bool true), (5, .int .i64 ((k : Nat) : Int)), (3, .pointer (some ⟨g2, 0, none⟩)), (2, .pointer (some ⟨g1, 0, none⟩)), (0, uc x)] [(g2, 27, bvs (rb 12 (mapB (nonceF x) b0s (4 + (k + 1))))), (g1, 27, bvs (rb 12 (mapB (nonceF x) b0s (4 + 0))))] := H.pick [0, 1, 2, 3, 4, 5, 6, 7, 8, 9, 10, 11, 12, 14, 15, 16] [0, 1] rfl
    refine pl_does (does_assign rfl rfl) rfl rfl rfl rfl H ?_
    try clear H a W
    intro a W H
    refine pl_end ?_
    refine ⟨k + 1, by omega, by omega, ?_⟩
    show St 19 w a W [(4, .int .i64 ((k + 1 : Nat) : Int)), (3, .pointer (some ⟨g2, 0, none⟩)), (2, .pointer (some ⟨g1, 0, none⟩)), (0, uc x)] [(g2, 27, bvs (rb 12 (mapB (nonceF x) b0s (4 + (k + 1))))), (g1, 27, bvs (rb 12 (mapB (nonceF x) b0s (4 + 0))))]
    exact H.pick [0, 14, 15, 16] [0, 1] rfl
  · obtain rfl : 8 = k := by omega
    refine wp_seq_k (fun K8 hK8 => ?_)
    refine wp_seq_k (fun K9 hK9 => ?_)
    refine rg_plain ?_
    refine pl_does (does_move rfl rfl) rfl rfl rfl rfl H ?_
    try clear H a W
    intro a W H
    refine pl_does (does_binOp rfl rfl rfl (i_lss_no (k := 8) (m := 8) (by omega) _ _)) rfl rfl rfl rfl H ?_
    try clear H a W
    intro a W H
    refine pl_end ?_
    replace H : St 19 w a W [(6, .bool false), (4, .int .i64 ((8 : Nat) : Int)), (3, .pointer (some ⟨g2, 0, none⟩)), (2, .pointer (some ⟨g1, 0, none⟩)), (0, uc x)] [(g2, 27, bvs (rb 12 (mapB (nonceF x) b0s (4 + 8)))), (g1, 27, bvs (rb 12 (mapB (nonceF x) b0s (4 + 0))))] := H.pick [0, 2, 3, 4, 5] [0, 1] rfl
    refine hK9 _ _ ?_
    clear hK9
    refine wp_cond_false (H.ev rfl) ?_
    refine wp_exit ?_
    repeat (with_reducible refine then_exit ?_)
    refine blk_exit ?_
    rw [nF_all] at H
    replace H : St 19 w a W [(6, .bool false), (4, .int .i64 ((8 : Nat) : Int)), (3, .pointer (some ⟨g2, 0, none⟩)), (2, .pointer (some ⟨g1, 0, none⟩)), (0, uc x)] [(g2, 27, bvs (rb 12 (nonceF x))), (g1, 27, bvs (rb 12 (mapB (nonceF x) b0s (4 + 0))))] := H
    refine hK3 _ _ ?_
    clear hK3
    refine wp_seq_k (fun K10 hK10 => ?_)
    refine rg_plain ?_
    refine pl_does (does_load rfl rfl (k := 0) rfl Tryd.underlying27 rfl (info_nonce _)) rfl rfl rfl rfl H ?_
    try clear H a W
    intro a W H
    refine pl_store rfl rfl rfl (k := 1) rfl (info_nonce _) (size_rb _ _ _) (bvs_one _) rfl rfl H ?_
    try clear H a W
    intro a W H
    refine pl_end ?_
    replace H : St 19 w a W [(2, .pointer (some ⟨g1, 0, none⟩))] [(g2, 27, bvs (rb 12 (nonceF x))), (g1, 27, bvs (rb 12 (nonceF x)))] := H.pick [4] [0, 1] rfl
    refine hK10 _ _ ?_
    clear hK10
    refine wp_ret ?_
    repeat (first | (with_reducible refine then_ret ?_) | (with_reducible refine blk_ret ?_))
    refine end_cell (p := 2) rfl rfl (k := 1) rfl Tryd.underlying27 rfl (info_nonce _) H (fun hb => ?_)
    exact ⟨rfl, hb⟩
set_option maxHeartbeats 4000000 in
theorem rlong_any (x : Nat) (hx : x ≤ 1000000) (w : World) : Calls Tryd.prog 27 #[.int .i64 ((x : Nat) : Int)] w (fun rr w' => ∃ v, rr = .returned v ∧ Below w.heap.size w w' ∧ OwnB w' w.heap.size 5 v (n8 x)) := by
  refine calls_st (vs := [.int .i64 ((x : Nat) : Int)]) 20 Tryd.func27 rfl Tryd.ntmps27 rfl (fun a W H => ?_)
  replace H : St 20 w a W [(0, .int .i64 ((x : Nat) : Int))] [] := H
  refine wp_seq_k (fun K1 hK1 => ?_)
  refine rg_plain ?_
  refine pl_does (does_assign rfl rfl) rfl rfl rfl rfl H ?_
  try clear H a W
  intro a W H
  refine pl_end ?_
  refine hK1 _ _ ?_
  clear hK1
  refine wp_seq_k (fun K2 hK2 => ?_)
  refine rg_plain ?_
  refine pl_does (does_assign rfl rfl) rfl rfl rfl rfl H ?_
  try clear H a W
  intro a W H
  refine pl_end ?_
  refine hK2 _ _ ?_
  clear hK2
  refine wp_seq_k (fun K3 hK3 => ?_)
  refine wp_seq_k (fun K4 hK4 => ?_)
  refine rg_plain ?_
  refine pl_does (does_assign rfl rfl) rfl rfl rfl rfl H ?_
  try clear H a W
  intro a W H
  refine pl_end ?_
  refine hK4 _ _ ?_
  clear hK4
  refine wp_block ?_
  replace H : St 20 w a W [(4, .int .i64 ((0 : Nat) : Int)), (3, .slice none 0 0), (2, .slice none 0 0), (0, .int .i64 ((x : Nat) : Int))] [] := H.pick [0, 1, 2, 3] [] rfl
  refine wp_rounds 8 (fun k a W => ∃ vo hO, OutF hO vo (rb k (le8 x)) ∧ St 20 w a W [(4, .int .i64 ((k : Nat) : Int)), (3, vo), (2, .slice none 0 0), (0, .int .i64 ((x : Nat) : Int))] (hO)) (k0 := 0) (show ∃ vo hO, OutF hO vo (rb 0 (le8 x)) ∧ St 20 w a W [(4, .int .i64 ((0 : Nat) : Int)), (3, vo), (2, .slice none 0 0), (0, .int .i64 ((x : Nat) : Int))] (hO) from ⟨_, [], (by rw [rb_zero]; exact outF_nil), H⟩) (by omega) ?_
  try clear H a W
  intro k a W hk H_
  obtain ⟨vo, hO, hout, H⟩ := H_
  by_cases hk2 : k < 8
  · refine wp_seq_k (fun K5 hK5 => ?_)
    refine wp_seq_k (fun K6 hK6 => ?_)
    refine rg_plain ?_
    refine pl_does (does_move rfl rfl) rfl rfl rfl rfl H ?_
    try clear H a W
    intro a W H
    refine pl_does (does_binOp rfl rfl rfl (i_lss_yes (k := k) (m := 8) (by omega) _ _)) rfl rfl rfl rfl H ?_
    try clear H a W
    intro a W H
    refine pl_end ?_
    refine hK6 _ _ ?_
    clear hK6
    refine wp_cond_true (H.ev rfl) ?_
    refine wp_skip ?_
    refine hK5 _ _ ?_
    clear hK5
    refine wp_seq_k (fun K7 hK7 => ?_)
    refine wp_block ?_
    refine rg_plain ?_
    refine pl_does (does_move rfl rfl) rfl rfl rfl rfl H ?_
    try clear H a W
    intro a W H
    refine pl_does (does_move rfl rfl) rfl rfl rfl rfl H ?_
    try clear H a W
    intro a W H
    refine pl_does (does_convert rfl rfl (cv_iu64 (by omega))) rfl rfl rfl rfl H ?_
    try clear H a W
    intro a W H
    refine pl_does (does_move rfl rfl) rfl rfl rfl rfl H ?_
    try clear H a W
    intro a W H
    refine pl_does (does_binOp rfl rfl rfl (i_mul (k := 8) (m := k) (by omega) _ _)) rfl rfl rfl rfl H ?_
    try clear H a W
    intro a W H
    refine pl_does (does_convert rfl rfl (cv_iu (by omega))) rfl rfl rfl rfl H ?_
    try clear H a W
    intro a W H
    refine pl_does (does_binOp rfl rfl rfl (u_shrU (s := (8 * k)) (by omega) _ _)) rfl rfl rfl rfl H ?_
    try clear H a W
    intro a W H
    refine pl_does (does_convert rfl rfl (cv_ub _)) rfl rfl rfl rfl H ?_
    try clear H a W
    intro a W H
    refine pl_R (R := SB) (F := BF [UInt8.ofNat (x / 2 ^ (8 * k))]) sb_st (Cha.ob_bytes1S H (wanted_none rfl) rfl rfl) rfl rfl rfl H ?_
    try clear H a W
    intro v17 a W hv17 hR_ H
    clear hR_
    replace H : St 20 w a W [(17, v17), (16, bv (UInt8.ofNat (x / 2 ^ (8 * k)))), (15, uc (x / 2 ^ (8 * k))), (14, .int .u64 ((8 * k : Nat) : Int)), (13, .int .i64 ((8 * k : Nat) : Int)), (12, .int .i64 ((k : Nat) : Int)), (11, uc x), (10, .int .i64 ((x : Nat) : Int)), (9, vo), (6, .bool true), (5, .int .i64 ((k : Nat) : Int)), (4, .int .i64 ((k : Nat) : Int)), (3, vo), (2, .slice none 0 0), (0, .int .i64 ((x : Nat) : Int))] (hO) := H
    refine Cha.pl_appO (h := []) (t := hO) rfl rfl rfl hout hv17 (by simp) (by rw [rb_len, List.length_singleton]; omega) rfl rfl rfl rfl H ?_
    clear hout
    intro vo' hO' a W hout H
    rw [ubyte, rb_snoc] at hout
    replace H : St 20 w a W [(18, vo'), (17, v17), (16, bv (UInt8.ofNat (x / 2 ^ (8 * k)))), (15, uc (x / 2 ^ (8 * k))), (14, .int .u64 ((8 * k : Nat) : Int)), (13, .int .i64 ((8 * k : Nat) : Int)), (12, .int .i64 ((k : Nat) : Int)), (11, uc x), (10, .int .i64 ((x : Nat) : Int)), (9, vo), (6, .bool true), (5, .int .i64 ((k : Nat) : Int)), (4, .int .i64 ((k : Nat) : Int)), (3, vo), (2, .slice none 0 0), (0, .int .i64 ((x : Nat) : Int))] (hO') := H
    replace H : St 20 w a W [(18, vo'), (17, v17), (16, bv (UInt8.ofNat (x / 2 ^ (8 * k)))), (15, uc (x / 2 ^ (8 * k))), (14, .int .u64 ((8 * k : Nat) : Int)), (13, .int .i64 ((8 * k : Nat) : Int)), (12, .int .i64 ((k : Nat) : Int)), (11, uc x), (10, .int .i64 ((x : Nat) : Int)), (9, vo), (6, .bool true), (5, .int .i64 ((k : Nat) : Int)), (4, .int .i64 ((k : Nat) : Int)), (2, .slice none 0 0), (0, .int .i64 ((x : Nat) : Int))] (hO') := H.pickT (h := []) (t := hO') [0, 1, 2, 3, 4, 5, 6, 7, 8, 9, 10, 11, 12, 14, 15] [] rfl
    refine pl_does (does_assign rfl rfl) rfl rfl rfl rfl H ?_
    try clear H a W
    intro a W H
    refine pl_end ?_
    refine blk_normal ?_
    refine hK7 _ _ ?_
    clear hK7
    refine rg_plain ?_
    refine pl_does (does_move rfl rfl) rfl rfl rfl rfl H ?_
    try clear H a W
    intro a W H
    refine pl_does (does_binOp rfl rfl rfl (i_addE (k := k) (m := 1) rfl (by omega) _ _)) rfl rfl rfl rfl H ?_
    try clear H a W
    intro a W H
    replace H : St 20 w a W [(8, .int .i64 ((k + 1 : Nat) : Int)), (7, .int .i64 ((k : Nat) : Int)), (3, vo'), (18, vo'), (17, v17), (16, bv (UInt8.ofNat (x / 2 ^ (8 * k)))), (15, uc (x / 2 ^ (8 * k))), (14, .int .u64 ((8 * k : Nat) : Int)), (13, .int .i64 ((8 * k : Nat) : Int)), (12, .int .i64 ((k : Nat) : Int)), (11, uc x), (10, .int .i64 ((x : Nat) : Int)), (9, vo), (6, .bool true), (5, .int .i64 ((k : Nat) : Int)), (2, .slice none 0 0), (0, .int .i64 ((x : Nat) : Int))] (hO') := H.pickT (h := []) (t := hO') [0, 1, 2, 3, 4, 5, 6, 7, 8, 9, 10, 11, 12, 13, 14, 16, 17] [] rfl
    refine pl_does (does_assign rfl rfl) rfl rfl rfl rfl H ?_
    try clear H a W
    intro a W H
    refine pl_end ?_
    refine ⟨k + 1, by omega, by omega, ?_⟩
    show ∃ vo hO, OutF hO vo (rb (k + 1) (le8 x)) ∧ St 20 w a W [(4, .int .i64 ((k + 1 : Nat) : Int)), (3, vo), (2, .slice none 0 0), (0, .int .i64 ((x : Nat) : Int))] (hO)
    refine ⟨_, _, hout, ?_⟩
    exact H.pickT (h := []) (t := hO') [0, 3, 16, 17] [] rfl
  · obtain rfl : 8 = k := by omega
    refine wp_seq_k (fun K8 hK8 => ?_)
    refine wp_seq_k (fun K9 hK9 => ?_)
    refine rg_plain ?_
    refine pl_does (does_move rfl rfl) rfl rfl rfl rfl H ?_
    try clear H a W
    intro a W H
    refine pl_does (does_binOp rfl rfl rfl (i_lss_no (k := 8) (m := 8) (by omega) _ _)) rfl rfl rfl rfl H ?_
    try clear H a W
    intro a W H
    refine pl_end ?_
    replace H : St 20 w a W [(6, .bool false), (4, .int .i64 ((8 : Nat) : Int)), (3, vo), (2, .slice none 0 0), (0, .int .i64 ((x : Nat) : Int))] (hO) := H.pickT (h := []) (t := hO) [0, 2, 3, 4, 5] [] rfl
    refine hK9 _ _ ?_
    clear hK9
    refine wp_cond_false (H.ev rfl) ?_
    refine wp_exit ?_
    repeat (with_reducible refine then_exit ?_)
    refine blk_exit ?_
    refine hK3 _ _ ?_
    clear hK3
    refine wp_seq_k (fun K10 hK10 => ?_)
    refine rg_plain ?_
    refine pl_does (does_move rfl rfl) rfl rfl rfl rfl H ?_
    try clear H a W
    intro a W H
    replace H : St 20 w a W [(19, vo), (6, .bool false), (4, .int .i64 ((8 : Nat) : Int)), (3, vo), (0, .int .i64 ((x : Nat) : Int))] (hO) := H.pickT (h := []) (t := hO) [0, 1, 2, 3, 5] [] rfl
    refine pl_does (does_assign rfl rfl) rfl rfl rfl rfl H ?_
    try clear H a W
    intro a W H
    refine pl_end ?_
    replace H : St 20 w a W [(2, vo)] (hO) := H.pickT (h := []) (t := hO) [0] [] rfl
    refine hK10 _ _ ?_
    clear hK10
    refine wp_ret ?_
    repeat (first | (with_reducible refine then_ret ?_) | (with_reducible refine blk_ret ?_))
    refine end_tmp (p := 2) rfl rfl H (fun hb => ?_)
    unfold n8
    exact ⟨_, rfl, hb, (hout.own (h := []) (t := hO) H).1⟩
set_option maxHeartbeats 4000000 in
theorem rpadded_any {v : Value} {l : List UInt8} (w : World) (hv : BF l v w) (hl : l.length ≤ 100000) : Calls Tryd.prog 25 #[v] w (fun rr w' => ∃ v, rr = .returned v ∧ Below w.heap.size w w' ∧ OwnB w' w.heap.size 5 v (padL l)) := by
  obtain ⟨A, n, cap, rfl, hbs⟩ := id hv
  have hn := hbs.len
  rw [hn] at hl
  obtain ⟨N, hN⟩ : ∃ N, padN n = N := ⟨_, rfl⟩
  have hN2 : (16 - n % 16) % 16 = N := by rw [← hN]; unfold padN; rfl
  have hNl : N < 16 := by omega
  refine calls_st (vs := [.slice A n cap]) 14 Tryd.func25 rfl Tryd.ntmps25 rfl (fun a W H => ?_)
  replace H : St 14 w a W [(0, .slice A n cap)] [] := H
  refine wp_seq_k (fun K1 hK1 => ?_)
  refine rg_plain ?_
  refine pl_does (does_assign rfl rfl) rfl rfl rfl rfl H ?_
  try clear H a W
  intro a W H
  refine pl_end ?_
  refine hK1 _ _ ?_
  clear hK1
  refine wp_seq_k (fun K2 hK2 => ?_)
  refine rg_plain ?_
  refine pl_does (does_move rfl rfl) rfl rfl rfl rfl H ?_
  try clear H a W
  intro a W H
  refine pl_R (R := SB) (F := OF w.heap.size [] l) sb_st (ob_app0S H (wanted_none rfl) rfl rfl (bf_old hv H) (by rw [hn]; omega)) rfl rfl rfl H ?_
  try clear H a W
  intro v5 a W hv5 hR_ H
  clear hR_
  replace H : St 14 w a W [(5, v5), (4, .slice A n cap), (2, .slice none 0 0), (0, .slice A n cap)] [] := H
  refine pl_R (R := SB) (F := OF w.heap.size [] l) sb_st (ob_assignS H (wanted_none rfl) rfl rfl hv5) rfl rfl rfl H ?_
  try clear H a
  intro v3 a W hv3 hR_ H
  replace hv5 := OF.sb _ _ _ hv5 hR_
  clear hR_
  replace H : St 14 w a W [(3, v3), (5, v5), (4, .slice A n cap), (2, .slice none 0 0), (0, .slice A n cap)] [] := H
  refine pl_end ?_
  replace H : St 14 w a W [(3, v3), (2, .slice none 0 0)] [] := H.pick [0, 3] [] rfl
  refine hK2 _ _ ?_
  clear hK2
  refine wp_seq_k (fun K3 hK3 => ?_)
  obtain ⟨vo, hO, hout, H⟩ : ∃ vo hO, OutF hO vo (l ++ zs 0) ∧ St 14 w a W [(3, vo), (2, .slice none 0 0)] ([] ++ hO) := by
    obtain ⟨t, h1, h2⟩ := of_out hv3 H
    exact ⟨_, t, (by rw [← zs_nil]; exact h1), h2.sub (by simp) (fun _ h => h) h2.apart⟩
  replace H : St 14 w a W [(3, vo), (2, .slice none 0 0)] (hO) := H
  refine wp_block ?_
  replace H : St 14 w a W [(3, vo), (2, .slice none 0 0)] (hO) := H.pickT (h := []) (t := hO) [0, 1] [] rfl
  refine wp_rounds N (fun k a W => ∃ vo hO, OutF hO vo (l ++ zs k) ∧ St 14 w a W [(3, vo), (2, .slice none 0 0)] (hO)) (k0 := 0) (show ∃ vo hO, OutF hO vo (l ++ zs 0) ∧ St 14 w a W [(3, vo), (2, .slice none 0 0)] (hO) from ⟨_, _, hout, H⟩) (by omega) ?_
  try clear H a W
  clear hout
  intro k a W hk H_
  obtain ⟨vo, hO, hout, H⟩ := H_
  by_cases hk2 : k < N
  · refine wp_seq_k (fun K4 hK4 => ?_)
    refine wp_seq_k (fun K5 hK5 => ?_)
    refine rg_plain ?_
    refine pl_does (does_move rfl rfl) rfl rfl rfl rfl H ?_
    try clear H a W
    intro a W H
    refine pl_does (does_lenF rfl rfl (fun a w H => hout.bf (h := []) (t := hO) H) (by rw [List.length_append, zs_len, hn])) rfl rfl rfl rfl H ?_
    try clear H a W
    intro a W H
    refine pl_does (does_binOp rfl rfl rfl (i_rem (k := n + k) (m := 16) (by omega) _ _)) rfl rfl rfl rfl H ?_
    try clear H a W
    intro a W H
    refine pl_does (does_binOp rfl rfl rfl (i_neqB (k := (n + k) % 16) (m := 0) (decide_eq_true (by omega)) _ _)) rfl rfl rfl rfl H ?_
    try clear H a W
    intro a W H
    refine pl_end ?_
    refine hK5 _ _ ?_
    clear hK5
    refine wp_cond_true (H.ev rfl) ?_
    refine wp_skip ?_
    refine hK4 _ _ ?_
    clear hK4
    refine wp_block ?_
    refine rg_plain ?_
    refine pl_does (does_move rfl rfl) rfl rfl rfl rfl H ?_
    try clear H a W
    intro a W H
    refine pl_R (R := SB) (F := BF [0]) sb_st (ob_byte0S H (wanted_none rfl) rfl) rfl rfl rfl H ?_
    try clear H a W
    intro v11 a W hv11 hR_ H
    clear hR_
    replace H : St 14 w a W [(11, v11), (10, vo), (9, .bool true), (8, .int .i64 (((n + k) % 16 : Nat) : Int)), (7, .int .i64 ((n + k : Nat) : Int)), (6, vo), (3, vo), (2, .slice none 0 0)] (hO) := H
    refine Cha.pl_appO (h := []) (t := hO) rfl rfl rfl hout hv11 (by simp) (by rw [List.length_append, zs_len, List.length_singleton, hn]; omega) rfl rfl rfl rfl H ?_
    clear hout
    intro vo' hO' a W hout H
    rw [zs_snoc] at hout
    replace H : St 14 w a W [(12, vo'), (11, v11), (10, vo), (9, .bool true), (8, .int .i64 (((n + k) % 16 : Nat) : Int)), (7, .int .i64 ((n + k : Nat) : Int)), (6, vo), (3, vo), (2, .slice none 0 0)] (hO') := H
    replace H : St 14 w a W [(12, vo'), (11, v11), (10, vo), (9, .bool true), (8, .int .i64 (((n + k) % 16 : Nat) : Int)), (7, .int .i64 ((n + k : Nat) : Int)), (6, vo), (2, .slice none 0 0)] (hO') := H.pickT (h := []) (t := hO') [0, 1, 2, 3, 4, 5, 6, 8] [] rfl
    refine pl_does (does_assign rfl rfl) rfl rfl rfl rfl H ?_
    try clear H a W
    intro a W H
    refine pl_end ?_
    refine blk_normal ?_
    refine ⟨k + 1, by omega, by omega, ?_⟩
    show ∃ vo hO, OutF hO vo (l ++ zs (k + 1)) ∧ St 14 w a W [(3, vo), (2, .slice none 0 0)] (hO)
    refine ⟨_, _, hout, ?_⟩
    exact H.pickT (h := []) (t := hO') [0, 8] [] rfl
  · obtain rfl : N = k := by omega
    refine wp_seq_k (fun K6 hK6 => ?_)
    refine wp_seq_k (fun K7 hK7 => ?_)
    refine rg_plain ?_
    refine pl_does (does_move rfl rfl) rfl rfl rfl rfl H ?_
    try clear H a W
    intro a W H
    refine pl_does (does_lenF rfl rfl (fun a w H => hout.bf (h := []) (t := hO) H) (by rw [List.length_append, zs_len, hn])) rfl rfl rfl rfl H ?_
    try clear H a W
    intro a W H
    refine pl_does (does_binOp rfl rfl rfl (i_rem (k := n + N) (m := 16) (by omega) _ _)) rfl rfl rfl rfl H ?_
    try clear H a W
    intro a W H
    refine pl_does (does_binOp rfl rfl rfl (i_neqB (k := (n + N) % 16) (m := 0) (decide_eq_false (by omega)) _ _)) rfl rfl rfl rfl H ?_
    try clear H a W
    intro a W H
    refine pl_end ?_
    replace H : St 14 w a W [(9, .bool false), (3, vo), (2, .slice none 0 0)] (hO) := H.pickT (h := []) (t := hO) [0, 4, 5] [] rfl
    refine hK7 _ _ ?_
    clear hK7
    refine wp_cond_false (H.ev rfl) ?_
    refine wp_exit ?_
    repeat (with_reducible refine then_exit ?_)
    refine blk_exit ?_
    refine hK3 _ _ ?_
    clear hK3
    refine wp_seq_k (fun K8 hK8 => ?_)
    refine rg_plain ?_
    refine pl_does (does_move rfl rfl) rfl rfl rfl rfl H ?_
    try clear H a W
    intro a W H
    replace H : St 14 w a W [(13, vo), (9, .bool false), (3, vo)] (hO) := H.pickT (h := []) (t := hO) [0, 1, 2] [] rfl
    refine pl_does (does_assign rfl rfl) rfl rfl rfl rfl H ?_
    try clear H a W
    intro a W H
    refine pl_end ?_
    replace H : St 14 w a W [(2, vo)] (hO) := H.pickT (h := []) (t := hO) [0] [] rfl
    refine hK8 _ _ ?_
    clear hK8
    refine wp_ret ?_
    repeat (first | (with_reducible refine then_ret ?_) | (with_reducible refine blk_ret ?_))
    refine end_tmp (p := 2) rfl rfl H (fun hb => ?_)
    unfold padL
    rw [hn, hN]
    exact ⟨_, rfl, hb, (hout.own (h := []) (t := hO) H).1⟩
end Go.Proofs.YtghbknebaknmjaaDoor
