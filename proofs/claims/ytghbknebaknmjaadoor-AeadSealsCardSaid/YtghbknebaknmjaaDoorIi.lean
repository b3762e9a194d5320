/- The document's stream: bytes with it. -/
import Derived.Test.YtghbknebaknmjaaDoorIh
namespace Go.Proofs.YtghbknebaknmjaaDoor.Cha
set_option linter.unusedVariables false
set_option linter.unusedSimpArgs false
set_option maxRecDepth 100000
open Go Go.RowKit

/-- Bytes of the call's own: none yet, or a block that is known. -/
def OutF (t : Hep) (v : Value) (l : List UInt8) : Prop := (t = [] ∧ v = .slice none 0 0 ∧ l = []) ∨ ∃ g cap cur, t = [(g, 5, cur)] ∧ v = .slice (some ⟨g, 0, none⟩) l.length cap ∧ US8 cur l.length cap l
section
variable {n : Nat} {w0 w w' : World} {a : Act} {e : Env} {h t : Hep} {Q : Exit → Act → World → Prop} {ops : Array Oper} {rest : List Oper} {o : Oper}
theorem _root_.Go.Proofs.YtghbknebaknmjaaDoor.St.pickC (H : St n w0 a w e (h ++ t)) (es hs : List Nat) (hr : rises hs = true) : St n w0 a w (picks e es) (picks h hs ++ t) := by
  have hap := List.pairwise_append.1 H.apart
  refine H.sub (fun p hp => ?_) (fun p hp => ?_) (List.pairwise_append.2 ⟨picks_pw hap.1 hr, hap.2.1, fun p hp q hq => ?_⟩)
  · obtain ⟨k, _, hk⟩ := picks_get hp
    exact List.mem_iff_getElem?.2 ⟨k, hk⟩
  · rcases List.mem_append.1 hp with hp | hp
    · obtain ⟨k, _, hk⟩ := picks_get hp
      exact List.mem_append.2 (.inl (List.mem_iff_getElem?.2 ⟨k, hk⟩))
    · exact List.mem_append.2 (.inr hp)
  · obtain ⟨k, _, hk⟩ := picks_get hp
    exact hap.2.2 p (List.mem_iff_getElem?.2 ⟨k, hk⟩) q hq
theorem OutF.own {v : Value} {l : List UInt8} (hv : OutF t v l) (H : St n w0 a w e (h ++ t)) : OF w0.heap.size h l v w := by
  rcases hv with ⟨rfl, rfl, rfl⟩ | ⟨g, cap, cur, rfl, rfl, hu⟩
  · exact OF.nil _ _ _
  · have hb : Blk w g 5 cur := H.heap (g, 5, cur) (by simp)
    have ho : w0.heap.size ≤ g := H.own (g, 5, cur) (by simp)
    refine ⟨⟨by simp, .inr ⟨g, cap, cur, rfl, ho, hb, hu.le, hu.max, by rw [hu.size, Nat.mul_one], ?_⟩⟩, fun g' hg' p hp => ?_⟩
    · rw [Nat.mul_one]
      exact hu.take
    · injection hg' with hg'
      subst hg'
      exact (List.pairwise_append.1 H.apart).2.2 p hp (g, 5, cur) (by simp)
theorem outF_nil : OutF [] (.slice none 0 0) [] := .inl ⟨rfl, rfl, rfl⟩
theorem OutF.bf {v : Value} {l : List UInt8} (hv : OutF t v l) (H : St n w0 a w e (h ++ t)) : BF l v w := (hv.own H).bf
theorem pl_appO {d : Nat} {x y : Operand} {v u : Value} {l m : List UInt8} (ho : o.op = .call { callee := .builtin .append, args := #[x, y], argTypes := #[25, 25] }) (hx : sev e x = some v) (hy : sev e y = some u)
    (hv : OutF t v l) (hu : BF m u w) (hm : 0 < m.length) (hs : l.length + m.length ≤ 1000000) (hg : o.guard = none) (hdst : o.dst = some d) (hl : Nat.blt d n = true) (hf : e.all (fun p => !Nat.beq p.1 d) = true) (H : St n w0 a w e (h ++ t))
    (next : ∀ v' t' a w', OutF t' v' (l ++ m) → St n w0 a w' ((d, v') :: e) (h ++ t') → wpList Tryd.prog ops Q rest a w') : wpList Tryd.prog ops Q (o :: rest) a w := by
  have hO := hv.own H
  have H1 : St n w0 a w e h := H.sub (fun p hp => hp) (fun p hp => List.mem_append.2 (.inl hp)) (List.pairwise_append.1 H.apart).1
  have hob := ob_appW (Q := Q) (ops := ops) H1 (wanted_none hg) ho hx hy hO hu hs
  refine pl_R (R := WR w0.heap.size h) wr_st hob hdst hl hf H1 (fun v' a' w' hF _ H2 => ?_)
  obtain ⟨g', cap', cur', rfl, hb, hB, hn, huc⟩ := hF.uc (n := (l ++ m).length) rfl (by rw [List.length_append]; omega)
  refine next _ [(g', 5, cur')] a' w' (.inr ⟨g', cap', cur', rfl, rfl, huc⟩) ?_
  have H3 := H2.add hb hB hn
  refine ⟨H3.size, H3.defers, H3.env, H3.below, fun p hp => ?_, fun p hp => ?_, List.pairwise_append.2 ⟨H2.apart, List.pairwise_singleton _ _, fun p hp q hq => ?_⟩⟩
  · refine H3.heap p ?_
    rcases List.mem_append.1 hp with hp | hp
    · exact List.mem_cons_of_mem _ hp
    · rw [List.mem_singleton.1 hp]
      exact List.mem_cons_self
  · refine H3.own p ?_
    rcases List.mem_append.1 hp with hp | hp
    · exact List.mem_cons_of_mem _ hp
    · rw [List.mem_singleton.1 hp]
      exact List.mem_cons_self
  · rw [List.mem_singleton.1 hq]
    exact hn p hp
end
theorem rb_snoc (m : Nat) (f : Nat → UInt8) : rb m f ++ [f m] = rb (m + 1) f := by simp [rb, List.range_succ]
theorem rb_zero (f : Nat → UInt8) : rb 0 f = [] := rfl
theorem i_quoE {k m r : Nat} (e : k / m = r) (h : 0 < m) (hk : k ≤ 9223372036854775807) (hm : m ≤ 9223372036854775807) (p q : Operand) (W : World) : (do eqGuard .quo 3 p q (.int .i64 (k : Int)) (.int .i64 (m : Int)); binOp .quo 3 (.int .i64 (k : Int)) (.int .i64 (m : Int)) : Sem Value).run Tryd.prog W = .ok (.int .i64 (r : Int)) W := by
  subst e
  exact i_quo h hk hm p q W
theorem i_subE {k m r : Nat} (e : m + r = k) (hk : k ≤ 9223372036854775807) (p q : Operand) (W : World) : (do eqGuard .sub 3 p q (.int .i64 (k : Int)) (.int .i64 (m : Int)); binOp .sub 3 (.int .i64 (k : Int)) (.int .i64 (m : Int)) : Sem Value).run Tryd.prog W = .ok (.int .i64 (r : Int)) W := by
  rw [i_sub _ _ (by omega), show (k : Int) - (m : Int) = (r : Int) by omega]
theorem i_addE {k m r : Nat} (e : k + m = r) (hk : r ≤ 9223372036854775807) (p q : Operand) (W : World) : (do eqGuard .add 3 p q (.int .i64 (k : Int)) (.int .i64 (m : Int)); binOp .add 3 (.int .i64 (k : Int)) (.int .i64 (m : Int)) : Sem Value).run Tryd.prog W = .ok (.int .i64 (r : Int)) W := by
  rw [i_add _ _ (by omega), show (k : Int) + (m : Int) = (r : Int) by omega]
theorem xor_on {kk nn bb : Nat → UInt8} {c : UInt32} {j i : Nat} (hi : i < 64) : bb (64 * j + i) ^^^ blockF kk (c + UInt32.ofNat j) nn i = xorF kk c nn bb (64 * j + i) := by
  show _ = bb (64 * j + i) ^^^ blockF kk (c + UInt32.ofNat ((64 * j + i) / 64)) nn ((64 * j + i) % 64)
  rw [show (64 * j + i) / 64 = j by omega, show (64 * j + i) % 64 = i by omega]
attribute [local irreducible] wv wc bvs bv rb blockF xorF OutF
set_option maxHeartbeats 4000000 in
theorem rxor_any {v : Value} {l : List UInt8} (kk : Nat → UInt8) (c : UInt32) (nn : Nat → UInt8) (w : World) (hv : BF l v w) (hlim : l.length ≤ 900000) : Calls Tryd.prog 19 #[.agg (bvs (rb 32 kk)), wc c, .agg (bvs (rb 12 nn)), v] w (fun rr w' => ∃ u, rr = .returned u ∧ Below w.heap.size w w' ∧ BF (rb l.length (xorF kk c nn (fun i => l.getD i 0))) u w') := by
  obtain ⟨A, n, cap, rfl, hbs⟩ := hv
  have hn := hbs.len
  rw [hn] at hlim ⊢
  obtain ⟨bb, hbb⟩ : ∃ f : Nat → UInt8, f = fun i => l.getD i 0 := ⟨_, rfl⟩
  rw [← hbb]
  refine calls_st (vs := [.agg (bvs (rb 32 kk)), wc c, .agg (bvs (rb 12 nn)), .slice A n cap]) 54 Tryd.func19 rfl Tryd.ntmps19 rfl (fun a W H => ?_)
  replace H : St 54 w a W [(0, .agg (bvs (rb 32 kk))), (1, wc c), (2, .agg (bvs (rb 12 nn))), (3, .slice A n cap)] [] := H
  refine wp_seq_k (fun K1 hK1 => ?_)
  refine rg_plain ?_
  refine pl_box rfl rfl (bx_key kk) rfl rfl rfl rfl H ?_
  try clear H a W
  intro g1 a W H
  refine pl_box rfl rfl (bx_nonce nn) rfl rfl rfl rfl H ?_
  try clear H a W
  intro g2 a W H
  refine pl_does (does_assign rfl rfl) rfl rfl rfl rfl H ?_
  try clear H a W
  intro a W H
  refine pl_end ?_
  replace H : St 54 w a W [(8, .slice none 0 0), (6, .pointer (some ⟨g2, 0, none⟩)), (4, .pointer (some ⟨g1, 0, none⟩)), (1, wc c), (3, .slice A n cap)] [(g2, 27, bvs (rb 12 nn)), (g1, 23, bvs (rb 32 kk))] := H.pick [0, 1, 2, 4, 6] [0, 1] rfl
  refine hK1 _ _ ?_
  clear hK1
  refine wp_seq_k (fun K2 hK2 => ?_)
  refine rg_plain ?_
  refine pl_does (does_assign rfl rfl) rfl rfl rfl rfl H ?_
  try clear H a W
  intro a W H
  refine pl_end ?_
  refine hK2 _ _ ?_
  clear hK2
  refine wp_seq_k (fun K3 hK3 => ?_)
  refine wp_seq_k (fun K4 hK4 => ?_)
  refine rg_plain ?_
  refine pl_does (does_assign rfl rfl) rfl rfl rfl rfl H ?_
  try clear H a W
  intro a W H
  refine pl_end ?_
  refine hK4 _ _ ?_
  clear hK4
  obtain ⟨M, hM⟩ : ∃ M : Nat, M = (n + 63) / 64 := ⟨_, rfl⟩
  refine wp_block ?_
  replace H : St 54 w a W [(10, .int .i64 ((64 * 0 : Nat) : Int)), (9, .slice none 0 0), (6, .pointer (some ⟨g2, 0, none⟩)), (4, .pointer (some ⟨g1, 0, none⟩)), (1, wc c), (3, .slice A n cap)] [(g2, 27, bvs (rb 12 nn)), (g1, 23, bvs (rb 32 kk))] := H.pick [0, 1, 3, 4, 5, 6] [0, 1] rfl
  refine wp_rounds M (fun j a W => ∃ vo hO, OutF hO vo (rb (min n (64 * j)) (xorF kk c nn bb)) ∧ St 54 w a W [(10, .int .i64 ((64 * j : Nat) : Int)), (9, vo), (6, .pointer (some ⟨g2, 0, none⟩)), (4, .pointer (some ⟨g1, 0, none⟩)), (1, wc c), (3, .slice A n cap)] ((g2, 27, bvs (rb 12 nn)) :: (g1, 23, bvs (rb 32 kk)) :: hO)) (k0 := 0) (show ∃ vo hO, OutF hO vo (rb (min n (64 * 0)) (xorF kk c nn bb)) ∧ St 54 w a W [(10, .int .i64 ((64 * 0 : Nat) : Int)), (9, vo), (6, .pointer (some ⟨g2, 0, none⟩)), (4, .pointer (some ⟨g1, 0, none⟩)), (1, wc c), (3, .slice A n cap)] ((g2, 27, bvs (rb 12 nn)) :: (g1, 23, bvs (rb 32 kk)) :: hO) from ⟨_, [], (by rw [show min n (64 * 0) = 0 by omega, rb_zero]; exact outF_nil), H⟩) (by omega) ?_
  try clear H a W
  intro j a W hj H_
  obtain ⟨vo, hO, hout, H⟩ := H_
  by_cases hj2 : j < M
  · refine wp_seq_k (fun K5 hK5 => ?_)
    refine wp_seq_k (fun K6 hK6 => ?_)
    refine rg_plain ?_
    refine pl_does (does_move rfl rfl) rfl rfl rfl rfl H ?_
    try clear H a W
    intro a W H
    refine pl_does (does_move rfl rfl) rfl rfl rfl rfl H ?_
    try clear H a W
    intro a W H
    refine pl_does (does_len Tryd.underlying25 rfl rfl) rfl rfl rfl rfl H ?_
    try clear H a W
    intro a W H
    refine pl_does (does_binOp rfl rfl rfl (i_lss_yes (k := (64 * j)) (m := n) (by omega) _ _)) rfl rfl rfl rfl H ?_
    try clear H a W
    intro a W H
    refine pl_end ?_
    refine hK6 _ _ ?_
    clear hK6
    refine wp_cond_true (H.ev rfl) ?_
    refine wp_skip ?_
    refine hK5 _ _ ?_
    clear hK5
    refine wp_seq_k (fun K7 hK7 => ?_)
    refine wp_block ?_
    refine wp_seq_k (fun K8 hK8 => ?_)
    refine rg_plain ?_
    refine pl_does (does_load rfl rfl (k := 1) rfl Tryd.underlying23 rfl (info_key _)) rfl rfl rfl rfl H ?_
    try clear H a W
    intro a W H
    refine pl_does (does_move rfl rfl) rfl rfl rfl rfl H ?_
    try clear H a W
    intro a W H
    refine pl_does (does_move rfl rfl) rfl rfl rfl rfl H ?_
    try clear H a W
    intro a W H
    refine pl_does (does_binOp rfl rfl rfl (i_quoE (k := 64 * j) (m := 64) (r := j) (by omega) (by omega) (by omega) (by omega) _ _)) rfl rfl rfl rfl H ?_
    try clear H a W
    intro a W H
    refine pl_does (does_convert rfl rfl (cv_iw _)) rfl rfl rfl rfl H ?_
    try clear H a W
    intro a W H
    refine pl_does (does_binOp rfl rfl rfl (w_add _ _ _ _)) rfl rfl rfl rfl H ?_
    try clear H a W
    intro a W H
    refine pl_does (does_load rfl rfl (k := 0) rfl Tryd.underlying27 rfl (info_nonce _)) rfl rfl rfl rfl H ?_
    try clear H a W
    intro a W H
    refine pl_does (does_call rfl ⟨_, Tryd.func24, by kernel_rfl⟩ rfl (fun W hb => rblock_any kk _ nn W)) rfl rfl rfl rfl H ?_
    try clear H a W
    intro a W H
    refine pl_new (news_of rfl al_long) rfl rfl rfl rfl H ?_
    try clear H a W
    intro g3 a W H
    refine pl_store rfl rfl rfl (k := 0) rfl (info_long _) (size_rb _ _ _) (bvs_one _) rfl rfl H ?_
    try clear H a W
    intro a W H
    refine pl_end ?_
    refine hK8 _ _ ?_
    clear hK8
    refine wp_seq_k (fun K9 hK9 => ?_)
    refine rg_plain ?_
    refine pl_does (does_move rfl rfl) rfl rfl rfl rfl H ?_
    try clear H a W
    intro a W H
    refine pl_does (does_assign rfl rfl) rfl rfl rfl rfl H ?_
    try clear H a W
    intro a W H
    refine pl_end ?_
    refine hK9 _ _ ?_
    clear hK9
    obtain ⟨R, hR⟩ : ∃ R : Nat, R = min 64 (n - 64 * j) := ⟨_, rfl⟩
    rw [show min n (64 * j) = 64 * j + 0 by omega] at hout
    refine wp_block ?_
    replace H : St 54 w a W [(12, .int .i64 ((64 * j + 0 : Nat) : Int)), (11, .pointer (some ⟨g3, 0, none⟩)), (10, .int .i64 ((64 * j : Nat) : Int)), (9, vo), (6, .pointer (some ⟨g2, 0, none⟩)), (4, .pointer (some ⟨g1, 0, none⟩)), (1, wc c), (3, .slice A n cap)] ((g3, 49, bvs (rb 64 (blockF kk (c + (UInt32.ofNat j)) nn))) :: (g2, 27, bvs (rb 12 nn)) :: (g1, 23, bvs (rb 32 kk)) :: hO) := H.pickC (h := [(g3, 49, bvs (rb 64 (blockF kk (c + (UInt32.ofNat j)) nn))), (g2, 27, bvs (rb 12 nn)), (g1, 23, bvs (rb 32 kk))]) (t := hO) [0, 2, 15, 16, 17, 18, 19, 20] [0, 1, 2] rfl
    refine wp_rounds R (fun i a W => ∃ vo hO, OutF hO vo (rb (64 * j + i) (xorF kk c nn bb)) ∧ St 54 w a W [(12, .int .i64 ((64 * j + i : Nat) : Int)), (11, .pointer (some ⟨g3, 0, none⟩)), (10, .int .i64 ((64 * j : Nat) : Int)), (9, vo), (6, .pointer (some ⟨g2, 0, none⟩)), (4, .pointer (some ⟨g1, 0, none⟩)), (1, wc c), (3, .slice A n cap)] ((g3, 49, bvs (rb 64 (blockF kk (c + (UInt32.ofNat j)) nn))) :: (g2, 27, bvs (rb 12 nn)) :: (g1, 23, bvs (rb 32 kk)) :: hO)) (k0 := 0) (show ∃ vo hO, OutF hO vo (rb (64 * j + 0) (xorF kk c nn bb)) ∧ St 54 w a W [(12, .int .i64 ((64 * j + 0 : Nat) : Int)), (11, .pointer (some ⟨g3, 0, none⟩)), (10, .int .i64 ((64 * j : Nat) : Int)), (9, vo), (6, .pointer (some ⟨g2, 0, none⟩)), (4, .pointer (some ⟨g1, 0, none⟩)), (1, wc c), (3, .slice A n cap)] ((g3, 49, bvs (rb 64 (blockF kk (c + (UInt32.ofNat j)) nn))) :: (g2, 27, bvs (rb 12 nn)) :: (g1, 23, bvs (rb 32 kk)) :: hO) from ⟨_, _, hout, H⟩) (by omega) ?_
    try clear H a W
    clear hout
    intro i a W hi H_
    obtain ⟨vo, hO, hout, H⟩ := H_
    by_cases hi2 : i < R
    · obtain ⟨gb, ob, x, rfl, hgb, hx, hcell⟩ := hbs.at' (k := 64 * j + i) (by omega)
      obtain rfl : x = bb (64 * j + i) := by rw [hbb]; simp [List.getD, hx]
      rw [← bv_def] at hcell
      refine wp_seq_k (fun K10 hK10 => ?_)
      refine wp_seq_k (fun K11 hK11 => ?_)
      refine rg_plain ?_
      refine pl_does (does_move rfl rfl) rfl rfl rfl rfl H ?_
      try clear H a W
      intro a W H
      refine pl_does (does_move rfl rfl) rfl rfl rfl rfl H ?_
      try clear H a W
      intro a W H
      refine pl_does (does_len Tryd.underlying25 rfl rfl) rfl rfl rfl rfl H ?_
      try clear H a W
      intro a W H
      refine pl_does (does_binOp rfl rfl rfl (i_lss_yes (k := (64 * j + i)) (m := n) (by omega) _ _)) rfl rfl rfl rfl H ?_
      try clear H a W
      intro a W H
      refine pl_does (does_move rfl rfl) rfl rfl rfl rfl H ?_
      try clear H a W
      intro a W H
      refine pl_does_g (does_move rfl rfl) (wanted_some rfl rfl rfl rfl rfl) rfl rfl rfl H ?_
      try clear H a W
      intro a W H
      refine pl_does_g (does_move rfl rfl) (wanted_some rfl rfl rfl rfl rfl) rfl rfl rfl H ?_
      try clear H a W
      intro a W H
      refine pl_does_g (does_binOp rfl rfl rfl (i_addE (k := 64 * j) (m := 64) (r := 64 * j + 64) rfl (by omega) _ _)) (wanted_some rfl rfl rfl rfl rfl) rfl rfl rfl H ?_
      try clear H a W
      intro a W H
      refine pl_does_g (does_binOp rfl rfl rfl (i_lss_yes (k := (64 * j + i)) (m := (64 * j + 64)) (by omega) _ _)) (wanted_some rfl rfl rfl rfl rfl) rfl rfl rfl H ?_
      try clear H a W
      intro a W H
      refine pl_does (does_pick rfl rfl (fun _ => rfl) (fun hb => by cases hb)) rfl rfl rfl rfl H ?_
      try clear H a W
      intro a W H
      refine pl_end ?_
      refine hK11 _ _ ?_
      clear hK11
      refine wp_cond_true (H.ev rfl) ?_
      refine wp_skip ?_
      refine hK10 _ _ ?_
      clear hK10
      refine wp_seq_k (fun K12 hK12 => ?_)
      refine wp_block ?_
      refine drawnR SB SB [⟨40, fun u_ _ => u_ = vo, [], none, false⟩, ⟨41, fun u_ _ => u_ = .slice (some ⟨gb, ob, none⟩) n cap, [], none, false⟩, ⟨42, fun u_ _ => u_ = .int .i64 ((64 * j + i : Nat) : Int), [], none, false⟩, ⟨43, fun u_ _ => u_ = .pointer (some ⟨gb, ob + (64 * j + i), none⟩), [1, 2], none, false⟩, ⟨44, fun u_ _ => u_ = bv (bb (64 * j + i)), [3], none, false⟩, ⟨45, fun u_ _ => u_ = .int .i64 ((64 * j + i : Nat) : Int), [], none, false⟩, ⟨46, fun u_ _ => u_ = .int .i64 ((64 * j : Nat) : Int), [], none, false⟩, ⟨47, fun u_ _ => u_ = .int .i64 ((i : Nat) : Int), [5, 6], none, false⟩, ⟨48, fun u_ _ => u_ = .pointer (some ⟨g3, i, none⟩), [7], none, false⟩, ⟨49, fun u_ _ => u_ = bv ((blockF kk (c + (UInt32.ofNat j)) nn) i), [8], none, false⟩, ⟨50, fun u_ _ => u_ = bv ((bb (64 * j + i)) ^^^ ((blockF kk (c + (UInt32.ofNat j)) nn) i)), [4, 9], none, false⟩, ⟨51, BF [(bb (64 * j + i)) ^^^ ((blockF kk (c + (UInt32.ofNat j)) nn) i)], [10], none, false⟩] [0, 0, 0, 6, 8, 0, 0, 96, 128, 256, 528, 1024, 2049, 8191] [0, 1, 2, 3, 4, 5, 6, 7, 8, 9, 10, 11] sb_st sb_st (by kernel_rfl) (by kernel_rfl) (by kernel_rfl) H ⟨⟨fun a W  H => by exact ob_valS H (wanted_none rfl) (does_move rfl rfl), val_grow, fun _ => val_grow⟩, ⟨fun a W  H => by exact ob_valS H (wanted_none rfl) (does_move rfl rfl), val_grow, fun _ => val_grow⟩, ⟨fun a W  H => by exact ob_valS H (wanted_none rfl) (does_move rfl rfl), val_grow, fun _ => val_grow⟩, ⟨fun a W y1 hy1 y2 hy2 H => by subst hy1; subst hy2; exact ob_valS H (wanted_none rfl) (does_indexAddr rfl rfl rfl (ia_bytes (j := 64 * j + i) (by omega))), val_grow, fun _ => val_grow⟩, ⟨fun a W y3 hy3 H => by subst hy3; exact ob_valS H (wanted_none rfl) (does_loadCell (v := bv (bb (64 * j + i))) rfl rfl hcell hgb ld_cellB), val_grow, fun _ => val_grow⟩, ⟨fun a W  H => by exact ob_valS H (wanted_none rfl) (does_move rfl rfl), val_grow, fun _ => val_grow⟩, ⟨fun a W  H => by exact ob_valS H (wanted_none rfl) (does_move rfl rfl), val_grow, fun _ => val_grow⟩, ⟨fun a W y5 hy5 y6 hy6 H => by subst hy5; subst hy6; exact ob_valS H (wanted_none rfl) (does_binOp rfl rfl rfl (i_subE (k := 64 * j + i) (m := 64 * j) (r := i) rfl (by omega) _ _)), val_grow, fun _ => val_grow⟩, ⟨fun a W y7 hy7 H => by subst hy7; exact ob_valS H (wanted_none rfl) (does_indexAddr rfl rfl rfl (ia_long (j := i) (show i < 64 by omega))), val_grow, fun _ => val_grow⟩, ⟨fun a W y8 hy8 H => by subst hy8; exact ob_valS H (wanted_none rfl) (does_loadAt (v := bv ((blockF kk (c + (UInt32.ofNat j)) nn) i)) rfl rfl (k := 0) rfl (ld_byte (show i < 64 by omega))), val_grow, fun _ => val_grow⟩, ⟨fun a W y4 hy4 y9 hy9 H => by subst hy4; subst hy9; exact ob_valS H (wanted_none rfl) (does_binOp rfl rfl rfl (b_xor _ _ _ _)), val_grow, fun _ => val_grow⟩, ⟨fun a W y10 hy10 H => by subst hy10; exact ob_bytes1S H (wanted_none rfl) rfl rfl , BF.sb, fun _ => BF.sb⟩, trivial⟩ (by kernel_rfl) ?_
      try clear H a W
      intro a W
      intro y_ hy_
      replace hy_ := hy_.symm
      subst hy_
      rintro _ rfl
      rintro _ rfl
      rintro _ rfl
      rintro _ rfl
      rintro _ rfl
      rintro _ rfl
      rintro _ rfl
      rintro _ rfl
      rintro _ rfl
      rintro _ rfl
      intro v51 hv51
      intro H
      replace H : St 54 w a W [(51, v51), (50, bv ((bb (64 * j + i)) ^^^ ((blockF kk (c + (UInt32.ofNat j)) nn) i))), (49, bv ((blockF kk (c + (UInt32.ofNat j)) nn) i)), (48, .pointer (some ⟨g3, i, none⟩)), (47, .int .i64 ((i : Nat) : Int)), (46, .int .i64 ((64 * j : Nat) : Int)), (45, .int .i64 ((64 * j + i : Nat) : Int)), (44, bv (bb (64 * j + i))), (43, .pointer (some ⟨gb, ob + (64 * j + i), none⟩)), (42, .int .i64 ((64 * j + i : Nat) : Int)), (41, .slice (some ⟨gb, ob, none⟩) n cap), (40, vo), (37, .bool true), (36, .bool true), (35, .int .i64 ((64 * j + 64 : Nat) : Int)), (34, .int .i64 ((64 * j : Nat) : Int)), (33, .int .i64 ((64 * j + i : Nat) : Int)), (32, .bool true), (31, .bool true), (30, .int .i64 ((n : Nat) : Int)), (29, .slice (some ⟨gb, ob, none⟩) n cap), (28, .int .i64 ((64 * j + i : Nat) : Int)), (12, .int .i64 ((64 * j + i : Nat) : Int)), (11, .pointer (some ⟨g3, 0, none⟩)), (10, .int .i64 ((64 * j : Nat) : Int)), (9, vo), (6, .pointer (some ⟨g2, 0, none⟩)), (4, .pointer (some ⟨g1, 0, none⟩)), (1, wc c), (3, .slice (some ⟨gb, ob, none⟩) n cap)] ((g3, 49, bvs (rb 64 (blockF kk (c + (UInt32.ofNat j)) nn))) :: (g2, 27, bvs (rb 12 nn)) :: (g1, 23, bvs (rb 32 kk)) :: hO) := H
      refine pl_appO (h := [(g3, 49, bvs (rb 64 (blockF kk (c + (UInt32.ofNat j)) nn))), (g2, 27, bvs (rb 12 nn)), (g1, 23, bvs (rb 32 kk))]) (t := hO) rfl rfl rfl hout hv51 (by simp) (by rw [rb_len, List.length_singleton]; omega) rfl rfl rfl rfl H ?_
      clear hout
      intro vo' hO' a W hout H
      rw [xor_on (show i < 64 by omega), rb_snoc] at hout
      replace H : St 54 w a W [(52, vo'), (51, v51), (50, bv ((bb (64 * j + i)) ^^^ ((blockF kk (c + (UInt32.ofNat j)) nn) i))), (49, bv ((blockF kk (c + (UInt32.ofNat j)) nn) i)), (48, .pointer (some ⟨g3, i, none⟩)), (47, .int .i64 ((i : Nat) : Int)), (46, .int .i64 ((64 * j : Nat) : Int)), (45, .int .i64 ((64 * j + i : Nat) : Int)), (44, bv (bb (64 * j + i))), (43, .pointer (some ⟨gb, ob + (64 * j + i), none⟩)), (42, .int .i64 ((64 * j + i : Nat) : Int)), (41, .slice (some ⟨gb, ob, none⟩) n cap), (40, vo), (37, .bool true), (36, .bool true), (35, .int .i64 ((64 * j + 64 : Nat) : Int)), (34, .int .i64 ((64 * j : Nat) : Int)), (33, .int .i64 ((64 * j + i : Nat) : Int)), (32, .bool true), (31, .bool true), (30, .int .i64 ((n : Nat) : Int)), (29, .slice (some ⟨gb, ob, none⟩) n cap), (28, .int .i64 ((64 * j + i : Nat) : Int)), (12, .int .i64 ((64 * j + i : Nat) : Int)), (11, .pointer (some ⟨g3, 0, none⟩)), (10, .int .i64 ((64 * j : Nat) : Int)), (6, .pointer (some ⟨g2, 0, none⟩)), (4, .pointer (some ⟨g1, 0, none⟩)), (1, wc c), (3, .slice (some ⟨gb, ob, none⟩) n cap)] ((g3, 49, bvs (rb 64 (blockF kk (c + (UInt32.ofNat j)) nn))) :: (g2, 27, bvs (rb 12 nn)) :: (g1, 23, bvs (rb 32 kk)) :: hO') := H.pickC (h := [(g3, 49, bvs (rb 64 (blockF kk (c + (UInt32.ofNat j)) nn))), (g2, 27, bvs (rb 12 nn)), (g1, 23, bvs (rb 32 kk))]) (t := hO') [0, 1, 2, 3, 4, 5, 6, 7, 8, 9, 10, 11, 12, 13, 14, 15, 16, 17, 18, 19, 20, 21, 22, 23, 24, 25, 27, 28, 29, 30] [0, 1, 2] rfl
      refine pl_does (does_assign rfl rfl) rfl rfl rfl rfl H ?_
      try clear H a W
      intro a W H
      refine pl_end ?_
      refine blk_normal ?_
      refine hK12 _ _ ?_
      clear hK12
      refine rg_plain ?_
      refine pl_does (does_move rfl rfl) rfl rfl rfl rfl H ?_
      try clear H a W
      intro a W H
      refine pl_does (does_binOp rfl rfl rfl (i_addE (k := 64 * j + i) (m := 1) (r := 64 * j + i + 1) rfl (by omega) _ _)) rfl rfl rfl rfl H ?_
      try clear H a W
      intro a W H
      replace H : St 54 w a W [(39, .int .i64 ((64 * j + i + 1 : Nat) : Int)), (38, .int .i64 ((64 * j + i : Nat) : Int)), (9, vo'), (52, vo'), (51, v51), (50, bv ((bb (64 * j + i)) ^^^ ((blockF kk (c + (UInt32.ofNat j)) nn) i))), (49, bv ((blockF kk (c + (UInt32.ofNat j)) nn) i)), (48, .pointer (some ⟨g3, i, none⟩)), (47, .int .i64 ((i : Nat) : Int)), (46, .int .i64 ((64 * j : Nat) : Int)), (45, .int .i64 ((64 * j + i : Nat) : Int)), (44, bv (bb (64 * j + i))), (43, .pointer (some ⟨gb, ob + (64 * j + i), none⟩)), (42, .int .i64 ((64 * j + i : Nat) : Int)), (41, .slice (some ⟨gb, ob, none⟩) n cap), (40, vo), (37, .bool true), (36, .bool true), (35, .int .i64 ((64 * j + 64 : Nat) : Int)), (34, .int .i64 ((64 * j : Nat) : Int)), (33, .int .i64 ((64 * j + i : Nat) : Int)), (32, .bool true), (31, .bool true), (30, .int .i64 ((n : Nat) : Int)), (29, .slice (some ⟨gb, ob, none⟩) n cap), (28, .int .i64 ((64 * j + i : Nat) : Int)), (11, .pointer (some ⟨g3, 0, none⟩)), (10, .int .i64 ((64 * j : Nat) : Int)), (6, .pointer (some ⟨g2, 0, none⟩)), (4, .pointer (some ⟨g1, 0, none⟩)), (1, wc c), (3, .slice (some ⟨gb, ob, none⟩) n cap)] ((g3, 49, bvs (rb 64 (blockF kk (c + (UInt32.ofNat j)) nn))) :: (g2, 27, bvs (rb 12 nn)) :: (g1, 23, bvs (rb 32 kk)) :: hO') := H.pickC (h := [(g3, 49, bvs (rb 64 (blockF kk (c + (UInt32.ofNat j)) nn))), (g2, 27, bvs (rb 12 nn)), (g1, 23, bvs (rb 32 kk))]) (t := hO') [0, 1, 2, 3, 4, 5, 6, 7, 8, 9, 10, 11, 12, 13, 14, 15, 16, 17, 18, 19, 20, 21, 22, 23, 24, 25, 27, 28, 29, 30, 31, 32] [0, 1, 2] rfl
      refine pl_does (does_assign rfl rfl) rfl rfl rfl rfl H ?_
      try clear H a W
      intro a W H
      refine pl_end ?_
      refine ⟨i + 1, by omega, by omega, ?_⟩
      show ∃ vo hO, OutF hO vo (rb (64 * j + (i + 1)) (xorF kk c nn bb)) ∧ St 54 w a W [(12, .int .i64 ((64 * j + (i + 1) : Nat) : Int)), (11, .pointer (some ⟨g3, 0, none⟩)), (10, .int .i64 ((64 * j : Nat) : Int)), (9, vo), (6, .pointer (some ⟨g2, 0, none⟩)), (4, .pointer (some ⟨g1, 0, none⟩)), (1, wc c), (3, .slice (some ⟨gb, ob, none⟩) n cap)] ((g3, 49, bvs (rb 64 (blockF kk (c + (UInt32.ofNat j)) nn))) :: (g2, 27, bvs (rb 12 nn)) :: (g1, 23, bvs (rb 32 kk)) :: hO)
      refine ⟨_, _, hout, ?_⟩
      exact H.pickC (h := [(g3, 49, bvs (rb 64 (blockF kk (c + (UInt32.ofNat j)) nn))), (g2, 27, bvs (rb 12 nn)), (g1, 23, bvs (rb 32 kk))]) (t := hO') [0, 27, 28, 3, 29, 30, 31, 32] [0, 1, 2] rfl
    · obtain rfl : R = i := by omega
      by_cases hb1 : n ≤ 64 * j + R
      · refine wp_seq_k (fun K13 hK13 => ?_)
        refine wp_seq_k (fun K14 hK14 => ?_)
        refine rg_plain ?_
        refine pl_does (does_move rfl rfl) rfl rfl rfl rfl H ?_
        try clear H a W
        intro a W H
        refine pl_does (does_move rfl rfl) rfl rfl rfl rfl H ?_
        try clear H a W
        intro a W H
        refine pl_does (does_len Tryd.underlying25 rfl rfl) rfl rfl rfl rfl H ?_
        try clear H a W
        intro a W H
        refine pl_does (does_binOp rfl rfl rfl (i_lss_no (k := (64 * j + R)) (m := n) (by omega) _ _)) rfl rfl rfl rfl H ?_
        try clear H a W
        intro a W H
        refine pl_does (does_move rfl rfl) rfl rfl rfl rfl H ?_
        try clear H a W
        intro a W H
        refine pl_skip (wanted_some rfl rfl rfl rfl rfl) rfl rfl rfl H ?_
        try clear H a W
        intro a W H
        refine pl_skip (wanted_some rfl rfl rfl rfl rfl) rfl rfl rfl H ?_
        try clear H a W
        intro a W H
        refine pl_skip (wanted_some rfl rfl rfl rfl rfl) rfl rfl rfl H ?_
        try clear H a W
        intro a W H
        refine pl_skip (wanted_some rfl rfl rfl rfl rfl) rfl rfl rfl H ?_
        try clear H a W
        intro a W H
        refine pl_does (does_pick rfl rfl (fun hb => by cases hb) (fun _ => rfl)) rfl rfl rfl rfl H ?_
        try clear H a W
        intro a W H
        refine pl_end ?_
        refine hK14 _ _ ?_
        clear hK14
        refine wp_cond_false (H.ev rfl) ?_
        refine wp_exit ?_
        repeat (with_reducible refine then_exit ?_)
        refine blk_exit ?_
        refine blk_normal ?_
        refine hK7 _ _ ?_
        clear hK7
        refine rg_plain ?_
        refine pl_does (does_move rfl rfl) rfl rfl rfl rfl H ?_
        try clear H a W
        intro a W H
        refine pl_does (does_binOp rfl rfl rfl (i_addE (k := 64 * j) (m := 64) (r := 64 * j + 64) rfl (by omega) _ _)) rfl rfl rfl rfl H ?_
        try clear H a W
        intro a W H
        replace H : St 54 w a W [(18, .int .i64 ((64 * j + 64 : Nat) : Int)), (17, .int .i64 ((64 * j : Nat) : Int)), (37, .bool false), (36, undef), (35, undef), (34, undef), (33, undef), (32, .bool false), (31, .bool false), (30, .int .i64 ((n : Nat) : Int)), (29, .slice A n cap), (28, .int .i64 ((64 * j + R : Nat) : Int)), (12, .int .i64 ((64 * j + R : Nat) : Int)), (11, .pointer (some ⟨g3, 0, none⟩)), (9, vo), (6, .pointer (some ⟨g2, 0, none⟩)), (4, .pointer (some ⟨g1, 0, none⟩)), (1, wc c), (3, .slice A n cap)] ((g3, 49, bvs (rb 64 (blockF kk (c + (UInt32.ofNat j)) nn))) :: (g2, 27, bvs (rb 12 nn)) :: (g1, 23, bvs (rb 32 kk)) :: hO) := H.pickC (h := [(g3, 49, bvs (rb 64 (blockF kk (c + (UInt32.ofNat j)) nn))), (g2, 27, bvs (rb 12 nn)), (g1, 23, bvs (rb 32 kk))]) (t := hO) [0, 1, 2, 3, 4, 5, 6, 7, 8, 9, 10, 11, 12, 13, 15, 16, 17, 18, 19] [0, 1, 2] rfl
        refine pl_does (does_assign rfl rfl) rfl rfl rfl rfl H ?_
        try clear H a W
        intro a W H
        refine pl_end ?_
        refine ⟨j + 1, by omega, by omega, ?_⟩
        show ∃ vo hO, OutF hO vo (rb (min n (64 * (j + 1))) (xorF kk c nn bb)) ∧ St 54 w a W [(10, .int .i64 ((64 * (j + 1) : Nat) : Int)), (9, vo), (6, .pointer (some ⟨g2, 0, none⟩)), (4, .pointer (some ⟨g1, 0, none⟩)), (1, wc c), (3, .slice A n cap)] ((g2, 27, bvs (rb 12 nn)) :: (g1, 23, bvs (rb 32 kk)) :: hO)
        refine ⟨_, _, (by rw [show min n (64 * (j + 1)) = 64 * j + R by omega]; exact hout), ?_⟩
        exact H.pickC (h := [(g3, 49, bvs (rb 64 (blockF kk (c + (UInt32.ofNat j)) nn))), (g2, 27, bvs (rb 12 nn)), (g1, 23, bvs (rb 32 kk))]) (t := hO) [0, 15, 16, 17, 18, 19] [1, 2] rfl
      · refine wp_seq_k (fun K15 hK15 => ?_)
        refine wp_seq_k (fun K16 hK16 => ?_)
        refine rg_plain ?_
        refine pl_does (does_move rfl rfl) rfl rfl rfl rfl H ?_
        try clear H a W
        intro a W H
        refine pl_does (does_move rfl rfl) rfl rfl rfl rfl H ?_
        try clear H a W
        intro a W H
        refine pl_does (does_len Tryd.underlying25 rfl rfl) rfl rfl rfl rfl H ?_
        try clear H a W
        intro a W H
        refine pl_does (does_binOp rfl rfl rfl (i_lss_yes (k := (64 * j + R)) (m := n) (by omega) _ _)) rfl rfl rfl rfl H ?_
        try clear H a W
        intro a W H
        refine pl_does (does_move rfl rfl) rfl rfl rfl rfl H ?_
        try clear H a W
        intro a W H
        refine pl_does_g (does_move rfl rfl) (wanted_some rfl rfl rfl rfl rfl) rfl rfl rfl H ?_
        try clear H a W
        intro a W H
        refine pl_does_g (does_move rfl rfl) (wanted_some rfl rfl rfl rfl rfl) rfl rfl rfl H ?_
        try clear H a W
        intro a W H
        refine pl_does_g (does_binOp rfl rfl rfl (i_addE (k := 64 * j) (m := 64) (r := 64 * j + 64) rfl (by omega) _ _)) (wanted_some rfl rfl rfl rfl rfl) rfl rfl rfl H ?_
        try clear H a W
        intro a W H
        refine pl_does_g (does_binOp rfl rfl rfl (i_lss_no (k := (64 * j + R)) (m := (64 * j + 64)) (by omega) _ _)) (wanted_some rfl rfl rfl rfl rfl) rfl rfl rfl H ?_
        try clear H a W
        intro a W H
        refine pl_does (does_pick rfl rfl (fun _ => rfl) (fun hb => by cases hb)) rfl rfl rfl rfl H ?_
        try clear H a W
        intro a W H
        refine pl_end ?_
        refine hK16 _ _ ?_
        clear hK16
        refine wp_cond_false (H.ev rfl) ?_
        refine wp_exit ?_
        repeat (with_reducible refine then_exit ?_)
        refine blk_exit ?_
        refine blk_normal ?_
        refine hK7 _ _ ?_
        clear hK7
        refine rg_plain ?_
        refine pl_does (does_move rfl rfl) rfl rfl rfl rfl H ?_
        try clear H a W
        intro a W H
        refine pl_does (does_binOp rfl rfl rfl (i_addE (k := 64 * j) (m := 64) (r := 64 * j + 64) rfl (by omega) _ _)) rfl rfl rfl rfl H ?_
        try clear H a W
        intro a W H
        replace H : St 54 w a W [(18, .int .i64 ((64 * j + 64 : Nat) : Int)), (17, .int .i64 ((64 * j : Nat) : Int)), (37, .bool false), (36, .bool false), (35, .int .i64 ((64 * j + 64 : Nat) : Int)), (34, .int .i64 ((64 * j : Nat) : Int)), (33, .int .i64 ((64 * j + R : Nat) : Int)), (32, .bool true), (31, .bool true), (30, .int .i64 ((n : Nat) : Int)), (29, .slice A n cap), (28, .int .i64 ((64 * j + R : Nat) : Int)), (12, .int .i64 ((64 * j + R : Nat) : Int)), (11, .pointer (some ⟨g3, 0, none⟩)), (9, vo), (6, .pointer (some ⟨g2, 0, none⟩)), (4, .pointer (some ⟨g1, 0, none⟩)), (1, wc c), (3, .slice A n cap)] ((g3, 49, bvs (rb 64 (blockF kk (c + (UInt32.ofNat j)) nn))) :: (g2, 27, bvs (rb 12 nn)) :: (g1, 23, bvs (rb 32 kk)) :: hO) := H.pickC (h := [(g3, 49, bvs (rb 64 (blockF kk (c + (UInt32.ofNat j)) nn))), (g2, 27, bvs (rb 12 nn)), (g1, 23, bvs (rb 32 kk))]) (t := hO) [0, 1, 2, 3, 4, 5, 6, 7, 8, 9, 10, 11, 12, 13, 15, 16, 17, 18, 19] [0, 1, 2] rfl
        refine pl_does (does_assign rfl rfl) rfl rfl rfl rfl H ?_
        try clear H a W
        intro a W H
        refine pl_end ?_
        refine ⟨j + 1, by omega, by omega, ?_⟩
        show ∃ vo hO, OutF hO vo (rb (min n (64 * (j + 1))) (xorF kk c nn bb)) ∧ St 54 w a W [(10, .int .i64 ((64 * (j + 1) : Nat) : Int)), (9, vo), (6, .pointer (some ⟨g2, 0, none⟩)), (4, .pointer (some ⟨g1, 0, none⟩)), (1, wc c), (3, .slice A n cap)] ((g2, 27, bvs (rb 12 nn)) :: (g1, 23, bvs (rb 32 kk)) :: hO)
        refine ⟨_, _, (by rw [show min n (64 * (j + 1)) = 64 * j + R by omega]; exact hout), ?_⟩
        exact H.pickC (h := [(g3, 49, bvs (rb 64 (blockF kk (c + (UInt32.ofNat j)) nn))), (g2, 27, bvs (rb 12 nn)), (g1, 23, bvs (rb 32 kk))]) (t := hO) [0, 15, 16, 17, 18, 19] [1, 2] rfl
  · obtain rfl : M = j := by omega
    refine wp_seq_k (fun K17 hK17 => ?_)
    refine wp_seq_k (fun K18 hK18 => ?_)
    refine rg_plain ?_
    refine pl_does (does_move rfl rfl) rfl rfl rfl rfl H ?_
    try clear H a W
    intro a W H
    refine pl_does (does_move rfl rfl) rfl rfl rfl rfl H ?_
    try clear H a W
    intro a W H
    refine pl_does (does_len Tryd.underlying25 rfl rfl) rfl rfl rfl rfl H ?_
    try clear H a W
    intro a W H
    refine pl_does (does_binOp rfl rfl rfl (i_lss_no (k := (64 * M)) (m := n) (by omega) _ _)) rfl rfl rfl rfl H ?_
    try clear H a W
    intro a W H
    refine pl_end ?_
    replace H : St 54 w a W [(16, .bool false), (10, .int .i64 ((64 * M : Nat) : Int)), (9, vo), (6, .pointer (some ⟨g2, 0, none⟩)), (4, .pointer (some ⟨g1, 0, none⟩)), (1, wc c), (3, .slice A n cap)] ((g2, 27, bvs (rb 12 nn)) :: (g1, 23, bvs (rb 32 kk)) :: hO) := H.pickC (h := [(g2, 27, bvs (rb 12 nn)), (g1, 23, bvs (rb 32 kk))]) (t := hO) [0, 4, 5, 6, 7, 8, 9] [0, 1] rfl
    refine hK18 _ _ ?_
    clear hK18
    refine wp_cond_false (H.ev rfl) ?_
    refine wp_exit ?_
    repeat (with_reducible refine then_exit ?_)
    refine blk_exit ?_
    refine hK3 _ _ ?_
    clear hK3
    refine wp_seq_k (fun K19 hK19 => ?_)
    refine rg_plain ?_
    refine pl_does (does_move rfl rfl) rfl rfl rfl rfl H ?_
    try clear H a W
    intro a W H
    refine pl_does (does_assign rfl rfl) rfl rfl rfl rfl H ?_
    try clear H a W
    intro a W H
    refine pl_end ?_
    replace H : St 54 w a W [(8, vo)] ((g2, 27, bvs (rb 12 nn)) :: (g1, 23, bvs (rb 32 kk)) :: hO) := H.pickC (h := [(g2, 27, bvs (rb 12 nn)), (g1, 23, bvs (rb 32 kk))]) (t := hO) [0] [0, 1] rfl
    refine hK19 _ _ ?_
    clear hK19
    refine wp_ret ?_
    repeat (first | (with_reducible refine then_ret ?_) | (with_reducible refine blk_ret ?_))
    refine end_tmp (p := 8) rfl rfl H (fun hb => ?_)
    exact ⟨_, rfl, hb, by rw [show min n (64 * M) = n by omega] at hout; exact hout.bf (h := [(g2, 27, bvs (rb 12 nn)), (g1, 23, bvs (rb 32 kk))]) (t := hO) H⟩
end Go.Proofs.YtghbknebaknmjaaDoor.Cha
