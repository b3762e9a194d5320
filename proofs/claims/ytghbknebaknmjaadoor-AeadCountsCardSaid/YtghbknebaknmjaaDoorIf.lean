/- Package chacha: bytes with the stream. -/
import Derived.Test.YtghbknebaknmjaaDoorIe
namespace Go.Proofs.YtghbknebaknmjaaDoor.Cha
set_option linter.unusedVariables false
set_option linter.unusedSimpArgs false
set_option maxRecDepth 100000
open Go Go.RowKit

theorem zeros_rb (n : Nat) : zeros n = rb n b0s := by
  show List.replicate n 0 = (List.range n).map (fun _ => 0)
  rw [List.map_const', List.length_range]
section
variable {P : Program} {n : Nat} {w0 w w' : World} {a : Act} {e : Env} {h h' : Hep} {Q : Exit → Act → World → Prop} {ops : Array Oper} {rest : List Oper} {o : Oper}
/-- What makes one block. -/
def Made (P : Program) (n : Nat) (w0 : World) (e : Env) (h : Hep) (o : Oper) (F : Nat → Value) (t : TypeId) (z : Array Value) : Prop := ∀ a w, St n w0 a w e h → (execOp a.eval o).run P w = .ok (.value (F w.heap.size)) (w.alloc (.cells z t))
theorem pl_made {d : Nat} {F : Nat → Value} {t : TypeId} {z : Array Value} (hm : Made P n w0 e h o F t z) (hg : o.guard = none) (hdst : o.dst = some d) (hl : Nat.blt d n = true) (hf : e.all (fun p => !Nat.beq p.1 d) = true)
    (H : St n w0 a w e h) (next : ∀ (g : Nat) a w, St n w0 a w ((d, F g) :: e) ((g, t, z) :: h) → wpList P ops Q rest a w) : wpList P ops Q (o :: rest) a w :=
  wpList_plain hg fun K hK => by
    unfold Oper.wp
    rw [hm a w H]
    refine hK _ _ (next w.heap.size _ _ ?_)
    rw [hdst]
    exact (H.alloc z t).put _ hl hf
theorem made_bytes {x y : Operand} {n' : Nat} {m : Nat} (ho : o.op = .makeSlice 25 x y) (hx : sev e x = some (.int .i64 (m : Int))) (hy : sev e y = some (.int .i64 (m : Int))) (hm : m ≤ 281474976710656) : Made Tryd.prog n' w0 e h o (fun g => .slice (some ⟨g, 0, none⟩) m m) 5 (bvs (rb m b0s)) := fun a w H => by
  unfold execOp
  simp only [ho, H.ev hx, H.ev hy, Sem.run_bind, run_mkb (P := Tryd.prog) 25 5 Tryd.underlying25 u8_info m hm w, Result.andThen_ok, Sem.run_pure, zeros_rb]
end
def cntK (c : UInt32) (k : Nat) : UInt32 := c + UInt32.ofNat ((k + 63) / 64)
def blkK (kk : Nat → UInt8) (c : UInt32) (nn : Nat → UInt8) : Nat → Nat → UInt8
  | 0 => b0s
  | k + 1 => blockF kk (c + UInt32.ofNat (k / 64)) nn
theorem ofNat_succ (m : Nat) : UInt32.ofNat (m + 1) = UInt32.ofNat m + 1 := by
  apply UInt32.toNat_inj.1
  rw [UInt32.toNat_add, UInt32.toNat_ofNat', UInt32.toNat_ofNat']
  show (m + 1) % 4294967296 = (m % 4294967296 + 1) % 4294967296
  omega
theorem cnt_yes {c : UInt32} {k : Nat} (h : k % 64 = 0) : cntK c k + 1 = cntK c (k + 1) := by
  unfold cntK
  rw [show (k + 1 + 63) / 64 = (k + 63) / 64 + 1 by omega, ofNat_succ, UInt32.add_assoc]
theorem cnt_no {c : UInt32} {k : Nat} (h : ¬ k % 64 = 0) : cntK c k = cntK c (k + 1) := by
  unfold cntK
  rw [show (k + 1 + 63) / 64 = (k + 63) / 64 by omega]
theorem blk_yes {kk nn : Nat → UInt8} {c : UInt32} {k : Nat} (h : k % 64 = 0) : blockF kk (cntK c k) nn = blkK kk c nn (k + 1) := by
  unfold blkK cntK
  rw [show (k + 63) / 64 = k / 64 by omega]
theorem blk_no {kk nn : Nat → UInt8} {c : UInt32} {k : Nat} (h : ¬ k % 64 = 0) : blkK kk c nn k = blkK kk c nn (k + 1) := by
  rcases k with _ | j
  · exact absurd rfl h
  · show blockF kk (c + UInt32.ofNat (j / 64)) nn = blockF kk (c + UInt32.ofNat ((j + 1) / 64)) nn
    rw [show (j + 1) / 64 = j / 64 by omega]
theorem xor_at {kk nn bb : Nat → UInt8} {c : UInt32} {k : Nat} : bb k ^^^ blkK kk c nn (k + 1) (k % 64) = xorF kk c nn bb k := rfl
theorem cnt_0 (c : UInt32) : cntK c 0 = c := by
  unfold cntK
  rw [show UInt32.ofNat ((0 + 63) / 64) = 0 by decide, UInt32.add_zero]
theorem i_eql_yes {k m : Nat} {t : TypeId} (h : k = m) (p q : Operand) (W : World) : (do eqGuard .eql 3 p q (.int .i64 (k : Int)) (.int .i64 (m : Int)); binOp .eql 3 (.int .i64 (k : Int)) (.int .i64 (m : Int)) : Sem Value).run Tryd.prog W = .ok (.bool true) W := by
  have e : decide ((k : Int) = (m : Int)) = true := decide_eq_true (by omega)
  go_simp
theorem i_eql_no {k m : Nat} {t : TypeId} (h : ¬ k = m) (p q : Operand) (W : World) : (do eqGuard .eql 3 p q (.int .i64 (k : Int)) (.int .i64 (m : Int)); binOp .eql 3 (.int .i64 (k : Int)) (.int .i64 (m : Int)) : Sem Value).run Tryd.prog W = .ok (.bool false) W := by
  have e : decide ((k : Int) = (m : Int)) = false := decide_eq_false (by omega)
  go_simp
  omega
theorem w_inc {t : TypeId} (x : UInt32) (p q : Operand) (W : World) : (do eqGuard .add t p q (wc x) (.int .u32 1); binOp .add t (wc x) (.int .u32 1) : Sem Value).run Tryd.prog W = .ok (wc (x + 1)) W := w_add x 1 p q W
attribute [local irreducible] wv wc bvs bv rb blockF xorF cntK
set_option maxHeartbeats 4000000 in
theorem xor_blk {v : Value} {l : List UInt8} (kk : Nat → UInt8) (c : UInt32) (nn : Nat → UInt8) (w : World) (hv : BF l v w) (hlim : l.length ≤ 1000000) : Calls Tryd.prog 15 #[.agg (bvs (rb 32 kk)), wc c, .agg (bvs (rb 12 nn)), v] w (fun rr w' => ∃ g, rr = .returned (.slice (some ⟨g, 0, none⟩) l.length l.length) ∧ Below w.heap.size w w' ∧ Blk w' g 5 (bvs (rb l.length (xorF kk c nn (fun i => l.getD i 0)))) ∧ w.heap.size ≤ g) := by
  obtain ⟨A, n, cap, rfl, hbs⟩ := hv
  have hn := hbs.len
  rw [hn] at hlim ⊢
  obtain ⟨bb, hbb⟩ : ∃ f : Nat → UInt8, f = fun i => l.getD i 0 := ⟨_, rfl⟩
  rw [← hbb]
  refine calls_st (vs := [.agg (bvs (rb 32 kk)), wc c, .agg (bvs (rb 12 nn)), .slice A n cap]) 44 Tryd.func15 rfl Tryd.ntmps15 rfl (fun a W H => ?_)
  replace H : St 44 w a W [(0, .agg (bvs (rb 32 kk))), (1, wc c), (2, .agg (bvs (rb 12 nn))), (3, .slice A n cap)] [] := H
  refine wp_seq_k (fun K1 hK1 => ?_)
  refine rg_plain ?_
  refine pl_box rfl rfl (bx_key kk) rfl rfl rfl rfl H ?_
  try clear H a W
  intro g1 a W H
  refine pl_box rfl rfl (bx_nonce nn) rfl rfl rfl rfl H ?_
  try clear H a W
  intro g2 a W H
  refine pl_does (does_assign rfl rfl) rfl rfl rfl rfl H ?_
  try clear H a W
  intro a W H
  refine pl_end ?_
  replace H : St 44 w a W [(8, .slice none 0 0), (6, .pointer (some ⟨g2, 0, none⟩)), (4, .pointer (some ⟨g1, 0, none⟩)), (1, wc c), (3, .slice A n cap)] [(g2, 27, bvs (rb 12 nn)), (g1, 23, bvs (rb 32 kk))] := H.pick [0, 1, 2, 4, 6] [0, 1] rfl
  refine hK1 _ _ ?_
  clear hK1
  refine wp_seq_k (fun K2 hK2 => ?_)
  refine rg_plain ?_
  refine pl_does (does_move rfl rfl) rfl rfl rfl rfl H ?_
  try clear H a W
  intro a W H
  refine pl_does (does_len Tryd.underlying25 rfl rfl) rfl rfl rfl rfl H ?_
  try clear H a W
  intro a W H
  refine pl_made (F := fun g => .slice (some ⟨g, 0, none⟩) n n) (made_bytes (m := n) rfl rfl rfl (by omega)) rfl rfl rfl rfl H ?_
  try clear H a W
  intro g3 a W H
  replace H : St 44 w a W [(16, .slice (some ⟨g3, 0, none⟩) n n), (15, .int .i64 ((n : Nat) : Int)), (14, .slice A n cap), (8, .slice none 0 0), (6, .pointer (some ⟨g2, 0, none⟩)), (4, .pointer (some ⟨g1, 0, none⟩)), (1, wc c), (3, .slice A n cap)] [(g3, 5, bvs (rb n b0s)), (g2, 27, bvs (rb 12 nn)), (g1, 23, bvs (rb 32 kk))] := H
  refine pl_does (does_assign rfl rfl) rfl rfl rfl rfl H ?_
  try clear H a W
  intro a W H
  refine pl_end ?_
  replace H : St 44 w a W [(9, .slice (some ⟨g3, 0, none⟩) n n), (8, .slice none 0 0), (6, .pointer (some ⟨g2, 0, none⟩)), (4, .pointer (some ⟨g1, 0, none⟩)), (1, wc c), (3, .slice A n cap)] [(g3, 5, bvs (rb n b0s)), (g2, 27, bvs (rb 12 nn)), (g1, 23, bvs (rb 32 kk))] := H.pick [0, 4, 5, 6, 7, 8] [0, 1, 2] rfl
  refine hK2 _ _ ?_
  clear hK2
  refine wp_seq_k (fun K3 hK3 => ?_)
  refine rg_plain ?_
  refine pl_new (news_of rfl al_long) rfl rfl rfl rfl H ?_
  try clear H a W
  intro g4 a W H
  refine pl_end ?_
  refine hK3 _ _ ?_
  clear hK3
  refine wp_seq_k (fun K4 hK4 => ?_)
  refine wp_seq_k (fun K5 hK5 => ?_)
  refine rg_plain ?_
  refine pl_does (does_move rfl rfl) rfl rfl rfl rfl H ?_
  try clear H a W
  intro a W H
  refine pl_does (does_len Tryd.underlying25 rfl rfl) rfl rfl rfl rfl H ?_
  try clear H a W
  intro a W H
  refine pl_does (does_move rfl rfl) rfl rfl rfl rfl H ?_
  try clear H a W
  intro a W H
  refine pl_end ?_
  replace H : St 44 w a W [(19, .int .i64 0), (18, .int .i64 ((n : Nat) : Int)), (17, .slice A n cap), (10, .pointer (some ⟨g4, 0, none⟩)), (9, .slice (some ⟨g3, 0, none⟩) n n), (8, .slice none 0 0), (6, .pointer (some ⟨g2, 0, none⟩)), (4, .pointer (some ⟨g1, 0, none⟩)), (1, wc c)] [(g4, 49, bvs (rb 64 b0s)), (g3, 5, bvs (rb n b0s)), (g2, 27, bvs (rb 12 nn)), (g1, 23, bvs (rb 32 kk))] := H.pick [0, 1, 2, 3, 4, 5, 6, 7, 8] [0, 1, 2, 3] rfl
  refine hK5 _ _ ?_
  clear hK5
  refine wp_block ?_
  rw [← cnt_0 c] at H
  replace H : St 44 w a W [(19, .int .i64 ((0 : Nat) : Int)), (18, .int .i64 ((n : Nat) : Int)), (17, .slice A n cap), (10, .pointer (some ⟨g4, 0, none⟩)), (9, .slice (some ⟨g3, 0, none⟩) n n), (8, .slice none 0 0), (6, .pointer (some ⟨g2, 0, none⟩)), (4, .pointer (some ⟨g1, 0, none⟩)), (1, wc (cntK c 0))] [(g4, 49, bvs (rb 64 (blkK kk c nn 0))), (g3, 5, bvs (rb n (fillB (xorF kk c nn bb) 0))), (g2, 27, bvs (rb 12 nn)), (g1, 23, bvs (rb 32 kk))] := H.pick [0, 1, 2, 3, 4, 5, 6, 7, 8] [0, 1, 2, 3] rfl
  refine wp_rounds n (fun k a W => St 44 w a W [(19, .int .i64 ((k : Nat) : Int)), (18, .int .i64 ((n : Nat) : Int)), (17, .slice A n cap), (10, .pointer (some ⟨g4, 0, none⟩)), (9, .slice (some ⟨g3, 0, none⟩) n n), (8, .slice none 0 0), (6, .pointer (some ⟨g2, 0, none⟩)), (4, .pointer (some ⟨g1, 0, none⟩)), (1, wc (cntK c k))] [(g4, 49, bvs (rb 64 (blkK kk c nn k))), (g3, 5, bvs (rb n (fillB (xorF kk c nn bb) k))), (g2, 27, bvs (rb 12 nn)), (g1, 23, bvs (rb 32 kk))]) (k0 := 0) H (by omega) ?_
  try clear H a W
  intro k a W hk H
  by_cases hk2 : k < n
  · obtain ⟨gb, ob, x, rfl, hgb, hx, hcell⟩ := hbs.at' hk2
    obtain rfl : x = bb k := by rw [hbb]; simp [List.getD, hx]
    rw [← bv_def] at hcell
    by_cases hk0 : k % 64 = 0
    · refine wp_seq_k (fun K6 hK6 => ?_)
      refine rg_plain ?_
      refine pl_does (does_binOp rfl rfl rfl (i_lss_yes (k := k) (m := n) (by omega) _ _)) rfl rfl rfl rfl H ?_
      try clear H a W
      intro a W H
      refine pl_end ?_
      refine hK6 _ _ ?_
      clear hK6
      refine wp_seq_k (fun K7 hK7 => ?_)
      refine wp_cond_true (H.ev rfl) ?_
      refine wp_skip ?_
      refine hK7 _ _ ?_
      clear hK7
      refine wp_seq_k (fun K8 hK8 => ?_)
      refine wp_block ?_
      refine wp_seq_k (fun K9 hK9 => ?_)
      refine rg_plain ?_
      refine pl_does (does_move rfl rfl) rfl rfl rfl rfl H ?_
      try clear H a W
      intro a W H
      refine pl_does (does_indexAddr rfl rfl rfl (ia_bytes (j := k) hk2)) rfl rfl rfl rfl H ?_
      try clear H a W
      intro a W H
      refine pl_does (does_loadCell (v := bv (bb k)) rfl rfl hcell hgb ld_cellB) rfl rfl rfl rfl H ?_
      try clear H a W
      intro a W H
      refine pl_does (does_assign rfl rfl) rfl rfl rfl rfl H ?_
      try clear H a W
      intro a W H
      refine pl_does (does_assign rfl rfl) rfl rfl rfl rfl H ?_
      try clear H a W
      intro a W H
      refine pl_end ?_
      refine hK9 _ _ ?_
      clear hK9
      refine wp_seq_k (fun K10 hK10 => ?_)
      refine rg_plain ?_
      refine pl_does (does_move rfl rfl) rfl rfl rfl rfl H ?_
      try clear H a W
      intro a W H
      refine pl_does (does_binOp rfl rfl rfl (i_rem (k := k) (m := 64) (by omega) _ _)) rfl rfl rfl rfl H ?_
      try clear H a W
      intro a W H
      refine pl_does (does_assign rfl rfl) rfl rfl rfl rfl H ?_
      try clear H a W
      intro a W H
      refine pl_end ?_
      refine hK10 _ _ ?_
      clear hK10
      refine wp_seq_k (fun K11 hK11 => ?_)
      refine wp_seq_k (fun K12 hK12 => ?_)
      refine rg_plain ?_
      refine pl_does (does_move rfl rfl) rfl rfl rfl rfl H ?_
      try clear H a W
      intro a W H
      refine pl_does (does_binOp rfl rfl rfl (i_eql_yes (k := k % 64) (m := 0) (t := 0) hk0 _ _)) rfl rfl rfl rfl H ?_
      try clear H a W
      intro a W H
      refine pl_end ?_
      refine hK12 _ _ ?_
      clear hK12
      refine wp_cond_true (H.ev rfl) ?_
      refine wp_seq_k (fun K13 hK13 => ?_)
      refine rg_plain ?_
      refine pl_does (does_load rfl rfl (k := 3) rfl Tryd.underlying23 rfl (info_key _)) rfl rfl rfl rfl H ?_
      try clear H a W
      intro a W H
      refine pl_does (does_move rfl rfl) rfl rfl rfl rfl H ?_
      try clear H a W
      intro a W H
      refine pl_does (does_load rfl rfl (k := 2) rfl Tryd.underlying27 rfl (info_nonce _)) rfl rfl rfl rfl H ?_
      try clear H a W
      intro a W H
      refine pl_does (does_call rfl ⟨_, Tryd.func21, by kernel_rfl⟩ rfl (fun W hb => block_any kk _ nn W)) rfl rfl rfl rfl H ?_
      try clear H a W
      intro a W H
      refine pl_store rfl rfl rfl (k := 0) rfl (info_long _) (size_rb _ _ _) (bvs_one _) rfl rfl H ?_
      try clear H a W
      intro a W H
      refine pl_end ?_
      refine hK13 _ _ ?_
      clear hK13
      refine rg_plain ?_
      refine pl_does (does_move rfl rfl) rfl rfl rfl rfl H ?_
      try clear H a W
      intro a W H
      refine pl_does (does_binOp rfl rfl rfl (w_inc _ _ _)) rfl rfl rfl rfl H ?_
      try clear H a W
      intro a W H
      replace H : St 44 w a W [(33, wc ((cntK c k) + 1)), (32, wc (cntK c k)), (31, .agg (bvs (rb 64 (blockF kk (cntK c k) nn)))), (30, .agg (bvs (rb 12 nn))), (29, wc (cntK c k)), (28, .agg (bvs (rb 32 kk))), (27, .bool true), (26, .int .i64 ((k % 64 : Nat) : Int)), (13, .int .i64 ((k % 64 : Nat) : Int)), (25, .int .i64 ((k % 64 : Nat) : Int)), (24, .int .i64 ((k : Nat) : Int)), (12, bv (bb k)), (11, .int .i64 ((k : Nat) : Int)), (23, bv (bb k)), (22, .pointer (some ⟨gb, ob + k, none⟩)), (21, .int .i64 ((k : Nat) : Int)), (20, .bool true), (19, .int .i64 ((k : Nat) : Int)), (18, .int .i64 ((n : Nat) : Int)), (17, .slice (some ⟨gb, ob, none⟩) n cap), (10, .pointer (some ⟨g4, 0, none⟩)), (9, .slice (some ⟨g3, 0, none⟩) n n), (8, .slice none 0 0), (6, .pointer (some ⟨g2, 0, none⟩)), (4, .pointer (some ⟨g1, 0, none⟩))] [(g4, 49, bvs (rb 64 (blockF kk (cntK c k) nn))), (g3, 5, bvs (rb n (fillB (xorF kk c nn bb) k))), (g2, 27, bvs (rb 12 nn)), (g1, 23, bvs (rb 32 kk))] := H.pick [0, 1, 2, 3, 4, 5, 6, 7, 8, 9, 10, 11, 12, 13, 14, 15, 16, 17, 18, 19, 20, 21, 22, 23, 24] [0, 1, 2, 3] rfl
      refine pl_does (does_assign rfl rfl) rfl rfl rfl rfl H ?_
      try clear H a W
      intro a W H
      refine pl_end ?_
      refine hK11 _ _ ?_
      clear hK11
      refine rg_plain ?_
      refine pl_does (does_move rfl rfl) rfl rfl rfl rfl H ?_
      try clear H a W
      intro a W H
      refine pl_does (does_move rfl rfl) rfl rfl rfl rfl H ?_
      try clear H a W
      intro a W H
      refine pl_does (does_move rfl rfl) rfl rfl rfl rfl H ?_
      try clear H a W
      intro a W H
      refine pl_does (does_move rfl rfl) rfl rfl rfl rfl H ?_
      try clear H a W
      intro a W H
      refine pl_does (does_indexAddr rfl rfl rfl (ia_long (j := (k % 64)) (by omega))) rfl rfl rfl rfl H ?_
      try clear H a W
      intro a W H
      refine pl_does (does_loadAt (v := bv ((blockF kk (cntK c k) nn) (k % 64))) rfl rfl (k := 0) rfl (ld_byte (by omega))) rfl rfl rfl rfl H ?_
      try clear H a W
      intro a W H
      refine pl_does (does_binOp rfl rfl rfl (b_xor _ _ _ _)) rfl rfl rfl rfl H ?_
      try clear H a W
      intro a W H
      refine pl_does (does_indexAddr rfl rfl rfl (ia_bytes (j := k) hk2)) rfl rfl rfl rfl H ?_
      try clear H a W
      intro a W H
      refine pl_storeAt rfl rfl rfl (k := 1) rfl (st_byte (show 0 + k < n by omega)) (sv_byte rfl) rfl rfl H ?_
      try clear H a W
      intro a W H
      refine pl_end ?_
      refine blk_normal ?_
      refine hK8 _ _ ?_
      clear hK8
      refine rg_plain ?_
      refine pl_does (does_binOp rfl rfl rfl (i_inc (by omega) _ _)) rfl rfl rfl rfl H ?_
      try clear H a W
      intro a W H
      replace H : St 44 w a W [(42, .int .i64 ((k + 1 : Nat) : Int)), (41, .pointer (some ⟨g3, 0 + k, none⟩)), (40, bv ((bb k) ^^^ ((blockF kk (cntK c k) nn) (k % 64)))), (39, bv ((blockF kk (cntK c k) nn) (k % 64))), (38, .pointer (some ⟨g4, k % 64, none⟩)), (37, .int .i64 ((k % 64 : Nat) : Int)), (36, bv (bb k)), (35, .int .i64 ((k : Nat) : Int)), (34, .slice (some ⟨g3, 0, none⟩) n n), (1, wc ((cntK c k) + 1)), (33, wc ((cntK c k) + 1)), (32, wc (cntK c k)), (31, .agg (bvs (rb 64 (blockF kk (cntK c k) nn)))), (30, .agg (bvs (rb 12 nn))), (29, wc (cntK c k)), (28, .agg (bvs (rb 32 kk))), (27, .bool true), (26, .int .i64 ((k % 64 : Nat) : Int)), (13, .int .i64 ((k % 64 : Nat) : Int)), (25, .int .i64 ((k % 64 : Nat) : Int)), (24, .int .i64 ((k : Nat) : Int)), (12, bv (bb k)), (11, .int .i64 ((k : Nat) : Int)), (23, bv (bb k)), (22, .pointer (some ⟨gb, ob + k, none⟩)), (21, .int .i64 ((k : Nat) : Int)), (20, .bool true), (18, .int .i64 ((n : Nat) : Int)), (17, .slice (some ⟨gb, ob, none⟩) n cap), (10, .pointer (some ⟨g4, 0, none⟩)), (9, .slice (some ⟨g3, 0, none⟩) n n), (8, .slice none 0 0), (6, .pointer (some ⟨g2, 0, none⟩)), (4, .pointer (some ⟨g1, 0, none⟩))] [(g4, 49, bvs (rb 64 (blockF kk (cntK c k) nn))), (g3, 5, bvs (rb n (updB (fillB (xorF kk c nn bb) k) (0 + k) ((bb k) ^^^ ((blockF kk (cntK c k) nn) (k % 64)))))), (g2, 27, bvs (rb 12 nn)), (g1, 23, bvs (rb 32 kk))] := H.pick [0, 1, 2, 3, 4, 5, 6, 7, 8, 9, 10, 11, 12, 13, 14, 15, 16, 17, 18, 19, 20, 21, 22, 23, 24, 25, 26, 28, 29, 30, 31, 32, 33, 34] [0, 1, 2, 3] rfl
      refine pl_does (does_move rfl rfl) rfl rfl rfl rfl H ?_
      try clear H a W
      intro a W H
      refine pl_end ?_
      refine ⟨k + 1, by omega, by omega, ?_⟩
      show St 44 w a W [(19, .int .i64 ((k + 1 : Nat) : Int)), (18, .int .i64 ((n : Nat) : Int)), (17, .slice (some ⟨gb, ob, none⟩) n cap), (10, .pointer (some ⟨g4, 0, none⟩)), (9, .slice (some ⟨g3, 0, none⟩) n n), (8, .slice none 0 0), (6, .pointer (some ⟨g2, 0, none⟩)), (4, .pointer (some ⟨g1, 0, none⟩)), (1, wc (cntK c (k + 1)))] [(g4, 49, bvs (rb 64 (blkK kk c nn (k + 1)))), (g3, 5, bvs (rb n (fillB (xorF kk c nn bb) (k + 1)))), (g2, 27, bvs (rb 12 nn)), (g1, 23, bvs (rb 32 kk))]
      rw [Nat.zero_add] at H
      rw [cnt_yes hk0, blk_yes hk0, xor_at] at H
      exact H.pick [0, 28, 29, 30, 31, 32, 33, 34, 10] [0, 1, 2, 3] rfl
    · refine wp_seq_k (fun K14 hK14 => ?_)
      refine rg_plain ?_
      refine pl_does (does_binOp rfl rfl rfl (i_lss_yes (k := k) (m := n) (by omega) _ _)) rfl rfl rfl rfl H ?_
      try clear H a W
      intro a W H
      refine pl_end ?_
      refine hK14 _ _ ?_
      clear hK14
      refine wp_seq_k (fun K15 hK15 => ?_)
      refine wp_cond_true (H.ev rfl) ?_
      refine wp_skip ?_
      refine hK15 _ _ ?_
      clear hK15
      refine wp_seq_k (fun K16 hK16 => ?_)
      refine wp_block ?_
      refine wp_seq_k (fun K17 hK17 => ?_)
      refine rg_plain ?_
      refine pl_does (does_move rfl rfl) rfl rfl rfl rfl H ?_
      try clear H a W
      intro a W H
      refine pl_does (does_indexAddr rfl rfl rfl (ia_bytes (j := k) hk2)) rfl rfl rfl rfl H ?_
      try clear H a W
      intro a W H
      refine pl_does (does_loadCell (v := bv (bb k)) rfl rfl hcell hgb ld_cellB) rfl rfl rfl rfl H ?_
      try clear H a W
      intro a W H
      refine pl_does (does_assign rfl rfl) rfl rfl rfl rfl H ?_
      try clear H a W
      intro a W H
      refine pl_does (does_assign rfl rfl) rfl rfl rfl rfl H ?_
      try clear H a W
      intro a W H
      refine pl_end ?_
      refine hK17 _ _ ?_
      clear hK17
      refine wp_seq_k (fun K18 hK18 => ?_)
      refine rg_plain ?_
      refine pl_does (does_move rfl rfl) rfl rfl rfl rfl H ?_
      try clear H a W
      intro a W H
      refine pl_does (does_binOp rfl rfl rfl (i_rem (k := k) (m := 64) (by omega) _ _)) rfl rfl rfl rfl H ?_
      try clear H a W
      intro a W H
      refine pl_does (does_assign rfl rfl) rfl rfl rfl rfl H ?_
      try clear H a W
      intro a W H
      refine pl_end ?_
      refine hK18 _ _ ?_
      clear hK18
      refine wp_seq_k (fun K19 hK19 => ?_)
      refine wp_seq_k (fun K20 hK20 => ?_)
      refine rg_plain ?_
      refine pl_does (does_move rfl rfl) rfl rfl rfl rfl H ?_
      try clear H a W
      intro a W H
      refine pl_does (does_binOp rfl rfl rfl (i_eql_no (k := k % 64) (m := 0) (t := 0) hk0 _ _)) rfl rfl rfl rfl H ?_
      try clear H a W
      intro a W H
      refine pl_end ?_
      refine hK20 _ _ ?_
      clear hK20
      refine wp_cond_false (H.ev rfl) ?_
      refine wp_skip ?_
      refine hK19 _ _ ?_
      clear hK19
      refine rg_plain ?_
      refine pl_does (does_move rfl rfl) rfl rfl rfl rfl H ?_
      try clear H a W
      intro a W H
      refine pl_does (does_move rfl rfl) rfl rfl rfl rfl H ?_
      try clear H a W
      intro a W H
      refine pl_does (does_move rfl rfl) rfl rfl rfl rfl H ?_
      try clear H a W
      intro a W H
      refine pl_does (does_move rfl rfl) rfl rfl rfl rfl H ?_
      try clear H a W
      intro a W H
      refine pl_does (does_indexAddr rfl rfl rfl (ia_long (j := (k % 64)) (by omega))) rfl rfl rfl rfl H ?_
      try clear H a W
      intro a W H
      refine pl_does (does_loadAt (v := bv ((blkK kk c nn k) (k % 64))) rfl rfl (k := 0) rfl (ld_byte (by omega))) rfl rfl rfl rfl H ?_
      try clear H a W
      intro a W H
      refine pl_does (does_binOp rfl rfl rfl (b_xor _ _ _ _)) rfl rfl rfl rfl H ?_
      try clear H a W
      intro a W H
      refine pl_does (does_indexAddr rfl rfl rfl (ia_bytes (j := k) hk2)) rfl rfl rfl rfl H ?_
      try clear H a W
      intro a W H
      refine pl_storeAt rfl rfl rfl (k := 1) rfl (st_byte (show 0 + k < n by omega)) (sv_byte rfl) rfl rfl H ?_
      try clear H a W
      intro a W H
      refine pl_end ?_
      refine blk_normal ?_
      refine hK16 _ _ ?_
      clear hK16
      refine rg_plain ?_
      refine pl_does (does_binOp rfl rfl rfl (i_inc (by omega) _ _)) rfl rfl rfl rfl H ?_
      try clear H a W
      intro a W H
      replace H : St 44 w a W [(42, .int .i64 ((k + 1 : Nat) : Int)), (41, .pointer (some ⟨g3, 0 + k, none⟩)), (40, bv ((bb k) ^^^ ((blkK kk c nn k) (k % 64)))), (39, bv ((blkK kk c nn k) (k % 64))), (38, .pointer (some ⟨g4, k % 64, none⟩)), (37, .int .i64 ((k % 64 : Nat) : Int)), (36, bv (bb k)), (35, .int .i64 ((k : Nat) : Int)), (34, .slice (some ⟨g3, 0, none⟩) n n), (27, .bool false), (26, .int .i64 ((k % 64 : Nat) : Int)), (13, .int .i64 ((k % 64 : Nat) : Int)), (25, .int .i64 ((k % 64 : Nat) : Int)), (24, .int .i64 ((k : Nat) : Int)), (12, bv (bb k)), (11, .int .i64 ((k : Nat) : Int)), (23, bv (bb k)), (22, .pointer (some ⟨gb, ob + k, none⟩)), (21, .int .i64 ((k : Nat) : Int)), (20, .bool true), (18, .int .i64 ((n : Nat) : Int)), (17, .slice (some ⟨gb, ob, none⟩) n cap), (10, .pointer (some ⟨g4, 0, none⟩)), (9, .slice (some ⟨g3, 0, none⟩) n n), (8, .slice none 0 0), (6, .pointer (some ⟨g2, 0, none⟩)), (4, .pointer (some ⟨g1, 0, none⟩)), (1, wc (cntK c k))] [(g4, 49, bvs (rb 64 (blkK kk c nn k))), (g3, 5, bvs (rb n (updB (fillB (xorF kk c nn bb) k) (0 + k) ((bb k) ^^^ ((blkK kk c nn k) (k % 64)))))), (g2, 27, bvs (rb 12 nn)), (g1, 23, bvs (rb 32 kk))] := H.pick [0, 1, 2, 3, 4, 5, 6, 7, 8, 9, 10, 11, 12, 13, 14, 15, 16, 17, 18, 19, 21, 22, 23, 24, 25, 26, 27, 28] [0, 1, 2, 3] rfl
      refine pl_does (does_move rfl rfl) rfl rfl rfl rfl H ?_
      try clear H a W
      intro a W H
      refine pl_end ?_
      refine ⟨k + 1, by omega, by omega, ?_⟩
      show St 44 w a W [(19, .int .i64 ((k + 1 : Nat) : Int)), (18, .int .i64 ((n : Nat) : Int)), (17, .slice (some ⟨gb, ob, none⟩) n cap), (10, .pointer (some ⟨g4, 0, none⟩)), (9, .slice (some ⟨g3, 0, none⟩) n n), (8, .slice none 0 0), (6, .pointer (some ⟨g2, 0, none⟩)), (4, .pointer (some ⟨g1, 0, none⟩)), (1, wc (cntK c (k + 1)))] [(g4, 49, bvs (rb 64 (blkK kk c nn (k + 1)))), (g3, 5, bvs (rb n (fillB (xorF kk c nn bb) (k + 1)))), (g2, 27, bvs (rb 12 nn)), (g1, 23, bvs (rb 32 kk))]
      rw [Nat.zero_add] at H
      rw [cnt_no hk0, blk_no hk0, xor_at] at H
      exact H.pick [0, 21, 22, 23, 24, 25, 26, 27, 28] [0, 1, 2, 3] rfl
  · obtain rfl : n = k := by omega
    refine wp_seq_k (fun K21 hK21 => ?_)
    refine rg_plain ?_
    refine pl_does (does_binOp rfl rfl rfl (i_lss_no (k := n) (m := n) (by omega) _ _)) rfl rfl rfl rfl H ?_
    try clear H a W
    intro a W H
    refine pl_end ?_
    replace H : St 44 w a W [(20, .bool false), (19, .int .i64 ((n : Nat) : Int)), (17, .slice A n cap), (10, .pointer (some ⟨g4, 0, none⟩)), (9, .slice (some ⟨g3, 0, none⟩) n n), (8, .slice none 0 0), (6, .pointer (some ⟨g2, 0, none⟩)), (4, .pointer (some ⟨g1, 0, none⟩)), (1, wc (cntK c n))] [(g4, 49, bvs (rb 64 (blkK kk c nn n))), (g3, 5, bvs (rb n (fillB (xorF kk c nn bb) n))), (g2, 27, bvs (rb 12 nn)), (g1, 23, bvs (rb 32 kk))] := H.pick [0, 1, 3, 4, 5, 6, 7, 8, 9] [0, 1, 2, 3] rfl
    refine hK21 _ _ ?_
    clear hK21
    refine wp_seq_k (fun K22 hK22 => ?_)
    refine wp_cond_false (H.ev rfl) ?_
    refine wp_exit ?_
    repeat (with_reducible refine then_exit ?_)
    refine blk_exit ?_
    refine hK4 _ _ ?_
    clear hK4
    refine wp_seq_k (fun K23 hK23 => ?_)
    refine rg_plain ?_
    refine pl_does (does_move rfl rfl) rfl rfl rfl rfl H ?_
    try clear H a W
    intro a W H
    replace H : St 44 w a W [(43, .slice (some ⟨g3, 0, none⟩) n n), (20, .bool false), (19, .int .i64 ((n : Nat) : Int)), (17, .slice A n cap), (10, .pointer (some ⟨g4, 0, none⟩)), (9, .slice (some ⟨g3, 0, none⟩) n n), (6, .pointer (some ⟨g2, 0, none⟩)), (4, .pointer (some ⟨g1, 0, none⟩)), (1, wc (cntK c n))] [(g4, 49, bvs (rb 64 (blkK kk c nn n))), (g3, 5, bvs (rb n (fillB (xorF kk c nn bb) n))), (g2, 27, bvs (rb 12 nn)), (g1, 23, bvs (rb 32 kk))] := H.pick [0, 1, 2, 3, 4, 5, 7, 8, 9] [0, 1, 2, 3] rfl
    refine pl_does (does_assign rfl rfl) rfl rfl rfl rfl H ?_
    try clear H a W
    intro a W H
    refine pl_end ?_
    replace H : St 44 w a W [(8, .slice (some ⟨g3, 0, none⟩) n n)] [(g4, 49, bvs (rb 64 (blkK kk c nn n))), (g3, 5, bvs (rb n (fillB (xorF kk c nn bb) n))), (g2, 27, bvs (rb 12 nn)), (g1, 23, bvs (rb 32 kk))] := H.pick [0] [0, 1, 2, 3] rfl
    refine hK23 _ _ ?_
    clear hK23
    refine wp_ret ?_
    repeat (first | (with_reducible refine then_ret ?_) | (with_reducible refine blk_ret ?_))
    refine end_tmp (p := 8) rfl rfl H (fun hb => ?_)
    exact ⟨g3, rfl, hb, (congrArg (fun x => Blk W g3 5 x) (rb_fill n (xorF kk c nn bb))).mp (H.blk (k := 1) rfl), H.own _ (List.mem_iff_getElem?.2 ⟨1, rfl⟩)⟩
theorem xor_any {v : Value} {l : List UInt8} (kk : Nat → UInt8) (c : UInt32) (nn : Nat → UInt8) (w : World) (hv : BF l v w) (hlim : l.length ≤ 1000000) : Calls Tryd.prog 15 #[.agg (bvs (rb 32 kk)), wc c, .agg (bvs (rb 12 nn)), v] w (fun rr w' => ∃ u, rr = .returned u ∧ Below w.heap.size w w' ∧ BF (rb l.length (xorF kk c nn (fun i => l.getD i 0))) u w') := by
  refine (xor_blk kk c nn w hv hlim).mono ?_
  rintro rr w' ⟨g, rfl, hb, h, _⟩
  exact ⟨_, rfl, hb, _, _, _, rfl, BS.ofBlk h _ (rb_len _ _).symm _ h.lt⟩
end Go.Proofs.YtghbknebaknmjaaDoor.Cha
