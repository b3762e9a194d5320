/- Package aead: numbers' bytes, nonces, the mark's key, what is padded by a closure, the mark. -/
import Derived.Test.YtghbknebaknmjaaDoorAa
namespace Go.Proofs.YtghbknebaknmjaaDoor
set_option linter.unusedVariables false
set_option linter.unusedSimpArgs false
set_option maxRecDepth 100000
open Go Go.RowKit Cha

theorem al_nonce (W : World) : (Instr.alloc 27 true (.tuple #[])).run Tryd.prog W = .ok (.pointer (some ⟨W.heap.size, 0, none⟩)) (W.alloc (.cells (bvs (rb 12 b0s)) 27)) := by kernel_rfl
theorem al_rows (W : World) : (Instr.alloc 51 true (.tuple #[])).run Tryd.prog W = .ok (.pointer (some ⟨W.heap.size, 0, none⟩)) (W.alloc (.cells #[.slice none 0 0] 51)) := by kernel_rfl
theorem sl_n4 (g : Nat) (W : World) : (Instr.sliceAt 27 (.pointer (some ⟨g, 0, none⟩)) (some (.int .i64 4)) none none).run Tryd.prog W = .ok (.slice (some ⟨g, 4, none⟩) 8 8) W := by kernel_rfl
theorem sl_l32 (g : Nat) (W : World) : (Instr.sliceAt 49 (.pointer (some ⟨g, 0, none⟩)) none (some (.int .i64 32)) none).run Tryd.prog W = .ok (.slice (some ⟨g, 0, none⟩) 32 64) W := by kernel_rfl
theorem sl_m16 (g : Nat) (W : World) : (Instr.sliceAt 42 (.pointer (some ⟨g, 0, none⟩)) none none none).run Tryd.prog W = .ok (.slice (some ⟨g, 0, none⟩) 16 16) W := by kernel_rfl
theorem size_u8i : (Tryd.prog.info? 5).map (·.size) = some 1 := by kernel_rfl
theorem ld_cellR {g f : Nat} {A : Option Addr} {k c : Nat} (W : World) (hc : W.cell? ⟨g, f, none⟩ = some (.slice A k c)) : (Instr.loadAt 51 (.pointer (some ⟨g, f, none⟩))).run Tryd.prog W = .ok (.slice A k c) W := by
  go_simp
theorem cv_iu64 {x : Nat} (hx : x < 9223372036854775808) (W : World) : (convert 3 24 (.int .i64 (x : Int))).run Tryd.prog W = .ok (uc x) W := by
  have e : IntKind.u64.wrap (x : Int) = (x : Int) := IntWalk.u64_in _ (by omega)
  unfold uc
  go_simp
theorem u_shrU {x s : Nat} (hs : s < 64) (p q : Operand) (W : World) : (do eqGuard .shr 24 p q (uc x) (.int .u64 (s : Int)); binOp .shr 24 (uc x) (.int .u64 (s : Int)) : Sem Value).run Tryd.prog W = .ok (uc (x / 2 ^ s)) W := by
  have h1 : (0 : Int) ≤ (s : Int) := by omega
  have h2 : (s : Int) ≤ 64 := by omega
  unfold uc
  go_simp
theorem n8_step (x k : Nat) : updB (mapB (le8 x) b0s k) (0 + k) (UInt8.ofNat (x / 2 ^ (8 * k))) = mapB (le8 x) b0s (k + 1) := by
  rw [Nat.zero_add]
  exact mapB_step (le8 x) b0s k
theorem noT {t : Hep} (h : t.all (fun p => !Nat.beq p.2.1 25) = true) : ∀ p ∈ t, p.2.1 ≠ 25 := fun p hp e => by
  have := List.all_eq_true.1 h p hp
  rw [e] at this
  cases this
section
variable {P : Program} {n : Nat} {w0 w : World} {a : Act} {e : Env} {h : Hep} {Q : Exit → Act → World → Prop} {o : Oper}
theorem does_s2a {T el m k c : Nat} {x : Operand} {A : Option Addr} (ho : o.op = .sliceToArrayPointer T x) (hx : sev e x = some (.slice A k c)) (hu : P.underlying T = some (.array m el)) (hm : m ≤ k) : Does P Q n w0 e h o (.pointer A) := does_run fun a w H => by
  unfold execOp
  simp only [ho, H.ev hx, Instr.arrayAt, Sem.run_bind, run_underlying hu, Result.andThen_ok, Sem.run_pure]
  rw [if_neg (by omega)]
  rfl
theorem St.swap {x y : Nat × TypeId × Array Value} {t : Hep} (H : St n w0 a w e (x :: y :: t)) : St n w0 a w e (y :: x :: t) :=
  have K := H.kn.perm (List.Perm.swap y x t)
  ⟨H.size, H.defers, H.env, K.below, K.heap, K.own, K.apart⟩
end
theorem bf_whole {W : World} {g k : Nat} {l : List UInt8} (h : Blk W g 5 (bvs l)) (hl : l.length = k) : BF l (.slice (some ⟨g, 0, none⟩) k k) W := ⟨_, _, _, rfl, BS.ofBlk h k hl.symm _ h.lt⟩
theorem block_0 (kk nn : Nat → UInt8) (W : World) : Calls Tryd.prog 21 #[.agg (bvs (rb 32 kk)), .int .u32 0, .agg (bvs (rb 12 nn))] W (fun rr w' => rr = .returned (.agg (bvs (rb 64 (blockF kk 0 nn)))) ∧ Below W.heap.size W w') := Cha.block_any kk 0 nn W
attribute [local irreducible] nv bvs rb bv wc uc tagF blockF xorF n8 zs padN macB
set_option maxHeartbeats 4000000 in
theorem bytesOf_blk (x : Nat) (w : World) : Calls Tryd.prog 14 #[uc x] w (fun rr w' => ∃ g, rr = .returned (.slice (some ⟨g, 0, none⟩) 8 8) ∧ Below w.heap.size w w' ∧ Blk w' g 5 (bvs (n8 x)) ∧ w.heap.size ≤ g) := by
  refine calls_st (vs := [uc x]) 21 Tryd.func14 rfl Tryd.ntmps14 rfl (fun a W H => ?_)
  replace H : St 21 w a W [(0, uc x)] [] := H
  refine wp_seq_k (fun K1 hK1 => ?_)
  refine rg_plain ?_
  refine pl_does (does_assign rfl rfl) rfl rfl rfl rfl H ?_
  try clear H a W
  intro a W H
  refine pl_end ?_
  refine hK1 _ _ ?_
  clear hK1
  refine wp_seq_k (fun K2 hK2 => ?_)
  refine rg_plain ?_
  refine pl_made (F := fun g => .slice (some ⟨g, 0, none⟩) 8 8) (made_bytes (m := 8) rfl rfl rfl (by omega)) rfl rfl rfl rfl H ?_
  try clear H a W
  intro g1 a W H
  replace H : St 21 w a W [(5, .slice (some ⟨g1, 0, none⟩) 8 8), (2, .slice none 0 0), (0, uc x)] [(g1, 5, bvs (rb 8 b0s))] := H
  refine pl_does (does_assign rfl rfl) rfl rfl rfl rfl H ?_
  try clear H a W
  intro a W H
  refine pl_end ?_
  replace H : St 21 w a W [(3, .slice (some ⟨g1, 0, none⟩) 8 8), (2, .slice none 0 0), (0, uc x)] [(g1, 5, bvs (rb 8 b0s))] := H.pick [0, 2, 3] [0] rfl
  refine hK2 _ _ ?_
  clear hK2
  refine wp_seq_k (fun K3 hK3 => ?_)
  refine wp_seq_k (fun K4 hK4 => ?_)
  refine rg_plain ?_
  refine pl_does (does_move rfl rfl) rfl rfl rfl rfl H ?_
  try clear H a W
  intro a W H
  refine pl_does (does_len Tryd.underlying25 rfl rfl) rfl rfl rfl rfl H ?_
  try clear H a W
  intro a W H
  refine pl_does (does_move rfl rfl) rfl rfl rfl rfl H ?_
  try clear H a W
  intro a W H
  refine pl_end ?_
  replace H : St 21 w a W [(8, .int .i64 0), (7, .int .i64 ((8 : Nat) : Int)), (3, .slice (some ⟨g1, 0, none⟩) 8 8), (2, .slice none 0 0), (0, uc x)] [(g1, 5, bvs (rb 8 b0s))] := H.pick [0, 1, 3, 4, 5] [0] rfl
  refine hK4 _ _ ?_
  clear hK4
  rw [← mapB_0 (le8 x) b0s] at H
  refine wp_block ?_
  replace H : St 21 w a W [(8, .int .i64 ((0 : Nat) : Int)), (7, .int .i64 ((8 : Nat) : Int)), (3, .slice (some ⟨g1, 0, none⟩) 8 8), (2, .slice none 0 0), (0, uc x)] [(g1, 5, bvs (rb 8 (mapB (le8 x) b0s 0)))] := H.pick [0, 1, 2, 3, 4] [0] rfl
  refine wp_rounds 8 (fun k a W => St 21 w a W [(8, .int .i64 ((k : Nat) : Int)), (7, .int .i64 ((8 : Nat) : Int)), (3, .slice (some ⟨g1, 0, none⟩) 8 8), (2, .slice none 0 0), (0, uc x)] [(g1, 5, bvs (rb 8 (mapB (le8 x) b0s k)))]) (k0 := 0) H (by omega) ?_
  try clear H a W
  intro k a W hk H
  by_cases hk2 : k < 8
  · refine wp_seq_k (fun K5 hK5 => ?_)
    refine rg_plain ?_
    refine pl_does (does_binOp rfl rfl rfl (i_lss_yes (k := k) (m := 8) (by omega) _ _)) rfl rfl rfl rfl H ?_
    try clear H a W
    intro a W H
    refine pl_end ?_
    refine hK5 _ _ ?_
    clear hK5
    refine wp_seq_k (fun K6 hK6 => ?_)
    refine wp_cond_true (H.ev rfl) ?_
    refine wp_skip ?_
    refine hK6 _ _ ?_
    clear hK6
    refine wp_seq_k (fun K7 hK7 => ?_)
    refine wp_block ?_
    refine wp_seq_k (fun K8 hK8 => ?_)
    refine rg_plain ?_
    refine pl_does (does_move rfl rfl) rfl rfl rfl rfl H ?_
    try clear H a W
    intro a W H
    refine pl_does (does_assign rfl rfl) rfl rfl rfl rfl H ?_
    try clear H a W
    intro a W H
    refine pl_end ?_
    refine hK8 _ _ ?_
    clear hK8
    refine rg_plain ?_
    refine pl_does (does_move rfl rfl) rfl rfl rfl rfl H ?_
    try clear H a W
    intro a W H
    refine pl_does (does_move rfl rfl) rfl rfl rfl rfl H ?_
    try clear H a W
    intro a W H
    refine pl_does (does_move rfl rfl) rfl rfl rfl rfl H ?_
    try clear H a W
    intro a W H
    refine pl_does (does_move rfl rfl) rfl rfl rfl rfl H ?_
    try clear H a W
    intro a W H
    refine pl_does (does_binOp rfl rfl rfl (i_mul (k := 8) (m := k) (by omega) _ _)) rfl rfl rfl rfl H ?_
    try clear H a W
    intro a W H
    refine pl_does (does_binOp rfl rfl rfl (u_shr (s := (8 * k)) (by omega) _ _)) rfl rfl rfl rfl H ?_
    try clear H a W
    intro a W H
    refine pl_does (does_convert rfl rfl (cv_ub _)) rfl rfl rfl rfl H ?_
    try clear H a W
    intro a W H
    refine pl_does (does_indexAddr rfl rfl rfl (ia_bytes (j := k) (by omega))) rfl rfl rfl rfl H ?_
    try clear H a W
    intro a W H
    refine pl_storeAt rfl rfl rfl (k := 0) rfl (st_byte (n := 8) (x := UInt8.ofNat (x / 2 ^ (8 * k))) (show 0 + k < 8 by omega)) (sv_byte (n8_step x k)) rfl rfl H ?_
    try clear H a W
    intro a W H
    refine pl_end ?_
    refine blk_normal ?_
    refine hK7 _ _ ?_
    clear hK7
    refine rg_plain ?_
    refine pl_does (does_binOp rfl rfl rfl (i_addE (k := k) (m := 1) rfl (by omega) _ _)) rfl rfl rfl rfl H ?_
    try clear H a W
    intro a W H
    replace H : St 21 w a W [(19, .int .i64 ((k + 1 : Nat) : Int)), (18, .pointer (some ⟨g1, 0 + k, none⟩)), (17, bv (UInt8.ofNat (x / 2 ^ (8 * k)))), (16, uc (x / 2 ^ (8 * k))), (15, .int .i64 ((8 * k : Nat) : Int)), (14, .int .i64 ((k : Nat) : Int)), (13, uc x), (12, .int .i64 ((k : Nat) : Int)), (11, .slice (some ⟨g1, 0, none⟩) 8 8), (4, .int .i64 ((k : Nat) : Int)), (10, .int .i64 ((k : Nat) : Int)), (9, .bool true), (7, .int .i64 ((8 : Nat) : Int)), (3, .slice (some ⟨g1, 0, none⟩) 8 8), (2, .slice none 0 0), (0, uc x)] [(g1, 5, bvs (rb 8 (mapB (le8 x) b0s (k + 1))))] := H.pick [0, 1, 2, 3, 4, 5, 6, 7, 8, 9, 10, 11, 13, 14, 15, 16] [0] rfl
    refine pl_does (does_move rfl rfl) rfl rfl rfl rfl H ?_
    try clear H a W
    intro a W H
    refine pl_end ?_
    refine ⟨k + 1, by omega, by omega, ?_⟩
    show St 21 w a W [(8, .int .i64 ((k + 1 : Nat) : Int)), (7, .int .i64 ((8 : Nat) : Int)), (3, .slice (some ⟨g1, 0, none⟩) 8 8), (2, .slice none 0 0), (0, uc x)] [(g1, 5, bvs (rb 8 (mapB (le8 x) b0s (k + 1))))]
    exact H.pick [0, 13, 14, 15, 16] [0] rfl
  · obtain rfl : 8 = k := by omega
    refine wp_seq_k (fun K9 hK9 => ?_)
    refine rg_plain ?_
    refine pl_does (does_binOp rfl rfl rfl (i_lss_no (k := 8) (m := 8) (by omega) _ _)) rfl rfl rfl rfl H ?_
    try clear H a W
    intro a W H
    refine pl_end ?_
    replace H : St 21 w a W [(9, .bool false), (8, .int .i64 ((8 : Nat) : Int)), (3, .slice (some ⟨g1, 0, none⟩) 8 8), (2, .slice none 0 0), (0, uc x)] [(g1, 5, bvs (rb 8 (mapB (le8 x) b0s 8)))] := H.pick [0, 1, 3, 4, 5] [0] rfl
    refine hK9 _ _ ?_
    clear hK9
    refine wp_seq_k (fun K10 hK10 => ?_)
    refine wp_cond_false (H.ev rfl) ?_
    refine wp_exit ?_
    repeat (with_reducible refine then_exit ?_)
    refine blk_exit ?_
    rw [mapB_all] at H
    refine hK3 _ _ ?_
    clear hK3
    refine wp_seq_k (fun K11 hK11 => ?_)
    refine rg_plain ?_
    refine pl_does (does_move rfl rfl) rfl rfl rfl rfl H ?_
    try clear H a W
    intro a W H
    replace H : St 21 w a W [(20, .slice (some ⟨g1, 0, none⟩) 8 8), (9, .bool false), (8, .int .i64 ((8 : Nat) : Int)), (3, .slice (some ⟨g1, 0, none⟩) 8 8), (0, uc x)] [(g1, 5, bvs (rb 8 (le8 x)))] := H.pick [0, 1, 2, 3, 5] [0] rfl
    refine pl_does (does_assign rfl rfl) rfl rfl rfl rfl H ?_
    try clear H a W
    intro a W H
    refine pl_end ?_
    replace H : St 21 w a W [(2, .slice (some ⟨g1, 0, none⟩) 8 8)] [(g1, 5, bvs (rb 8 (le8 x)))] := H.pick [0] [0] rfl
    refine hK11 _ _ ?_
    clear hK11
    refine wp_ret ?_
    repeat (first | (with_reducible refine then_ret ?_) | (with_reducible refine blk_ret ?_))
    refine end_tmp (p := 2) rfl rfl H (fun hb => ?_)
    unfold n8
    exact ⟨g1, rfl, hb, H.blk (k := 0) rfl, H.own _ (List.mem_iff_getElem?.2 ⟨0, rfl⟩)⟩
set_option maxHeartbeats 4000000 in
theorem nonce_any (x : Nat) (w : World) : Calls Tryd.prog 8 #[uc x] w (fun rr w' => rr = .returned (.agg (bvs (rb 12 (nonceF x)))) ∧ Below w.heap.size w w') := by
  refine calls_st (vs := [uc x]) 9 Tryd.func8 rfl Tryd.ntmps8 rfl (fun a W H => ?_)
  replace H : St 9 w a W [(0, uc x)] [] := H
  refine wp_seq_k (fun K1 hK1 => ?_)
  refine rg_plain ?_
  refine pl_new (news_of rfl al_nonce) rfl rfl rfl rfl H ?_
  try clear H a W
  intro g1 a W H
  refine pl_end ?_
  refine hK1 _ _ ?_
  clear hK1
  refine wp_seq_k (fun K2 hK2 => ?_)
  refine rg_plain ?_
  refine pl_new (news_of rfl al_nonce) rfl rfl rfl rfl H ?_
  try clear H a W
  intro g2 a W H
  refine pl_end ?_
  refine hK2 _ _ ?_
  clear hK2
  refine wp_seq_k (fun K3 hK3 => ?_)
  refine drawnR SB SB [⟨4, fun u_ _ => u_ = .slice (some ⟨g2, 4, none⟩) 8 8, [], none, false⟩, ⟨5, fun u_ _ => u_ = uc x, [], none, false⟩, ⟨6, SF w.heap.size [(g2, 27, bvs (rb 12 b0s)), (g1, 27, bvs (rb 12 b0s))] 8 (n8 x), [1], none, false⟩] [0, 0, 2, 5] [0, 2] sb_st sb_st (by kernel_rfl) (by kernel_rfl) (by kernel_rfl) H ⟨⟨fun a W  H => by exact ob_valS H (wanted_none rfl) (does_slice rfl rfl (vl := some (.int .i64 4)) (vh := none) rfl rfl (sl_n4 g2)), val_grow, fun _ => val_grow⟩, ⟨fun a W  H => by exact ob_valS H (wanted_none rfl) (does_move rfl rfl), val_grow, fun _ => val_grow⟩, ⟨fun a W y1 hy1 H => by subst hy1; exact ob_callS H (wanted_none rfl) rfl ⟨_, Tryd.func14, by kernel_rfl⟩ rfl (sf_call H (bytesOf_blk x _) (n8_len _)), SF.sb, fun _ => SF.sb⟩, trivial⟩ (by kernel_rfl) ?_
  try clear H a W
  intro a W
  rintro _ rfl
  intro v6 hv6
  intro H
  replace H : St 9 w a W [(6, v6), (4, .slice (some ⟨g2, 4, none⟩) 8 8), (3, .pointer (some ⟨g2, 0, none⟩)), (2, .pointer (some ⟨g1, 0, none⟩)), (0, uc x)] [(g2, 27, bvs (rb 12 b0s)), (g1, 27, bvs (rb 12 b0s))] := H
  obtain ⟨gn, rfl, hln, hbn, hBn, hapn⟩ := hv6
  replace H := H.add hbn hBn hapn
  replace H : St 9 w a W [(6, .slice (some ⟨gn, 0, none⟩) 8 8), (4, .slice (some ⟨g2, 4, none⟩) 8 8), (3, .pointer (some ⟨g2, 0, none⟩)), (2, .pointer (some ⟨g1, 0, none⟩)), (0, uc x)] [(gn, 5, bvs (n8 x)), (g2, 27, bvs (rb 12 b0s)), (g1, 27, bvs (rb 12 b0s))] := H
  refine pl_copy rfl Tryd.underlying25 size_u8i rfl rfl (k := 1) rfl (k2 := 0) rfl (m := 8) rfl (by rw [bvs_size, n8_len]; omega) (by rw [bvs_size, rb_len]; omega) (bvs_one _) (nonce_copy x) rfl rfl rfl rfl H ?_
  try clear H a W
  intro a W H
  replace H : St 9 w a W [(7, .int .i64 ((8 : Nat) : Int)), (6, .slice (some ⟨gn, 0, none⟩) 8 8), (4, .slice (some ⟨g2, 4, none⟩) 8 8), (3, .pointer (some ⟨g2, 0, none⟩)), (2, .pointer (some ⟨g1, 0, none⟩)), (0, uc x)] [(gn, 5, bvs (n8 x)), (g2, 27, bvs (rb 12 (nonceF x))), (g1, 27, bvs (rb 12 b0s))] := H
  refine pl_end ?_
  replace H : St 9 w a W [(3, .pointer (some ⟨g2, 0, none⟩)), (2, .pointer (some ⟨g1, 0, none⟩))] [(gn, 5, bvs (n8 x)), (g2, 27, bvs (rb 12 (nonceF x))), (g1, 27, bvs (rb 12 b0s))] := H.pick [3, 4] [0, 1, 2] rfl
  refine hK3 _ _ ?_
  clear hK3
  refine wp_seq_k (fun K4 hK4 => ?_)
  refine rg_plain ?_
  refine pl_does (does_load rfl rfl (k := 1) rfl Tryd.underlying27 rfl (info_nonce _)) rfl rfl rfl rfl H ?_
  try clear H a W
  intro a W H
  refine pl_store rfl rfl rfl (k := 2) rfl (info_nonce _) (size_rb _ _ _) (bvs_one _) rfl rfl H ?_
  try clear H a W
  intro a W H
  refine pl_end ?_
  replace H : St 9 w a W [(2, .pointer (some ⟨g1, 0, none⟩))] [(gn, 5, bvs (n8 x)), (g2, 27, bvs (rb 12 (nonceF x))), (g1, 27, bvs (rb 12 (nonceF x)))] := H.pick [2] [0, 1, 2] rfl
  refine hK4 _ _ ?_
  clear hK4
  refine wp_ret ?_
  repeat (first | (with_reducible refine then_ret ?_) | (with_reducible refine blk_ret ?_))
  refine end_cell (p := 2) rfl rfl (k := 2) rfl Tryd.underlying27 rfl (info_nonce _) H (fun hb => ?_)
  exact ⟨rfl, hb⟩
set_option maxHeartbeats 4000000 in
theorem markKey_any (kk nn : Nat → UInt8) (w : World) : Calls Tryd.prog 17 #[.agg (bvs (rb 32 kk)), .agg (bvs (rb 12 nn))] w (fun rr w' => rr = .returned (.agg (bvs (rb 32 (blockF kk 0 nn)))) ∧ Below w.heap.size w w') := by
  refine calls_st (vs := [.agg (bvs (rb 32 kk)), .agg (bvs (rb 12 nn))]) 12 Tryd.func17 rfl Tryd.ntmps17 rfl (fun a W H => ?_)
  replace H : St 12 w a W [(0, .agg (bvs (rb 32 kk))), (1, .agg (bvs (rb 12 nn)))] [] := H
  refine wp_seq_k (fun K1 hK1 => ?_)
  refine rg_plain ?_
  refine pl_box rfl rfl (bx_key kk) rfl rfl rfl rfl H ?_
  try clear H a W
  intro g1 a W H
  refine pl_box rfl rfl (bx_nonce nn) rfl rfl rfl rfl H ?_
  try clear H a W
  intro g2 a W H
  refine pl_new (news_of rfl al_key) rfl rfl rfl rfl H ?_
  try clear H a W
  intro g3 a W H
  refine pl_end ?_
  replace H : St 12 w a W [(4, .pointer (some ⟨g3, 0, none⟩)), (3, .pointer (some ⟨g2, 0, none⟩)), (2, .pointer (some ⟨g1, 0, none⟩))] [(g3, 23, bvs (rb 32 b0s)), (g2, 27, bvs (rb 12 nn)), (g1, 23, bvs (rb 32 kk))] := H.pick [0, 1, 2] [0, 1, 2] rfl
  refine hK1 _ _ ?_
  clear hK1
  refine wp_seq_k (fun K2 hK2 => ?_)
  refine rg_plain ?_
  refine pl_does (does_load rfl rfl (k := 2) rfl Tryd.underlying23 rfl (info_key _)) rfl rfl rfl rfl H ?_
  try clear H a W
  intro a W H
  refine pl_does (does_load rfl rfl (k := 1) rfl Tryd.underlying27 rfl (info_nonce _)) rfl rfl rfl rfl H ?_
  try clear H a W
  intro a W H
  refine pl_does (does_call rfl ⟨_, Tryd.func21, by kernel_rfl⟩ rfl (fun W hb => block_0 _ _ W)) rfl rfl rfl rfl H ?_
  try clear H a W
  intro a W H
  refine pl_new (news_of rfl al_long) rfl rfl rfl rfl H ?_
  try clear H a W
  intro g4 a W H
  refine pl_store rfl rfl rfl (k := 0) rfl (info_long _) (size_rb _ _ _) (bvs_one _) rfl rfl H ?_
  try clear H a W
  intro a W H
  refine pl_end ?_
  replace H : St 12 w a W [(5, .pointer (some ⟨g4, 0, none⟩)), (4, .pointer (some ⟨g3, 0, none⟩))] [(g4, 49, bvs (rb 64 (blockF kk 0 nn))), (g3, 23, bvs (rb 32 b0s)), (g2, 27, bvs (rb 12 nn)), (g1, 23, bvs (rb 32 kk))] := H.pick [0, 4] [0, 1, 2, 3] rfl
  refine hK2 _ _ ?_
  clear hK2
  refine wp_seq_k (fun K3 hK3 => ?_)
  refine rg_plain ?_
  refine pl_does (does_slice rfl rfl (vl := none) (vh := some (.int .i64 32)) rfl rfl (sl_l32 g4)) rfl rfl rfl rfl H ?_
  try clear H a W
  intro a W H
  refine pl_does (does_s2a rfl rfl Tryd.underlying23 (by omega)) rfl rfl rfl rfl H ?_
  try clear H a W
  intro a W H
  refine pl_does (does_loadAt (v := .agg (bvs (rb 32 (blockF kk 0 nn)))) rfl rfl (k := 0) rfl (ld_part Tryd.underlying23 rfl (by kernel_rfl) (by omega))) rfl rfl rfl rfl H ?_
  try clear H a W
  intro a W H
  refine pl_store rfl rfl rfl (k := 1) rfl (info_key _) (size_rb _ _ _) (bvs_one _) rfl rfl H ?_
  try clear H a W
  intro a W H
  refine pl_end ?_
  replace H : St 12 w a W [(4, .pointer (some ⟨g3, 0, none⟩))] [(g4, 49, bvs (rb 64 (blockF kk 0 nn))), (g3, 23, bvs (rb 32 (blockF kk 0 nn))), (g2, 27, bvs (rb 12 nn)), (g1, 23, bvs (rb 32 kk))] := H.pick [4] [0, 1, 2, 3] rfl
  refine hK3 _ _ ?_
  clear hK3
  refine wp_ret ?_
  repeat (first | (with_reducible refine then_ret ?_) | (with_reducible refine blk_ret ?_))
  refine end_cell (p := 4) rfl rfl (k := 1) rfl Tryd.underlying23 rfl (info_key _) H (fun hb => ?_)
  exact ⟨rfl, hb⟩
set_option maxHeartbeats 4000000 in
theorem pad_any {w0 w : World} {g : Nat} {vP : Value} {xs : List Value} {t : Hep} {Au : Option Addr} {nu cu : Nat} (ht : ∀ p ∈ t, p.2.1 ≠ 25) (K : Kn w0 w ((g, 51, #[vP]) :: t)) (hP : OX w0.heap.size xs vP w) (hn : nu ≤ 1000000) (hx : xs.length ≤ 1000) : Calls Tryd.prog 22 #[.slice Au nu cu, .pointer (some ⟨g, 0, none⟩)] w (fun rr w' => ∃ i : Nat × Value, rr = .returned (.tuple #[]) ∧ Kn w0 w' ((g, 51, #[i.2]) :: (i.1, 5, bvs (zs (padN nu))) :: t) ∧ OX w0.heap.size (xs ++ [.slice Au nu cu, .slice (some ⟨i.1, 0, none⟩) (padN nu) (padN nu)]) i.2 w') := by
  obtain ⟨Ap, np, cp, rfl⟩ := hP.form
  have hbg : Blk w g 51 #[.slice Ap np cp] := K.heap (g, 51, _) List.mem_cons_self
  have hgl := hbg.lt
  have hcell : w.cell? ⟨g, 0, none⟩ = some (.slice Ap np cp) := hbg.cell 0
  have hne : ∀ z : Nat, ∀ c : Array Value, ∀ d : Array Value, ∀ p ∈ (z, 5, c) :: (g, 51, d) :: t, p.2.1 ≠ 25 := fun z c d p hp => by
    rcases List.mem_cons.1 hp with rfl | hp
    · exact (show (5 : TypeId) ≠ 25 by decide)
    · rcases List.mem_cons.1 hp with rfl | hp
      · exact (show (51 : TypeId) ≠ 25 by decide)
      · exact ht p hp
  refine calls_st (vs := [.slice Au nu cu, .pointer (some ⟨g, 0, none⟩)]) 15 Tryd.func22 rfl Tryd.ntmps22 rfl (fun a W H => ?_)
  replace H : St 15 w a W [(0, .slice Au nu cu), (1, .pointer (some ⟨g, 0, none⟩))] [] := H
  refine wp_seq_k (fun K1 hK1 => ?_)
  refine rg_plain ?_
  refine pl_does (does_move rfl rfl) rfl rfl rfl rfl H ?_
  try clear H a W
  intro a W H
  refine pl_does (does_len Tryd.underlying25 rfl rfl) rfl rfl rfl rfl H ?_
  try clear H a W
  intro a W H
  refine pl_does (does_binOp rfl rfl rfl (i_rem (k := nu) (m := 16) (by omega) _ _)) rfl rfl rfl rfl H ?_
  try clear H a W
  intro a W H
  refine pl_does (does_binOp rfl rfl rfl (i_from (k := (nu % 16)) (m := 16) (by omega) (by omega) _ _)) rfl rfl rfl rfl H ?_
  try clear H a W
  intro a W H
  refine pl_does (does_binOp rfl rfl rfl (i_rem (k := 16 - (nu % 16)) (m := 16) (by omega) _ _)) rfl rfl rfl rfl H ?_
  try clear H a W
  intro a W H
  refine pl_does (does_assign rfl rfl) rfl rfl rfl rfl H ?_
  try clear H a W
  intro a W H
  refine pl_end ?_
  replace H : St 15 w a W [(3, .int .i64 (((16 - (nu % 16)) % 16 : Nat) : Int)), (0, .slice Au nu cu), (1, .pointer (some ⟨g, 0, none⟩))] [] := H.pick [0, 6, 7] [] rfl
  obtain ⟨kz, hkz⟩ : ∃ kz, padN nu = kz := ⟨_, rfl⟩
  have hkz2 : (16 - nu % 16) % 16 = kz := by rw [← hkz]; unfold padN; rfl
  have hkl : kz < 16 := by omega
  rw [hkz2] at H
  replace H : St 15 w a W [(3, .int .i64 ((kz : Nat) : Int)), (0, .slice Au nu cu), (1, .pointer (some ⟨g, 0, none⟩))] [] := H
  refine hK1 _ _ ?_
  clear hK1
  refine drawnR SB SB [⟨9, fun u_ _ => u_ = .slice Ap np cp, [], none, false⟩, ⟨10, fun u_ _ => u_ = .slice Au nu cu, [], none, false⟩, ⟨11, fun u_ _ => u_ = .int .i64 ((kz : Nat) : Int), [], none, false⟩, ⟨12, SF w.heap.size [] kz (zs kz), [2], none, false⟩, ⟨13, RW2 w.heap.size (.slice Au nu cu) kz (zs kz), [1, 3], none, false⟩] [0, 0, 0, 4, 10, 17, 63] [0, 4] sb_st sb_st (by kernel_rfl) (by kernel_rfl) (by kernel_rfl) H ⟨⟨fun a W  H => by exact ob_valS H (wanted_none rfl) (does_loadCell rfl rfl hcell hgl ld_cellR), val_grow, fun _ => val_grow⟩, ⟨fun a W  H => by exact ob_valS H (wanted_none rfl) (does_move rfl rfl), val_grow, fun _ => val_grow⟩, ⟨fun a W  H => by exact ob_valS H (wanted_none rfl) (does_move rfl rfl), val_grow, fun _ => val_grow⟩, ⟨fun a W y2 hy2 H => by subst hy2; exact ob_makeS H (wanted_none rfl) rfl rfl rfl (by omega), SF.sb, fun _ => SF.sb⟩, ⟨fun a W y1 hy1 v12 hv12 H => by subst hy1; exact ob_row2 H (wanted_none rfl) rfl rfl rfl hv12, RW2.sb, fun _ => RW2.sb⟩, trivial⟩ (by kernel_rfl) ?_
  try clear H a W
  intro a W
  rintro _ rfl
  intro v13 hv13
  intro H
  replace H : St 15 w a W [(13, v13), (9, .slice Ap np cp), (3, .int .i64 ((kz : Nat) : Int)), (0, .slice Au nu cu), (1, .pointer (some ⟨g, 0, none⟩))] [] := H
  obtain ⟨z, ⟨r, rfl, hr⟩, hz, hzB⟩ := hv13
  have hPW := OX.sb _ _ _ hP H.below
  replace H := K.join H
  replace H := H.add hz (Nat.le_trans K.below.size hzB) (fun p hp => Nat.ne_of_lt (Nat.lt_of_lt_of_le (K.heap p hp).lt hzB))
  replace H : St 15 w0 a W [(13, .slice (some ⟨r, 0, none⟩) 2 2), (9, .slice Ap np cp), (3, .int .i64 ((kz : Nat) : Int)), (0, .slice Au nu cu), (1, .pointer (some ⟨g, 0, none⟩))] ((z, 5, bvs (zs kz)) :: (g, 51, #[.slice Ap np cp]) :: t) := H
  refine pl_R (R := WX w0.heap.size) (F := OX w0.heap.size (xs ++ [.slice Au nu cu, .slice (some ⟨z, 0, none⟩) kz kz])) (wx_st (hne _ _ _)) (ob_appX (ys := [.slice Au nu cu, .slice (some ⟨z, 0, none⟩) kz kz]) H (wanted_none rfl) rfl rfl rfl hPW hr (by simp [Value.oneCell']) (by simp only [List.length_cons, List.length_nil]; omega)) rfl rfl rfl H ?_
  clear H a
  intro v14 a W hv14 _ H
  obtain ⟨A4, k4, c4, rfl⟩ := hv14.form
  replace H : St 15 w0 a W [(14, .slice A4 k4 c4), (13, .slice (some ⟨r, 0, none⟩) 2 2), (9, .slice Ap np cp), (3, .int .i64 ((kz : Nat) : Int)), (0, .slice Au nu cu), (1, .pointer (some ⟨g, 0, none⟩))] ((z, 5, bvs (zs kz)) :: (g, 51, #[.slice Ap np cp]) :: t) := H
  have hnew := OX.set hv14 (H.blk (k := 1) rfl) (by decide) 0 [.slice A4 k4 c4]
  refine pl_storeW rfl rfl rfl (k := 1) rfl st_rows rfl rfl rfl H ?_
  clear H a
  intro a H
  replace H : St 15 w0 a (W.setCells g 0 [.slice A4 k4 c4]) [(14, .slice A4 k4 c4), (13, .slice (some ⟨r, 0, none⟩) 2 2), (9, .slice Ap np cp), (3, .int .i64 ((kz : Nat) : Int)), (0, .slice Au nu cu), (1, .pointer (some ⟨g, 0, none⟩))] ((z, 5, bvs (zs kz)) :: (g, 51, #[.slice A4 k4 c4]) :: t) := H
  refine pl_end ?_
  refine end_none_ rfl H ?_
  exact ⟨(z, .slice A4 k4 c4), rfl, by rw [hkz]; exact H.swap.kn, by rw [hkz]; exact hnew⟩
theorem tag_z {v : Value} {L : List (List UInt8)} {l : List UInt8} {kk : Nat → UInt8} {f : Nat → UInt8} (hl : L.flatten = l) (hf : tagF kk l = f) (w : World) (hpg : PG w) (hv : RF L v w) (h1 : l.length ≤ 100000) (h2 : L.length ≤ 1000) : Calls Tryd.prog 23 #[.agg (bvs (rb 32 kk)), v] w (fun rr w' => rr = .returned (.agg (bvs (rb 16 f))) ∧ Below w.heap.size w w') := by
  subst hl hf
  exact tag_any kk w hpg hv h1 h2
set_option maxHeartbeats 4000000 in
theorem marked_any {v : Value} {la lc : List UInt8} (kk : Nat → UInt8) (w : World) (hpg : PG w) (hv : RF [la, lc] v w) (ha : la.length ≤ 20000) (hc : lc.length ≤ 20000) : Calls Tryd.prog 16 #[.agg (bvs (rb 32 kk)), v] w (fun rr w' => rr = .returned (.agg (bvs (rb 16 (tagF kk (macB la lc))))) ∧ Below w.heap.size w w') := by
  obtain ⟨AL, nL, cL, rfl, hrs⟩ := hv
  obtain rfl : 2 = nL := hrs.len
  obtain ⟨gL, oL, rfl, hgL, hcells⟩ := hrs.at_ (by omega)
  obtain ⟨Aa, na, ca, hc0, hba⟩ := hcells 0 la rfl
  obtain ⟨Ac, nc, cc, hc1, hbc⟩ := hcells 1 lc rfl
  have hna := hba.len
  have hnc := hbc.len
  have hva : BF la (.slice Aa na ca) w := ⟨_, _, _, rfl, hba⟩
  have hvc : BF lc (.slice Ac nc cc) w := ⟨_, _, _, rfl, hbc⟩
  refine calls_st (vs := [.agg (bvs (rb 32 kk)), .slice (some ⟨gL, oL, none⟩) 2 cL]) 33 Tryd.func16 rfl Tryd.ntmps16 rfl (fun a W H => ?_)
  replace H : St 33 w a W [(0, .agg (bvs (rb 32 kk))), (1, .slice (some ⟨gL, oL, none⟩) 2 cL)] [] := H
  refine wp_seq_k (fun K1 hK1 => ?_)
  refine rg_plain ?_
  refine pl_box rfl rfl (bx_key kk) rfl rfl rfl rfl H ?_
  try clear H a W
  intro g1 a W H
  refine pl_new (news_of rfl al_mark) rfl rfl rfl rfl H ?_
  try clear H a W
  intro g2 a W H
  refine pl_end ?_
  replace H : St 33 w a W [(4, .pointer (some ⟨g2, 0, none⟩)), (2, .pointer (some ⟨g1, 0, none⟩)), (1, .slice (some ⟨gL, oL, none⟩) 2 cL)] [(g2, 42, bvs (rb 16 b0s)), (g1, 23, bvs (rb 32 kk))] := H.pick [0, 1, 3] [0, 1] rfl
  refine hK1 _ _ ?_
  clear hK1
  refine wp_seq_k (fun K2 hK2 => ?_)
  refine rg_plain ?_
  refine pl_new (news_of rfl al_rows) rfl rfl rfl rfl H ?_
  try clear H a W
  intro g3 a W H
  refine pl_end ?_
  refine hK2 _ _ ?_
  clear hK2
  refine wp_seq_k (fun K3 hK3 => ?_)
  refine rg_plain ?_
  refine pl_does (does_assign rfl rfl) rfl rfl rfl rfl H ?_
  try clear H a W
  intro a W H
  refine pl_end ?_
  refine hK3 _ _ ?_
  clear hK3
  refine wp_seq_k (fun K4 hK4 => ?_)
  refine rg_plain ?_
  refine pl_does (does_makeFunc rfl rfl) rfl rfl rfl rfl H ?_
  try clear H a W
  intro a W H
  refine pl_does (does_assign rfl rfl) rfl rfl rfl rfl H ?_
  try clear H a W
  intro a W H
  refine pl_end ?_
  replace H : St 33 w a W [(7, .func (.func 22) #[] #[.pointer (some ⟨g3, 0, none⟩)]), (6, .slice none 0 0), (5, .pointer (some ⟨g3, 0, none⟩)), (4, .pointer (some ⟨g2, 0, none⟩)), (2, .pointer (some ⟨g1, 0, none⟩)), (1, .slice (some ⟨gL, oL, none⟩) 2 cL)] [(g3, 51, #[.slice none 0 0]), (g2, 42, bvs (rb 16 b0s)), (g1, 23, bvs (rb 32 kk))] := H.pick [0, 2, 3, 4, 5, 6] [0, 1, 2] rfl
  refine hK4 _ _ ?_
  clear hK4
  refine wp_seq_k (fun K5 hK5 => ?_)
  refine wp_seq_k (fun K6 hK6 => ?_)
  refine rg_plain ?_
  refine pl_does (does_move rfl rfl) rfl rfl rfl rfl H ?_
  try clear H a W
  intro a W H
  refine pl_does (does_len Tryd.underlying51 rfl rfl) rfl rfl rfl rfl H ?_
  try clear H a W
  intro a W H
  refine pl_does (does_move rfl rfl) rfl rfl rfl rfl H ?_
  try clear H a W
  intro a W H
  refine pl_end ?_
  replace H : St 33 w a W [(13, .int .i64 0), (12, .int .i64 ((2 : Nat) : Int)), (11, .slice (some ⟨gL, oL, none⟩) 2 cL), (7, .func (.func 22) #[] #[.pointer (some ⟨g3, 0, none⟩)]), (6, .slice none 0 0), (5, .pointer (some ⟨g3, 0, none⟩)), (4, .pointer (some ⟨g2, 0, none⟩)), (2, .pointer (some ⟨g1, 0, none⟩))] [(g3, 51, #[.slice none 0 0]), (g2, 42, bvs (rb 16 b0s)), (g1, 23, bvs (rb 32 kk))] := H.pick [0, 1, 2, 3, 4, 5, 6, 7] [0, 1, 2] rfl
  refine hK6 _ _ ?_
  clear hK6
  refine wp_block ?_
  refine wp_loop_rounds 3 ?_
  rw [rounds_succ]
  refine wp_seq_k (fun K7 hK7 => ?_)
  refine rg_plain ?_
  refine pl_does (does_binOp rfl rfl rfl (i_lss_yes (k := 0) (m := 2) (by omega) _ _)) rfl rfl rfl rfl H ?_
  try clear H a W
  intro a W H
  refine pl_end ?_
  refine hK7 _ _ ?_
  clear hK7
  refine wp_seq_k (fun K8 hK8 => ?_)
  refine wp_cond_true (H.ev rfl) ?_
  refine wp_skip ?_
  refine hK8 _ _ ?_
  clear hK8
  refine wp_seq_k (fun K9 hK9 => ?_)
  refine wp_block ?_
  refine wp_seq_k (fun K10 hK10 => ?_)
  refine rg_plain ?_
  refine pl_does (does_indexAddr rfl rfl rfl (ia_rows (j := 0) (by omega))) rfl rfl rfl rfl H ?_
  try clear H a W
  intro a W H
  refine pl_does (does_loadCell rfl rfl hc0 hgL ld_cellS) rfl rfl rfl rfl H ?_
  try clear H a W
  intro a W H
  refine pl_does (does_assign rfl rfl) rfl rfl rfl rfl H ?_
  try clear H a W
  intro a W H
  refine pl_end ?_
  refine hK10 _ _ ?_
  clear hK10
  refine wp_seq_k (fun K11 hK11 => ?_)
  refine rg_plain ?_
  refine pl_does (does_move rfl rfl) rfl rfl rfl rfl H ?_
  try clear H a W
  intro a W H
  refine pl_does (does_move rfl rfl) rfl rfl rfl rfl H ?_
  try clear H a W
  intro a W H
  refine pl_callKX (f := 22) (caps := #[.pointer (some ⟨g3, 0, none⟩)]) (vs' := [.slice Aa na ca, .pointer (some ⟨g3, 0, none⟩)]) rfl ⟨_, Tryd.func22, by kernel_rfl⟩ rfl rfl rfl (fun K_ => pad_any (xs := []) (noT rfl) K_ (OX.nil _ _) (by omega) (by simp)) rfl rfl rfl rfl H ?_
  try clear H a W
  rintro ⟨z0, vP0⟩ a W hP0 H
  replace H : St 33 w a W [(19, .tuple #[]), (18, .slice Aa na ca), (17, .func (.func 22) #[] #[.pointer (some ⟨g3, 0, none⟩)]), (9, .slice Aa na ca), (16, .slice Aa na ca), (15, .pointer (some ⟨gL, oL + 0, none⟩)), (14, .bool true), (13, .int .i64 0), (12, .int .i64 ((2 : Nat) : Int)), (11, .slice (some ⟨gL, oL, none⟩) 2 cL), (7, .func (.func 22) #[] #[.pointer (some ⟨g3, 0, none⟩)]), (6, .slice none 0 0), (5, .pointer (some ⟨g3, 0, none⟩)), (4, .pointer (some ⟨g2, 0, none⟩)), (2, .pointer (some ⟨g1, 0, none⟩))] [(g3, 51, #[vP0]), (z0, 5, bvs (zs (padN na))), (g2, 42, bvs (rb 16 b0s)), (g1, 23, bvs (rb 32 kk))] := H
  replace hP0 : OX w.heap.size [.slice Aa na ca, .slice (some ⟨z0, 0, none⟩) (padN na) (padN na)] vP0 W := hP0
  obtain ⟨Ap0, np0, cp0, rfl⟩ := hP0.form
  refine pl_end ?_
  replace H : St 33 w a W [(18, .slice Aa na ca), (9, .slice Aa na ca), (16, .slice Aa na ca), (15, .pointer (some ⟨gL, oL + 0, none⟩)), (14, .bool true), (13, .int .i64 0), (12, .int .i64 ((2 : Nat) : Int)), (11, .slice (some ⟨gL, oL, none⟩) 2 cL), (7, .func (.func 22) #[] #[.pointer (some ⟨g3, 0, none⟩)]), (6, .slice none 0 0), (5, .pointer (some ⟨g3, 0, none⟩)), (4, .pointer (some ⟨g2, 0, none⟩)), (2, .pointer (some ⟨g1, 0, none⟩))] [(g3, 51, #[.slice Ap0 np0 cp0]), (z0, 5, bvs (zs (padN na))), (g2, 42, bvs (rb 16 b0s)), (g1, 23, bvs (rb 32 kk))] := H.pick [1, 3, 4, 5, 6, 7, 8, 9, 10, 11, 12, 13, 14] [0, 1, 2, 3] rfl
  refine hK11 _ _ ?_
  clear hK11
  refine rg_plain ?_
  refine pl_R (R := SB) (F := fun u_ _ => u_ = .slice none 0 0) sb_st (ob_valS H (wanted_none rfl) (does_move rfl rfl)) rfl rfl rfl H ?_
  try clear H a
  rintro _ a W rfl hR_ H
  replace hP0 := OX.sb _ _ _ hP0 hR_
  clear hR_
  replace H : St 33 w a W [(20, .slice none 0 0), (18, .slice Aa na ca), (9, .slice Aa na ca), (16, .slice Aa na ca), (15, .pointer (some ⟨gL, oL + 0, none⟩)), (14, .bool true), (13, .int .i64 0), (12, .int .i64 ((2 : Nat) : Int)), (11, .slice (some ⟨gL, oL, none⟩) 2 cL), (7, .func (.func 22) #[] #[.pointer (some ⟨g3, 0, none⟩)]), (6, .slice none 0 0), (5, .pointer (some ⟨g3, 0, none⟩)), (4, .pointer (some ⟨g2, 0, none⟩)), (2, .pointer (some ⟨g1, 0, none⟩))] [(g3, 51, #[.slice Ap0 np0 cp0]), (z0, 5, bvs (zs (padN na))), (g2, 42, bvs (rb 16 b0s)), (g1, 23, bvs (rb 32 kk))] := H
  refine pl_R (R := SB) (F := fun u_ _ => u_ = .slice Aa na ca) sb_st (ob_valS H (wanted_none rfl) (does_move rfl rfl)) rfl rfl rfl H ?_
  try clear H a
  rintro _ a W rfl hR_ H
  replace hP0 := OX.sb _ _ _ hP0 hR_
  clear hR_
  replace H : St 33 w a W [(21, .slice Aa na ca), (20, .slice none 0 0), (18, .slice Aa na ca), (9, .slice Aa na ca), (16, .slice Aa na ca), (15, .pointer (some ⟨gL, oL + 0, none⟩)), (14, .bool true), (13, .int .i64 0), (12, .int .i64 ((2 : Nat) : Int)), (11, .slice (some ⟨gL, oL, none⟩) 2 cL), (7, .func (.func 22) #[] #[.pointer (some ⟨g3, 0, none⟩)]), (6, .slice none 0 0), (5, .pointer (some ⟨g3, 0, none⟩)), (4, .pointer (some ⟨g2, 0, none⟩)), (2, .pointer (some ⟨g1, 0, none⟩))] [(g3, 51, #[.slice Ap0 np0 cp0]), (z0, 5, bvs (zs (padN na))), (g2, 42, bvs (rb 16 b0s)), (g1, 23, bvs (rb 32 kk))] := H
  refine pl_R (R := SB) (F := fun u_ _ => u_ = .int .i64 ((na : Nat) : Int)) sb_st (ob_valS H (wanted_none rfl) (does_len Tryd.underlying25 rfl rfl)) rfl rfl rfl H ?_
  try clear H a
  rintro _ a W rfl hR_ H
  replace hP0 := OX.sb _ _ _ hP0 hR_
  clear hR_
  replace H : St 33 w a W [(22, .int .i64 ((na : Nat) : Int)), (21, .slice Aa na ca), (20, .slice none 0 0), (18, .slice Aa na ca), (9, .slice Aa na ca), (16, .slice Aa na ca), (15, .pointer (some ⟨gL, oL + 0, none⟩)), (14, .bool true), (13, .int .i64 0), (12, .int .i64 ((2 : Nat) : Int)), (11, .slice (some ⟨gL, oL, none⟩) 2 cL), (7, .func (.func 22) #[] #[.pointer (some ⟨g3, 0, none⟩)]), (6, .slice none 0 0), (5, .pointer (some ⟨g3, 0, none⟩)), (4, .pointer (some ⟨g2, 0, none⟩)), (2, .pointer (some ⟨g1, 0, none⟩))] [(g3, 51, #[.slice Ap0 np0 cp0]), (z0, 5, bvs (zs (padN na))), (g2, 42, bvs (rb 16 b0s)), (g1, 23, bvs (rb 32 kk))] := H
  refine pl_R (R := SB) (F := fun u_ _ => u_ = uc na) sb_st (ob_valS H (wanted_none rfl) (does_convert rfl rfl (cv_iu64 (by omega)))) rfl rfl rfl H ?_
  try clear H a
  rintro _ a W rfl hR_ H
  replace hP0 := OX.sb _ _ _ hP0 hR_
  clear hR_
  replace H : St 33 w a W [(23, uc na), (22, .int .i64 ((na : Nat) : Int)), (21, .slice Aa na ca), (20, .slice none 0 0), (18, .slice Aa na ca), (9, .slice Aa na ca), (16, .slice Aa na ca), (15, .pointer (some ⟨gL, oL + 0, none⟩)), (14, .bool true), (13, .int .i64 0), (12, .int .i64 ((2 : Nat) : Int)), (11, .slice (some ⟨gL, oL, none⟩) 2 cL), (7, .func (.func 22) #[] #[.pointer (some ⟨g3, 0, none⟩)]), (6, .slice none 0 0), (5, .pointer (some ⟨g3, 0, none⟩)), (4, .pointer (some ⟨g2, 0, none⟩)), (2, .pointer (some ⟨g1, 0, none⟩))] [(g3, 51, #[.slice Ap0 np0 cp0]), (z0, 5, bvs (zs (padN na))), (g2, 42, bvs (rb 16 b0s)), (g1, 23, bvs (rb 32 kk))] := H
  refine pl_R (R := SB) (F := SF w.heap.size [(g3, 51, #[.slice Ap0 np0 cp0]), (z0, 5, bvs (zs (padN na))), (g2, 42, bvs (rb 16 b0s)), (g1, 23, bvs (rb 32 kk))] 8 (n8 na)) sb_st (ob_callS H (wanted_none rfl) rfl ⟨_, Tryd.func14, by kernel_rfl⟩ rfl (sf_call H (bytesOf_blk na _) (n8_len _))) rfl rfl rfl H ?_
  try clear H a
  intro v24 a W hv24 hR_ H
  replace hP0 := OX.sb _ _ _ hP0 hR_
  clear hR_
  replace H : St 33 w a W [(24, v24), (23, uc na), (22, .int .i64 ((na : Nat) : Int)), (21, .slice Aa na ca), (20, .slice none 0 0), (18, .slice Aa na ca), (9, .slice Aa na ca), (16, .slice Aa na ca), (15, .pointer (some ⟨gL, oL + 0, none⟩)), (14, .bool true), (13, .int .i64 0), (12, .int .i64 ((2 : Nat) : Int)), (11, .slice (some ⟨gL, oL, none⟩) 2 cL), (7, .func (.func 22) #[] #[.pointer (some ⟨g3, 0, none⟩)]), (6, .slice none 0 0), (5, .pointer (some ⟨g3, 0, none⟩)), (4, .pointer (some ⟨g2, 0, none⟩)), (2, .pointer (some ⟨g1, 0, none⟩))] [(g3, 51, #[.slice Ap0 np0 cp0]), (z0, 5, bvs (zs (padN na))), (g2, 42, bvs (rb 16 b0s)), (g1, 23, bvs (rb 32 kk))] := H
  have hO := OF.nil w.heap.size [(g3, 51, #[.slice Ap0 np0 cp0]), (z0, 5, bvs (zs (padN na))), (g2, 42, bvs (rb 16 b0s)), (g1, 23, bvs (rb 32 kk))] W
  refine pl_R (R := WR w.heap.size [(g3, 51, #[.slice Ap0 np0 cp0]), (z0, 5, bvs (zs (padN na))), (g2, 42, bvs (rb 16 b0s)), (g1, 23, bvs (rb 32 kk))]) (F := OF w.heap.size [(g3, 51, #[.slice Ap0 np0 cp0]), (z0, 5, bvs (zs (padN na))), (g2, 42, bvs (rb 16 b0s)), (g1, 23, bvs (rb 32 kk))] (n8 na)) wr_st (ob_appW H (wanted_none rfl) rfl rfl rfl hO hv24.bf (by simp only [List.length_nil, n8_len]; omega)) rfl rfl rfl H ?_
  clear H a
  intro v25 a W hv25 hR_ H
  replace hP0 := OX.wr _ _ _ hP0 hR_
  clear hR_ hO
  replace H : St 33 w a W [(25, v25), (24, v24), (23, uc na), (22, .int .i64 ((na : Nat) : Int)), (21, .slice Aa na ca), (20, .slice none 0 0), (18, .slice Aa na ca), (9, .slice Aa na ca), (16, .slice Aa na ca), (15, .pointer (some ⟨gL, oL + 0, none⟩)), (14, .bool true), (13, .int .i64 0), (12, .int .i64 ((2 : Nat) : Int)), (11, .slice (some ⟨gL, oL, none⟩) 2 cL), (7, .func (.func 22) #[] #[.pointer (some ⟨g3, 0, none⟩)]), (6, .slice none 0 0), (5, .pointer (some ⟨g3, 0, none⟩)), (4, .pointer (some ⟨g2, 0, none⟩)), (2, .pointer (some ⟨g1, 0, none⟩))] [(g3, 51, #[.slice Ap0 np0 cp0]), (z0, 5, bvs (zs (padN na))), (g2, 42, bvs (rb 16 b0s)), (g1, 23, bvs (rb 32 kk))] := H
  replace H : St 33 w a W [(25, v25), (24, v24), (23, uc na), (22, .int .i64 ((na : Nat) : Int)), (21, .slice Aa na ca), (20, .slice none 0 0), (18, .slice Aa na ca), (9, .slice Aa na ca), (16, .slice Aa na ca), (15, .pointer (some ⟨gL, oL + 0, none⟩)), (14, .bool true), (13, .int .i64 0), (12, .int .i64 ((2 : Nat) : Int)), (11, .slice (some ⟨gL, oL, none⟩) 2 cL), (7, .func (.func 22) #[] #[.pointer (some ⟨g3, 0, none⟩)]), (5, .pointer (some ⟨g3, 0, none⟩)), (4, .pointer (some ⟨g2, 0, none⟩)), (2, .pointer (some ⟨g1, 0, none⟩))] [(g3, 51, #[.slice Ap0 np0 cp0]), (z0, 5, bvs (zs (padN na))), (g2, 42, bvs (rb 16 b0s)), (g1, 23, bvs (rb 32 kk))] := H.pick [0, 1, 2, 3, 4, 5, 6, 7, 8, 9, 10, 11, 12, 13, 14, 16, 17, 18] [0, 1, 2, 3] rfl
  refine pl_R (R := SB) (F := OF w.heap.size [(g3, 51, #[.slice Ap0 np0 cp0]), (z0, 5, bvs (zs (padN na))), (g2, 42, bvs (rb 16 b0s)), (g1, 23, bvs (rb 32 kk))] (n8 na)) sb_st (ob_assignS H (wanted_none rfl) rfl rfl hv25) rfl rfl rfl H ?_
  try clear H a
  intro v6 a W hv6 hR_ H
  replace hv25 := OF.sb _ _ _ hv25 hR_
  replace hP0 := OX.sb _ _ _ hP0 hR_
  clear hR_
  replace H : St 33 w a W [(6, v6), (25, v25), (24, v24), (23, uc na), (22, .int .i64 ((na : Nat) : Int)), (21, .slice Aa na ca), (20, .slice none 0 0), (18, .slice Aa na ca), (9, .slice Aa na ca), (16, .slice Aa na ca), (15, .pointer (some ⟨gL, oL + 0, none⟩)), (14, .bool true), (13, .int .i64 0), (12, .int .i64 ((2 : Nat) : Int)), (11, .slice (some ⟨gL, oL, none⟩) 2 cL), (7, .func (.func 22) #[] #[.pointer (some ⟨g3, 0, none⟩)]), (5, .pointer (some ⟨g3, 0, none⟩)), (4, .pointer (some ⟨g2, 0, none⟩)), (2, .pointer (some ⟨g1, 0, none⟩))] [(g3, 51, #[.slice Ap0 np0 cp0]), (z0, 5, bvs (zs (padN na))), (g2, 42, bvs (rb 16 b0s)), (g1, 23, bvs (rb 32 kk))] := H
  refine pl_end ?_
  obtain ⟨gn0, cap0, cur0, rfl, hb_, hB_, hn_, huc0⟩ := OF.uc hv6 (n := 8) (by simp only [List.length_append, n8_len]) (by omega)
  replace H := (H.add hb_ hB_ hn_).swap
  clear hb_ hB_ hn_
  replace H : St 33 w a W [(6, .slice (some ⟨gn0, 0, none⟩) 8 cap0), (25, v25), (24, v24), (23, uc na), (22, .int .i64 ((na : Nat) : Int)), (21, .slice Aa na ca), (20, .slice none 0 0), (18, .slice Aa na ca), (9, .slice Aa na ca), (16, .slice Aa na ca), (15, .pointer (some ⟨gL, oL + 0, none⟩)), (14, .bool true), (13, .int .i64 0), (12, .int .i64 ((2 : Nat) : Int)), (11, .slice (some ⟨gL, oL, none⟩) 2 cL), (7, .func (.func 22) #[] #[.pointer (some ⟨g3, 0, none⟩)]), (5, .pointer (some ⟨g3, 0, none⟩)), (4, .pointer (some ⟨g2, 0, none⟩)), (2, .pointer (some ⟨g1, 0, none⟩))] [(g3, 51, #[.slice Ap0 np0 cp0]), (gn0, 5, cur0), (z0, 5, bvs (zs (padN na))), (g2, 42, bvs (rb 16 b0s)), (g1, 23, bvs (rb 32 kk))] := H
  refine blk_normal ?_
  refine hK9 _ _ ?_
  clear hK9
  refine rg_plain ?_
  refine pl_R (R := SB) (F := fun u_ _ => u_ = .int .i64 ((0 + 1 : Nat) : Int)) sb_st (ob_valS H (wanted_none rfl) (does_binOp rfl rfl rfl (i_addE (k := 0) (m := 1) rfl (by omega) _ _))) rfl rfl rfl H ?_
  try clear H a
  rintro _ a W rfl hR_ H
  replace hv25 := OF.sb _ _ _ hv25 hR_
  replace hP0 := OX.sb _ _ _ hP0 hR_
  clear hR_
  replace H : St 33 w a W [(26, .int .i64 ((0 + 1 : Nat) : Int)), (6, .slice (some ⟨gn0, 0, none⟩) 8 cap0), (25, v25), (24, v24), (23, uc na), (22, .int .i64 ((na : Nat) : Int)), (21, .slice Aa na ca), (20, .slice none 0 0), (18, .slice Aa na ca), (9, .slice Aa na ca), (16, .slice Aa na ca), (15, .pointer (some ⟨gL, oL + 0, none⟩)), (14, .bool true), (13, .int .i64 0), (12, .int .i64 ((2 : Nat) : Int)), (11, .slice (some ⟨gL, oL, none⟩) 2 cL), (7, .func (.func 22) #[] #[.pointer (some ⟨g3, 0, none⟩)]), (5, .pointer (some ⟨g3, 0, none⟩)), (4, .pointer (some ⟨g2, 0, none⟩)), (2, .pointer (some ⟨g1, 0, none⟩))] [(g3, 51, #[.slice Ap0 np0 cp0]), (gn0, 5, cur0), (z0, 5, bvs (zs (padN na))), (g2, 42, bvs (rb 16 b0s)), (g1, 23, bvs (rb 32 kk))] := H
  replace H : St 33 w a W [(26, .int .i64 ((0 + 1 : Nat) : Int)), (6, .slice (some ⟨gn0, 0, none⟩) 8 cap0), (25, v25), (24, v24), (23, uc na), (22, .int .i64 ((na : Nat) : Int)), (21, .slice Aa na ca), (20, .slice none 0 0), (18, .slice Aa na ca), (9, .slice Aa na ca), (16, .slice Aa na ca), (15, .pointer (some ⟨gL, oL + 0, none⟩)), (14, .bool true), (12, .int .i64 ((2 : Nat) : Int)), (11, .slice (some ⟨gL, oL, none⟩) 2 cL), (7, .func (.func 22) #[] #[.pointer (some ⟨g3, 0, none⟩)]), (5, .pointer (some ⟨g3, 0, none⟩)), (4, .pointer (some ⟨g2, 0, none⟩)), (2, .pointer (some ⟨g1, 0, none⟩))] [(g3, 51, #[.slice Ap0 np0 cp0]), (gn0, 5, cur0), (z0, 5, bvs (zs (padN na))), (g2, 42, bvs (rb 16 b0s)), (g1, 23, bvs (rb 32 kk))] := H.pick [0, 1, 2, 3, 4, 5, 6, 7, 8, 9, 10, 11, 12, 14, 15, 16, 17, 18, 19] [0, 1, 2, 3, 4] rfl
  refine pl_R (R := SB) (F := fun u_ _ => u_ = .int .i64 ((0 + 1 : Nat) : Int)) sb_st (ob_valS H (wanted_none rfl) (does_move rfl rfl)) rfl rfl rfl H ?_
  try clear H a
  rintro _ a W rfl hR_ H
  replace hv25 := OF.sb _ _ _ hv25 hR_
  replace hP0 := OX.sb _ _ _ hP0 hR_
  clear hR_
  replace H : St 33 w a W [(13, .int .i64 ((0 + 1 : Nat) : Int)), (26, .int .i64 ((0 + 1 : Nat) : Int)), (6, .slice (some ⟨gn0, 0, none⟩) 8 cap0), (25, v25), (24, v24), (23, uc na), (22, .int .i64 ((na : Nat) : Int)), (21, .slice Aa na ca), (20, .slice none 0 0), (18, .slice Aa na ca), (9, .slice Aa na ca), (16, .slice Aa na ca), (15, .pointer (some ⟨gL, oL + 0, none⟩)), (14, .bool true), (12, .int .i64 ((2 : Nat) : Int)), (11, .slice (some ⟨gL, oL, none⟩) 2 cL), (7, .func (.func 22) #[] #[.pointer (some ⟨g3, 0, none⟩)]), (5, .pointer (some ⟨g3, 0, none⟩)), (4, .pointer (some ⟨g2, 0, none⟩)), (2, .pointer (some ⟨g1, 0, none⟩))] [(g3, 51, #[.slice Ap0 np0 cp0]), (gn0, 5, cur0), (z0, 5, bvs (zs (padN na))), (g2, 42, bvs (rb 16 b0s)), (g1, 23, bvs (rb 32 kk))] := H
  refine pl_end ?_
  refine then_normal ?_
  rw [rounds_succ]
  refine wp_seq_k (fun K12 hK12 => ?_)
  refine rg_plain ?_
  replace H : St 33 w a W [(13, .int .i64 ((0 + 1 : Nat) : Int)), (26, .int .i64 ((0 + 1 : Nat) : Int)), (6, .slice (some ⟨gn0, 0, none⟩) 8 cap0), (25, v25), (24, v24), (23, uc na), (22, .int .i64 ((na : Nat) : Int)), (21, .slice Aa na ca), (20, .slice none 0 0), (18, .slice Aa na ca), (9, .slice Aa na ca), (16, .slice Aa na ca), (15, .pointer (some ⟨gL, oL + 0, none⟩)), (12, .int .i64 ((2 : Nat) : Int)), (11, .slice (some ⟨gL, oL, none⟩) 2 cL), (7, .func (.func 22) #[] #[.pointer (some ⟨g3, 0, none⟩)]), (5, .pointer (some ⟨g3, 0, none⟩)), (4, .pointer (some ⟨g2, 0, none⟩)), (2, .pointer (some ⟨g1, 0, none⟩))] [(g3, 51, #[.slice Ap0 np0 cp0]), (gn0, 5, cur0), (z0, 5, bvs (zs (padN na))), (g2, 42, bvs (rb 16 b0s)), (g1, 23, bvs (rb 32 kk))] := H.pick [0, 1, 2, 3, 4, 5, 6, 7, 8, 9, 10, 11, 12, 14, 15, 16, 17, 18, 19] [0, 1, 2, 3, 4] rfl
  refine pl_R (R := SB) (F := fun u_ _ => u_ = .bool true) sb_st (ob_valS H (wanted_none rfl) (does_binOp rfl rfl rfl (i_lss_yes (k := (0 + 1)) (m := 2) (by omega) _ _))) rfl rfl rfl H ?_
  try clear H a
  rintro _ a W rfl hR_ H
  replace hv25 := OF.sb _ _ _ hv25 hR_
  replace hP0 := OX.sb _ _ _ hP0 hR_
  clear hR_
  replace H : St 33 w a W [(14, .bool true), (13, .int .i64 ((0 + 1 : Nat) : Int)), (26, .int .i64 ((0 + 1 : Nat) : Int)), (6, .slice (some ⟨gn0, 0, none⟩) 8 cap0), (25, v25), (24, v24), (23, uc na), (22, .int .i64 ((na : Nat) : Int)), (21, .slice Aa na ca), (20, .slice none 0 0), (18, .slice Aa na ca), (9, .slice Aa na ca), (16, .slice Aa na ca), (15, .pointer (some ⟨gL, oL + 0, none⟩)), (12, .int .i64 ((2 : Nat) : Int)), (11, .slice (some ⟨gL, oL, none⟩) 2 cL), (7, .func (.func 22) #[] #[.pointer (some ⟨g3, 0, none⟩)]), (5, .pointer (some ⟨g3, 0, none⟩)), (4, .pointer (some ⟨g2, 0, none⟩)), (2, .pointer (some ⟨g1, 0, none⟩))] [(g3, 51, #[.slice Ap0 np0 cp0]), (gn0, 5, cur0), (z0, 5, bvs (zs (padN na))), (g2, 42, bvs (rb 16 b0s)), (g1, 23, bvs (rb 32 kk))] := H
  refine pl_end ?_
  refine hK12 _ _ ?_
  clear hK12
  refine wp_seq_k (fun K13 hK13 => ?_)
  refine wp_cond_true (H.ev rfl) ?_
  refine wp_skip ?_
  refine hK13 _ _ ?_
  clear hK13
  refine wp_seq_k (fun K14 hK14 => ?_)
  refine wp_block ?_
  refine wp_seq_k (fun K15 hK15 => ?_)
  refine rg_plain ?_
  replace H : St 33 w a W [(14, .bool true), (13, .int .i64 ((0 + 1 : Nat) : Int)), (26, .int .i64 ((0 + 1 : Nat) : Int)), (6, .slice (some ⟨gn0, 0, none⟩) 8 cap0), (25, v25), (24, v24), (23, uc na), (22, .int .i64 ((na : Nat) : Int)), (21, .slice Aa na ca), (20, .slice none 0 0), (18, .slice Aa na ca), (9, .slice Aa na ca), (16, .slice Aa na ca), (12, .int .i64 ((2 : Nat) : Int)), (11, .slice (some ⟨gL, oL, none⟩) 2 cL), (7, .func (.func 22) #[] #[.pointer (some ⟨g3, 0, none⟩)]), (5, .pointer (some ⟨g3, 0, none⟩)), (4, .pointer (some ⟨g2, 0, none⟩)), (2, .pointer (some ⟨g1, 0, none⟩))] [(g3, 51, #[.slice Ap0 np0 cp0]), (gn0, 5, cur0), (z0, 5, bvs (zs (padN na))), (g2, 42, bvs (rb 16 b0s)), (g1, 23, bvs (rb 32 kk))] := H.pick [0, 1, 2, 3, 4, 5, 6, 7, 8, 9, 10, 11, 12, 14, 15, 16, 17, 18, 19] [0, 1, 2, 3, 4] rfl
  refine pl_R (R := SB) (F := fun u_ _ => u_ = .pointer (some ⟨gL, oL + 0 + 1, none⟩)) sb_st (ob_valS H (wanted_none rfl) (does_indexAddr rfl rfl rfl (ia_rows (j := 0 + 1) (by omega)))) rfl rfl rfl H ?_
  try clear H a
  rintro _ a W rfl hR_ H
  replace hv25 := OF.sb _ _ _ hv25 hR_
  replace hP0 := OX.sb _ _ _ hP0 hR_
  clear hR_
  replace H : St 33 w a W [(15, .pointer (some ⟨gL, oL + 0 + 1, none⟩)), (14, .bool true), (13, .int .i64 ((0 + 1 : Nat) : Int)), (26, .int .i64 ((0 + 1 : Nat) : Int)), (6, .slice (some ⟨gn0, 0, none⟩) 8 cap0), (25, v25), (24, v24), (23, uc na), (22, .int .i64 ((na : Nat) : Int)), (21, .slice Aa na ca), (20, .slice none 0 0), (18, .slice Aa na ca), (9, .slice Aa na ca), (16, .slice Aa na ca), (12, .int .i64 ((2 : Nat) : Int)), (11, .slice (some ⟨gL, oL, none⟩) 2 cL), (7, .func (.func 22) #[] #[.pointer (some ⟨g3, 0, none⟩)]), (5, .pointer (some ⟨g3, 0, none⟩)), (4, .pointer (some ⟨g2, 0, none⟩)), (2, .pointer (some ⟨g1, 0, none⟩))] [(g3, 51, #[.slice Ap0 np0 cp0]), (gn0, 5, cur0), (z0, 5, bvs (zs (padN na))), (g2, 42, bvs (rb 16 b0s)), (g1, 23, bvs (rb 32 kk))] := H
  replace H : St 33 w a W [(15, .pointer (some ⟨gL, oL + 0 + 1, none⟩)), (14, .bool true), (13, .int .i64 ((0 + 1 : Nat) : Int)), (26, .int .i64 ((0 + 1 : Nat) : Int)), (6, .slice (some ⟨gn0, 0, none⟩) 8 cap0), (25, v25), (24, v24), (23, uc na), (22, .int .i64 ((na : Nat) : Int)), (21, .slice Aa na ca), (20, .slice none 0 0), (18, .slice Aa na ca), (9, .slice Aa na ca), (12, .int .i64 ((2 : Nat) : Int)), (11, .slice (some ⟨gL, oL, none⟩) 2 cL), (7, .func (.func 22) #[] #[.pointer (some ⟨g3, 0, none⟩)]), (5, .pointer (some ⟨g3, 0, none⟩)), (4, .pointer (some ⟨g2, 0, none⟩)), (2, .pointer (some ⟨g1, 0, none⟩))] [(g3, 51, #[.slice Ap0 np0 cp0]), (gn0, 5, cur0), (z0, 5, bvs (zs (padN na))), (g2, 42, bvs (rb 16 b0s)), (g1, 23, bvs (rb 32 kk))] := H.pick [0, 1, 2, 3, 4, 5, 6, 7, 8, 9, 10, 11, 12, 14, 15, 16, 17, 18, 19] [0, 1, 2, 3, 4] rfl
  refine pl_R (R := SB) (F := fun u_ _ => u_ = .slice Ac nc cc) sb_st (ob_valS H (wanted_none rfl) (does_loadCell rfl rfl hc1 hgL ld_cellS)) rfl rfl rfl H ?_
  try clear H a
  rintro _ a W rfl hR_ H
  replace hv25 := OF.sb _ _ _ hv25 hR_
  replace hP0 := OX.sb _ _ _ hP0 hR_
  clear hR_
  replace H : St 33 w a W [(16, .slice Ac nc cc), (15, .pointer (some ⟨gL, oL + 0 + 1, none⟩)), (14, .bool true), (13, .int .i64 ((0 + 1 : Nat) : Int)), (26, .int .i64 ((0 + 1 : Nat) : Int)), (6, .slice (some ⟨gn0, 0, none⟩) 8 cap0), (25, v25), (24, v24), (23, uc na), (22, .int .i64 ((na : Nat) : Int)), (21, .slice Aa na ca), (20, .slice none 0 0), (18, .slice Aa na ca), (9, .slice Aa na ca), (12, .int .i64 ((2 : Nat) : Int)), (11, .slice (some ⟨gL, oL, none⟩) 2 cL), (7, .func (.func 22) #[] #[.pointer (some ⟨g3, 0, none⟩)]), (5, .pointer (some ⟨g3, 0, none⟩)), (4, .pointer (some ⟨g2, 0, none⟩)), (2, .pointer (some ⟨g1, 0, none⟩))] [(g3, 51, #[.slice Ap0 np0 cp0]), (gn0, 5, cur0), (z0, 5, bvs (zs (padN na))), (g2, 42, bvs (rb 16 b0s)), (g1, 23, bvs (rb 32 kk))] := H
  replace H : St 33 w a W [(16, .slice Ac nc cc), (15, .pointer (some ⟨gL, oL + 0 + 1, none⟩)), (14, .bool true), (13, .int .i64 ((0 + 1 : Nat) : Int)), (26, .int .i64 ((0 + 1 : Nat) : Int)), (6, .slice (some ⟨gn0, 0, none⟩) 8 cap0), (25, v25), (24, v24), (23, uc na), (22, .int .i64 ((na : Nat) : Int)), (21, .slice Aa na ca), (20, .slice none 0 0), (18, .slice Aa na ca), (12, .int .i64 ((2 : Nat) : Int)), (11, .slice (some ⟨gL, oL, none⟩) 2 cL), (7, .func (.func 22) #[] #[.pointer (some ⟨g3, 0, none⟩)]), (5, .pointer (some ⟨g3, 0, none⟩)), (4, .pointer (some ⟨g2, 0, none⟩)), (2, .pointer (some ⟨g1, 0, none⟩))] [(g3, 51, #[.slice Ap0 np0 cp0]), (gn0, 5, cur0), (z0, 5, bvs (zs (padN na))), (g2, 42, bvs (rb 16 b0s)), (g1, 23, bvs (rb 32 kk))] := H.pick [0, 1, 2, 3, 4, 5, 6, 7, 8, 9, 10, 11, 12, 14, 15, 16, 17, 18, 19] [0, 1, 2, 3, 4] rfl
  refine pl_R (R := SB) (F := fun u_ _ => u_ = .slice Ac nc cc) sb_st (ob_valS H (wanted_none rfl) (does_assign rfl rfl)) rfl rfl rfl H ?_
  try clear H a
  rintro _ a W rfl hR_ H
  replace hv25 := OF.sb _ _ _ hv25 hR_
  replace hP0 := OX.sb _ _ _ hP0 hR_
  clear hR_
  replace H : St 33 w a W [(9, .slice Ac nc cc), (16, .slice Ac nc cc), (15, .pointer (some ⟨gL, oL + 0 + 1, none⟩)), (14, .bool true), (13, .int .i64 ((0 + 1 : Nat) : Int)), (26, .int .i64 ((0 + 1 : Nat) : Int)), (6, .slice (some ⟨gn0, 0, none⟩) 8 cap0), (25, v25), (24, v24), (23, uc na), (22, .int .i64 ((na : Nat) : Int)), (21, .slice Aa na ca), (20, .slice none 0 0), (18, .slice Aa na ca), (12, .int .i64 ((2 : Nat) : Int)), (11, .slice (some ⟨gL, oL, none⟩) 2 cL), (7, .func (.func 22) #[] #[.pointer (some ⟨g3, 0, none⟩)]), (5, .pointer (some ⟨g3, 0, none⟩)), (4, .pointer (some ⟨g2, 0, none⟩)), (2, .pointer (some ⟨g1, 0, none⟩))] [(g3, 51, #[.slice Ap0 np0 cp0]), (gn0, 5, cur0), (z0, 5, bvs (zs (padN na))), (g2, 42, bvs (rb 16 b0s)), (g1, 23, bvs (rb 32 kk))] := H
  refine pl_end ?_
  refine hK15 _ _ ?_
  clear hK15
  refine wp_seq_k (fun K16 hK16 => ?_)
  refine rg_plain ?_
  refine pl_R (R := SB) (F := fun u_ _ => u_ = .func (.func 22) #[] #[.pointer (some ⟨g3, 0, none⟩)]) sb_st (ob_valS H (wanted_none rfl) (does_move rfl rfl)) rfl rfl rfl H ?_
  try clear H a
  rintro _ a W rfl hR_ H
  replace hv25 := OF.sb _ _ _ hv25 hR_
  replace hP0 := OX.sb _ _ _ hP0 hR_
  clear hR_
  replace H : St 33 w a W [(17, .func (.func 22) #[] #[.pointer (some ⟨g3, 0, none⟩)]), (9, .slice Ac nc cc), (16, .slice Ac nc cc), (15, .pointer (some ⟨gL, oL + 0 + 1, none⟩)), (14, .bool true), (13, .int .i64 ((0 + 1 : Nat) : Int)), (26, .int .i64 ((0 + 1 : Nat) : Int)), (6, .slice (some ⟨gn0, 0, none⟩) 8 cap0), (25, v25), (24, v24), (23, uc na), (22, .int .i64 ((na : Nat) : Int)), (21, .slice Aa na ca), (20, .slice none 0 0), (18, .slice Aa na ca), (12, .int .i64 ((2 : Nat) : Int)), (11, .slice (some ⟨gL, oL, none⟩) 2 cL), (7, .func (.func 22) #[] #[.pointer (some ⟨g3, 0, none⟩)]), (5, .pointer (some ⟨g3, 0, none⟩)), (4, .pointer (some ⟨g2, 0, none⟩)), (2, .pointer (some ⟨g1, 0, none⟩))] [(g3, 51, #[.slice Ap0 np0 cp0]), (gn0, 5, cur0), (z0, 5, bvs (zs (padN na))), (g2, 42, bvs (rb 16 b0s)), (g1, 23, bvs (rb 32 kk))] := H
  replace H : St 33 w a W [(17, .func (.func 22) #[] #[.pointer (some ⟨g3, 0, none⟩)]), (9, .slice Ac nc cc), (16, .slice Ac nc cc), (15, .pointer (some ⟨gL, oL + 0 + 1, none⟩)), (14, .bool true), (13, .int .i64 ((0 + 1 : Nat) : Int)), (26, .int .i64 ((0 + 1 : Nat) : Int)), (6, .slice (some ⟨gn0, 0, none⟩) 8 cap0), (25, v25), (24, v24), (23, uc na), (22, .int .i64 ((na : Nat) : Int)), (21, .slice Aa na ca), (20, .slice none 0 0), (12, .int .i64 ((2 : Nat) : Int)), (11, .slice (some ⟨gL, oL, none⟩) 2 cL), (7, .func (.func 22) #[] #[.pointer (some ⟨g3, 0, none⟩)]), (5, .pointer (some ⟨g3, 0, none⟩)), (4, .pointer (some ⟨g2, 0, none⟩)), (2, .pointer (some ⟨g1, 0, none⟩))] [(g3, 51, #[.slice Ap0 np0 cp0]), (gn0, 5, cur0), (z0, 5, bvs (zs (padN na))), (g2, 42, bvs (rb 16 b0s)), (g1, 23, bvs (rb 32 kk))] := H.pick [0, 1, 2, 3, 4, 5, 6, 7, 8, 9, 10, 11, 12, 13, 15, 16, 17, 18, 19, 20] [0, 1, 2, 3, 4] rfl
  refine pl_R (R := SB) (F := fun u_ _ => u_ = .slice Ac nc cc) sb_st (ob_valS H (wanted_none rfl) (does_move rfl rfl)) rfl rfl rfl H ?_
  try clear H a
  rintro _ a W rfl hR_ H
  replace hv25 := OF.sb _ _ _ hv25 hR_
  replace hP0 := OX.sb _ _ _ hP0 hR_
  clear hR_
  replace H : St 33 w a W [(18, .slice Ac nc cc), (17, .func (.func 22) #[] #[.pointer (some ⟨g3, 0, none⟩)]), (9, .slice Ac nc cc), (16, .slice Ac nc cc), (15, .pointer (some ⟨gL, oL + 0 + 1, none⟩)), (14, .bool true), (13, .int .i64 ((0 + 1 : Nat) : Int)), (26, .int .i64 ((0 + 1 : Nat) : Int)), (6, .slice (some ⟨gn0, 0, none⟩) 8 cap0), (25, v25), (24, v24), (23, uc na), (22, .int .i64 ((na : Nat) : Int)), (21, .slice Aa na ca), (20, .slice none 0 0), (12, .int .i64 ((2 : Nat) : Int)), (11, .slice (some ⟨gL, oL, none⟩) 2 cL), (7, .func (.func 22) #[] #[.pointer (some ⟨g3, 0, none⟩)]), (5, .pointer (some ⟨g3, 0, none⟩)), (4, .pointer (some ⟨g2, 0, none⟩)), (2, .pointer (some ⟨g1, 0, none⟩))] [(g3, 51, #[.slice Ap0 np0 cp0]), (gn0, 5, cur0), (z0, 5, bvs (zs (padN na))), (g2, 42, bvs (rb 16 b0s)), (g1, 23, bvs (rb 32 kk))] := H
  replace H : St 33 w a W [(18, .slice Ac nc cc), (17, .func (.func 22) #[] #[.pointer (some ⟨g3, 0, none⟩)]), (9, .slice Ac nc cc), (16, .slice Ac nc cc), (15, .pointer (some ⟨gL, oL + 0 + 1, none⟩)), (14, .bool true), (13, .int .i64 ((0 + 1 : Nat) : Int)), (26, .int .i64 ((0 + 1 : Nat) : Int)), (6, .slice (some ⟨gn0, 0, none⟩) 8 cap0), (24, v24), (23, uc na), (22, .int .i64 ((na : Nat) : Int)), (21, .slice Aa na ca), (20, .slice none 0 0), (12, .int .i64 ((2 : Nat) : Int)), (11, .slice (some ⟨gL, oL, none⟩) 2 cL), (7, .func (.func 22) #[] #[.pointer (some ⟨g3, 0, none⟩)]), (5, .pointer (some ⟨g3, 0, none⟩)), (4, .pointer (some ⟨g2, 0, none⟩)), (2, .pointer (some ⟨g1, 0, none⟩))] [(g3, 51, #[.slice Ap0 np0 cp0]), (gn0, 5, cur0), (z0, 5, bvs (zs (padN na))), (g2, 42, bvs (rb 16 b0s)), (g1, 23, bvs (rb 32 kk))] := H.pick [0, 1, 2, 3, 4, 5, 6, 7, 8, 10, 11, 12, 13, 14, 15, 16, 17, 18, 19, 20] [0, 1, 2, 3, 4] rfl
  refine pl_callKX (f := 22) (caps := #[.pointer (some ⟨g3, 0, none⟩)]) (vs' := [.slice Ac nc cc, .pointer (some ⟨g3, 0, none⟩)]) rfl ⟨_, Tryd.func22, by kernel_rfl⟩ rfl rfl rfl (fun K_ => pad_any (xs := [.slice Aa na ca, .slice (some ⟨z0, 0, none⟩) (padN na) (padN na)]) (noT rfl) K_ hP0 (by omega) (by simp)) rfl rfl rfl rfl H ?_
  try clear H a W
  rintro ⟨z1, vP1⟩ a W hP1 H
  replace H : St 33 w a W [(19, .tuple #[]), (18, .slice Ac nc cc), (17, .func (.func 22) #[] #[.pointer (some ⟨g3, 0, none⟩)]), (9, .slice Ac nc cc), (16, .slice Ac nc cc), (15, .pointer (some ⟨gL, oL + 0 + 1, none⟩)), (14, .bool true), (13, .int .i64 ((0 + 1 : Nat) : Int)), (26, .int .i64 ((0 + 1 : Nat) : Int)), (6, .slice (some ⟨gn0, 0, none⟩) 8 cap0), (24, v24), (23, uc na), (22, .int .i64 ((na : Nat) : Int)), (21, .slice Aa na ca), (20, .slice none 0 0), (12, .int .i64 ((2 : Nat) : Int)), (11, .slice (some ⟨gL, oL, none⟩) 2 cL), (7, .func (.func 22) #[] #[.pointer (some ⟨g3, 0, none⟩)]), (5, .pointer (some ⟨g3, 0, none⟩)), (4, .pointer (some ⟨g2, 0, none⟩)), (2, .pointer (some ⟨g1, 0, none⟩))] [(g3, 51, #[vP1]), (z1, 5, bvs (zs (padN nc))), (gn0, 5, cur0), (z0, 5, bvs (zs (padN na))), (g2, 42, bvs (rb 16 b0s)), (g1, 23, bvs (rb 32 kk))] := H
  replace hP1 : OX w.heap.size [.slice Aa na ca, .slice (some ⟨z0, 0, none⟩) (padN na) (padN na), .slice Ac nc cc, .slice (some ⟨z1, 0, none⟩) (padN nc) (padN nc)] vP1 W := hP1
  obtain ⟨Ap1, np1, cp1, rfl⟩ := hP1.form
  refine pl_end ?_
  replace H : St 33 w a W [(18, .slice Ac nc cc), (9, .slice Ac nc cc), (16, .slice Ac nc cc), (15, .pointer (some ⟨gL, oL + 0 + 1, none⟩)), (14, .bool true), (13, .int .i64 ((0 + 1 : Nat) : Int)), (26, .int .i64 ((0 + 1 : Nat) : Int)), (6, .slice (some ⟨gn0, 0, none⟩) 8 cap0), (24, v24), (23, uc na), (22, .int .i64 ((na : Nat) : Int)), (21, .slice Aa na ca), (20, .slice none 0 0), (12, .int .i64 ((2 : Nat) : Int)), (11, .slice (some ⟨gL, oL, none⟩) 2 cL), (7, .func (.func 22) #[] #[.pointer (some ⟨g3, 0, none⟩)]), (5, .pointer (some ⟨g3, 0, none⟩)), (4, .pointer (some ⟨g2, 0, none⟩)), (2, .pointer (some ⟨g1, 0, none⟩))] [(g3, 51, #[.slice Ap1 np1 cp1]), (z1, 5, bvs (zs (padN nc))), (gn0, 5, cur0), (z0, 5, bvs (zs (padN na))), (g2, 42, bvs (rb 16 b0s)), (g1, 23, bvs (rb 32 kk))] := H.pick [1, 3, 4, 5, 6, 7, 8, 9, 10, 11, 12, 13, 14, 15, 16, 17, 18, 19, 20] [0, 1, 2, 3, 4, 5] rfl
  refine hK16 _ _ ?_
  clear hK16
  refine rg_plain ?_
  replace H : St 33 w a W [(18, .slice Ac nc cc), (9, .slice Ac nc cc), (16, .slice Ac nc cc), (15, .pointer (some ⟨gL, oL + 0 + 1, none⟩)), (14, .bool true), (13, .int .i64 ((0 + 1 : Nat) : Int)), (26, .int .i64 ((0 + 1 : Nat) : Int)), (6, .slice (some ⟨gn0, 0, none⟩) 8 cap0), (24, v24), (23, uc na), (22, .int .i64 ((na : Nat) : Int)), (21, .slice Aa na ca), (12, .int .i64 ((2 : Nat) : Int)), (11, .slice (some ⟨gL, oL, none⟩) 2 cL), (7, .func (.func 22) #[] #[.pointer (some ⟨g3, 0, none⟩)]), (5, .pointer (some ⟨g3, 0, none⟩)), (4, .pointer (some ⟨g2, 0, none⟩)), (2, .pointer (some ⟨g1, 0, none⟩))] [(g3, 51, #[.slice Ap1 np1 cp1]), (z1, 5, bvs (zs (padN nc))), (gn0, 5, cur0), (z0, 5, bvs (zs (padN na))), (g2, 42, bvs (rb 16 b0s)), (g1, 23, bvs (rb 32 kk))] := H.pick [0, 1, 2, 3, 4, 5, 6, 7, 8, 9, 10, 11, 13, 14, 15, 16, 17, 18] [0, 1, 2, 3, 4, 5] rfl
  refine pl_R (R := SB) (F := fun u_ _ => u_ = .slice (some ⟨gn0, 0, none⟩) 8 cap0) sb_st (ob_valS H (wanted_none rfl) (does_move rfl rfl)) rfl rfl rfl H ?_
  try clear H a
  rintro _ a W rfl hR_ H
  replace hP1 := OX.sb _ _ _ hP1 hR_
  clear hR_
  replace H : St 33 w a W [(20, .slice (some ⟨gn0, 0, none⟩) 8 cap0), (18, .slice Ac nc cc), (9, .slice Ac nc cc), (16, .slice Ac nc cc), (15, .pointer (some ⟨gL, oL + 0 + 1, none⟩)), (14, .bool true), (13, .int .i64 ((0 + 1 : Nat) : Int)), (26, .int .i64 ((0 + 1 : Nat) : Int)), (6, .slice (some ⟨gn0, 0, none⟩) 8 cap0), (24, v24), (23, uc na), (22, .int .i64 ((na : Nat) : Int)), (21, .slice Aa na ca), (12, .int .i64 ((2 : Nat) : Int)), (11, .slice (some ⟨gL, oL, none⟩) 2 cL), (7, .func (.func 22) #[] #[.pointer (some ⟨g3, 0, none⟩)]), (5, .pointer (some ⟨g3, 0, none⟩)), (4, .pointer (some ⟨g2, 0, none⟩)), (2, .pointer (some ⟨g1, 0, none⟩))] [(g3, 51, #[.slice Ap1 np1 cp1]), (z1, 5, bvs (zs (padN nc))), (gn0, 5, cur0), (z0, 5, bvs (zs (padN na))), (g2, 42, bvs (rb 16 b0s)), (g1, 23, bvs (rb 32 kk))] := H
  replace H : St 33 w a W [(20, .slice (some ⟨gn0, 0, none⟩) 8 cap0), (18, .slice Ac nc cc), (9, .slice Ac nc cc), (16, .slice Ac nc cc), (15, .pointer (some ⟨gL, oL + 0 + 1, none⟩)), (14, .bool true), (13, .int .i64 ((0 + 1 : Nat) : Int)), (26, .int .i64 ((0 + 1 : Nat) : Int)), (6, .slice (some ⟨gn0, 0, none⟩) 8 cap0), (24, v24), (23, uc na), (22, .int .i64 ((na : Nat) : Int)), (12, .int .i64 ((2 : Nat) : Int)), (11, .slice (some ⟨gL, oL, none⟩) 2 cL), (7, .func (.func 22) #[] #[.pointer (some ⟨g3, 0, none⟩)]), (5, .pointer (some ⟨g3, 0, none⟩)), (4, .pointer (some ⟨g2, 0, none⟩)), (2, .pointer (some ⟨g1, 0, none⟩))] [(g3, 51, #[.slice Ap1 np1 cp1]), (z1, 5, bvs (zs (padN nc))), (gn0, 5, cur0), (z0, 5, bvs (zs (padN na))), (g2, 42, bvs (rb 16 b0s)), (g1, 23, bvs (rb 32 kk))] := H.pick [0, 1, 2, 3, 4, 5, 6, 7, 8, 9, 10, 11, 13, 14, 15, 16, 17, 18] [0, 1, 2, 3, 4, 5] rfl
  refine pl_R (R := SB) (F := fun u_ _ => u_ = .slice Ac nc cc) sb_st (ob_valS H (wanted_none rfl) (does_move rfl rfl)) rfl rfl rfl H ?_
  try clear H a
  rintro _ a W rfl hR_ H
  replace hP1 := OX.sb _ _ _ hP1 hR_
  clear hR_
  replace H : St 33 w a W [(21, .slice Ac nc cc), (20, .slice (some ⟨gn0, 0, none⟩) 8 cap0), (18, .slice Ac nc cc), (9, .slice Ac nc cc), (16, .slice Ac nc cc), (15, .pointer (some ⟨gL, oL + 0 + 1, none⟩)), (14, .bool true), (13, .int .i64 ((0 + 1 : Nat) : Int)), (26, .int .i64 ((0 + 1 : Nat) : Int)), (6, .slice (some ⟨gn0, 0, none⟩) 8 cap0), (24, v24), (23, uc na), (22, .int .i64 ((na : Nat) : Int)), (12, .int .i64 ((2 : Nat) : Int)), (11, .slice (some ⟨gL, oL, none⟩) 2 cL), (7, .func (.func 22) #[] #[.pointer (some ⟨g3, 0, none⟩)]), (5, .pointer (some ⟨g3, 0, none⟩)), (4, .pointer (some ⟨g2, 0, none⟩)), (2, .pointer (some ⟨g1, 0, none⟩))] [(g3, 51, #[.slice Ap1 np1 cp1]), (z1, 5, bvs (zs (padN nc))), (gn0, 5, cur0), (z0, 5, bvs (zs (padN na))), (g2, 42, bvs (rb 16 b0s)), (g1, 23, bvs (rb 32 kk))] := H
  replace H : St 33 w a W [(21, .slice Ac nc cc), (20, .slice (some ⟨gn0, 0, none⟩) 8 cap0), (18, .slice Ac nc cc), (9, .slice Ac nc cc), (16, .slice Ac nc cc), (15, .pointer (some ⟨gL, oL + 0 + 1, none⟩)), (14, .bool true), (13, .int .i64 ((0 + 1 : Nat) : Int)), (26, .int .i64 ((0 + 1 : Nat) : Int)), (6, .slice (some ⟨gn0, 0, none⟩) 8 cap0), (24, v24), (23, uc na), (12, .int .i64 ((2 : Nat) : Int)), (11, .slice (some ⟨gL, oL, none⟩) 2 cL), (7, .func (.func 22) #[] #[.pointer (some ⟨g3, 0, none⟩)]), (5, .pointer (some ⟨g3, 0, none⟩)), (4, .pointer (some ⟨g2, 0, none⟩)), (2, .pointer (some ⟨g1, 0, none⟩))] [(g3, 51, #[.slice Ap1 np1 cp1]), (z1, 5, bvs (zs (padN nc))), (gn0, 5, cur0), (z0, 5, bvs (zs (padN na))), (g2, 42, bvs (rb 16 b0s)), (g1, 23, bvs (rb 32 kk))] := H.pick [0, 1, 2, 3, 4, 5, 6, 7, 8, 9, 10, 11, 13, 14, 15, 16, 17, 18] [0, 1, 2, 3, 4, 5] rfl
  refine pl_R (R := SB) (F := fun u_ _ => u_ = .int .i64 ((nc : Nat) : Int)) sb_st (ob_valS H (wanted_none rfl) (does_len Tryd.underlying25 rfl rfl)) rfl rfl rfl H ?_
  try clear H a
  rintro _ a W rfl hR_ H
  replace hP1 := OX.sb _ _ _ hP1 hR_
  clear hR_
  replace H : St 33 w a W [(22, .int .i64 ((nc : Nat) : Int)), (21, .slice Ac nc cc), (20, .slice (some ⟨gn0, 0, none⟩) 8 cap0), (18, .slice Ac nc cc), (9, .slice Ac nc cc), (16, .slice Ac nc cc), (15, .pointer (some ⟨gL, oL + 0 + 1, none⟩)), (14, .bool true), (13, .int .i64 ((0 + 1 : Nat) : Int)), (26, .int .i64 ((0 + 1 : Nat) : Int)), (6, .slice (some ⟨gn0, 0, none⟩) 8 cap0), (24, v24), (23, uc na), (12, .int .i64 ((2 : Nat) : Int)), (11, .slice (some ⟨gL, oL, none⟩) 2 cL), (7, .func (.func 22) #[] #[.pointer (some ⟨g3, 0, none⟩)]), (5, .pointer (some ⟨g3, 0, none⟩)), (4, .pointer (some ⟨g2, 0, none⟩)), (2, .pointer (some ⟨g1, 0, none⟩))] [(g3, 51, #[.slice Ap1 np1 cp1]), (z1, 5, bvs (zs (padN nc))), (gn0, 5, cur0), (z0, 5, bvs (zs (padN na))), (g2, 42, bvs (rb 16 b0s)), (g1, 23, bvs (rb 32 kk))] := H
  replace H : St 33 w a W [(22, .int .i64 ((nc : Nat) : Int)), (21, .slice Ac nc cc), (20, .slice (some ⟨gn0, 0, none⟩) 8 cap0), (18, .slice Ac nc cc), (9, .slice Ac nc cc), (16, .slice Ac nc cc), (15, .pointer (some ⟨gL, oL + 0 + 1, none⟩)), (14, .bool true), (13, .int .i64 ((0 + 1 : Nat) : Int)), (26, .int .i64 ((0 + 1 : Nat) : Int)), (6, .slice (some ⟨gn0, 0, none⟩) 8 cap0), (24, v24), (12, .int .i64 ((2 : Nat) : Int)), (11, .slice (some ⟨gL, oL, none⟩) 2 cL), (7, .func (.func 22) #[] #[.pointer (some ⟨g3, 0, none⟩)]), (5, .pointer (some ⟨g3, 0, none⟩)), (4, .pointer (some ⟨g2, 0, none⟩)), (2, .pointer (some ⟨g1, 0, none⟩))] [(g3, 51, #[.slice Ap1 np1 cp1]), (z1, 5, bvs (zs (padN nc))), (gn0, 5, cur0), (z0, 5, bvs (zs (padN na))), (g2, 42, bvs (rb 16 b0s)), (g1, 23, bvs (rb 32 kk))] := H.pick [0, 1, 2, 3, 4, 5, 6, 7, 8, 9, 10, 11, 13, 14, 15, 16, 17, 18] [0, 1, 2, 3, 4, 5] rfl
  refine pl_R (R := SB) (F := fun u_ _ => u_ = uc nc) sb_st (ob_valS H (wanted_none rfl) (does_convert rfl rfl (cv_iu64 (by omega)))) rfl rfl rfl H ?_
  try clear H a
  rintro _ a W rfl hR_ H
  replace hP1 := OX.sb _ _ _ hP1 hR_
  clear hR_
  replace H : St 33 w a W [(23, uc nc), (22, .int .i64 ((nc : Nat) : Int)), (21, .slice Ac nc cc), (20, .slice (some ⟨gn0, 0, none⟩) 8 cap0), (18, .slice Ac nc cc), (9, .slice Ac nc cc), (16, .slice Ac nc cc), (15, .pointer (some ⟨gL, oL + 0 + 1, none⟩)), (14, .bool true), (13, .int .i64 ((0 + 1 : Nat) : Int)), (26, .int .i64 ((0 + 1 : Nat) : Int)), (6, .slice (some ⟨gn0, 0, none⟩) 8 cap0), (24, v24), (12, .int .i64 ((2 : Nat) : Int)), (11, .slice (some ⟨gL, oL, none⟩) 2 cL), (7, .func (.func 22) #[] #[.pointer (some ⟨g3, 0, none⟩)]), (5, .pointer (some ⟨g3, 0, none⟩)), (4, .pointer (some ⟨g2, 0, none⟩)), (2, .pointer (some ⟨g1, 0, none⟩))] [(g3, 51, #[.slice Ap1 np1 cp1]), (z1, 5, bvs (zs (padN nc))), (gn0, 5, cur0), (z0, 5, bvs (zs (padN na))), (g2, 42, bvs (rb 16 b0s)), (g1, 23, bvs (rb 32 kk))] := H
  replace H : St 33 w a W [(23, uc nc), (22, .int .i64 ((nc : Nat) : Int)), (21, .slice Ac nc cc), (20, .slice (some ⟨gn0, 0, none⟩) 8 cap0), (18, .slice Ac nc cc), (9, .slice Ac nc cc), (16, .slice Ac nc cc), (15, .pointer (some ⟨gL, oL + 0 + 1, none⟩)), (14, .bool true), (13, .int .i64 ((0 + 1 : Nat) : Int)), (26, .int .i64 ((0 + 1 : Nat) : Int)), (6, .slice (some ⟨gn0, 0, none⟩) 8 cap0), (12, .int .i64 ((2 : Nat) : Int)), (11, .slice (some ⟨gL, oL, none⟩) 2 cL), (7, .func (.func 22) #[] #[.pointer (some ⟨g3, 0, none⟩)]), (5, .pointer (some ⟨g3, 0, none⟩)), (4, .pointer (some ⟨g2, 0, none⟩)), (2, .pointer (some ⟨g1, 0, none⟩))] [(g3, 51, #[.slice Ap1 np1 cp1]), (z1, 5, bvs (zs (padN nc))), (gn0, 5, cur0), (z0, 5, bvs (zs (padN na))), (g2, 42, bvs (rb 16 b0s)), (g1, 23, bvs (rb 32 kk))] := H.pick [0, 1, 2, 3, 4, 5, 6, 7, 8, 9, 10, 11, 13, 14, 15, 16, 17, 18] [0, 1, 2, 3, 4, 5] rfl
  refine pl_R (R := SB) (F := SF w.heap.size [(g3, 51, #[.slice Ap1 np1 cp1]), (z1, 5, bvs (zs (padN nc))), (gn0, 5, cur0), (z0, 5, bvs (zs (padN na))), (g2, 42, bvs (rb 16 b0s)), (g1, 23, bvs (rb 32 kk))] 8 (n8 nc)) sb_st (ob_callS H (wanted_none rfl) rfl ⟨_, Tryd.func14, by kernel_rfl⟩ rfl (sf_call H (bytesOf_blk nc _) (n8_len _))) rfl rfl rfl H ?_
  try clear H a
  intro v24 a W hv24 hR_ H
  replace hP1 := OX.sb _ _ _ hP1 hR_
  clear hR_
  replace H : St 33 w a W [(24, v24), (23, uc nc), (22, .int .i64 ((nc : Nat) : Int)), (21, .slice Ac nc cc), (20, .slice (some ⟨gn0, 0, none⟩) 8 cap0), (18, .slice Ac nc cc), (9, .slice Ac nc cc), (16, .slice Ac nc cc), (15, .pointer (some ⟨gL, oL + 0 + 1, none⟩)), (14, .bool true), (13, .int .i64 ((0 + 1 : Nat) : Int)), (26, .int .i64 ((0 + 1 : Nat) : Int)), (6, .slice (some ⟨gn0, 0, none⟩) 8 cap0), (12, .int .i64 ((2 : Nat) : Int)), (11, .slice (some ⟨gL, oL, none⟩) 2 cL), (7, .func (.func 22) #[] #[.pointer (some ⟨g3, 0, none⟩)]), (5, .pointer (some ⟨g3, 0, none⟩)), (4, .pointer (some ⟨g2, 0, none⟩)), (2, .pointer (some ⟨g1, 0, none⟩))] [(g3, 51, #[.slice Ap1 np1 cp1]), (z1, 5, bvs (zs (padN nc))), (gn0, 5, cur0), (z0, 5, bvs (zs (padN na))), (g2, 42, bvs (rb 16 b0s)), (g1, 23, bvs (rb 32 kk))] := H
  have hO := of_ucK (k := 2) H rfl huc0 (js := [0, 1, 3, 4, 5]) rfl
  replace H : St 33 w a W [(24, v24), (23, uc nc), (22, .int .i64 ((nc : Nat) : Int)), (21, .slice Ac nc cc), (20, .slice (some ⟨gn0, 0, none⟩) 8 cap0), (18, .slice Ac nc cc), (9, .slice Ac nc cc), (16, .slice Ac nc cc), (15, .pointer (some ⟨gL, oL + 0 + 1, none⟩)), (14, .bool true), (13, .int .i64 ((0 + 1 : Nat) : Int)), (26, .int .i64 ((0 + 1 : Nat) : Int)), (6, .slice (some ⟨gn0, 0, none⟩) 8 cap0), (12, .int .i64 ((2 : Nat) : Int)), (11, .slice (some ⟨gL, oL, none⟩) 2 cL), (7, .func (.func 22) #[] #[.pointer (some ⟨g3, 0, none⟩)]), (5, .pointer (some ⟨g3, 0, none⟩)), (4, .pointer (some ⟨g2, 0, none⟩)), (2, .pointer (some ⟨g1, 0, none⟩))] [(g3, 51, #[.slice Ap1 np1 cp1]), (z1, 5, bvs (zs (padN nc))), (z0, 5, bvs (zs (padN na))), (g2, 42, bvs (rb 16 b0s)), (g1, 23, bvs (rb 32 kk))] := H.pick [0, 1, 2, 3, 4, 5, 6, 7, 8, 9, 10, 11, 12, 13, 14, 15, 16, 17, 18] [0, 1, 3, 4, 5] rfl
  refine pl_R (R := WR w.heap.size [(g3, 51, #[.slice Ap1 np1 cp1]), (z1, 5, bvs (zs (padN nc))), (z0, 5, bvs (zs (padN na))), (g2, 42, bvs (rb 16 b0s)), (g1, 23, bvs (rb 32 kk))]) (F := OF w.heap.size [(g3, 51, #[.slice Ap1 np1 cp1]), (z1, 5, bvs (zs (padN nc))), (z0, 5, bvs (zs (padN na))), (g2, 42, bvs (rb 16 b0s)), (g1, 23, bvs (rb 32 kk))] (n8 na ++ n8 nc)) wr_st (ob_appW H (wanted_none rfl) rfl rfl rfl hO hv24.bf (by simp only [List.length_nil, n8_len]; omega)) rfl rfl rfl H ?_
  clear H a
  intro v25 a W hv25 hR_ H
  replace hP1 := OX.wr _ _ _ hP1 hR_
  clear hR_ hO
  replace H : St 33 w a W [(25, v25), (24, v24), (23, uc nc), (22, .int .i64 ((nc : Nat) : Int)), (21, .slice Ac nc cc), (20, .slice (some ⟨gn0, 0, none⟩) 8 cap0), (18, .slice Ac nc cc), (9, .slice Ac nc cc), (16, .slice Ac nc cc), (15, .pointer (some ⟨gL, oL + 0 + 1, none⟩)), (14, .bool true), (13, .int .i64 ((0 + 1 : Nat) : Int)), (26, .int .i64 ((0 + 1 : Nat) : Int)), (6, .slice (some ⟨gn0, 0, none⟩) 8 cap0), (12, .int .i64 ((2 : Nat) : Int)), (11, .slice (some ⟨gL, oL, none⟩) 2 cL), (7, .func (.func 22) #[] #[.pointer (some ⟨g3, 0, none⟩)]), (5, .pointer (some ⟨g3, 0, none⟩)), (4, .pointer (some ⟨g2, 0, none⟩)), (2, .pointer (some ⟨g1, 0, none⟩))] [(g3, 51, #[.slice Ap1 np1 cp1]), (z1, 5, bvs (zs (padN nc))), (z0, 5, bvs (zs (padN na))), (g2, 42, bvs (rb 16 b0s)), (g1, 23, bvs (rb 32 kk))] := H
  replace H : St 33 w a W [(25, v25), (24, v24), (23, uc nc), (22, .int .i64 ((nc : Nat) : Int)), (21, .slice Ac nc cc), (20, .slice (some ⟨gn0, 0, none⟩) 8 cap0), (18, .slice Ac nc cc), (9, .slice Ac nc cc), (16, .slice Ac nc cc), (15, .pointer (some ⟨gL, oL + 0 + 1, none⟩)), (14, .bool true), (13, .int .i64 ((0 + 1 : Nat) : Int)), (26, .int .i64 ((0 + 1 : Nat) : Int)), (12, .int .i64 ((2 : Nat) : Int)), (11, .slice (some ⟨gL, oL, none⟩) 2 cL), (7, .func (.func 22) #[] #[.pointer (some ⟨g3, 0, none⟩)]), (5, .pointer (some ⟨g3, 0, none⟩)), (4, .pointer (some ⟨g2, 0, none⟩)), (2, .pointer (some ⟨g1, 0, none⟩))] [(g3, 51, #[.slice Ap1 np1 cp1]), (z1, 5, bvs (zs (padN nc))), (z0, 5, bvs (zs (padN na))), (g2, 42, bvs (rb 16 b0s)), (g1, 23, bvs (rb 32 kk))] := H.pick [0, 1, 2, 3, 4, 5, 6, 7, 8, 9, 10, 11, 12, 14, 15, 16, 17, 18, 19] [0, 1, 2, 3, 4] rfl
  refine pl_R (R := SB) (F := OF w.heap.size [(g3, 51, #[.slice Ap1 np1 cp1]), (z1, 5, bvs (zs (padN nc))), (z0, 5, bvs (zs (padN na))), (g2, 42, bvs (rb 16 b0s)), (g1, 23, bvs (rb 32 kk))] (n8 na ++ n8 nc)) sb_st (ob_assignS H (wanted_none rfl) rfl rfl hv25) rfl rfl rfl H ?_
  try clear H a
  intro v6 a W hv6 hR_ H
  replace hv25 := OF.sb _ _ _ hv25 hR_
  replace hP1 := OX.sb _ _ _ hP1 hR_
  clear hR_
  replace H : St 33 w a W [(6, v6), (25, v25), (24, v24), (23, uc nc), (22, .int .i64 ((nc : Nat) : Int)), (21, .slice Ac nc cc), (20, .slice (some ⟨gn0, 0, none⟩) 8 cap0), (18, .slice Ac nc cc), (9, .slice Ac nc cc), (16, .slice Ac nc cc), (15, .pointer (some ⟨gL, oL + 0 + 1, none⟩)), (14, .bool true), (13, .int .i64 ((0 + 1 : Nat) : Int)), (26, .int .i64 ((0 + 1 : Nat) : Int)), (12, .int .i64 ((2 : Nat) : Int)), (11, .slice (some ⟨gL, oL, none⟩) 2 cL), (7, .func (.func 22) #[] #[.pointer (some ⟨g3, 0, none⟩)]), (5, .pointer (some ⟨g3, 0, none⟩)), (4, .pointer (some ⟨g2, 0, none⟩)), (2, .pointer (some ⟨g1, 0, none⟩))] [(g3, 51, #[.slice Ap1 np1 cp1]), (z1, 5, bvs (zs (padN nc))), (z0, 5, bvs (zs (padN na))), (g2, 42, bvs (rb 16 b0s)), (g1, 23, bvs (rb 32 kk))] := H
  refine pl_end ?_
  obtain ⟨gn1, cap1, cur1, rfl, hb_, hB_, hn_, huc1⟩ := OF.uc hv6 (n := 16) (by simp only [List.length_append, n8_len]) (by omega)
  replace H := (H.add hb_ hB_ hn_).swap
  clear hb_ hB_ hn_
  replace H : St 33 w a W [(6, .slice (some ⟨gn1, 0, none⟩) 16 cap1), (25, v25), (24, v24), (23, uc nc), (22, .int .i64 ((nc : Nat) : Int)), (21, .slice Ac nc cc), (20, .slice (some ⟨gn0, 0, none⟩) 8 cap0), (18, .slice Ac nc cc), (9, .slice Ac nc cc), (16, .slice Ac nc cc), (15, .pointer (some ⟨gL, oL + 0 + 1, none⟩)), (14, .bool true), (13, .int .i64 ((0 + 1 : Nat) : Int)), (26, .int .i64 ((0 + 1 : Nat) : Int)), (12, .int .i64 ((2 : Nat) : Int)), (11, .slice (some ⟨gL, oL, none⟩) 2 cL), (7, .func (.func 22) #[] #[.pointer (some ⟨g3, 0, none⟩)]), (5, .pointer (some ⟨g3, 0, none⟩)), (4, .pointer (some ⟨g2, 0, none⟩)), (2, .pointer (some ⟨g1, 0, none⟩))] [(g3, 51, #[.slice Ap1 np1 cp1]), (gn1, 5, cur1), (z1, 5, bvs (zs (padN nc))), (z0, 5, bvs (zs (padN na))), (g2, 42, bvs (rb 16 b0s)), (g1, 23, bvs (rb 32 kk))] := H
  refine blk_normal ?_
  refine hK14 _ _ ?_
  clear hK14
  refine rg_plain ?_
  replace H : St 33 w a W [(6, .slice (some ⟨gn1, 0, none⟩) 16 cap1), (25, v25), (24, v24), (23, uc nc), (22, .int .i64 ((nc : Nat) : Int)), (21, .slice Ac nc cc), (20, .slice (some ⟨gn0, 0, none⟩) 8 cap0), (18, .slice Ac nc cc), (9, .slice Ac nc cc), (16, .slice Ac nc cc), (15, .pointer (some ⟨gL, oL + 0 + 1, none⟩)), (14, .bool true), (13, .int .i64 ((0 + 1 : Nat) : Int)), (12, .int .i64 ((2 : Nat) : Int)), (11, .slice (some ⟨gL, oL, none⟩) 2 cL), (7, .func (.func 22) #[] #[.pointer (some ⟨g3, 0, none⟩)]), (5, .pointer (some ⟨g3, 0, none⟩)), (4, .pointer (some ⟨g2, 0, none⟩)), (2, .pointer (some ⟨g1, 0, none⟩))] [(g3, 51, #[.slice Ap1 np1 cp1]), (gn1, 5, cur1), (z1, 5, bvs (zs (padN nc))), (z0, 5, bvs (zs (padN na))), (g2, 42, bvs (rb 16 b0s)), (g1, 23, bvs (rb 32 kk))] := H.pick [0, 1, 2, 3, 4, 5, 6, 7, 8, 9, 10, 11, 12, 14, 15, 16, 17, 18, 19] [0, 1, 2, 3, 4, 5] rfl
  refine pl_R (R := SB) (F := fun u_ _ => u_ = .int .i64 ((0 + 1 + 1 : Nat) : Int)) sb_st (ob_valS H (wanted_none rfl) (does_binOp rfl rfl rfl (i_addE (k := (0 + 1)) (m := 1) rfl (by omega) _ _))) rfl rfl rfl H ?_
  try clear H a
  rintro _ a W rfl hR_ H
  replace hv25 := OF.sb _ _ _ hv25 hR_
  replace hP1 := OX.sb _ _ _ hP1 hR_
  clear hR_
  replace H : St 33 w a W [(26, .int .i64 ((0 + 1 + 1 : Nat) : Int)), (6, .slice (some ⟨gn1, 0, none⟩) 16 cap1), (25, v25), (24, v24), (23, uc nc), (22, .int .i64 ((nc : Nat) : Int)), (21, .slice Ac nc cc), (20, .slice (some ⟨gn0, 0, none⟩) 8 cap0), (18, .slice Ac nc cc), (9, .slice Ac nc cc), (16, .slice Ac nc cc), (15, .pointer (some ⟨gL, oL + 0 + 1, none⟩)), (14, .bool true), (13, .int .i64 ((0 + 1 : Nat) : Int)), (12, .int .i64 ((2 : Nat) : Int)), (11, .slice (some ⟨gL, oL, none⟩) 2 cL), (7, .func (.func 22) #[] #[.pointer (some ⟨g3, 0, none⟩)]), (5, .pointer (some ⟨g3, 0, none⟩)), (4, .pointer (some ⟨g2, 0, none⟩)), (2, .pointer (some ⟨g1, 0, none⟩))] [(g3, 51, #[.slice Ap1 np1 cp1]), (gn1, 5, cur1), (z1, 5, bvs (zs (padN nc))), (z0, 5, bvs (zs (padN na))), (g2, 42, bvs (rb 16 b0s)), (g1, 23, bvs (rb 32 kk))] := H
  replace H : St 33 w a W [(26, .int .i64 ((0 + 1 + 1 : Nat) : Int)), (6, .slice (some ⟨gn1, 0, none⟩) 16 cap1), (25, v25), (24, v24), (23, uc nc), (22, .int .i64 ((nc : Nat) : Int)), (21, .slice Ac nc cc), (20, .slice (some ⟨gn0, 0, none⟩) 8 cap0), (18, .slice Ac nc cc), (9, .slice Ac nc cc), (16, .slice Ac nc cc), (15, .pointer (some ⟨gL, oL + 0 + 1, none⟩)), (14, .bool true), (12, .int .i64 ((2 : Nat) : Int)), (11, .slice (some ⟨gL, oL, none⟩) 2 cL), (7, .func (.func 22) #[] #[.pointer (some ⟨g3, 0, none⟩)]), (5, .pointer (some ⟨g3, 0, none⟩)), (4, .pointer (some ⟨g2, 0, none⟩)), (2, .pointer (some ⟨g1, 0, none⟩))] [(g3, 51, #[.slice Ap1 np1 cp1]), (gn1, 5, cur1), (z1, 5, bvs (zs (padN nc))), (z0, 5, bvs (zs (padN na))), (g2, 42, bvs (rb 16 b0s)), (g1, 23, bvs (rb 32 kk))] := H.pick [0, 1, 2, 3, 4, 5, 6, 7, 8, 9, 10, 11, 12, 14, 15, 16, 17, 18, 19] [0, 1, 2, 3, 4, 5] rfl
  refine pl_R (R := SB) (F := fun u_ _ => u_ = .int .i64 ((0 + 1 + 1 : Nat) : Int)) sb_st (ob_valS H (wanted_none rfl) (does_move rfl rfl)) rfl rfl rfl H ?_
  try clear H a
  rintro _ a W rfl hR_ H
  replace hv25 := OF.sb _ _ _ hv25 hR_
  replace hP1 := OX.sb _ _ _ hP1 hR_
  clear hR_
  replace H : St 33 w a W [(13, .int .i64 ((0 + 1 + 1 : Nat) : Int)), (26, .int .i64 ((0 + 1 + 1 : Nat) : Int)), (6, .slice (some ⟨gn1, 0, none⟩) 16 cap1), (25, v25), (24, v24), (23, uc nc), (22, .int .i64 ((nc : Nat) : Int)), (21, .slice Ac nc cc), (20, .slice (some ⟨gn0, 0, none⟩) 8 cap0), (18, .slice Ac nc cc), (9, .slice Ac nc cc), (16, .slice Ac nc cc), (15, .pointer (some ⟨gL, oL + 0 + 1, none⟩)), (14, .bool true), (12, .int .i64 ((2 : Nat) : Int)), (11, .slice (some ⟨gL, oL, none⟩) 2 cL), (7, .func (.func 22) #[] #[.pointer (some ⟨g3, 0, none⟩)]), (5, .pointer (some ⟨g3, 0, none⟩)), (4, .pointer (some ⟨g2, 0, none⟩)), (2, .pointer (some ⟨g1, 0, none⟩))] [(g3, 51, #[.slice Ap1 np1 cp1]), (gn1, 5, cur1), (z1, 5, bvs (zs (padN nc))), (z0, 5, bvs (zs (padN na))), (g2, 42, bvs (rb 16 b0s)), (g1, 23, bvs (rb 32 kk))] := H
  refine pl_end ?_
  refine then_normal ?_
  rw [rounds_succ]
  refine wp_seq_k (fun K17 hK17 => ?_)
  refine rg_plain ?_
  replace H : St 33 w a W [(13, .int .i64 ((0 + 1 + 1 : Nat) : Int)), (26, .int .i64 ((0 + 1 + 1 : Nat) : Int)), (6, .slice (some ⟨gn1, 0, none⟩) 16 cap1), (25, v25), (24, v24), (23, uc nc), (22, .int .i64 ((nc : Nat) : Int)), (21, .slice Ac nc cc), (20, .slice (some ⟨gn0, 0, none⟩) 8 cap0), (18, .slice Ac nc cc), (9, .slice Ac nc cc), (16, .slice Ac nc cc), (15, .pointer (some ⟨gL, oL + 0 + 1, none⟩)), (12, .int .i64 ((2 : Nat) : Int)), (11, .slice (some ⟨gL, oL, none⟩) 2 cL), (7, .func (.func 22) #[] #[.pointer (some ⟨g3, 0, none⟩)]), (5, .pointer (some ⟨g3, 0, none⟩)), (4, .pointer (some ⟨g2, 0, none⟩)), (2, .pointer (some ⟨g1, 0, none⟩))] [(g3, 51, #[.slice Ap1 np1 cp1]), (gn1, 5, cur1), (z1, 5, bvs (zs (padN nc))), (z0, 5, bvs (zs (padN na))), (g2, 42, bvs (rb 16 b0s)), (g1, 23, bvs (rb 32 kk))] := H.pick [0, 1, 2, 3, 4, 5, 6, 7, 8, 9, 10, 11, 12, 14, 15, 16, 17, 18, 19] [0, 1, 2, 3, 4, 5] rfl
  refine pl_R (R := SB) (F := fun u_ _ => u_ = .bool false) sb_st (ob_valS H (wanted_none rfl) (does_binOp rfl rfl rfl (i_lss_no (k := (0 + 1 + 1)) (m := 2) (by omega) _ _))) rfl rfl rfl H ?_
  try clear H a
  rintro _ a W rfl hR_ H
  replace hv25 := OF.sb _ _ _ hv25 hR_
  replace hP1 := OX.sb _ _ _ hP1 hR_
  clear hR_
  replace H : St 33 w a W [(14, .bool false), (13, .int .i64 ((0 + 1 + 1 : Nat) : Int)), (26, .int .i64 ((0 + 1 + 1 : Nat) : Int)), (6, .slice (some ⟨gn1, 0, none⟩) 16 cap1), (25, v25), (24, v24), (23, uc nc), (22, .int .i64 ((nc : Nat) : Int)), (21, .slice Ac nc cc), (20, .slice (some ⟨gn0, 0, none⟩) 8 cap0), (18, .slice Ac nc cc), (9, .slice Ac nc cc), (16, .slice Ac nc cc), (15, .pointer (some ⟨gL, oL + 0 + 1, none⟩)), (12, .int .i64 ((2 : Nat) : Int)), (11, .slice (some ⟨gL, oL, none⟩) 2 cL), (7, .func (.func 22) #[] #[.pointer (some ⟨g3, 0, none⟩)]), (5, .pointer (some ⟨g3, 0, none⟩)), (4, .pointer (some ⟨g2, 0, none⟩)), (2, .pointer (some ⟨g1, 0, none⟩))] [(g3, 51, #[.slice Ap1 np1 cp1]), (gn1, 5, cur1), (z1, 5, bvs (zs (padN nc))), (z0, 5, bvs (zs (padN na))), (g2, 42, bvs (rb 16 b0s)), (g1, 23, bvs (rb 32 kk))] := H
  refine pl_end ?_
  replace H : St 33 w a W [(14, .bool false), (13, .int .i64 ((0 + 1 + 1 : Nat) : Int)), (26, .int .i64 ((0 + 1 + 1 : Nat) : Int)), (6, .slice (some ⟨gn1, 0, none⟩) 16 cap1), (25, v25), (24, v24), (23, uc nc), (22, .int .i64 ((nc : Nat) : Int)), (21, .slice Ac nc cc), (20, .slice (some ⟨gn0, 0, none⟩) 8 cap0), (18, .slice Ac nc cc), (9, .slice Ac nc cc), (16, .slice Ac nc cc), (15, .pointer (some ⟨gL, oL + 0 + 1, none⟩)), (11, .slice (some ⟨gL, oL, none⟩) 2 cL), (7, .func (.func 22) #[] #[.pointer (some ⟨g3, 0, none⟩)]), (5, .pointer (some ⟨g3, 0, none⟩)), (4, .pointer (some ⟨g2, 0, none⟩)), (2, .pointer (some ⟨g1, 0, none⟩))] [(g3, 51, #[.slice Ap1 np1 cp1]), (gn1, 5, cur1), (z1, 5, bvs (zs (padN nc))), (z0, 5, bvs (zs (padN na))), (g2, 42, bvs (rb 16 b0s)), (g1, 23, bvs (rb 32 kk))] := H.pick [0, 1, 2, 3, 4, 5, 6, 7, 8, 9, 10, 11, 12, 13, 15, 16, 17, 18, 19] [0, 1, 2, 3, 4, 5] rfl
  refine hK17 _ _ ?_
  clear hK17
  refine wp_seq_k (fun K18 hK18 => ?_)
  refine wp_cond_false (H.ev rfl) ?_
  refine wp_exit ?_
  repeat (with_reducible refine then_exit ?_)
  refine blk_exit ?_
  refine hK5 _ _ ?_
  clear hK5
  refine wp_seq_k (fun K19 hK19 => ?_)
  refine drawnJ SB (WX w.heap.size) (OX w.heap.size [.slice Aa na ca, .slice (some ⟨z0, 0, none⟩) (padN na) (padN na), .slice Ac nc cc, .slice (some ⟨z1, 0, none⟩) (padN nc) (padN nc)] (.slice Ap1 np1 cp1)) 4 [⟨27, fun u_ _ => u_ = .agg (bvs (rb 32 kk)), [], none, false⟩, ⟨28, fun u_ _ => u_ = .slice Ap1 np1 cp1, [], none, false⟩, ⟨29, fun u_ _ => u_ = .slice (some ⟨gn1, 0, none⟩) 16 cap1, [], none, false⟩, ⟨30, RW [.slice (some ⟨gn1, 0, none⟩) 16 cap1], [2], (some 4), false⟩, ⟨31, OX w.heap.size [.slice Aa na ca, .slice (some ⟨z0, 0, none⟩) (padN na) (padN na), .slice Ac nc cc, .slice (some ⟨z1, 0, none⟩) (padN nc) (padN nc), .slice (some ⟨gn1, 0, none⟩) 16 cap1], [1, 3], (some 5), true⟩, ⟨32, fun u_ _ => u_ = .agg (bvs (rb 16 (tagF kk (macB la lc)))), [0, 4], none, false⟩] [0, 0, 0, 4, 10, 17, 63] [5] (fun w_ w2_ h_ hb_ => OX.sb _ _ _ h_ hb_) sb_st (wx_st (noT rfl)) (by kernel_rfl) (by kernel_rfl) (by kernel_rfl) (by kernel_rfl) H hP1 ⟨⟨fun a W H _ => ob_valS H (wanted_none rfl) (does_load rfl rfl (k := 5) rfl Tryd.underlying23 rfl (info_key _)), val_grow, fun _ => val_grow⟩, ⟨fun a W H _ => ob_valS H (wanted_none rfl) (does_loadAt rfl rfl (k := 0) rfl ld_rows), val_grow, fun _ => val_grow⟩, ⟨fun a W H _ => ob_valS H (wanted_none rfl) (does_move rfl rfl), val_grow, fun _ => val_grow⟩, ⟨fun a W y2 hy2 H _ => by subst hy2; exact ob_row1 H (wanted_none rfl) rfl rfl, RW.sb, fun ht_ => by cases ht_⟩, ⟨fun a W y1 hy1 v3 hv3 H hJ => by subst hy1; obtain ⟨r, rfl, hr⟩ := hv3; exact ob_appX (xs := [.slice Aa na ca, .slice (some ⟨z0, 0, none⟩) (padN na) (padN na), .slice Ac nc cc, .slice (some ⟨z1, 0, none⟩) (padN nc) (padN nc)]) (ys := [.slice (some ⟨gn1, 0, none⟩) 16 cap1]) H (wanted_none rfl) rfl rfl rfl (hJ rfl) hr (by simp [Value.oneCell']) (by simp), OX.sb, fun ht_ => by cases ht_⟩, ⟨fun a W y0 hy0 v4 hv4 H _ => by subst hy0; exact ob_calS H (wanted_none rfl) rfl ⟨_, Tryd.func23, by kernel_rfl⟩ rfl (tag_z (L := [la, zs (padN na), lc, zs (padN nc), n8 na ++ n8 nc]) (by rw [← hna, ← hnc]; exact macB_flat la lc) rfl W (hpg.ext H.below) (rf_ox hv4 ((((((PV.nil W _).cons (bs_uc (H.blk (k := 1) rfl) huc1 (H.blk (k := 1) rfl).lt)).cons (BS.ofBlk (H.blk (k := 2) rfl) _ (zs_len _).symm _ (H.blk (k := 2) rfl).lt)).cons (bs_old hbc H)).cons (BS.ofBlk (H.blk (k := 3) rfl) _ (zs_len _).symm _ (H.blk (k := 3) rfl).lt)).cons (bs_old hba H))) (by have := macB_len la lc; omega) (by simp)), val_grow, fun _ => val_grow⟩, trivial⟩ (by kernel_rfl) ?_
  clear H a hP1
  intro a W
  rintro _ rfl
  intro H
  replace H : St 33 w a W [(32, .agg (bvs (rb 16 (tagF kk (macB la lc))))), (14, .bool false), (13, .int .i64 ((0 + 1 + 1 : Nat) : Int)), (26, .int .i64 ((0 + 1 + 1 : Nat) : Int)), (6, .slice (some ⟨gn1, 0, none⟩) 16 cap1), (25, v25), (24, v24), (23, uc nc), (22, .int .i64 ((nc : Nat) : Int)), (21, .slice Ac nc cc), (20, .slice (some ⟨gn0, 0, none⟩) 8 cap0), (18, .slice Ac nc cc), (9, .slice Ac nc cc), (16, .slice Ac nc cc), (15, .pointer (some ⟨gL, oL + 0 + 1, none⟩)), (11, .slice (some ⟨gL, oL, none⟩) 2 cL), (7, .func (.func 22) #[] #[.pointer (some ⟨g3, 0, none⟩)]), (5, .pointer (some ⟨g3, 0, none⟩)), (4, .pointer (some ⟨g2, 0, none⟩)), (2, .pointer (some ⟨g1, 0, none⟩))] [(g3, 51, #[.slice Ap1 np1 cp1]), (gn1, 5, cur1), (z1, 5, bvs (zs (padN nc))), (z0, 5, bvs (zs (padN na))), (g2, 42, bvs (rb 16 b0s)), (g1, 23, bvs (rb 32 kk))] := H
  replace H : St 33 w a W [(32, .agg (bvs (rb 16 (tagF kk (macB la lc))))), (14, .bool false), (13, .int .i64 ((0 + 1 + 1 : Nat) : Int)), (26, .int .i64 ((0 + 1 + 1 : Nat) : Int)), (6, .slice (some ⟨gn1, 0, none⟩) 16 cap1), (24, v24), (23, uc nc), (22, .int .i64 ((nc : Nat) : Int)), (21, .slice Ac nc cc), (20, .slice (some ⟨gn0, 0, none⟩) 8 cap0), (18, .slice Ac nc cc), (9, .slice Ac nc cc), (16, .slice Ac nc cc), (15, .pointer (some ⟨gL, oL + 0 + 1, none⟩)), (11, .slice (some ⟨gL, oL, none⟩) 2 cL), (7, .func (.func 22) #[] #[.pointer (some ⟨g3, 0, none⟩)]), (5, .pointer (some ⟨g3, 0, none⟩)), (4, .pointer (some ⟨g2, 0, none⟩)), (2, .pointer (some ⟨g1, 0, none⟩))] [(g3, 51, #[.slice Ap1 np1 cp1]), (gn1, 5, cur1), (z1, 5, bvs (zs (padN nc))), (z0, 5, bvs (zs (padN na))), (g2, 42, bvs (rb 16 b0s)), (g1, 23, bvs (rb 32 kk))] := H.pick [0, 1, 2, 3, 4, 6, 7, 8, 9, 10, 11, 12, 13, 14, 15, 16, 17, 18, 19] [0, 1, 2, 3, 4, 5] rfl
  refine pl_store rfl rfl rfl (k := 4) rfl (info_mark _) (size_rb _ _ _) (bvs_one _) rfl rfl H ?_
  try clear H a W
  intro a W H
  refine pl_end ?_
  replace H : St 33 w a W [(4, .pointer (some ⟨g2, 0, none⟩))] [(g3, 51, #[.slice Ap1 np1 cp1]), (gn1, 5, cur1), (z1, 5, bvs (zs (padN nc))), (z0, 5, bvs (zs (padN na))), (g2, 42, bvs (rb 16 (tagF kk (macB la lc)))), (g1, 23, bvs (rb 32 kk))] := H.pick [17] [0, 1, 2, 3, 4, 5] rfl
  refine hK19 _ _ ?_
  clear hK19
  refine wp_ret ?_
  repeat (first | (with_reducible refine then_ret ?_) | (with_reducible refine blk_ret ?_))
  refine end_cell (p := 4) rfl rfl (k := 4) rfl Tryd.underlying42 rfl (info_mark _) H (fun hb => ?_)
  exact ⟨rfl, hb⟩
end Go.Proofs.YtghbknebaknmjaaDoor
