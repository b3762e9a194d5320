/- Package aead: what is sealed, what is opened. -/
import Derived.Test.YtghbknebaknmjaaDoorAb
namespace Go.Proofs.YtghbknebaknmjaaDoor
set_option linter.unusedVariables false
set_option linter.unusedSimpArgs false
set_option maxRecDepth 100000
open Go Go.RowKit Cha

theorem xor_1 {v : Value} {l : List UInt8} {k : Nat} (kk nn : Nat → UInt8) (w : World) (hv : BF l v w) (hl : l.length = k) (hlim : k ≤ 1000000) : Calls Tryd.prog 15 #[.agg (bvs (rb 32 kk)), .int .u32 1, .agg (bvs (rb 12 nn)), v] w (fun rr w' => ∃ g, rr = .returned (.slice (some ⟨g, 0, none⟩) k k) ∧ Below w.heap.size w w' ∧ Blk w' g 5 (bvs (encB kk nn l)) ∧ w.heap.size ≤ g) := by
  subst hl
  exact Cha.xor_blk kk 1 nn w hv hlim
theorem equal_z {f g : Nat → UInt8} {b : Bool} (h : decide (rb 16 f = rb 16 g) = b) (w : World) : Calls Tryd.prog 18 #[.agg (bvs (rb 16 f)), .agg (bvs (rb 16 g))] w (fun rr w' => rr = .returned (.bool b) ∧ Below w.heap.size w w') := by
  subst h
  exact equal_any f g w
theorem i_lssZ {k m : Int} {b : Bool} (h : decide (k < m) = b) (p q : Operand) (W : World) : (do eqGuard .lss 3 p q (.int .i64 k) (.int .i64 m); binOp .lss 3 (.int .i64 k) (.int .i64 m) : Sem Value).run Tryd.prog W = .ok (.bool b) W := by
  rw [i_lss, h]
theorem i_sub16 {n : Nat} (h : n ≤ 9223372036854775807) (p q : Operand) (W : World) : (do eqGuard .sub 3 p q (.int .i64 (n : Int)) (.int .i64 16); binOp .sub 3 (.int .i64 (n : Int)) (.int .i64 16) : Sem Value).run Tryd.prog W = .ok (.int .i64 ((n : Int) - 16)) W := i_sub _ _ (by omega) p q W
theorem i_sub16m {m : Nat} (h : m ≤ 100000) (p q : Operand) (W : World) : (do eqGuard .sub 3 p q (.int .i64 ((m + 16 : Nat) : Int)) (.int .i64 16); binOp .sub 3 (.int .i64 ((m + 16 : Nat) : Int)) (.int .i64 16) : Sem Value).run Tryd.prog W = .ok (.int .i64 (m : Int)) W := by
  rw [i_sub _ _ (by omega), show ((m + 16 : Nat) : Int) - 16 = (m : Int) by omega]
theorem elem_bytes : Tryd.prog.elem 25 = 5 := by kernel_rfl
theorem sl_lo {A : Option Addr} {k c K : Nat} (hK : K ≤ c) (W : World) : (Instr.sliceAt 25 (.slice A k c) none (some (.int .i64 (K : Int))) none).run Tryd.prog W = .ok (.slice A K c) W := by
  have ht : Tryd.prog.underlying 25 = some (.slice (Tryd.prog.elem 25)) := by rw [elem_bytes]; exact Tryd.underlying25
  rw [run_sliceAt_slice (h := ht), run_slice_h (ht := ht) (h0 := by omega) (h2 := by omega), elem_bytes, size_u8c]
  simp only [Result.andThen_ok, sliced, Int.toNat_natCast, Nat.zero_mul, Nat.sub_zero, map_add_zero]
  split <;> rfl
theorem sl_hi {b o k c K r : Nat} (hr : K + r = k) (hc : K < c) (W : World) : (Instr.sliceAt 25 (.slice (some ⟨b, o, none⟩) k c) (some (.int .i64 (K : Int))) none none).run Tryd.prog W = .ok (.slice (some ⟨b, o + K, none⟩) r (c - K)) W := by
  subst hr
  have ht : Tryd.prog.underlying 25 = some (.slice (Tryd.prog.elem 25)) := by rw [elem_bytes]; exact Tryd.underlying25
  rw [run_sliceAt_slice (h := ht), run_slice_l (ht := ht) (h0 := by omega) (h1 := by omega), elem_bytes, size_u8c]
  simp only [Result.andThen_ok, sliced, Int.toNat_natCast]
  rw [if_neg (by omega), Nat.add_sub_cancel_left]
  simp only [Option.map_some, Addr.add_lit, Nat.mul_one]
section
variable {P : Program} {n : Nat} {w0 w : World} {a : Act} {e : Env} {h : Hep} {Q : Exit → Act → World → Prop} {o : Oper}
/-- Bytes of a slice that was there at the beginning, as a row. -/
theorem does_loadB {T g k m : Nat} {x : Operand} {f : Nat → UInt8} {d : TypeDesc} (ho : o.op = .load T x) (hx : sev e x = some (.pointer (some ⟨g, k, none⟩))) (hc : ∀ j, j < m → w0.cell? ⟨g, k + j, none⟩ = some (bv (f j))) (hg : g < w0.heap.size) (hu : P.underlying T = some d) (hd : d.isRow = true) (hi : (P.info? T).map (·.size) = some m) : Does P Q n w0 e h o (.agg (bvs (rb m f))) := does_run fun a w H => by
  unfold execOp
  simp only [ho, H.ev hx, Sem.run_bind, ld_bytes hu hd hi (fun j hj => (H.below.cell (p := ⟨g, k + j, none⟩) hg).trans (hc j hj)), Result.andThen_ok, Sem.run_pure]
end
/-- The last bytes. -/
def endF (l : List UInt8) (m i : Nat) : UInt8 := l.getD (m + i) 0
theorem end_cell_ {w : World} {B b o c m : Nat} {l : List UInt8} (h : BS w B (some ⟨b, o, none⟩) (m + 16) c l) : b < B ∧ ∀ j, j < 16 → w.cell? ⟨b, o + m + j, none⟩ = some (bv (endF l m j)) := by
  obtain ⟨b', o', e, hb, hc⟩ := h.at_ (by omega)
  injection e with e
  injection e with e1 e2
  subst e1 e2
  refine ⟨hb, fun j hj => ?_⟩
  have hl : m + j < l.length := by have := h.len; omega
  rw [Nat.add_assoc, hc (m + j) l[m + j] (List.getElem?_eq_getElem hl), bv_def]
  unfold endF
  rw [List.getD_eq_getElem?_getD, List.getElem?_eq_getElem hl]
  rfl
theorem endF_drop {l : List UInt8} {m : Nat} (h : l.length = m + 16) : rb 16 (endF l m) = l.drop m := by
  rw [rb_of (l := l.drop m) (n := 16) (by rw [List.length_drop]; omega)]
  refine rb_ext fun i hi => ?_
  unfold endF
  rw [List.getD_eq_getElem?_getD, List.getD_eq_getElem?_getD, List.getElem?_drop]
attribute [local irreducible] nv bvs rb bv wc uc tagF blockF xorF n8 zs padN macB encB endF
set_option maxHeartbeats 4000000 in
theorem seal_any {va vp : Value} {la lp : List UInt8} (kk nn : Nat → UInt8) (w : World) (hpg : PG w) (hva : BF la va w) (hvp : BF lp vp w) (ha : la.length ≤ 20000) (hp : lp.length ≤ 20000) : Calls Tryd.prog 9 #[.agg (bvs (rb 32 kk)), .agg (bvs (rb 12 nn)), va, vp] w (fun rr w' => ∃ u, rr = .returned u ∧ Below w.heap.size w w' ∧ OwnB w' w.heap.size 5 u (sealB kk nn la lp)) := by
  obtain ⟨Aa, na, ca, rfl, hba⟩ := id hva
  have hna := hba.len
  rw [hna] at ha
  obtain ⟨Ap, np, cp, rfl, hbp⟩ := id hvp
  have hnp := hbp.len
  rw [hnp] at hp
  refine calls_st (vs := [.agg (bvs (rb 32 kk)), .agg (bvs (rb 12 nn)), .slice Aa na ca, .slice Ap np cp]) 25 Tryd.func9 rfl Tryd.ntmps9 rfl (fun a W H => ?_)
  replace H : St 25 w a W [(0, .agg (bvs (rb 32 kk))), (1, .agg (bvs (rb 12 nn))), (2, .slice Aa na ca), (3, .slice Ap np cp)] [] := H
  refine wp_seq_k (fun K1 hK1 => ?_)
  refine rg_plain ?_
  refine pl_box rfl rfl (bx_key kk) rfl rfl rfl rfl H ?_
  try clear H a W
  intro g1 a W H
  refine pl_box rfl rfl (bx_nonce nn) rfl rfl rfl rfl H ?_
  try clear H a W
  intro g2 a W H
  refine pl_does (does_assign rfl rfl) rfl rfl rfl rfl H ?_
  try clear H a W
  intro a W H
  refine pl_end ?_
  replace H : St 25 w a W [(8, .slice none 0 0), (5, .pointer (some ⟨g2, 0, none⟩)), (4, .pointer (some ⟨g1, 0, none⟩)), (2, .slice Aa na ca), (3, .slice Ap np cp)] [(g2, 27, bvs (rb 12 nn)), (g1, 23, bvs (rb 32 kk))] := H.pick [0, 1, 2, 5, 6] [0, 1] rfl
  refine hK1 _ _ ?_
  clear hK1
  refine wp_seq_k (fun K2 hK2 => ?_)
  refine rg_plain ?_
  refine pl_does (does_load rfl rfl (k := 1) rfl Tryd.underlying23 rfl (info_key _)) rfl rfl rfl rfl H ?_
  try clear H a W
  intro a W H
  refine pl_does (does_load rfl rfl (k := 0) rfl Tryd.underlying27 rfl (info_nonce _)) rfl rfl rfl rfl H ?_
  try clear H a W
  intro a W H
  refine pl_does (does_move rfl rfl) rfl rfl rfl rfl H ?_
  try clear H a W
  intro a W H
  refine pl_R (R := SB) (F := SF w.heap.size [(g2, 27, bvs (rb 12 nn)), (g1, 23, bvs (rb 32 kk))] np (encB kk nn lp)) sb_st (ob_callS H (wanted_none rfl) rfl ⟨_, Tryd.func15, by kernel_rfl⟩ rfl (sf_call H (xor_1 kk nn _ (bf_old hvp H) (hnp) (by omega)) ((encB_len _ _ _).trans (hnp)))) rfl rfl rfl H ?_
  try clear H a W
  intro v14 a W hv14 hR_ H
  clear hR_
  replace H : St 25 w a W [(14, v14), (13, .slice Ap np cp), (12, .agg (bvs (rb 12 nn))), (11, .agg (bvs (rb 32 kk))), (8, .slice none 0 0), (5, .pointer (some ⟨g2, 0, none⟩)), (4, .pointer (some ⟨g1, 0, none⟩)), (2, .slice Aa na ca), (3, .slice Ap np cp)] [(g2, 27, bvs (rb 12 nn)), (g1, 23, bvs (rb 32 kk))] := H
  refine pl_R (R := SB) (F := SF w.heap.size [(g2, 27, bvs (rb 12 nn)), (g1, 23, bvs (rb 32 kk))] np (encB kk nn lp)) sb_st (ob_assignS H (wanted_none rfl) rfl rfl hv14) rfl rfl rfl H ?_
  try clear H a
  intro v9 a W hv9 hR_ H
  replace hv14 := SF.sb _ _ _ hv14 hR_
  clear hR_
  replace H : St 25 w a W [(9, v9), (14, v14), (13, .slice Ap np cp), (12, .agg (bvs (rb 12 nn))), (11, .agg (bvs (rb 32 kk))), (8, .slice none 0 0), (5, .pointer (some ⟨g2, 0, none⟩)), (4, .pointer (some ⟨g1, 0, none⟩)), (2, .slice Aa na ca), (3, .slice Ap np cp)] [(g2, 27, bvs (rb 12 nn)), (g1, 23, bvs (rb 32 kk))] := H
  refine pl_end ?_
  replace H : St 25 w a W [(9, v9), (8, .slice none 0 0), (5, .pointer (some ⟨g2, 0, none⟩)), (4, .pointer (some ⟨g1, 0, none⟩)), (2, .slice Aa na ca)] [(g2, 27, bvs (rb 12 nn)), (g1, 23, bvs (rb 32 kk))] := H.pick [0, 5, 6, 7, 8] [0, 1] rfl
  obtain ⟨gc, rfl, hlc, hbc, hBc, hapc⟩ := hv9
  replace H := H.add hbc hBc hapc
  clear hbc hBc hapc
  replace H : St 25 w a W [(9, .slice (some ⟨gc, 0, none⟩) np np), (8, .slice none 0 0), (5, .pointer (some ⟨g2, 0, none⟩)), (4, .pointer (some ⟨g1, 0, none⟩)), (2, .slice Aa na ca)] [(gc, 5, bvs (encB kk nn lp)), (g2, 27, bvs (rb 12 nn)), (g1, 23, bvs (rb 32 kk))] := H
  refine hK2 _ _ ?_
  clear hK2
  refine wp_seq_k (fun K3 hK3 => ?_)
  refine rg_plain ?_
  refine pl_does (does_load rfl rfl (k := 2) rfl Tryd.underlying23 rfl (info_key _)) rfl rfl rfl rfl H ?_
  try clear H a W
  intro a W H
  refine pl_does (does_load rfl rfl (k := 1) rfl Tryd.underlying27 rfl (info_nonce _)) rfl rfl rfl rfl H ?_
  try clear H a W
  intro a W H
  refine pl_does (does_call rfl ⟨_, Tryd.func17, by kernel_rfl⟩ rfl (fun W hb => markKey_any _ _ W)) rfl rfl rfl rfl H ?_
  try clear H a W
  intro a W H
  refine pl_does (does_move rfl rfl) rfl rfl rfl rfl H ?_
  try clear H a W
  intro a W H
  refine pl_does (does_move rfl rfl) rfl rfl rfl rfl H ?_
  try clear H a W
  intro a W H
  refine pl_R (R := SB) (F := LF [la, encB kk nn lp]) sb_st (ob_rows2S H (wanted_none rfl) rfl rfl rfl (bf_old hva H) (bf_whole (H.blk (k := 0) rfl) (hlc))) rfl rfl rfl H ?_
  try clear H a W
  intro v20 a W hv20 hR_ H
  clear hR_
  replace H : St 25 w a W [(20, v20), (19, .slice (some ⟨gc, 0, none⟩) np np), (18, .slice Aa na ca), (17, .agg (bvs (rb 32 (blockF kk 0 nn)))), (16, .agg (bvs (rb 12 nn))), (15, .agg (bvs (rb 32 kk))), (9, .slice (some ⟨gc, 0, none⟩) np np), (8, .slice none 0 0), (5, .pointer (some ⟨g2, 0, none⟩)), (4, .pointer (some ⟨g1, 0, none⟩)), (2, .slice Aa na ca)] [(gc, 5, bvs (encB kk nn lp)), (g2, 27, bvs (rb 12 nn)), (g1, 23, bvs (rb 32 kk))] := H
  refine pl_R (R := SB) (F := fun u_ _ => u_ = .agg (bvs (rb 16 (tagF (blockF kk 0 nn) (macB la (encB kk nn lp)))))) sb_st (ob_calS H (wanted_none rfl) rfl ⟨_, Tryd.func16, by kernel_rfl⟩ rfl (marked_any _ W (hpg.ext H.below) hv20.rf (by rw [hna]; omega) (by rw [hlc]; omega))) rfl rfl rfl H ?_
  try clear H a
  rintro _ a W rfl hR_ H
  replace hv20 := LF.sb _ _ _ hv20 hR_
  clear hR_
  replace H : St 25 w a W [(21, .agg (bvs (rb 16 (tagF (blockF kk 0 nn) (macB la (encB kk nn lp)))))), (20, v20), (19, .slice (some ⟨gc, 0, none⟩) np np), (18, .slice Aa na ca), (17, .agg (bvs (rb 32 (blockF kk 0 nn)))), (16, .agg (bvs (rb 12 nn))), (15, .agg (bvs (rb 32 kk))), (9, .slice (some ⟨gc, 0, none⟩) np np), (8, .slice none 0 0), (5, .pointer (some ⟨g2, 0, none⟩)), (4, .pointer (some ⟨g1, 0, none⟩)), (2, .slice Aa na ca)] [(gc, 5, bvs (encB kk nn lp)), (g2, 27, bvs (rb 12 nn)), (g1, 23, bvs (rb 32 kk))] := H
  replace H : St 25 w a W [(21, .agg (bvs (rb 16 (tagF (blockF kk 0 nn) (macB la (encB kk nn lp)))))), (19, .slice (some ⟨gc, 0, none⟩) np np), (18, .slice Aa na ca), (17, .agg (bvs (rb 32 (blockF kk 0 nn)))), (16, .agg (bvs (rb 12 nn))), (15, .agg (bvs (rb 32 kk))), (9, .slice (some ⟨gc, 0, none⟩) np np), (8, .slice none 0 0), (5, .pointer (some ⟨g2, 0, none⟩)), (4, .pointer (some ⟨g1, 0, none⟩)), (2, .slice Aa na ca)] [(gc, 5, bvs (encB kk nn lp)), (g2, 27, bvs (rb 12 nn)), (g1, 23, bvs (rb 32 kk))] := H.pick [0, 2, 3, 4, 5, 6, 7, 8, 9, 10, 11] [0, 1, 2] rfl
  refine pl_new (news_of rfl al_mark) rfl rfl rfl rfl H ?_
  try clear H a W
  intro g3 a W H
  refine pl_store rfl rfl rfl (k := 0) rfl (info_mark _) (size_rb _ _ _) (bvs_one _) rfl rfl H ?_
  try clear H a W
  intro a W H
  refine pl_end ?_
  replace H : St 25 w a W [(10, .pointer (some ⟨g3, 0, none⟩)), (9, .slice (some ⟨gc, 0, none⟩) np np), (8, .slice none 0 0)] [(g3, 42, bvs (rb 16 (tagF (blockF kk 0 nn) (macB la (encB kk nn lp))))), (gc, 5, bvs (encB kk nn lp)), (g2, 27, bvs (rb 12 nn)), (g1, 23, bvs (rb 32 kk))] := H.pick [0, 7, 8] [0, 1, 2, 3] rfl
  refine hK3 _ _ ?_
  clear hK3
  refine wp_seq_k (fun K4 hK4 => ?_)
  refine rg_plain ?_
  refine pl_does (does_move rfl rfl) rfl rfl rfl rfl H ?_
  try clear H a W
  intro a W H
  refine pl_does (does_slice rfl rfl (vl := none) (vh := none) rfl rfl (sl_m16 g3)) rfl rfl rfl rfl H ?_
  try clear H a W
  intro a W H
  have hO := of_ucK (k := 1) H rfl (uc_whole hlc (by simp only [maxLen]; omega)) (js := [0, 2, 3]) rfl
  replace H : St 25 w a W [(23, .slice (some ⟨g3, 0, none⟩) 16 16), (22, .slice (some ⟨gc, 0, none⟩) np np), (10, .pointer (some ⟨g3, 0, none⟩)), (9, .slice (some ⟨gc, 0, none⟩) np np), (8, .slice none 0 0)] [(g3, 42, bvs (rb 16 (tagF (blockF kk 0 nn) (macB la (encB kk nn lp))))), (g2, 27, bvs (rb 12 nn)), (g1, 23, bvs (rb 32 kk))] := H.pick [0, 1, 2, 3, 4] [0, 2, 3] rfl
  refine pl_R (R := WR w.heap.size [(g3, 42, bvs (rb 16 (tagF (blockF kk 0 nn) (macB la (encB kk nn lp))))), (g2, 27, bvs (rb 12 nn)), (g1, 23, bvs (rb 32 kk))]) (F := OF w.heap.size [(g3, 42, bvs (rb 16 (tagF (blockF kk 0 nn) (macB la (encB kk nn lp))))), (g2, 27, bvs (rb 12 nn)), (g1, 23, bvs (rb 32 kk))] (encB kk nn lp ++ rb 16 (tagF (blockF kk 0 nn) (macB la (encB kk nn lp))))) wr_st (ob_appW H (wanted_none rfl) rfl rfl rfl hO (sl_keyBF (H.blk (k := 0) rfl)) (by rw [hlc, rb_len]; omega)) rfl rfl rfl H ?_
  clear H a
  intro v24 a W hv24 _ H
  replace H : St 25 w a W [(24, v24), (23, .slice (some ⟨g3, 0, none⟩) 16 16), (22, .slice (some ⟨gc, 0, none⟩) np np), (10, .pointer (some ⟨g3, 0, none⟩)), (9, .slice (some ⟨gc, 0, none⟩) np np), (8, .slice none 0 0)] [(g3, 42, bvs (rb 16 (tagF (blockF kk 0 nn) (macB la (encB kk nn lp))))), (g2, 27, bvs (rb 12 nn)), (g1, 23, bvs (rb 32 kk))] := H
  replace H : St 25 w a W [(24, v24), (23, .slice (some ⟨g3, 0, none⟩) 16 16), (22, .slice (some ⟨gc, 0, none⟩) np np), (10, .pointer (some ⟨g3, 0, none⟩)), (9, .slice (some ⟨gc, 0, none⟩) np np)] [(g3, 42, bvs (rb 16 (tagF (blockF kk 0 nn) (macB la (encB kk nn lp))))), (g2, 27, bvs (rb 12 nn)), (g1, 23, bvs (rb 32 kk))] := H.pick [0, 1, 2, 3, 4] [0, 1, 2] rfl
  refine pl_R (R := SB) (F := OF w.heap.size [(g3, 42, bvs (rb 16 (tagF (blockF kk 0 nn) (macB la (encB kk nn lp))))), (g2, 27, bvs (rb 12 nn)), (g1, 23, bvs (rb 32 kk))] (encB kk nn lp ++ rb 16 (tagF (blockF kk 0 nn) (macB la (encB kk nn lp))))) sb_st (ob_assignS H (wanted_none rfl) rfl rfl hv24) rfl rfl rfl H ?_
  try clear H a
  intro v8 a W hv8 hR_ H
  replace hv24 := OF.sb _ _ _ hv24 hR_
  clear hR_
  replace H : St 25 w a W [(8, v8), (24, v24), (23, .slice (some ⟨g3, 0, none⟩) 16 16), (22, .slice (some ⟨gc, 0, none⟩) np np), (10, .pointer (some ⟨g3, 0, none⟩)), (9, .slice (some ⟨gc, 0, none⟩) np np)] [(g3, 42, bvs (rb 16 (tagF (blockF kk 0 nn) (macB la (encB kk nn lp))))), (g2, 27, bvs (rb 12 nn)), (g1, 23, bvs (rb 32 kk))] := H
  refine pl_end ?_
  replace H : St 25 w a W [(8, v8)] [(g3, 42, bvs (rb 16 (tagF (blockF kk 0 nn) (macB la (encB kk nn lp))))), (g2, 27, bvs (rb 12 nn)), (g1, 23, bvs (rb 32 kk))] := H.pick [0] [0, 1, 2] rfl
  refine hK4 _ _ ?_
  clear hK4
  refine wp_ret ?_
  repeat (first | (with_reducible refine then_ret ?_) | (with_reducible refine blk_ret ?_))
  refine end_tmp (p := 8) rfl rfl H (fun hb => ?_)
  exact ⟨_, rfl, hb, hv8.1⟩
set_option maxHeartbeats 4000000 in
theorem open_short {va v : Value} {la l : List UInt8} (kk nn : Nat → UInt8) (w : World) (hva : BF la va w) (hv : BF l v w) (hl : l.length < 16) : Calls Tryd.prog 10 #[.agg (bvs (rb 32 kk)), .agg (bvs (rb 12 nn)), va, v] w (fun rr w' => rr = .returned (.tuple #[.slice none 0 0, .int .i64 8]) ∧ Below w.heap.size w w') := by
  obtain ⟨Aa, na, ca, rfl, hba⟩ := id hva
  obtain ⟨A, n, cap, rfl, hbs⟩ := id hv
  have hn := hbs.len
  rw [hn] at hl
  refine calls_st (vs := [.agg (bvs (rb 32 kk)), .agg (bvs (rb 12 nn)), .slice Aa na ca, .slice A n cap]) 40 Tryd.func10 rfl Tryd.ntmps10 rfl (fun a W H => ?_)
  replace H : St 40 w a W [(0, .agg (bvs (rb 32 kk))), (1, .agg (bvs (rb 12 nn))), (2, .slice Aa na ca), (3, .slice A n cap)] [] := H
  refine wp_seq_k (fun K1 hK1 => ?_)
  refine rg_plain ?_
  refine pl_box rfl rfl (bx_key kk) rfl rfl rfl rfl H ?_
  try clear H a W
  intro g1 a W H
  refine pl_box rfl rfl (bx_nonce nn) rfl rfl rfl rfl H ?_
  try clear H a W
  intro g2 a W H
  refine pl_does (does_assign rfl rfl) rfl rfl rfl rfl H ?_
  try clear H a W
  intro a W H
  refine pl_does (does_assign rfl rfl) rfl rfl rfl rfl H ?_
  try clear H a W
  intro a W H
  refine pl_end ?_
  replace H : St 40 w a W [(9, .int .i64 0), (8, .slice none 0 0), (5, .pointer (some ⟨g2, 0, none⟩)), (4, .pointer (some ⟨g1, 0, none⟩)), (2, .slice Aa na ca), (3, .slice A n cap)] [(g2, 27, bvs (rb 12 nn)), (g1, 23, bvs (rb 32 kk))] := H.pick [0, 1, 2, 3, 6, 7] [0, 1] rfl
  refine hK1 _ _ ?_
  clear hK1
  refine wp_seq_k (fun K2 hK2 => ?_)
  refine rg_plain ?_
  refine pl_does (does_move rfl rfl) rfl rfl rfl rfl H ?_
  try clear H a W
  intro a W H
  refine pl_does (does_len Tryd.underlying25 rfl rfl) rfl rfl rfl rfl H ?_
  try clear H a W
  intro a W H
  refine pl_does (does_binOp rfl rfl rfl (i_sub16 (by omega) _ _)) rfl rfl rfl rfl H ?_
  try clear H a W
  intro a W H
  refine pl_does (does_assign rfl rfl) rfl rfl rfl rfl H ?_
  try clear H a W
  intro a W H
  refine pl_end ?_
  replace H : St 40 w a W [(10, .int .i64 ((n : Int) - 16)), (9, .int .i64 0), (8, .slice none 0 0), (5, .pointer (some ⟨g2, 0, none⟩)), (4, .pointer (some ⟨g1, 0, none⟩)), (2, .slice Aa na ca), (3, .slice A n cap)] [(g2, 27, bvs (rb 12 nn)), (g1, 23, bvs (rb 32 kk))] := H.pick [0, 4, 5, 6, 7, 8, 9] [0, 1] rfl
  refine hK2 _ _ ?_
  clear hK2
  refine wp_seq_k (fun K3 hK3 => ?_)
  refine wp_seq_k (fun K4 hK4 => ?_)
  refine rg_plain ?_
  refine pl_does (does_move rfl rfl) rfl rfl rfl rfl H ?_
  try clear H a W
  intro a W H
  refine pl_does (does_binOp rfl rfl rfl (i_lssZ (decide_eq_true (by omega)) _ _)) rfl rfl rfl rfl H ?_
  try clear H a W
  intro a W H
  refine pl_end ?_
  replace H : St 40 w a W [(17, .bool true), (10, .int .i64 ((n : Int) - 16)), (9, .int .i64 0), (8, .slice none 0 0), (5, .pointer (some ⟨g2, 0, none⟩)), (4, .pointer (some ⟨g1, 0, none⟩)), (2, .slice Aa na ca), (3, .slice A n cap)] [(g2, 27, bvs (rb 12 nn)), (g1, 23, bvs (rb 32 kk))] := H.pick [0, 2, 3, 4, 5, 6, 7, 8] [0, 1] rfl
  refine hK4 _ _ ?_
  clear hK4
  refine wp_cond_true (H.ev rfl) ?_
  refine wp_seq_k (fun K5 hK5 => ?_)
  refine rg_plain ?_
  replace H : St 40 w a W [(17, .bool true), (10, .int .i64 ((n : Int) - 16)), (9, .int .i64 0), (5, .pointer (some ⟨g2, 0, none⟩)), (4, .pointer (some ⟨g1, 0, none⟩)), (2, .slice Aa na ca), (3, .slice A n cap)] [(g2, 27, bvs (rb 12 nn)), (g1, 23, bvs (rb 32 kk))] := H.pick [0, 1, 2, 4, 5, 6, 7] [0, 1] rfl
  refine pl_does (does_assign rfl rfl) rfl rfl rfl rfl H ?_
  try clear H a W
  intro a W H
  replace H : St 40 w a W [(8, .slice none 0 0), (17, .bool true), (10, .int .i64 ((n : Int) - 16)), (5, .pointer (some ⟨g2, 0, none⟩)), (4, .pointer (some ⟨g1, 0, none⟩)), (2, .slice Aa na ca), (3, .slice A n cap)] [(g2, 27, bvs (rb 12 nn)), (g1, 23, bvs (rb 32 kk))] := H.pick [0, 1, 2, 4, 5, 6, 7] [0, 1] rfl
  refine pl_does (does_assign rfl rfl) rfl rfl rfl rfl H ?_
  try clear H a W
  intro a W H
  refine pl_end ?_
  replace H : St 40 w a W [(9, .int .i64 8), (8, .slice none 0 0), (10, .int .i64 ((n : Int) - 16)), (5, .pointer (some ⟨g2, 0, none⟩)), (4, .pointer (some ⟨g1, 0, none⟩)), (2, .slice Aa na ca), (3, .slice A n cap)] [(g2, 27, bvs (rb 12 nn)), (g1, 23, bvs (rb 32 kk))] := H.pick [0, 1, 3, 4, 5, 6, 7] [0, 1] rfl
  refine hK5 _ _ ?_
  clear hK5
  refine wp_ret ?_
  repeat (first | (with_reducible refine then_ret ?_) | (with_reducible refine blk_ret ?_))
  refine end_tmps (p := 8) (q := 9) rfl rfl rfl H (fun hb => ?_)
  exact ⟨rfl, hb⟩
set_option maxHeartbeats 4000000 in
theorem open_no {va v : Value} {la l : List UInt8} (kk nn : Nat → UInt8) (w : World) {m : Nat} (hpg : PG w) (hva : BF la va w) (hv : BF l v w) (ha : la.length ≤ 20000) (hl : l.length = m + 16) (hm : m ≤ 20000) (hq : decide (rb 16 (endF l m) = rb 16 (tagF (blockF kk 0 nn) (macB la (l.take m)))) = false) : Calls Tryd.prog 10 #[.agg (bvs (rb 32 kk)), .agg (bvs (rb 12 nn)), va, v] w (fun rr w' => rr = .returned (.tuple #[.slice none 0 0, .int .i64 8]) ∧ Below w.heap.size w w') := by
  obtain ⟨Aa, na, ca, rfl, hba⟩ := id hva
  have hna := hba.len
  rw [hna] at ha
  have hnl : m ≤ 20000 := by omega
  obtain ⟨A, n, cap, rfl, hbs⟩ := id hv
  obtain rfl : m + 16 = n := by rw [← hl]; exact hbs.len
  obtain ⟨gb, ob, rfl, _, _⟩ := hbs.at_ (by omega)
  obtain ⟨hgb, hcells⟩ := end_cell_ hbs
  have hcap := hbs.cap
  have hvc : BF (l.take m) (.slice (some ⟨gb, ob, none⟩) m cap) w := ⟨_, _, _, rfl, hbs.head2 (by omega)⟩
  have hnt : (l.take m).length = m := by rw [List.length_take]; omega
  refine calls_st (vs := [.agg (bvs (rb 32 kk)), .agg (bvs (rb 12 nn)), .slice Aa na ca, .slice (some ⟨gb, ob, none⟩) (m + 16) cap]) 40 Tryd.func10 rfl Tryd.ntmps10 rfl (fun a W H => ?_)
  replace H : St 40 w a W [(0, .agg (bvs (rb 32 kk))), (1, .agg (bvs (rb 12 nn))), (2, .slice Aa na ca), (3, .slice (some ⟨gb, ob, none⟩) (m + 16) cap)] [] := H
  refine wp_seq_k (fun K1 hK1 => ?_)
  refine rg_plain ?_
  refine pl_box rfl rfl (bx_key kk) rfl rfl rfl rfl H ?_
  try clear H a W
  intro g1 a W H
  refine pl_box rfl rfl (bx_nonce nn) rfl rfl rfl rfl H ?_
  try clear H a W
  intro g2 a W H
  refine pl_does (does_assign rfl rfl) rfl rfl rfl rfl H ?_
  try clear H a W
  intro a W H
  refine pl_does (does_assign rfl rfl) rfl rfl rfl rfl H ?_
  try clear H a W
  intro a W H
  refine pl_end ?_
  replace H : St 40 w a W [(9, .int .i64 0), (8, .slice none 0 0), (5, .pointer (some ⟨g2, 0, none⟩)), (4, .pointer (some ⟨g1, 0, none⟩)), (2, .slice Aa na ca), (3, .slice (some ⟨gb, ob, none⟩) (m + 16) cap)] [(g2, 27, bvs (rb 12 nn)), (g1, 23, bvs (rb 32 kk))] := H.pick [0, 1, 2, 3, 6, 7] [0, 1] rfl
  refine hK1 _ _ ?_
  clear hK1
  refine wp_seq_k (fun K2 hK2 => ?_)
  refine rg_plain ?_
  refine pl_does (does_move rfl rfl) rfl rfl rfl rfl H ?_
  try clear H a W
  intro a W H
  refine pl_does (does_len Tryd.underlying25 rfl rfl) rfl rfl rfl rfl H ?_
  try clear H a W
  intro a W H
  refine pl_does (does_binOp rfl rfl rfl (i_sub16m (by omega) _ _)) rfl rfl rfl rfl H ?_
  try clear H a W
  intro a W H
  refine pl_does (does_assign rfl rfl) rfl rfl rfl rfl H ?_
  try clear H a W
  intro a W H
  refine pl_end ?_
  replace H : St 40 w a W [(10, .int .i64 ((m : Nat) : Int)), (9, .int .i64 0), (8, .slice none 0 0), (5, .pointer (some ⟨g2, 0, none⟩)), (4, .pointer (some ⟨g1, 0, none⟩)), (2, .slice Aa na ca), (3, .slice (some ⟨gb, ob, none⟩) (m + 16) cap)] [(g2, 27, bvs (rb 12 nn)), (g1, 23, bvs (rb 32 kk))] := H.pick [0, 4, 5, 6, 7, 8, 9] [0, 1] rfl
  refine hK2 _ _ ?_
  clear hK2
  refine wp_seq_k (fun K3 hK3 => ?_)
  refine wp_seq_k (fun K4 hK4 => ?_)
  refine rg_plain ?_
  refine pl_does (does_move rfl rfl) rfl rfl rfl rfl H ?_
  try clear H a W
  intro a W H
  refine pl_does (does_binOp rfl rfl rfl (i_lssZ (decide_eq_false (by omega)) _ _)) rfl rfl rfl rfl H ?_
  try clear H a W
  intro a W H
  refine pl_end ?_
  replace H : St 40 w a W [(17, .bool false), (10, .int .i64 ((m : Nat) : Int)), (9, .int .i64 0), (8, .slice none 0 0), (5, .pointer (some ⟨g2, 0, none⟩)), (4, .pointer (some ⟨g1, 0, none⟩)), (2, .slice Aa na ca), (3, .slice (some ⟨gb, ob, none⟩) (m + 16) cap)] [(g2, 27, bvs (rb 12 nn)), (g1, 23, bvs (rb 32 kk))] := H.pick [0, 2, 3, 4, 5, 6, 7, 8] [0, 1] rfl
  refine hK4 _ _ ?_
  clear hK4
  refine wp_cond_false (H.ev rfl) ?_
  refine wp_skip ?_
  refine hK3 _ _ ?_
  clear hK3
  refine wp_seq_k (fun K5 hK5 => ?_)
  refine drawnS [.val 18 (.slice (some ⟨gb, ob, none⟩) (m + 16) cap) [] [], .val 19 (.int .i64 ((m : Nat) : Int)) [] [], .val 20 (.slice (some ⟨gb, ob, none⟩) m cap) [0, 1] [], .val 21 (.slice (some ⟨gb, ob, none⟩) (m + 16) cap) [] [], .val 22 (.int .i64 ((m : Nat) : Int)) [] [], .val 23 (.slice (some ⟨gb, ob + m, none⟩) 16 (cap - m)) [3, 4] [], .val 24 (.pointer (some ⟨gb, ob + m, none⟩)) [5] [], .val 25 (.agg (bvs (rb 16 (endF l m)))) [6] [], .new 12 42 (bvs (rb 16 b0s)), .val 11 (.slice (some ⟨gb, ob, none⟩) m cap) [2] [], .ston 8 12 42 (bvs (rb 16 b0s)) (bvs (rb 16 (endF l m))) [7]] [0, 0, 3, 0, 0, 24, 32, 64, 0, 263, 1023] (by kernel_rfl) (by kernel_rfl) (by kernel_rfl) H ⟨⟨does_move rfl rfl, wanted_none rfl⟩, ⟨does_move rfl rfl, wanted_none rfl⟩, ⟨does_slice rfl rfl (vl := none) (vh := some (.int .i64 (m : Int))) rfl rfl (sl_lo (by omega)), wanted_none rfl⟩, ⟨does_move rfl rfl, wanted_none rfl⟩, ⟨does_move rfl rfl, wanted_none rfl⟩, ⟨does_slice rfl rfl (vl := some (.int .i64 (m : Int))) (vh := none) rfl rfl (sl_hi rfl (by omega)), wanted_none rfl⟩, ⟨does_s2a rfl rfl Tryd.underlying42 (by omega), wanted_none rfl⟩, ⟨does_loadB rfl rfl hcells hgb Tryd.underlying42 rfl (by kernel_rfl), wanted_none rfl⟩, ⟨news_of rfl al_mark, rfl⟩, ⟨does_assign rfl rfl, wanted_none rfl⟩, ⟨rfl, rfl, fun g => sto_row rfl rfl rfl (info_mark _) (size_rb _ _ _) (bvs_one _)⟩, trivial⟩ ?_
  try clear H a W
  intro G3 a W H
  replace H : St 40 w a W [(18, .slice (some ⟨gb, ob, none⟩) (m + 16) cap), (19, .int .i64 ((m : Nat) : Int)), (20, .slice (some ⟨gb, ob, none⟩) m cap), (21, .slice (some ⟨gb, ob, none⟩) (m + 16) cap), (22, .int .i64 ((m : Nat) : Int)), (23, .slice (some ⟨gb, ob + m, none⟩) 16 (cap - m)), (24, .pointer (some ⟨gb, ob + m, none⟩)), (25, .agg (bvs (rb 16 (endF l m)))), (12, .pointer (some ⟨(G3 8), 0, none⟩)), (11, .slice (some ⟨gb, ob, none⟩) m cap), (17, .bool false), (10, .int .i64 ((m : Nat) : Int)), (9, .int .i64 0), (8, .slice none 0 0), (5, .pointer (some ⟨g2, 0, none⟩)), (4, .pointer (some ⟨g1, 0, none⟩)), (2, .slice Aa na ca), (3, .slice (some ⟨gb, ob, none⟩) (m + 16) cap)] [((G3 8), 42, bvs (rb 16 (endF l m))), (g2, 27, bvs (rb 12 nn)), (g1, 23, bvs (rb 32 kk))] := H
  replace H : St 40 w a W [(12, .pointer (some ⟨(G3 8), 0, none⟩)), (11, .slice (some ⟨gb, ob, none⟩) m cap), (9, .int .i64 0), (8, .slice none 0 0), (5, .pointer (some ⟨g2, 0, none⟩)), (4, .pointer (some ⟨g1, 0, none⟩)), (2, .slice Aa na ca)] [((G3 8), 42, bvs (rb 16 (endF l m))), (g2, 27, bvs (rb 12 nn)), (g1, 23, bvs (rb 32 kk))] := H.pick [8, 9, 12, 13, 14, 15, 16] [0, 1, 2] rfl
  refine hK5 _ _ ?_
  clear hK5
  refine wp_seq_k (fun K6 hK6 => ?_)
  refine wp_seq_k (fun K7 hK7 => ?_)
  refine drawnR SB SB [⟨26, fun u_ _ => u_ = .agg (bvs (rb 16 (endF l m))), [], none, false⟩, ⟨27, fun u_ _ => u_ = .agg (bvs (rb 32 kk)), [], none, false⟩, ⟨28, fun u_ _ => u_ = .agg (bvs (rb 12 nn)), [], none, false⟩, ⟨29, fun u_ _ => u_ = .agg (bvs (rb 32 (blockF kk 0 nn))), [1, 2], none, false⟩, ⟨30, fun u_ _ => u_ = .slice Aa na ca, [], none, false⟩, ⟨31, fun u_ _ => u_ = .slice (some ⟨gb, ob, none⟩) m cap, [], none, false⟩, ⟨32, LF [la, l.take m], [4, 5], none, false⟩, ⟨33, fun u_ _ => u_ = .agg (bvs (rb 16 (tagF (blockF kk 0 nn) (macB la (l.take m))))), [3, 6], none, false⟩, ⟨34, fun u_ _ => u_ = .bool false, [0, 7], none, false⟩, ⟨35, fun u_ _ => u_ = .bool true, [8], none, false⟩] [0, 0, 0, 6, 0, 0, 48, 72, 129, 256] [9] sb_st sb_st (by kernel_rfl) (by kernel_rfl) (by kernel_rfl) H ⟨⟨fun a W  H => by exact ob_valS H (wanted_none rfl) (does_load rfl rfl (k := 0) rfl Tryd.underlying42 rfl (info_mark _)), val_grow, fun _ => val_grow⟩, ⟨fun a W  H => by exact ob_valS H (wanted_none rfl) (does_load rfl rfl (k := 2) rfl Tryd.underlying23 rfl (info_key _)), val_grow, fun _ => val_grow⟩, ⟨fun a W  H => by exact ob_valS H (wanted_none rfl) (does_load rfl rfl (k := 1) rfl Tryd.underlying27 rfl (info_nonce _)), val_grow, fun _ => val_grow⟩, ⟨fun a W y1 hy1 y2 hy2 H => by subst hy1; subst hy2; exact ob_calS H (wanted_none rfl) rfl ⟨_, Tryd.func17, by kernel_rfl⟩ rfl (markKey_any _ _ W), val_grow, fun _ => val_grow⟩, ⟨fun a W  H => by exact ob_valS H (wanted_none rfl) (does_move rfl rfl), val_grow, fun _ => val_grow⟩, ⟨fun a W  H => by exact ob_valS H (wanted_none rfl) (does_move rfl rfl), val_grow, fun _ => val_grow⟩, ⟨fun a W y4 hy4 y5 hy5 H => by subst hy4; subst hy5; exact ob_rows2S H (wanted_none rfl) rfl rfl rfl (bf_old hva H) (bf_old hvc H), LF.sb, fun _ => LF.sb⟩, ⟨fun a W y3 hy3 v32 hv32 H => by subst hy3; exact ob_calS H (wanted_none rfl) rfl ⟨_, Tryd.func16, by kernel_rfl⟩ rfl (marked_any _ W (hpg.ext H.below) hv32.rf (by rw [hna]; omega) (by rw [hnt]; omega)), val_grow, fun _ => val_grow⟩, ⟨fun a W y0 hy0 y7 hy7 H => by subst hy0; subst hy7; exact ob_calS H (wanted_none rfl) rfl ⟨_, Tryd.func18, by kernel_rfl⟩ rfl (equal_z hq W), val_grow, fun _ => val_grow⟩, ⟨fun a W y8 hy8 H => by subst hy8; exact ob_valS H (wanted_none rfl) (does_unOp rfl rfl (fun _ => rfl)), val_grow, fun _ => val_grow⟩, trivial⟩ (by kernel_rfl) ?_
  try clear H a W
  intro a W
  rintro _ rfl
  intro H
  replace H : St 40 w a W [(35, .bool true), (12, .pointer (some ⟨(G3 8), 0, none⟩)), (11, .slice (some ⟨gb, ob, none⟩) m cap), (9, .int .i64 0), (8, .slice none 0 0), (5, .pointer (some ⟨g2, 0, none⟩)), (4, .pointer (some ⟨g1, 0, none⟩)), (2, .slice Aa na ca)] [((G3 8), 42, bvs (rb 16 (endF l m))), (g2, 27, bvs (rb 12 nn)), (g1, 23, bvs (rb 32 kk))] := H
  refine pl_end ?_
  replace H : St 40 w a W [(35, .bool true), (11, .slice (some ⟨gb, ob, none⟩) m cap), (9, .int .i64 0), (8, .slice none 0 0), (5, .pointer (some ⟨g2, 0, none⟩)), (4, .pointer (some ⟨g1, 0, none⟩))] [((G3 8), 42, bvs (rb 16 (endF l m))), (g2, 27, bvs (rb 12 nn)), (g1, 23, bvs (rb 32 kk))] := H.pick [0, 2, 3, 4, 5, 6] [0, 1, 2] rfl
  refine hK7 _ _ ?_
  clear hK7
  refine wp_cond_true (H.ev rfl) ?_
  refine wp_seq_k (fun K8 hK8 => ?_)
  refine rg_plain ?_
  replace H : St 40 w a W [(35, .bool true), (11, .slice (some ⟨gb, ob, none⟩) m cap), (9, .int .i64 0), (5, .pointer (some ⟨g2, 0, none⟩)), (4, .pointer (some ⟨g1, 0, none⟩))] [((G3 8), 42, bvs (rb 16 (endF l m))), (g2, 27, bvs (rb 12 nn)), (g1, 23, bvs (rb 32 kk))] := H.pick [0, 1, 2, 4, 5] [0, 1, 2] rfl
  refine pl_does (does_assign rfl rfl) rfl rfl rfl rfl H ?_
  try clear H a W
  intro a W H
  replace H : St 40 w a W [(8, .slice none 0 0), (35, .bool true), (11, .slice (some ⟨gb, ob, none⟩) m cap), (5, .pointer (some ⟨g2, 0, none⟩)), (4, .pointer (some ⟨g1, 0, none⟩))] [((G3 8), 42, bvs (rb 16 (endF l m))), (g2, 27, bvs (rb 12 nn)), (g1, 23, bvs (rb 32 kk))] := H.pick [0, 1, 2, 4, 5] [0, 1, 2] rfl
  refine pl_does (does_assign rfl rfl) rfl rfl rfl rfl H ?_
  try clear H a W
  intro a W H
  refine pl_end ?_
  replace H : St 40 w a W [(9, .int .i64 8), (8, .slice none 0 0), (11, .slice (some ⟨gb, ob, none⟩) m cap), (5, .pointer (some ⟨g2, 0, none⟩)), (4, .pointer (some ⟨g1, 0, none⟩))] [((G3 8), 42, bvs (rb 16 (endF l m))), (g2, 27, bvs (rb 12 nn)), (g1, 23, bvs (rb 32 kk))] := H.pick [0, 1, 3, 4, 5] [0, 1, 2] rfl
  refine hK8 _ _ ?_
  clear hK8
  refine wp_ret ?_
  repeat (first | (with_reducible refine then_ret ?_) | (with_reducible refine blk_ret ?_))
  refine end_tmps (p := 8) (q := 9) rfl rfl rfl H (fun hb => ?_)
  exact ⟨rfl, hb⟩
set_option maxHeartbeats 4000000 in
theorem open_yes {va v : Value} {la l : List UInt8} (kk nn : Nat → UInt8) (w : World) {m : Nat} (hpg : PG w) (hva : BF la va w) (hv : BF l v w) (ha : la.length ≤ 20000) (hl : l.length = m + 16) (hm : m ≤ 20000) (hq : decide (rb 16 (endF l m) = rb 16 (tagF (blockF kk 0 nn) (macB la (l.take m)))) = true) : Calls Tryd.prog 10 #[.agg (bvs (rb 32 kk)), .agg (bvs (rb 12 nn)), va, v] w (fun rr w' => ∃ u, rr = .returned (.tuple #[u, .int .i64 0]) ∧ Below w.heap.size w w' ∧ BF (encB kk nn (l.take m)) u w') := by
  obtain ⟨Aa, na, ca, rfl, hba⟩ := id hva
  have hna := hba.len
  rw [hna] at ha
  have hnl : m ≤ 20000 := by omega
  obtain ⟨A, n, cap, rfl, hbs⟩ := id hv
  obtain rfl : m + 16 = n := by rw [← hl]; exact hbs.len
  obtain ⟨gb, ob, rfl, _, _⟩ := hbs.at_ (by omega)
  obtain ⟨hgb, hcells⟩ := end_cell_ hbs
  have hcap := hbs.cap
  have hvc : BF (l.take m) (.slice (some ⟨gb, ob, none⟩) m cap) w := ⟨_, _, _, rfl, hbs.head2 (by omega)⟩
  have hnt : (l.take m).length = m := by rw [List.length_take]; omega
  refine calls_st (vs := [.agg (bvs (rb 32 kk)), .agg (bvs (rb 12 nn)), .slice Aa na ca, .slice (some ⟨gb, ob, none⟩) (m + 16) cap]) 40 Tryd.func10 rfl Tryd.ntmps10 rfl (fun a W H => ?_)
  replace H : St 40 w a W [(0, .agg (bvs (rb 32 kk))), (1, .agg (bvs (rb 12 nn))), (2, .slice Aa na ca), (3, .slice (some ⟨gb, ob, none⟩) (m + 16) cap)] [] := H
  refine wp_seq_k (fun K1 hK1 => ?_)
  refine rg_plain ?_
  refine pl_box rfl rfl (bx_key kk) rfl rfl rfl rfl H ?_
  try clear H a W
  intro g1 a W H
  refine pl_box rfl rfl (bx_nonce nn) rfl rfl rfl rfl H ?_
  try clear H a W
  intro g2 a W H
  refine pl_does (does_assign rfl rfl) rfl rfl rfl rfl H ?_
  try clear H a W
  intro a W H
  refine pl_does (does_assign rfl rfl) rfl rfl rfl rfl H ?_
  try clear H a W
  intro a W H
  refine pl_end ?_
  replace H : St 40 w a W [(9, .int .i64 0), (8, .slice none 0 0), (5, .pointer (some ⟨g2, 0, none⟩)), (4, .pointer (some ⟨g1, 0, none⟩)), (2, .slice Aa na ca), (3, .slice (some ⟨gb, ob, none⟩) (m + 16) cap)] [(g2, 27, bvs (rb 12 nn)), (g1, 23, bvs (rb 32 kk))] := H.pick [0, 1, 2, 3, 6, 7] [0, 1] rfl
  refine hK1 _ _ ?_
  clear hK1
  refine wp_seq_k (fun K2 hK2 => ?_)
  refine rg_plain ?_
  refine pl_does (does_move rfl rfl) rfl rfl rfl rfl H ?_
  try clear H a W
  intro a W H
  refine pl_does (does_len Tryd.underlying25 rfl rfl) rfl rfl rfl rfl H ?_
  try clear H a W
  intro a W H
  refine pl_does (does_binOp rfl rfl rfl (i_sub16m (by omega) _ _)) rfl rfl rfl rfl H ?_
  try clear H a W
  intro a W H
  refine pl_does (does_assign rfl rfl) rfl rfl rfl rfl H ?_
  try clear H a W
  intro a W H
  refine pl_end ?_
  replace H : St 40 w a W [(10, .int .i64 ((m : Nat) : Int)), (9, .int .i64 0), (8, .slice none 0 0), (5, .pointer (some ⟨g2, 0, none⟩)), (4, .pointer (some ⟨g1, 0, none⟩)), (2, .slice Aa na ca), (3, .slice (some ⟨gb, ob, none⟩) (m + 16) cap)] [(g2, 27, bvs (rb 12 nn)), (g1, 23, bvs (rb 32 kk))] := H.pick [0, 4, 5, 6, 7, 8, 9] [0, 1] rfl
  refine hK2 _ _ ?_
  clear hK2
  refine wp_seq_k (fun K3 hK3 => ?_)
  refine wp_seq_k (fun K4 hK4 => ?_)
  refine rg_plain ?_
  refine pl_does (does_move rfl rfl) rfl rfl rfl rfl H ?_
  try clear H a W
  intro a W H
  refine pl_does (does_binOp rfl rfl rfl (i_lssZ (decide_eq_false (by omega)) _ _)) rfl rfl rfl rfl H ?_
  try clear H a W
  intro a W H
  refine pl_end ?_
  replace H : St 40 w a W [(17, .bool false), (10, .int .i64 ((m : Nat) : Int)), (9, .int .i64 0), (8, .slice none 0 0), (5, .pointer (some ⟨g2, 0, none⟩)), (4, .pointer (some ⟨g1, 0, none⟩)), (2, .slice Aa na ca), (3, .slice (some ⟨gb, ob, none⟩) (m + 16) cap)] [(g2, 27, bvs (rb 12 nn)), (g1, 23, bvs (rb 32 kk))] := H.pick [0, 2, 3, 4, 5, 6, 7, 8] [0, 1] rfl
  refine hK4 _ _ ?_
  clear hK4
  refine wp_cond_false (H.ev rfl) ?_
  refine wp_skip ?_
  refine hK3 _ _ ?_
  clear hK3
  refine wp_seq_k (fun K5 hK5 => ?_)
  refine drawnS [.val 18 (.slice (some ⟨gb, ob, none⟩) (m + 16) cap) [] [], .val 19 (.int .i64 ((m : Nat) : Int)) [] [], .val 20 (.slice (some ⟨gb, ob, none⟩) m cap) [0, 1] [], .val 21 (.slice (some ⟨gb, ob, none⟩) (m + 16) cap) [] [], .val 22 (.int .i64 ((m : Nat) : Int)) [] [], .val 23 (.slice (some ⟨gb, ob + m, none⟩) 16 (cap - m)) [3, 4] [], .val 24 (.pointer (some ⟨gb, ob + m, none⟩)) [5] [], .val 25 (.agg (bvs (rb 16 (endF l m)))) [6] [], .new 12 42 (bvs (rb 16 b0s)), .val 11 (.slice (some ⟨gb, ob, none⟩) m cap) [2] [], .ston 8 12 42 (bvs (rb 16 b0s)) (bvs (rb 16 (endF l m))) [7]] [0, 0, 3, 0, 0, 24, 32, 64, 0, 263, 1023] (by kernel_rfl) (by kernel_rfl) (by kernel_rfl) H ⟨⟨does_move rfl rfl, wanted_none rfl⟩, ⟨does_move rfl rfl, wanted_none rfl⟩, ⟨does_slice rfl rfl (vl := none) (vh := some (.int .i64 (m : Int))) rfl rfl (sl_lo (by omega)), wanted_none rfl⟩, ⟨does_move rfl rfl, wanted_none rfl⟩, ⟨does_move rfl rfl, wanted_none rfl⟩, ⟨does_slice rfl rfl (vl := some (.int .i64 (m : Int))) (vh := none) rfl rfl (sl_hi rfl (by omega)), wanted_none rfl⟩, ⟨does_s2a rfl rfl Tryd.underlying42 (by omega), wanted_none rfl⟩, ⟨does_loadB rfl rfl hcells hgb Tryd.underlying42 rfl (by kernel_rfl), wanted_none rfl⟩, ⟨news_of rfl al_mark, rfl⟩, ⟨does_assign rfl rfl, wanted_none rfl⟩, ⟨rfl, rfl, fun g => sto_row rfl rfl rfl (info_mark _) (size_rb _ _ _) (bvs_one _)⟩, trivial⟩ ?_
  try clear H a W
  intro G3 a W H
  replace H : St 40 w a W [(18, .slice (some ⟨gb, ob, none⟩) (m + 16) cap), (19, .int .i64 ((m : Nat) : Int)), (20, .slice (some ⟨gb, ob, none⟩) m cap), (21, .slice (some ⟨gb, ob, none⟩) (m + 16) cap), (22, .int .i64 ((m : Nat) : Int)), (23, .slice (some ⟨gb, ob + m, none⟩) 16 (cap - m)), (24, .pointer (some ⟨gb, ob + m, none⟩)), (25, .agg (bvs (rb 16 (endF l m)))), (12, .pointer (some ⟨(G3 8), 0, none⟩)), (11, .slice (some ⟨gb, ob, none⟩) m cap), (17, .bool false), (10, .int .i64 ((m : Nat) : Int)), (9, .int .i64 0), (8, .slice none 0 0), (5, .pointer (some ⟨g2, 0, none⟩)), (4, .pointer (some ⟨g1, 0, none⟩)), (2, .slice Aa na ca), (3, .slice (some ⟨gb, ob, none⟩) (m + 16) cap)] [((G3 8), 42, bvs (rb 16 (endF l m))), (g2, 27, bvs (rb 12 nn)), (g1, 23, bvs (rb 32 kk))] := H
  replace H : St 40 w a W [(12, .pointer (some ⟨(G3 8), 0, none⟩)), (11, .slice (some ⟨gb, ob, none⟩) m cap), (9, .int .i64 0), (8, .slice none 0 0), (5, .pointer (some ⟨g2, 0, none⟩)), (4, .pointer (some ⟨g1, 0, none⟩)), (2, .slice Aa na ca)] [((G3 8), 42, bvs (rb 16 (endF l m))), (g2, 27, bvs (rb 12 nn)), (g1, 23, bvs (rb 32 kk))] := H.pick [8, 9, 12, 13, 14, 15, 16] [0, 1, 2] rfl
  refine hK5 _ _ ?_
  clear hK5
  refine wp_seq_k (fun K6 hK6 => ?_)
  refine wp_seq_k (fun K7 hK7 => ?_)
  refine drawnR SB SB [⟨26, fun u_ _ => u_ = .agg (bvs (rb 16 (endF l m))), [], none, false⟩, ⟨27, fun u_ _ => u_ = .agg (bvs (rb 32 kk)), [], none, false⟩, ⟨28, fun u_ _ => u_ = .agg (bvs (rb 12 nn)), [], none, false⟩, ⟨29, fun u_ _ => u_ = .agg (bvs (rb 32 (blockF kk 0 nn))), [1, 2], none, false⟩, ⟨30, fun u_ _ => u_ = .slice Aa na ca, [], none, false⟩, ⟨31, fun u_ _ => u_ = .slice (some ⟨gb, ob, none⟩) m cap, [], none, false⟩, ⟨32, LF [la, l.take m], [4, 5], none, false⟩, ⟨33, fun u_ _ => u_ = .agg (bvs (rb 16 (tagF (blockF kk 0 nn) (macB la (l.take m))))), [3, 6], none, false⟩, ⟨34, fun u_ _ => u_ = .bool true, [0, 7], none, false⟩, ⟨35, fun u_ _ => u_ = .bool false, [8], none, false⟩] [0, 0, 0, 6, 0, 0, 48, 72, 129, 256] [9] sb_st sb_st (by kernel_rfl) (by kernel_rfl) (by kernel_rfl) H ⟨⟨fun a W  H => by exact ob_valS H (wanted_none rfl) (does_load rfl rfl (k := 0) rfl Tryd.underlying42 rfl (info_mark _)), val_grow, fun _ => val_grow⟩, ⟨fun a W  H => by exact ob_valS H (wanted_none rfl) (does_load rfl rfl (k := 2) rfl Tryd.underlying23 rfl (info_key _)), val_grow, fun _ => val_grow⟩, ⟨fun a W  H => by exact ob_valS H (wanted_none rfl) (does_load rfl rfl (k := 1) rfl Tryd.underlying27 rfl (info_nonce _)), val_grow, fun _ => val_grow⟩, ⟨fun a W y1 hy1 y2 hy2 H => by subst hy1; subst hy2; exact ob_calS H (wanted_none rfl) rfl ⟨_, Tryd.func17, by kernel_rfl⟩ rfl (markKey_any _ _ W), val_grow, fun _ => val_grow⟩, ⟨fun a W  H => by exact ob_valS H (wanted_none rfl) (does_move rfl rfl), val_grow, fun _ => val_grow⟩, ⟨fun a W  H => by exact ob_valS H (wanted_none rfl) (does_move rfl rfl), val_grow, fun _ => val_grow⟩, ⟨fun a W y4 hy4 y5 hy5 H => by subst hy4; subst hy5; exact ob_rows2S H (wanted_none rfl) rfl rfl rfl (bf_old hva H) (bf_old hvc H), LF.sb, fun _ => LF.sb⟩, ⟨fun a W y3 hy3 v32 hv32 H => by subst hy3; exact ob_calS H (wanted_none rfl) rfl ⟨_, Tryd.func16, by kernel_rfl⟩ rfl (marked_any _ W (hpg.ext H.below) hv32.rf (by rw [hna]; omega) (by rw [hnt]; omega)), val_grow, fun _ => val_grow⟩, ⟨fun a W y0 hy0 y7 hy7 H => by subst hy0; subst hy7; exact ob_calS H (wanted_none rfl) rfl ⟨_, Tryd.func18, by kernel_rfl⟩ rfl (equal_z hq W), val_grow, fun _ => val_grow⟩, ⟨fun a W y8 hy8 H => by subst hy8; exact ob_valS H (wanted_none rfl) (does_unOp rfl rfl (fun _ => rfl)), val_grow, fun _ => val_grow⟩, trivial⟩ (by kernel_rfl) ?_
  try clear H a W
  intro a W
  rintro _ rfl
  intro H
  replace H : St 40 w a W [(35, .bool false), (12, .pointer (some ⟨(G3 8), 0, none⟩)), (11, .slice (some ⟨gb, ob, none⟩) m cap), (9, .int .i64 0), (8, .slice none 0 0), (5, .pointer (some ⟨g2, 0, none⟩)), (4, .pointer (some ⟨g1, 0, none⟩)), (2, .slice Aa na ca)] [((G3 8), 42, bvs (rb 16 (endF l m))), (g2, 27, bvs (rb 12 nn)), (g1, 23, bvs (rb 32 kk))] := H
  refine pl_end ?_
  replace H : St 40 w a W [(35, .bool false), (11, .slice (some ⟨gb, ob, none⟩) m cap), (9, .int .i64 0), (8, .slice none 0 0), (5, .pointer (some ⟨g2, 0, none⟩)), (4, .pointer (some ⟨g1, 0, none⟩))] [((G3 8), 42, bvs (rb 16 (endF l m))), (g2, 27, bvs (rb 12 nn)), (g1, 23, bvs (rb 32 kk))] := H.pick [0, 2, 3, 4, 5, 6] [0, 1, 2] rfl
  refine hK7 _ _ ?_
  clear hK7
  refine wp_cond_false (H.ev rfl) ?_
  refine wp_skip ?_
  refine hK6 _ _ ?_
  clear hK6
  refine wp_seq_k (fun K8 hK8 => ?_)
  refine rg_plain ?_
  refine pl_does (does_load rfl rfl (k := 2) rfl Tryd.underlying23 rfl (info_key _)) rfl rfl rfl rfl H ?_
  try clear H a W
  intro a W H
  refine pl_does (does_load rfl rfl (k := 1) rfl Tryd.underlying27 rfl (info_nonce _)) rfl rfl rfl rfl H ?_
  try clear H a W
  intro a W H
  refine pl_does (does_move rfl rfl) rfl rfl rfl rfl H ?_
  try clear H a W
  intro a W H
  refine pl_R (R := SB) (F := SF w.heap.size [((G3 8), 42, bvs (rb 16 (endF l m))), (g2, 27, bvs (rb 12 nn)), (g1, 23, bvs (rb 32 kk))] m (encB kk nn (l.take m))) sb_st (ob_callS H (wanted_none rfl) rfl ⟨_, Tryd.func15, by kernel_rfl⟩ rfl (sf_call H (xor_1 kk nn _ (bf_old hvc H) (hnt) (by omega)) ((encB_len _ _ _).trans (hnt)))) rfl rfl rfl H ?_
  try clear H a W
  intro v39 a W hv39 hR_ H
  clear hR_
  replace H : St 40 w a W [(39, v39), (38, .slice (some ⟨gb, ob, none⟩) m cap), (37, .agg (bvs (rb 12 nn))), (36, .agg (bvs (rb 32 kk))), (35, .bool false), (11, .slice (some ⟨gb, ob, none⟩) m cap), (9, .int .i64 0), (8, .slice none 0 0), (5, .pointer (some ⟨g2, 0, none⟩)), (4, .pointer (some ⟨g1, 0, none⟩))] [((G3 8), 42, bvs (rb 16 (endF l m))), (g2, 27, bvs (rb 12 nn)), (g1, 23, bvs (rb 32 kk))] := H
  replace H : St 40 w a W [(39, v39), (38, .slice (some ⟨gb, ob, none⟩) m cap), (37, .agg (bvs (rb 12 nn))), (36, .agg (bvs (rb 32 kk))), (35, .bool false), (11, .slice (some ⟨gb, ob, none⟩) m cap), (9, .int .i64 0), (5, .pointer (some ⟨g2, 0, none⟩)), (4, .pointer (some ⟨g1, 0, none⟩))] [((G3 8), 42, bvs (rb 16 (endF l m))), (g2, 27, bvs (rb 12 nn)), (g1, 23, bvs (rb 32 kk))] := H.pick [0, 1, 2, 3, 4, 5, 6, 8, 9] [0, 1, 2] rfl
  refine pl_R (R := SB) (F := SF w.heap.size [((G3 8), 42, bvs (rb 16 (endF l m))), (g2, 27, bvs (rb 12 nn)), (g1, 23, bvs (rb 32 kk))] m (encB kk nn (l.take m))) sb_st (ob_assignS H (wanted_none rfl) rfl rfl hv39) rfl rfl rfl H ?_
  try clear H a
  intro v8 a W hv8 hR_ H
  replace hv39 := SF.sb _ _ _ hv39 hR_
  clear hR_
  replace H : St 40 w a W [(8, v8), (39, v39), (38, .slice (some ⟨gb, ob, none⟩) m cap), (37, .agg (bvs (rb 12 nn))), (36, .agg (bvs (rb 32 kk))), (35, .bool false), (11, .slice (some ⟨gb, ob, none⟩) m cap), (9, .int .i64 0), (5, .pointer (some ⟨g2, 0, none⟩)), (4, .pointer (some ⟨g1, 0, none⟩))] [((G3 8), 42, bvs (rb 16 (endF l m))), (g2, 27, bvs (rb 12 nn)), (g1, 23, bvs (rb 32 kk))] := H
  replace H : St 40 w a W [(8, v8), (39, v39), (38, .slice (some ⟨gb, ob, none⟩) m cap), (37, .agg (bvs (rb 12 nn))), (36, .agg (bvs (rb 32 kk))), (35, .bool false), (11, .slice (some ⟨gb, ob, none⟩) m cap), (5, .pointer (some ⟨g2, 0, none⟩)), (4, .pointer (some ⟨g1, 0, none⟩))] [((G3 8), 42, bvs (rb 16 (endF l m))), (g2, 27, bvs (rb 12 nn)), (g1, 23, bvs (rb 32 kk))] := H.pick [0, 1, 2, 3, 4, 5, 6, 8, 9] [0, 1, 2] rfl
  refine pl_R (R := SB) (F := fun u_ _ => u_ = .int .i64 0) sb_st (ob_valS H (wanted_none rfl) (does_assign rfl rfl)) rfl rfl rfl H ?_
  try clear H a
  rintro _ a W rfl hR_ H
  replace hv8 := SF.sb _ _ _ hv8 hR_
  replace hv39 := SF.sb _ _ _ hv39 hR_
  clear hR_
  replace H : St 40 w a W [(9, .int .i64 0), (8, v8), (39, v39), (38, .slice (some ⟨gb, ob, none⟩) m cap), (37, .agg (bvs (rb 12 nn))), (36, .agg (bvs (rb 32 kk))), (35, .bool false), (11, .slice (some ⟨gb, ob, none⟩) m cap), (5, .pointer (some ⟨g2, 0, none⟩)), (4, .pointer (some ⟨g1, 0, none⟩))] [((G3 8), 42, bvs (rb 16 (endF l m))), (g2, 27, bvs (rb 12 nn)), (g1, 23, bvs (rb 32 kk))] := H
  refine pl_end ?_
  replace H : St 40 w a W [(9, .int .i64 0), (8, v8)] [((G3 8), 42, bvs (rb 16 (endF l m))), (g2, 27, bvs (rb 12 nn)), (g1, 23, bvs (rb 32 kk))] := H.pick [0, 1] [0, 1, 2] rfl
  refine hK8 _ _ ?_
  clear hK8
  refine wp_ret ?_
  repeat (first | (with_reducible refine then_ret ?_) | (with_reducible refine blk_ret ?_))
  refine end_tmps (p := 8) (q := 9) rfl rfl rfl H (fun hb => ?_)
  exact ⟨_, rfl, hb, hv8.bf⟩
end Go.Proofs.YtghbknebaknmjaaDoor
