/- The document's layer 12: the mac; three outputs. -/
import Derived.Test.YthjechjffhhiiaaDoorKb
import Derived.Test.YthjechjffhhiiaaDoorBe
import Derived.Test.YthjechjffhhiiaaDoorBn
import Derived.LoopN
namespace Go.Proofs.YthjechjffhhiiaaDoor
set_option linter.unusedVariables false
set_option linter.unusedSimpArgs false
set_option maxRecDepth 100000
open Go Go.RowKit

/-! Purely. -/
theorem out_0 (f : Nat → UInt8) : OutB [] (.slice none 0 0) (rb 0 f) := OutB.nil
theorem rb_snocK (m : Nat) (f : Nat → UInt8) : rb m f ++ [f m] = rb (m + 1) f := by simp [rb, List.range_succ]
theorem inn_at (l : List UInt8) (k : Nat) : innL l k = keyF l k ^^^ 54 := rfl
theorem outL_at (l : List UInt8) (k : Nat) : outL l k = keyF l k ^^^ 92 := rfl
theorem mac_def (l m : List UInt8) : hmacF l m = hashB (rb 64 (outL l) ++ rb 32 (hashB (rb 64 (innL l) ++ m))) := rfl
theorem outK_0 (c : Nat → UInt8) (m : List UInt8) : outK c m 0 = hmacF (rb 32 (hmacF (rb 32 c) m)) ([] ++ [1]) := rfl
theorem outK_1 (c : Nat → UInt8) (m : List UInt8) : outK c m 1 = hmacF (rb 32 (hmacF (rb 32 c) m)) (rb 32 (outK c m 0) ++ [2]) := rfl
theorem outK_2 (c : Nat → UInt8) (m : List UInt8) : outK c m 2 = hmacF (rb 32 (hmacF (rb 32 c) m)) (rb 32 (outK c m 1) ++ [3]) := rfl
/-- A key's bytes onto 64 noughts. -/
theorem cp_key (l : List UInt8) : spliceA (bvs (rb 64 b0s)) 0 ((shortK l).map bv) = bvs (rb 64 (keyF l)) := by
  have hle := short_len l
  unfold spliceA
  apply Array.ext_getElem?
  intro i
  rw [List.take_zero, List.nil_append, Nat.zero_add, List.length_map, List.getElem?_toArray, bvs_get]
  rcases Nat.lt_or_ge i (shortK l).length with h1 | h1
  · rw [List.getElem?_append_left (by rw [List.length_map]; exact h1), List.getElem?_map, rb_get (by omega)]
    unfold keyF
    rw [List.getD_eq_getElem?_getD, List.getElem?_eq_getElem h1]
    rfl
  · rw [List.getElem?_append_right (by rw [List.length_map]; exact h1), List.length_map, List.getElem?_drop, show (shortK l).length + (i - (shortK l).length) = i by omega, Array.getElem?_toList, bvs_get]
    rcases Nat.lt_or_ge i 64 with h2 | h2
    · rw [rb_get h2, rb_get h2]
      unfold keyF
      rw [List.getD_eq_getElem?_getD, List.getElem?_eq_none h1]
      all_goals rfl
    · rw [List.getElem?_eq_none (by rw [rb_len]; exact h2), List.getElem?_eq_none (by rw [rb_len]; exact h2)]
theorem cp_hash {l : List UInt8} (h : 64 < l.length) : spliceA (bvs (rb 64 b0s)) 0 (((bvs (rb 32 (hashB l))).toList.drop 0).take 32) = bvs (rb 64 (keyF l)) := by
  rw [← cp_key, short_gt h]
  congr 1
theorem cp_take {l : List UInt8} {n : Nat} (hn : l.length = n) (h : n ≤ 64) : spliceA (bvs (rb 64 b0s)) 0 ((l.take n).map bv) = bvs (rb 64 (keyF l)) := by
  rw [← cp_key, short_le (by omega), List.take_of_length_le (by omega)]
theorem cp_none {l : List UInt8} (h : l.length = 0) : bvs (rb 64 (keyF l)) = bvs (rb 64 b0s) := by
  rw [List.eq_nil_of_length_eq_zero h]
  congr 1
/-! Operations. -/
theorem al_arr64 (W : World) : (Instr.alloc 39 true (.tuple #[])).run Tryd.prog W = .ok (.pointer (some ⟨W.heap.size, 0, none⟩)) (W.alloc (.cells (bvs (rb 64 b0s)) 39)) := by kernel_rfl
theorem info_arr64 (f : Nat → UInt8) : (Tryd.prog.info? 39).map (·.size) = some (bvs (rb 64 f)).size := by rw [bvs_size, rb_len]; kernel_rfl
theorem ia_arr64 {j : Nat} (hj : j < 64) {g : Nat} (W : World) : (Instr.indexAt 39 (.pointer (some ⟨g, 0, none⟩)) (.int .i64 (j : Int))).run Tryd.prog W = .ok (.pointer (some ⟨g, j, none⟩)) W := by
  have h1 : (0 : Int) ≤ (j : Int) := by omega
  have h2 : (j : Int) < 64 := by omega
  go_simp
theorem sl_arr64 (g : Nat) (W : World) : (Instr.sliceAt 39 (.pointer (some ⟨g, 0, none⟩)) none none none).run Tryd.prog W = .ok (.slice (some ⟨g, 0, none⟩) 64 64) W := by kernel_rfl
theorem al_keyK (W : World) : (Instr.alloc 25 true (.tuple #[])).run Tryd.prog W = .ok (.pointer (some ⟨W.heap.size, 0, none⟩)) (W.alloc (.cells (bvs (rb 32 b0s)) 25)) := by kernel_rfl
theorem b_xorK (x : UInt8) (c : Nat) (hc : c < 256) (p q : Operand) (W : World) : (do eqGuard .xor 5 p q (bv x) (.int .u8 (c : Int)); binOp .xor 5 (bv x) (.int .u8 (c : Int)) : Sem Value).run Tryd.prog W = .ok (bv (x ^^^ UInt8.ofNat c)) W := by
  have e : (.int .u8 (c : Int) : Value) = bv (UInt8.ofNat c) := by
    rw [bv_def, UInt8.toNat_ofNat', Nat.mod_eq_of_lt hc]
  rw [e]
  exact b_xor x _ p q W
theorem cv_ib {x : Nat} (hx : x < 256) (W : World) : (convert 3 5 (.int .i64 (x : Int))).run Tryd.prog W = .ok (bv (UInt8.ofNat x)) W := by
  have e : IntKind.u8.wrap (x : Int) = ((UInt8.ofNat x).toNat : Int) := by
    rw [IntKind.wrap_u8', UInt8.toNat_ofNat']
    omega
  unfold bv
  go_simp
theorem run_byte1 (w : World) (x : UInt8) : (Instr.buildSlice 22 1 #[(0, bv x)]).run Tryd.prog w = .ok (.slice (some ⟨w.heap.size, 0, none⟩) 1 1) (w.alloc (.cells (bvs [x]) 5)) := by kernel_rfl
theorem run_key1 (w : World) (f : Nat → UInt8) : (Instr.buildSlice 29 1 #[(0, .agg (bvs (rb 32 f)))]).run Tryd.prog w = .ok (.slice (some ⟨w.heap.size, 0, none⟩) 1 1) (w.alloc (.cells (bvs (rb 32 f)) 25)) := by kernel_rfl
theorem ia_keys {j n c o : Nat} (hj : j < n) {g : Nat} (W : World) : (Instr.indexAt 29 (.slice (some ⟨g, 0, none⟩) n c) (.int .i64 (j : Int))).run Tryd.prog W = .ok (.pointer (some ⟨g, 32 * j, none⟩)) W := by
  have h1 : (0 : Int) ≤ (j : Int) := by omega
  have h2 : (j : Int) < (n : Int) := by omega
  go_simp
  all_goals omega
section
variable {n : Nat} {w0 w : World} {a : Act} {e : Env} {h : Hep} {Q : Exit → Act → World → Prop} {ops : Array Oper} {rest : List Oper} {o : Oper} {P : Program}
theorem ob_byte1S {y0 : Operand} {x : UInt8} (H : St n w0 a w e h) (hw : ∀ a w, St n w0 a w e h → Region.wanted o (yielded ops a.tmps) = true) (ho : o.op = .buildSlice 22 1 #[(0, y0)]) (h0 : sev e y0 = some (bv x)) : ObS Tryd.prog ops Q o a w (BF [x]) := by
  refine ob_runR H hw ⟨_, _, ?_, (Below.refl _ _).alloc (Nat.le_refl _) _, ⟨_, _, _, rfl, BS.ofBlk (Blk.new w 5 (bvs [x])) _ rfl _ (Blk.new w 5 (bvs [x])).lt⟩⟩
  simp [execOp, ho, H.ev h0, run_byte1, Result.andThen]
theorem made_key1 {y0 : Operand} {f : Nat → UInt8} (ho : o.op = .buildSlice 29 1 #[(0, y0)]) (h0 : sev e y0 = some (.agg (bvs (rb 32 f)))) : ∀ a w, St n w0 a w e h → (execOp a.eval o).run Tryd.prog w = .ok (.value (.slice (some ⟨w.heap.size, 0, none⟩) 1 1)) (w.alloc (.cells (bvs (rb 32 f)) 25)) := fun a w H => by
  simp [execOp, ho, H.ev h0, run_key1, Result.andThen]
/-- A copy of no bytes. -/
theorem pl_copyE {x y : Operand} {d : Nat} {dT sT elem : TypeId} {g off dl dc sc : Nat} {A : Option Addr} (ho : o.op = .call { callee := .builtin .copy, args := #[x, y], argTypes := #[dT, sT] })
    (hu : P.underlying dT = some (.slice elem)) (hsz : (P.info? elem).map (·.size) = some 1) (hx : sev e x = some (.slice (some ⟨g, off, none⟩) dl dc)) (hy : sev e y = some (.slice A 0 sc))
    (hg : o.guard = none) (hdst : o.dst = some d) (hl : Nat.blt d n = true) (hf : e.all (fun p => !Nat.beq p.1 d) = true)
    (H : St n w0 a w e h) (next : ∀ a w', St n w0 a w' ((d, .int .i64 ((0 : Nat) : Int)) :: e) h → wpList P ops Q rest a w') : wpList P ops Q (o :: rest) a w :=
  wpList_plain hg fun K hK => by
    cases hq : P.info? elem with
    | none => rw [hq] at hsz; cases hsz
    | some i =>
      have hrun : (Builtin.copy_ #[dT, sT] o.type #[.slice (some ⟨g, off, none⟩) dl dc, .slice A 0 sc]).run P w = .ok (goInt 0) w := by
        have h0 : (0 : Nat).min dl = 0 := Nat.zero_min dl
        cases A <;> simp [Builtin.copy_, run_underlying hu, Builtin.lenOf, Builtin.firstCells, sizeOf, typeInfo, hq, h0, loadCells, loadCellsFrom, storeCells]
      unfold Oper.wp
      simp [execOp, ho, resolve, invoke, builtin, H.ev hx, H.ev hy, hrun, Result.andThen]
      refine hK _ _ (next _ _ ?_)
      rw [hdst]
      exact H.put _ hl hf
end
theorem cell_key {W : World} {g : Nat} {t : TypeId} {f : Nat → UInt8} (h : Blk W g t (bvs (rb 32 f))) : ∀ j, j < 32 → W.cell? ⟨g, j, none⟩ = some (bv (f j)) := fun j hj => by
  rw [h.cell, bvs_get, rb_get hj]
  rfl
theorem size_u8K : (Tryd.prog.info? 5).map (·.size) = some 1 := by kernel_rfl
theorem sl_keyF {W : World} {g : Nat} {t : TypeId} {f : Nat → UInt8} (h : Blk W g t (bvs (rb 32 f))) : BF (rb 32 f) (.slice (some ⟨g, 0, none⟩) 32 32) W := ⟨_, _, _, rfl, BS.ofBlk h _ (rb_len _ _).symm _ h.lt⟩
attribute [local irreducible] bvs bv rb hashB keyF innL outL hmacF OutB OutK outK
theorem z_gtrK {k m : Nat} {b : Bool} (h : decide (m < k) = b) (p q : Operand) (W : World) : (do eqGuard .gtr 3 p q (.int .i64 (k : Int)) (.int .i64 (m : Int)); binOp .gtr 3 (.int .i64 (k : Int)) (.int .i64 (m : Int)) : Sem Value).run Tryd.prog W = .ok (.bool b) W := by
  have e : decide ((m : Int) < (k : Int)) = b := by
    rw [← h]
    exact decide_eq_decide.2 (by omega)
  go_simp
  all_goals exact e
theorem z_leqK {k m : Nat} {b : Bool} (h : decide (k ≤ m) = b) (p q : Operand) (W : World) : (do eqGuard .leq 3 p q (.int .i64 (k : Int)) (.int .i64 (m : Int)); binOp .leq 3 (.int .i64 (k : Int)) (.int .i64 (m : Int)) : Sem Value).run Tryd.prog W = .ok (.bool b) W := by
  have e : decide ((k : Int) ≤ (m : Int)) = b := by
    rw [← h]
    exact decide_eq_decide.2 (by omega)
  go_simp
  all_goals exact e
set_option maxHeartbeats 4000000 in
theorem rmac_any {vk vm : Value} {lk lm : List UInt8} (w : World) (hvk : BF lk vk w) (hvm : BF lm vm w) (h1 : lk.length ≤ 1000) (h2 : lm.length ≤ 1000) : Calls Tryd.prog 8 #[vk, vm] w (fun rr w' => rr = .returned (.agg (bvs (rb 32 (hmacF lk lm)))) ∧ Below w.heap.size w w') := by
  obtain ⟨Ak, nk, ck, rfl, hbk⟩ := id hvk
  have hnk := hbk.len
  rw [hnk] at h1
  obtain ⟨Am, nm, cm, rfl, hbm⟩ := id hvm
  have hnm := hbm.len
  rw [hnm] at h2
  refine calls_st (vs := [.slice Ak nk ck, .slice Am nm cm]) 48 Tryd.func8 rfl Tryd.ntmps8 rfl (fun a W H => ?_)
  replace H : St 48 w a W [(0, .slice Ak nk ck), (1, .slice Am nm cm)] [] := H
  refine sqR H gs0 fun Z_ z_ => rA rfl rfl al_keyK fun g1 => rN0 z_ ?_
  try clear H a W
  intro a W H
  refine sqR H gs0 fun Z_ z_ => rA rfl rfl al_arr64 fun g2 => rN0 z_ ?_
  try clear H a W
  intro a W H
  refine wp_seq_k (fun K3 hK3 => ?_)
  have J3 : ∀ a W, St 48 w a W [(5, .pointer (some ⟨g2, 0, none⟩)), (4, .pointer (some ⟨g1, 0, none⟩)), (1, .slice Am nm cm)] [(g2, 39, bvs (rb 64 (keyF lk))), (g1, 25, bvs (rb 32 b0s))] → K3 a W := by
    try clear H a W
    intro a W H
    refine hK3 _ _ ?_
    clear hK3
    refine sqR H gs0 fun Z_ z_ => rS 2 rfl <| rN0 z_ ?_
    try clear H a W
    intro a W H
    refine wp_seq_k (fun K5 hK5 => ?_)
    refine sqR H gs0 fun Z_ z_ => rS 1 rfl <| rN0 z_ ?_
    try clear H a W
    intro a W H
    refine wp_block ?_
    replace H : St 48 w a W [(9, .int .i64 ((0 : Nat) : Int)), (8, .slice none 0 0), (7, .slice none 0 0), (5, .pointer (some ⟨g2, 0, none⟩)), (4, .pointer (some ⟨g1, 0, none⟩)), (1, .slice Am nm cm)] [(g2, 39, bvs (rb 64 (keyF lk))), (g1, 25, bvs (rb 32 b0s))] := H.pick [0, 1, 2, 3, 4, 5] [0, 1] rfl
    refine wp_rounds 64 (fun k a W => ∃ vi tI vo tO, (OutB tI vi (rb k (innL lk)) ∧ OutB tO vo (rb k (outL lk))) ∧ St 48 w a W [(9, .int .i64 ((k : Nat) : Int)), (8, vo), (7, vi), (5, .pointer (some ⟨g2, 0, none⟩)), (4, .pointer (some ⟨g1, 0, none⟩)), (1, .slice Am nm cm)] ((g2, 39, bvs (rb 64 (keyF lk))) :: (g1, 25, bvs (rb 32 b0s)) :: (tI ++ tO))) (k0 := 0) (show ∃ vi tI vo tO, (OutB tI vi (rb 0 (innL lk)) ∧ OutB tO vo (rb 0 (outL lk))) ∧ St 48 w a W [(9, .int .i64 ((0 : Nat) : Int)), (8, vo), (7, vi), (5, .pointer (some ⟨g2, 0, none⟩)), (4, .pointer (some ⟨g1, 0, none⟩)), (1, .slice Am nm cm)] ((g2, 39, bvs (rb 64 (keyF lk))) :: (g1, 25, bvs (rb 32 b0s)) :: (tI ++ tO)) from ⟨_, [], _, [], ⟨out_0 _, out_0 _⟩, H⟩) (by omega) ?_
    try clear H a W
    intro k a W hk H_
    obtain ⟨vi, tI, vo, tO, hout, H⟩ := H_
    by_cases hk2 : k < 64
    · refine wp_seq_k (fun K7 hK7 => ?_)
      refine wp_seq_k (fun K8 hK8 => ?_)
      refine rg_plain ?_
      refine pl_does (does_move rfl rfl) rfl rfl rfl rfl H ?_
      try clear H a W
      intro a W H
      refine pl_does (does_binOp rfl rfl rfl (i_lss_yes (k := k) (m := 64) (by omega) _ _)) rfl rfl rfl rfl H ?_
      try clear H a W
      intro a W H
      refine rgO H gs0 (rZ0 ?_)
      try clear H a W
      intro a W H
      refine hK8 _ _ ?_
      clear hK8
      refine wp_cond_true (H.ev rfl) ?_
      refine wp_skip ?_
      refine hK7 _ _ ?_
      clear hK7
      refine wp_seq_k (fun K9 hK9 => ?_)
      refine wp_block ?_
      refine wp_seq_k (fun K10 hK10 => ?_)
      refine rg_plain ?_
      refine pl_does (does_move rfl rfl) rfl rfl rfl rfl H ?_
      try clear H a W
      intro a W H
      refine pl_does (does_move rfl rfl) rfl rfl rfl rfl H ?_
      try clear H a W
      intro a W H
      refine pl_does (does_indexAddr rfl rfl rfl (ia_arr64 (j := k) (by omega))) rfl rfl rfl rfl H ?_
      try clear H a W
      intro a W H
      refine pl_does (does_loadAt (v := bv ((keyF lk) k)) rfl rfl (k := 0) rfl (ld_byte (by omega))) rfl rfl rfl rfl H ?_
      try clear H a W
      intro a W H
      refine pl_does (does_binOp rfl rfl rfl (b_xorK _ 54 (by decide) _ _)) rfl rfl rfl rfl H ?_
      try clear H a W
      intro a W H
      refine pl_R (R := SB) (F := BF [((keyF lk) k) ^^^ 54]) sb_st (ob_byte1S H (wanted_none rfl) rfl rfl) rfl rfl rfl H ?_
      try clear H a W
      intro v31 a W hv31 hR_ H
      clear hR_
      replace H : St 48 w a W [(31, v31), (30, bv (((keyF lk) k) ^^^ 54)), (29, bv ((keyF lk) k)), (28, .pointer (some ⟨g2, k, none⟩)), (27, .int .i64 ((k : Nat) : Int)), (26, vi), (23, .bool true), (22, .int .i64 ((k : Nat) : Int)), (9, .int .i64 ((k : Nat) : Int)), (8, vo), (7, vi), (5, .pointer (some ⟨g2, 0, none⟩)), (4, .pointer (some ⟨g1, 0, none⟩)), (1, .slice Am nm cm)] ((g2, 39, bvs (rb 64 (keyF lk))) :: (g1, 25, bvs (rb 32 b0s)) :: (tI ++ tO)) := H
      refine pl_outB1 (h := [(g2, 39, bvs (rb 64 (keyF lk))), (g1, 25, bvs (rb 32 b0s))]) (t := tI) (t2 := tO) (l := rb k (innL lk)) (m := [((keyF lk) k) ^^^ 54]) rfl rfl rfl hout.1 hv31 (by simp only [List.length_append, rb_len, List.length_cons, List.length_nil]; omega) (by simp only [List.length_append, rb_len, List.length_cons, List.length_nil]; omega) rfl rfl rfl rfl H ?_
      try clear H a W
      intro vi' tI' a W hi' H
      rw [← inn_at, rb_snocK] at hi'
      replace H : St 48 w a W [(32, vi'), (31, v31), (30, bv (((keyF lk) k) ^^^ 54)), (29, bv ((keyF lk) k)), (28, .pointer (some ⟨g2, k, none⟩)), (27, .int .i64 ((k : Nat) : Int)), (26, vi), (23, .bool true), (22, .int .i64 ((k : Nat) : Int)), (9, .int .i64 ((k : Nat) : Int)), (8, vo), (7, vi), (5, .pointer (some ⟨g2, 0, none⟩)), (4, .pointer (some ⟨g1, 0, none⟩)), (1, .slice Am nm cm)] ((g2, 39, bvs (rb 64 (keyF lk))) :: (g1, 25, bvs (rb 32 b0s)) :: (tI' ++ tO)) := H
      replace H := H.km [1, 1, 1, 1, 1, 1, 1, 1, 1, 1, 1, 0] []
      refine pl_does (does_assign rfl rfl) rfl rfl rfl rfl H ?_
      try clear H a W
      intro a W H
      refine rgO H gs0 (rZ0 ?_)
      try clear H a W
      intro a W H
      refine hK10 _ _ ?_
      clear hK10
      refine rg_plain ?_
      refine pl_does (does_move rfl rfl) rfl rfl rfl rfl H ?_
      try clear H a W
      intro a W H
      refine pl_does (does_move rfl rfl) rfl rfl rfl rfl H ?_
      try clear H a W
      intro a W H
      refine pl_does (does_indexAddr rfl rfl rfl (ia_arr64 (j := k) (by omega))) rfl rfl rfl rfl H ?_
      try clear H a W
      intro a W H
      refine pl_does (does_loadAt (v := bv ((keyF lk) k)) rfl rfl (k := 0) rfl (ld_byte (by omega))) rfl rfl rfl rfl H ?_
      try clear H a W
      intro a W H
      refine pl_does (does_binOp rfl rfl rfl (b_xorK _ 92 (by decide) _ _)) rfl rfl rfl rfl H ?_
      try clear H a W
      intro a W H
      refine pl_R (R := SB) (F := BF [((keyF lk) k) ^^^ 92]) sb_st (ob_byte1S H (wanted_none rfl) rfl rfl) rfl rfl rfl H ?_
      try clear H a W
      intro v38 a W hv38 hR_ H
      clear hR_
      replace H : St 48 w a W [(38, v38), (37, bv (((keyF lk) k) ^^^ 92)), (36, bv ((keyF lk) k)), (35, .pointer (some ⟨g2, k, none⟩)), (34, .int .i64 ((k : Nat) : Int)), (33, vo), (7, vi'), (32, vi'), (31, v31), (30, bv (((keyF lk) k) ^^^ 54)), (29, bv ((keyF lk) k)), (28, .pointer (some ⟨g2, k, none⟩)), (27, .int .i64 ((k : Nat) : Int)), (26, vi), (23, .bool true), (22, .int .i64 ((k : Nat) : Int)), (9, .int .i64 ((k : Nat) : Int)), (8, vo), (5, .pointer (some ⟨g2, 0, none⟩)), (4, .pointer (some ⟨g1, 0, none⟩)), (1, .slice Am nm cm)] ((g2, 39, bvs (rb 64 (keyF lk))) :: (g1, 25, bvs (rb 32 b0s)) :: (tI' ++ tO)) := H
      refine pl_outB2 (h := [(g2, 39, bvs (rb 64 (keyF lk))), (g1, 25, bvs (rb 32 b0s))]) (t := tO) (t2 := tI') (l := rb k (outL lk)) (m := [((keyF lk) k) ^^^ 92]) rfl rfl rfl hout.2 hv38 (by simp only [List.length_append, rb_len, List.length_cons, List.length_nil]; omega) (by simp only [List.length_append, rb_len, List.length_cons, List.length_nil]; omega) rfl rfl rfl rfl H ?_
      try clear H a W
      intro vo' tO' a W ho' H
      rw [← outL_at, rb_snocK] at ho'
      replace H : St 48 w a W [(39, vo'), (38, v38), (37, bv (((keyF lk) k) ^^^ 92)), (36, bv ((keyF lk) k)), (35, .pointer (some ⟨g2, k, none⟩)), (34, .int .i64 ((k : Nat) : Int)), (33, vo), (7, vi'), (32, vi'), (31, v31), (30, bv (((keyF lk) k) ^^^ 54)), (29, bv ((keyF lk) k)), (28, .pointer (some ⟨g2, k, none⟩)), (27, .int .i64 ((k : Nat) : Int)), (26, vi), (23, .bool true), (22, .int .i64 ((k : Nat) : Int)), (9, .int .i64 ((k : Nat) : Int)), (8, vo), (5, .pointer (some ⟨g2, 0, none⟩)), (4, .pointer (some ⟨g1, 0, none⟩)), (1, .slice Am nm cm)] ((g2, 39, bvs (rb 64 (keyF lk))) :: (g1, 25, bvs (rb 32 b0s)) :: (tI' ++ tO')) := H
      replace H := H.km [1, 1, 1, 1, 1, 1, 1, 1, 1, 1, 1, 1, 1, 1, 1, 1, 1, 1, 0] []
      refine pl_does (does_assign rfl rfl) rfl rfl rfl rfl H ?_
      try clear H a W
      intro a W H
      refine rgO H gs0 (rZ0 ?_)
      try clear H a W
      intro a W H
      refine blk_normal ?_
      refine hK9 _ _ ?_
      clear hK9
      refine rg_plain ?_
      refine pl_does (does_move rfl rfl) rfl rfl rfl rfl H ?_
      try clear H a W
      intro a W H
      refine pl_does (does_binOp rfl rfl rfl (i_inc (by omega) _ _)) rfl rfl rfl rfl H ?_
      try clear H a W
      intro a W H
      replace H := H.km [1, 1, 1, 1, 1, 1, 1, 1, 1, 1, 1, 1, 1, 1, 1, 1, 1, 1, 1, 1, 0] []
      refine pl_does (does_assign rfl rfl) rfl rfl rfl rfl H ?_
      try clear H a W
      intro a W H
      refine rgO H gs0 (rZ0 ?_)
      try clear H a W
      intro a W H
      refine ⟨k + 1, by omega, by omega, ?_⟩
      show ∃ vi tI vo tO, (OutB tI vi (rb (k + 1) (innL lk)) ∧ OutB tO vo (rb (k + 1) (outL lk))) ∧ St 48 w a W [(9, .int .i64 ((k + 1 : Nat) : Int)), (8, vo), (7, vi), (5, .pointer (some ⟨g2, 0, none⟩)), (4, .pointer (some ⟨g1, 0, none⟩)), (1, .slice Am nm cm)] ((g2, 39, bvs (rb 64 (keyF lk))) :: (g1, 25, bvs (rb 32 b0s)) :: (tI ++ tO))
      refine ⟨_, _, _, _, ⟨hi', ho'⟩, ?_⟩
      exact H.pickF (h := [(g2, 39, bvs (rb 64 (keyF lk))), (g1, 25, bvs (rb 32 b0s))]) (t := (tI' ++ tO')) [0, 3, 11, 21, 22, 23] [0, 1] rfl
    · obtain rfl : 64 = k := by omega
      refine wp_seq_k (fun K11 hK11 => ?_)
      refine wp_seq_k (fun K12 hK12 => ?_)
      refine rg_plain ?_
      refine pl_does (does_move rfl rfl) rfl rfl rfl rfl H ?_
      try clear H a W
      intro a W H
      refine pl_does (does_binOp rfl rfl rfl (i_lss_no (k := 64) (m := 64) (by omega) _ _)) rfl rfl rfl rfl H ?_
      try clear H a W
      intro a W H
      refine rgO H gs0 (rK [1, 0] [] [] <| rZ0 ?_)
      try clear H a W
      intro a W H
      refine hK12 _ _ ?_
      clear hK12
      refine wp_cond_false (H.ev rfl) ?_
      refine wp_exit ?_
      repeat (with_reducible refine then_exit ?_)
      refine blk_exit ?_
      obtain ⟨hi, ho⟩ := hout
      refine hK5 _ _ ?_
      clear hK5
      refine wp_seq_k (fun K13 hK13 => ?_)
      refine rg_plain ?_
      refine pl_does (does_move rfl rfl) rfl rfl rfl rfl H ?_
      try clear H a W
      intro a W H
      refine pl_does (does_move rfl rfl) rfl rfl rfl rfl H ?_
      try clear H a W
      intro a W H
      refine pl_outB1 (h := [(g2, 39, bvs (rb 64 (keyF lk))), (g1, 25, bvs (rb 32 b0s))]) (t := tI) (t2 := tO) (l := rb 64 (innL lk)) (m := lm) rfl rfl rfl hi (bf_old hvm H) (by simp only [List.length_append, rb_len, List.length_cons, List.length_nil]; omega) (by simp only [List.length_append, rb_len, List.length_cons, List.length_nil]; omega) rfl rfl rfl rfl H ?_
      try clear H a W
      intro vi' tI' a W hi' H
      replace H : St 48 w a W [(42, vi'), (41, .slice Am nm cm), (40, vi), (23, .bool false), (9, .int .i64 ((64 : Nat) : Int)), (8, vo), (7, vi), (5, .pointer (some ⟨g2, 0, none⟩)), (4, .pointer (some ⟨g1, 0, none⟩)), (1, .slice Am nm cm)] ((g2, 39, bvs (rb 64 (keyF lk))) :: (g1, 25, bvs (rb 32 b0s)) :: (tI' ++ tO)) := H
      refine pl_R (R := SB) (F := fun u_ _ => u_ = .agg (bvs (rb 32 (hashB (rb 64 (innL lk) ++ lm))))) sb_st (ob_calS H (wanted_none rfl) rfl ⟨_, Tryd.func14, by kernel_rfl⟩ rfl (rsum_any _ (OutB.bf1 (h := [(g2, 39, bvs (rb 64 (keyF lk))), (g1, 25, bvs (rb 32 b0s))]) hi' H) (by simp only [List.length_append, rb_len, List.length_cons, List.length_nil]; omega))) rfl rfl rfl H ?_
      try clear H a W
      rintro _ a W rfl hR_ H
      clear hR_
      replace H : St 48 w a W [(43, .agg (bvs (rb 32 (hashB (rb 64 (innL lk) ++ lm))))), (42, vi'), (41, .slice Am nm cm), (40, vi), (23, .bool false), (9, .int .i64 ((64 : Nat) : Int)), (8, vo), (7, vi), (5, .pointer (some ⟨g2, 0, none⟩)), (4, .pointer (some ⟨g1, 0, none⟩)), (1, .slice Am nm cm)] ((g2, 39, bvs (rb 64 (keyF lk))) :: (g1, 25, bvs (rb 32 b0s)) :: (tI' ++ tO)) := H
      refine pl_new (news_of rfl al_keyK) rfl rfl rfl rfl H ?_
      try clear H a W
      intro g3 a W H
      refine pl_store rfl rfl rfl (k := 0) rfl (info_key _) (size_rb _ _ _) (bvs_one _) rfl rfl H ?_
      try clear H a W
      intro a W H
      refine rgO H gs0 (rK [1, 0, 0, 0, 0, 0, 0, 1, 0, 0, 1, 0] [] [] <| rZ0 ?_)
      try clear H a W
      intro a W H
      refine hK13 _ _ ?_
      clear hK13
      refine wp_seq_k (fun K14 hK14 => ?_)
      refine rg_plain ?_
      refine pl_does (does_move rfl rfl) rfl rfl rfl rfl H ?_
      try clear H a W
      intro a W H
      refine pl_does (does_slice rfl rfl (vl := none) (vh := none) rfl rfl (sl_key g3)) rfl rfl rfl rfl H ?_
      try clear H a W
      intro a W H
      refine pl_outB2 (h := [(g3, 25, bvs (rb 32 (hashB (rb 64 (innL lk) ++ lm)))), (g2, 39, bvs (rb 64 (keyF lk))), (g1, 25, bvs (rb 32 b0s))]) (t := tO) (t2 := tI') (l := rb 64 (outL lk)) (m := rb 32 (hashB (rb 64 (innL lk) ++ lm))) rfl rfl rfl ho (sl_keyF (H.blk (k := 0) rfl)) (by simp only [List.length_append, rb_len, List.length_cons, List.length_nil]; omega) (by simp only [List.length_append, rb_len, List.length_cons, List.length_nil]; omega) rfl rfl rfl rfl H ?_
      try clear H a W
      intro vo' tO' a W ho' H
      replace H : St 48 w a W [(46, vo'), (45, .slice (some ⟨g3, 0, none⟩) 32 32), (44, vo), (10, .pointer (some ⟨g3, 0, none⟩)), (8, vo), (4, .pointer (some ⟨g1, 0, none⟩))] ((g3, 25, bvs (rb 32 (hashB (rb 64 (innL lk) ++ lm)))) :: (g2, 39, bvs (rb 64 (keyF lk))) :: (g1, 25, bvs (rb 32 b0s)) :: (tI' ++ tO')) := H
      refine pl_R (R := SB) (F := fun u_ _ => u_ = .agg (bvs (rb 32 (hashB (rb 64 (outL lk) ++ rb 32 (hashB (rb 64 (innL lk) ++ lm))))))) sb_st (ob_calS H (wanted_none rfl) rfl ⟨_, Tryd.func14, by kernel_rfl⟩ rfl (rsum_any _ (OutB.bf2 (h := [(g3, 25, bvs (rb 32 (hashB (rb 64 (innL lk) ++ lm)))), (g2, 39, bvs (rb 64 (keyF lk))), (g1, 25, bvs (rb 32 b0s))]) ho' H) (by simp only [List.length_append, rb_len, List.length_cons, List.length_nil]; omega))) rfl rfl rfl H ?_
      try clear H a W
      rintro _ a W rfl hR_ H
      clear hR_
      replace H : St 48 w a W [(47, .agg (bvs (rb 32 (hashB (rb 64 (outL lk) ++ rb 32 (hashB (rb 64 (innL lk) ++ lm))))))), (46, vo'), (45, .slice (some ⟨g3, 0, none⟩) 32 32), (44, vo), (10, .pointer (some ⟨g3, 0, none⟩)), (8, vo), (4, .pointer (some ⟨g1, 0, none⟩))] ((g3, 25, bvs (rb 32 (hashB (rb 64 (innL lk) ++ lm)))) :: (g2, 39, bvs (rb 64 (keyF lk))) :: (g1, 25, bvs (rb 32 b0s)) :: (tI' ++ tO')) := H
      refine pl_store rfl rfl rfl (k := 2) rfl (info_key _) (size_rb _ _ _) (bvs_one _) rfl rfl H ?_
      try clear H a W
      intro a W H
      refine rgO H gs0 (rK [0, 0, 0, 0, 0, 0] [] [] <| rZ0 ?_)
      try clear H a W
      intro a W H
      refine hK14 _ _ ?_
      clear hK14
      refine wp_ret ?_
      repeat (first | (with_reducible refine then_ret ?_) | (with_reducible refine blk_ret ?_))
      refine end_cell (p := 4) rfl rfl (k := 2) rfl Tryd.underlying25 rfl (info_key _) H (fun hb => ?_)
      exact ⟨by rw [mac_def], hb⟩
  clear hK3
  rcases (show 64 < nk ∨ (nk ≤ 64 ∧ 0 < nk) ∨ nk = 0 by omega) with h5 | ⟨h5, h6⟩ | h5
  · skip
    refine sqR H gs0 fun Z_ z_ => rS 1 rfl <| rV rfl (does_len Tryd.underlying22 rfl rfl) <| rV rfl (does_binOp rfl rfl rfl (z_gtrK (k := nk) (m := 64) (decide_eq_true (by omega)) _ _)) <| rK [1, 0, 0] [] [] <| rN0 z_ ?_
    try clear H a W
    intro a W H
    refine wp_cond_true (H.ev rfl) ?_
    refine sqR H gs0 fun Z_ z_ => rS 1 rfl <| rCV rfl rfl ⟨_, Tryd.func14, by kernel_rfl⟩ rfl (fun a W H _ => (rsum_any _ (bf_old hvk H) (by omega))) <| rA rfl rfl al_keyK fun g4 => rW [1] ⟨rfl, rfl⟩ rfl rfl rfl (info_key _) (size_rb _ _ _) (bvs_one _) <| rK [1, 0, 0, 0, 1, 1, 0] [] [] <| rN0 z_ ?_
    try clear H a W
    intro a W H
    refine d2 [.v 16 _ [], .v 17 _ []] (by kernel_rfl) (by kernel_rfl) H gs0 ⟨oV rfl (does_slice rfl rfl (vl := none) (vh := none) rfl rfl (sl_arr64 g2)), oV rfl (does_slice rfl rfl (vl := none) (vh := none) rfl rfl (sl_key g4)), trivial⟩ (rI0 ?_)
    try clear H a W
    intro a W H
    refine pl_copy rfl Tryd.underlying22 size_u8K rfl rfl (k := 1) rfl (k2 := 0) rfl (m := 32) rfl (by rw [bvs_size, rb_len]; omega) (by rw [bvs_size, rb_len]; omega) (bvs_one _) (cp_hash (by omega)) rfl rfl rfl rfl H ?_
    try clear H a W
    intro a W H
    replace H : St 48 w a W [(18, .int .i64 ((32 : Nat) : Int)), (17, .slice (some ⟨g4, 0, none⟩) 32 32), (16, .slice (some ⟨g2, 0, none⟩) 64 64), (6, .pointer (some ⟨g4, 0, none⟩)), (5, .pointer (some ⟨g2, 0, none⟩)), (4, .pointer (some ⟨g1, 0, none⟩)), (1, .slice Am nm cm)] [(g4, 25, bvs (rb 32 (hashB lk))), (g2, 39, bvs (rb 64 (keyF lk))), (g1, 25, bvs (rb 32 b0s))] := H
    refine rgO H gs0 (rK [0, 0, 0, 0] [] [] <| rZ0 ?_)
    try clear H a W
    intro a W H
    exact J3 _ _ (H.pick [0, 1, 2] [1, 2] rfl)
  · skip
    refine sqR H gs0 fun Z_ z_ => rS 1 rfl <| rV rfl (does_len Tryd.underlying22 rfl rfl) <| rV rfl (does_binOp rfl rfl rfl (z_gtrK (k := nk) (m := 64) (decide_eq_false (by omega)) _ _)) <| rK [1, 0, 0] [] [] <| rN0 z_ ?_
    try clear H a W
    intro a W H
    refine wp_cond_false (H.ev rfl) ?_
    refine rgP H gs0 (rV rfl (does_slice rfl rfl (vl := none) (vh := none) rfl rfl (sl_arr64 g2)) <| rS 1 rfl <| rI0 ?_)
    try clear H a W
    intro a W H
    refine pl_copyB rfl Tryd.underlying22 size_u8K rfl rfl (k := 0) rfl hbk (Nat.min_eq_left (by omega)) h6 (by rw [bvs_size, rb_len]; omega) (cp_take hnk (by omega)) rfl rfl rfl rfl H ?_
    try clear H a W
    intro a W H
    replace H : St 48 w a W [(21, .int .i64 ((nk : Nat) : Int)), (20, .slice Ak nk ck), (19, .slice (some ⟨g2, 0, none⟩) 64 64), (13, .bool false), (5, .pointer (some ⟨g2, 0, none⟩)), (4, .pointer (some ⟨g1, 0, none⟩)), (0, .slice Ak nk ck), (1, .slice Am nm cm)] [(g2, 39, bvs (rb 64 (keyF lk))), (g1, 25, bvs (rb 32 b0s))] := H
    refine rgO H gs0 (rK [0, 0, 0, 0, 1, 1, 0] [] [] <| rZ0 ?_)
    try clear H a W
    intro a W H
    exact J3 _ _ (H.pick [0, 1, 2] [0, 1] rfl)
  · subst h5
    refine sqR H gs0 fun Z_ z_ => rS 1 rfl <| rV rfl (does_len Tryd.underlying22 rfl rfl) <| rV rfl (does_binOp rfl rfl rfl (z_gtrK (k := 0) (m := 64) (decide_eq_false (by omega)) _ _)) <| rK [1, 0, 0] [] [] <| rN0 z_ ?_
    try clear H a W
    intro a W H
    refine wp_cond_false (H.ev rfl) ?_
    refine rgP H gs0 (rV rfl (does_slice rfl rfl (vl := none) (vh := none) rfl rfl (sl_arr64 g2)) <| rS 1 rfl <| rI0 ?_)
    try clear H a W
    intro a W H
    refine pl_copyE rfl Tryd.underlying22 size_u8K rfl rfl rfl rfl rfl rfl H ?_
    try clear H a W
    intro a W H
    replace H : St 48 w a W [(21, .int .i64 ((0 : Nat) : Int)), (20, .slice Ak 0 ck), (19, .slice (some ⟨g2, 0, none⟩) 64 64), (13, .bool false), (5, .pointer (some ⟨g2, 0, none⟩)), (4, .pointer (some ⟨g1, 0, none⟩)), (0, .slice Ak 0 ck), (1, .slice Am nm cm)] [(g2, 39, bvs (rb 64 b0s)), (g1, 25, bvs (rb 32 b0s))] := H
    refine rgO H gs0 (rK [0, 0, 0, 0, 1, 1, 0] [] [] <| rZ0 ?_)
    try clear H a W
    intro a W H
    exact J3 _ _ (by rw [cp_none hnk]; exact H.pick [0, 1, 2] [0, 1] rfl)
set_option maxHeartbeats 4000000 in
theorem routs_any {vm : Value} {lm : List UInt8} (c : Nat → UInt8) (w : World) (hvm : BF lm vm w) (h2 : lm.length ≤ 1000) : Calls Tryd.prog 10 #[.agg (bvs (rb 32 c)), vm, .int .i64 ((3 : Nat) : Int)] w (fun rr w' => ∃ g cap cur, rr = .returned (.slice (some ⟨g, 0, none⟩) 3 cap) ∧ Below w.heap.size w w' ∧ Blk w' g 25 cur ∧ w.heap.size ≤ g ∧ ∀ (i : Nat) (f : Nat → UInt8), [outK c lm 0, outK c lm 1, outK c lm 2][i]? = some f → ∀ j, j < 32 → cur[32 * i + j]? = some (bv (f j))) := by
  obtain ⟨Am, nm, cm, rfl, hbm⟩ := id hvm
  have hnm := hbm.len
  rw [hnm] at h2
  refine calls_st (vs := [.agg (bvs (rb 32 c)), .slice Am nm cm, .int .i64 ((3 : Nat) : Int)]) 34 Tryd.func10 rfl Tryd.ntmps10 rfl (fun a W H => ?_)
  replace H : St 34 w a W [(0, .agg (bvs (rb 32 c))), (1, .slice Am nm cm), (2, .int .i64 ((3 : Nat) : Int))] [] := H
  refine sqR H gs0 fun Z_ z_ => rB rfl rfl rfl (bx_key c) fun g1 => rS 1 rfl <| rK [1, 1, 0] [] [] <| rN0 z_ ?_
  try clear H a W
  intro a W H
  refine sqR H gs0 fun Z_ z_ => rV rfl (does_slice rfl rfl (vl := none) (vh := none) rfl rfl (sl_key g1)) <| rS 1 rfl <| rCV rfl rfl ⟨_, Tryd.func8, by kernel_rfl⟩ rfl (fun a W H _ => (rmac_any _ (sl_keyF (H.blk (k := 0) rfl)) (bf_old hvm H) (by rw [rb_len]; omega) (by omega))) <| rA rfl rfl al_keyK fun g2 => rW [1] ⟨rfl, rfl⟩ rfl rfl rfl (info_key _) (size_rb _ _ _) (bvs_one _) <| rK [1, 0, 0, 0, 1, 0, 0] [] [] <| rN0 z_ ?_
  try clear H a W
  intro a W H
  refine sqR H gs0 fun Z_ z_ => rS 1 rfl <| rN0 z_ ?_
  try clear H a W
  intro a W H
  refine sqR H gs0 fun Z_ z_ => rS 1 rfl <| rN0 z_ ?_
  try clear H a W
  intro a W H
  refine wp_seq_k (fun K5 hK5 => ?_)
  refine sqR H gs0 fun Z_ z_ => rS 1 rfl <| rN0 z_ ?_
  try clear H a W
  intro a W H
  refine wp_block ?_
  refine wp_loop_rounds 4 ?_
  rw [rounds_succ]
  refine wp_seq_k (fun K7 hK7 => ?_)
  refine sqR H gs0 fun Z_ z_ => rS 2 rfl <| rV rfl (does_binOp rfl rfl rfl (z_leqK (k := 1) (m := 3) (decide_eq_true (by omega)) _ _)) <| rN0 z_ ?_
  try clear H a W
  intro a W H
  refine wp_cond_true (H.ev rfl) ?_
  refine wp_skip ?_
  refine hK7 _ _ ?_
  clear hK7
  refine wp_seq_k (fun K9 hK9 => ?_)
  refine wp_block ?_
  refine wp_seq_k (fun K10 hK10 => ?_)
  refine drawnR SB (WR w.heap.size [(g2, 25, bvs (rb 32 (hmacF (rb 32 c) lm))), (g1, 25, bvs (rb 32 c))]) [⟨20, fun u_ _ => u_ = .slice (some ⟨g2, 0, none⟩) 32 32, [], none, false⟩, ⟨21, fun u_ _ => u_ = .slice none 0 0, [], none, false⟩, ⟨22, OF w.heap.size [(g2, 25, bvs (rb 32 (hmacF (rb 32 c) lm))), (g1, 25, bvs (rb 32 c))] ([]), [1], (some 6), false⟩, ⟨23, fun u_ _ => u_ = .int .i64 ((1 : Nat) : Int), [], none, false⟩, ⟨24, fun u_ _ => u_ = bv 1, [3], none, false⟩, ⟨25, BF [1], [4], (some 6), false⟩, ⟨26, OF w.heap.size [(g2, 25, bvs (rb 32 (hmacF (rb 32 c) lm))), (g1, 25, bvs (rb 32 c))] ([] ++ [1]), [2, 5], (some 7), true⟩, ⟨27, fun u_ _ => u_ = .agg (bvs (rb 32 (hmacF (rb 32 (hmacF (rb 32 c) lm)) ([] ++ [1])))), [0, 6], none, false⟩, ⟨11, NewF w.heap.size [(g2, 25, bvs (rb 32 (hmacF (rb 32 c) lm))), (g1, 25, bvs (rb 32 c))] 25 (bvs (rb 32 b0s)), [], none, false⟩] [0, 0, 2, 0, 8, 16, 36, 65, 0, 511] [7, 8] sb_st wr_st (by kernel_rfl) (by kernel_rfl) (by kernel_rfl) H ⟨⟨fun a W H => ob_valS H (wanted_none rfl) (does_slice rfl rfl (vl := none) (vh := none) rfl rfl (sl_key g2)), val_grow, fun _ => val_grow⟩, ⟨fun a W H => ob_valS H (wanted_none rfl) (does_move rfl rfl), val_grow, fun _ => val_grow⟩, ⟨fun a W y1 hy1 H => by subst hy1; exact ob_app0S H (wanted_none rfl) rfl rfl (BF.nil _) (by simp only [List.length_append, rb_len, List.length_cons, List.length_nil]; omega), OF.sb, fun ht_ => by cases ht_⟩, ⟨fun a W H => ob_valS H (wanted_none rfl) (does_move rfl rfl), val_grow, fun _ => val_grow⟩, ⟨fun a W y3 hy3 H => by subst hy3; exact ob_valS H (wanted_none rfl) (does_convert rfl rfl (cv_ib (x := 1) (by omega))), val_grow, fun _ => val_grow⟩, ⟨fun a W y4 hy4 H => by subst hy4; exact ob_byte1S H (wanted_none rfl) rfl rfl, BF.sb, fun ht_ => by cases ht_⟩, ⟨fun a W v2 hv2 v5 hv5 H => ob_appW H (wanted_none rfl) rfl rfl rfl hv2 hv5 (by simp only [List.length_append, rb_len, List.length_cons, List.length_nil]; omega), OF.sb, fun ht_ => by cases ht_⟩, ⟨fun a W y0 hy0 v6 hv6 H => by subst hy0; exact ob_calS H (wanted_none rfl) rfl ⟨_, Tryd.func8, by kernel_rfl⟩ rfl (rmac_any _ (sl_keyF (H.blk (k := 0) rfl)) hv6.bf (by simp only [List.length_append, rb_len, List.length_cons, List.length_nil]; omega) (by simp only [List.length_append, rb_len, List.length_cons, List.length_nil]; omega)), val_grow, fun _ => val_grow⟩, ⟨fun a W H => ob_new H (news_of rfl al_keyK) rfl, NewF.sb, fun _ => NewF.wr (by decide)⟩, trivial⟩ (by kernel_rfl) ?_
  try clear H a W
  intro a W
  rintro _ rfl
  rintro _ ⟨gx0, rfl, hb_, hB_, hn_⟩
  intro H
  replace H := H.add hb_ hB_ hn_
  clear hb_ hB_ hn_
  rw [← outK_0] at H
  replace H : St 34 w a W [(11, .pointer (some ⟨gx0, 0, none⟩)), (27, .agg (bvs (rb 32 (outK c lm 0)))), (17, .bool true), (16, .int .i64 ((3 : Nat) : Int)), (15, .int .i64 1), (10, .int .i64 1), (9, .slice none 0 0), (8, .slice none 0 0), (7, .pointer (some ⟨g2, 0, none⟩)), (6, .slice none 0 0), (2, .int .i64 ((3 : Nat) : Int))] [(gx0, 25, bvs (rb 32 b0s)), (g2, 25, bvs (rb 32 (hmacF (rb 32 c) lm))), (g1, 25, bvs (rb 32 c))] := H
  refine rgO H gs0 (rW [1] ⟨rfl, rfl⟩ rfl rfl rfl (info_key _) (size_rb _ _ _) (bvs_one _) <| rZ0 ?_)
  try clear H a W
  intro a W H
  refine hK10 _ _ ?_
  clear hK10
  refine wp_seq_k (fun K11 hK11 => ?_)
  refine rgP H gs0 (rS 1 rfl <| rV rfl (does_load rfl rfl (k := 0) rfl Tryd.underlying25 rfl (info_key _)) <| rM (F := fun g => .slice (some ⟨g, 0, none⟩) 1 1) (t := 25) (z := bvs (rb 32 (outK c lm 0))) rfl (made_key1 rfl rfl) fun g3 => rI0 ?_)
  try clear H a W
  intro a W H
  refine pl_outK (h := [(g3, 25, bvs (rb 32 (outK c lm 0))), (gx0, 25, bvs (rb 32 (outK c lm 0))), (g2, 25, bvs (rb 32 (hmacF (rb 32 c) lm))), (g1, 25, bvs (rb 32 c))]) (t := []) (fs := []) (f := (outK c lm 0)) rfl rfl rfl OutK.nil (cell_key (H.blk (k := 0) rfl)) (by simp) rfl rfl rfl rfl H ?_
  try clear H a W
  intro vk0 tk0 a W hk0 H
  obtain ⟨gk0, cap0, cur0, rfl, rfl, hc0⟩ := out_cells hk0 (by simp)
  replace H : St 34 w a W [(31, .slice (some ⟨gk0, 0, none⟩) 1 cap0), (30, .slice (some ⟨g3, 0, none⟩) 1 1), (29, .agg (bvs (rb 32 (outK c lm 0)))), (28, .slice none 0 0), (11, .pointer (some ⟨gx0, 0, none⟩)), (27, .agg (bvs (rb 32 (outK c lm 0)))), (17, .bool true), (16, .int .i64 ((3 : Nat) : Int)), (15, .int .i64 1), (10, .int .i64 1), (9, .slice none 0 0), (8, .slice none 0 0), (7, .pointer (some ⟨g2, 0, none⟩)), (6, .slice none 0 0), (2, .int .i64 ((3 : Nat) : Int))] [(g3, 25, bvs (rb 32 (outK c lm 0))), (gx0, 25, bvs (rb 32 (outK c lm 0))), (g2, 25, bvs (rb 32 (hmacF (rb 32 c) lm))), (g1, 25, bvs (rb 32 c)), (gk0, 25, cur0)] := H
  refine rgO H gs0 (rK [1, 1, 1, 1, 1, 1, 1, 1, 1, 1, 1, 0] [] [] <| rS 1 rfl <| rZ0 ?_)
  try clear H a W
  intro a W H
  refine hK11 _ _ ?_
  clear hK11
  refine rgP H gs0 (rV rfl (does_slice rfl rfl (vl := none) (vh := none) rfl rfl (sl_key gx0)) <| rK [1, 1, 1, 1, 1, 1, 1, 1, 1, 1, 1, 1, 0] [] [] <| rS 1 rfl <| rZ0 ?_)
  try clear H a W
  intro a W H
  refine blk_normal ?_
  refine hK9 _ _ ?_
  clear hK9
  refine rgP H gs0 (rS 1 rfl <| rV rfl (does_binOp rfl rfl rfl (i_inc (k := 1) (by omega) _ _)) <| rK [1, 1, 1, 1, 1, 1, 1, 1, 1, 1, 1, 1, 1, 1, 0] [] [] <| rS 1 rfl <| rZ0 ?_)
  try clear H a W
  intro a W H
  refine then_normal ?_
  rw [rounds_succ]
  refine wp_seq_k (fun K12 hK12 => ?_)
  refine sqR H gs0 fun Z_ z_ => rK [1, 1, 1, 1, 1, 1, 1, 1, 1, 1, 1, 1, 1, 1, 0] [] [] <| rS 1 rfl <| rK [1, 1, 1, 1, 1, 1, 1, 1, 1, 1, 1, 1, 1, 1, 0] [] [] <| rS 1 rfl <| rK [1, 1, 1, 1, 1, 1, 1, 1, 1, 1, 1, 1, 1, 1, 0] [] [] <| rV rfl (does_binOp rfl rfl rfl (z_leqK (k := 2) (m := 3) (decide_eq_true (by omega)) _ _)) <| rN0 z_ ?_
  try clear H a W
  intro a W H
  refine wp_cond_true (H.ev rfl) ?_
  refine wp_skip ?_
  refine hK12 _ _ ?_
  clear hK12
  refine wp_seq_k (fun K14 hK14 => ?_)
  refine wp_block ?_
  refine wp_seq_k (fun K15 hK15 => ?_)
  replace H := H.km [1, 1, 1, 1, 1, 1, 1, 1, 1, 1, 1, 1, 1, 1, 0] []
  replace H := H.km [1, 1, 1, 1, 1, 1, 1, 1, 1, 1, 1, 1, 1, 0] []
  refine drawnR SB (WR w.heap.size [(g3, 25, bvs (rb 32 (outK c lm 0))), (gx0, 25, bvs (rb 32 (outK c lm 0))), (g2, 25, bvs (rb 32 (hmacF (rb 32 c) lm))), (g1, 25, bvs (rb 32 c)), (gk0, 25, cur0)]) [⟨20, fun u_ _ => u_ = .slice (some ⟨g2, 0, none⟩) 32 32, [], none, false⟩, ⟨21, fun u_ _ => u_ = .slice (some ⟨gx0, 0, none⟩) 32 32, [], none, false⟩, ⟨22, OF w.heap.size [(g3, 25, bvs (rb 32 (outK c lm 0))), (gx0, 25, bvs (rb 32 (outK c lm 0))), (g2, 25, bvs (rb 32 (hmacF (rb 32 c) lm))), (g1, 25, bvs (rb 32 c)), (gk0, 25, cur0)] (rb 32 (outK c lm 0)), [1], (some 6), false⟩, ⟨23, fun u_ _ => u_ = .int .i64 ((2 : Nat) : Int), [], none, false⟩, ⟨24, fun u_ _ => u_ = bv 2, [3], none, false⟩, ⟨25, BF [2], [4], (some 6), false⟩, ⟨26, OF w.heap.size [(g3, 25, bvs (rb 32 (outK c lm 0))), (gx0, 25, bvs (rb 32 (outK c lm 0))), (g2, 25, bvs (rb 32 (hmacF (rb 32 c) lm))), (g1, 25, bvs (rb 32 c)), (gk0, 25, cur0)] (rb 32 (outK c lm 0) ++ [2]), [2, 5], (some 7), true⟩, ⟨27, fun u_ _ => u_ = .agg (bvs (rb 32 (hmacF (rb 32 (hmacF (rb 32 c) lm)) (rb 32 (outK c lm 0) ++ [2])))), [0, 6], none, false⟩, ⟨11, NewF w.heap.size [(g3, 25, bvs (rb 32 (outK c lm 0))), (gx0, 25, bvs (rb 32 (outK c lm 0))), (g2, 25, bvs (rb 32 (hmacF (rb 32 c) lm))), (g1, 25, bvs (rb 32 c)), (gk0, 25, cur0)] 25 (bvs (rb 32 b0s)), [], none, false⟩] [0, 0, 2, 0, 8, 16, 36, 65, 0, 511] [7, 8] sb_st wr_st (by kernel_rfl) (by kernel_rfl) (by kernel_rfl) H ⟨⟨fun a W H => ob_valS H (wanted_none rfl) (does_slice rfl rfl (vl := none) (vh := none) rfl rfl (sl_key g2)), val_grow, fun _ => val_grow⟩, ⟨fun a W H => ob_valS H (wanted_none rfl) (does_move rfl rfl), val_grow, fun _ => val_grow⟩, ⟨fun a W y1 hy1 H => by subst hy1; exact ob_app0S H (wanted_none rfl) rfl rfl (sl_keyF (H.blk (k := 1) rfl)) (by simp only [List.length_append, rb_len, List.length_cons, List.length_nil]; omega), OF.sb, fun ht_ => by cases ht_⟩, ⟨fun a W H => ob_valS H (wanted_none rfl) (does_move rfl rfl), val_grow, fun _ => val_grow⟩, ⟨fun a W y3 hy3 H => by subst hy3; exact ob_valS H (wanted_none rfl) (does_convert rfl rfl (cv_ib (x := 2) (by omega))), val_grow, fun _ => val_grow⟩, ⟨fun a W y4 hy4 H => by subst hy4; exact ob_byte1S H (wanted_none rfl) rfl rfl, BF.sb, fun ht_ => by cases ht_⟩, ⟨fun a W v2 hv2 v5 hv5 H => ob_appW H (wanted_none rfl) rfl rfl rfl hv2 hv5 (by simp only [List.length_append, rb_len, List.length_cons, List.length_nil]; omega), OF.sb, fun ht_ => by cases ht_⟩, ⟨fun a W y0 hy0 v6 hv6 H => by subst hy0; exact ob_calS H (wanted_none rfl) rfl ⟨_, Tryd.func8, by kernel_rfl⟩ rfl (rmac_any _ (sl_keyF (H.blk (k := 2) rfl)) hv6.bf (by simp only [List.length_append, rb_len, List.length_cons, List.length_nil]; omega) (by simp only [List.length_append, rb_len, List.length_cons, List.length_nil]; omega)), val_grow, fun _ => val_grow⟩, ⟨fun a W H => ob_new H (news_of rfl al_keyK) rfl, NewF.sb, fun _ => NewF.wr (by decide)⟩, trivial⟩ (by kernel_rfl) ?_
  try clear H a W
  intro a W
  rintro _ rfl
  rintro _ ⟨gx1, rfl, hb_, hB_, hn_⟩
  intro H
  replace H := H.add hb_ hB_ hn_
  clear hb_ hB_ hn_
  rw [← outK_1] at H
  replace H : St 34 w a W [(11, .pointer (some ⟨gx1, 0, none⟩)), (27, .agg (bvs (rb 32 (outK c lm 1)))), (17, .bool true), (16, .int .i64 ((3 : Nat) : Int)), (15, .int .i64 ((2 : Nat) : Int)), (10, .int .i64 ((2 : Nat) : Int)), (19, .int .i64 ((2 : Nat) : Int)), (18, .int .i64 1), (9, .slice (some ⟨gx0, 0, none⟩) 32 32), (32, .slice (some ⟨gx0, 0, none⟩) 32 32), (8, .slice (some ⟨gk0, 0, none⟩) 1 cap0), (31, .slice (some ⟨gk0, 0, none⟩) 1 cap0), (30, .slice (some ⟨g3, 0, none⟩) 1 1), (29, .agg (bvs (rb 32 (outK c lm 0)))), (28, .slice none 0 0), (7, .pointer (some ⟨g2, 0, none⟩)), (6, .slice none 0 0), (2, .int .i64 ((3 : Nat) : Int))] [(gx1, 25, bvs (rb 32 b0s)), (g3, 25, bvs (rb 32 (outK c lm 0))), (gx0, 25, bvs (rb 32 (outK c lm 0))), (g2, 25, bvs (rb 32 (hmacF (rb 32 c) lm))), (g1, 25, bvs (rb 32 c)), (gk0, 25, cur0)] := H
  refine rgO H gs0 (rW [1] ⟨rfl, rfl⟩ rfl rfl rfl (info_key _) (size_rb _ _ _) (bvs_one _) <| rZ0 ?_)
  try clear H a W
  intro a W H
  refine hK15 _ _ ?_
  clear hK15
  refine wp_seq_k (fun K16 hK16 => ?_)
  refine rgP H gs0 (rK [1, 1, 1, 1, 1, 1, 1, 1, 1, 1, 1, 1, 1, 1, 0] [] [] <| rS 1 rfl <| rK [1, 1, 1, 1, 1, 1, 1, 1, 1, 1, 1, 1, 1, 1, 0] [] [] <| rV rfl (does_load rfl rfl (k := 0) rfl Tryd.underlying25 rfl (info_key _)) <| rK [1, 1, 1, 1, 1, 1, 1, 1, 1, 1, 1, 1, 1, 1, 0] [] [] <| rM (F := fun g => .slice (some ⟨g, 0, none⟩) 1 1) (t := 25) (z := bvs (rb 32 (outK c lm 1))) rfl (made_key1 rfl rfl) fun g4 => rK [1, 1, 1, 1, 1, 1, 1, 1, 1, 1, 1, 1, 1, 1, 0] [] [] <| rI0 ?_)
  try clear H a W
  intro a W H
  refine pl_outK (h := [(g4, 25, bvs (rb 32 (outK c lm 1))), (gx1, 25, bvs (rb 32 (outK c lm 1))), (g3, 25, bvs (rb 32 (outK c lm 0))), (gx0, 25, bvs (rb 32 (outK c lm 0))), (g2, 25, bvs (rb 32 (hmacF (rb 32 c) lm))), (g1, 25, bvs (rb 32 c))]) (t := [(gk0, 25, cur0)]) (fs := [(outK c lm 0)]) (f := (outK c lm 1)) rfl rfl rfl hk0 (cell_key (H.blk (k := 0) rfl)) (by simp) rfl rfl rfl rfl H ?_
  try clear H a W
  intro vk1 tk1 a W hk1 H
  obtain ⟨gk1, cap1, cur1, rfl, rfl, hc1⟩ := out_cells hk1 (by simp)
  replace H : St 34 w a W [(31, .slice (some ⟨gk1, 0, none⟩) 2 cap1), (30, .slice (some ⟨g4, 0, none⟩) 1 1), (29, .agg (bvs (rb 32 (outK c lm 1)))), (28, .slice (some ⟨gk0, 0, none⟩) 1 cap0), (11, .pointer (some ⟨gx1, 0, none⟩)), (27, .agg (bvs (rb 32 (outK c lm 1)))), (17, .bool true), (16, .int .i64 ((3 : Nat) : Int)), (15, .int .i64 ((2 : Nat) : Int)), (10, .int .i64 ((2 : Nat) : Int)), (19, .int .i64 ((2 : Nat) : Int)), (18, .int .i64 1), (9, .slice (some ⟨gx0, 0, none⟩) 32 32), (32, .slice (some ⟨gx0, 0, none⟩) 32 32), (8, .slice (some ⟨gk0, 0, none⟩) 1 cap0), (7, .pointer (some ⟨g2, 0, none⟩)), (6, .slice none 0 0), (2, .int .i64 ((3 : Nat) : Int))] [(g4, 25, bvs (rb 32 (outK c lm 1))), (gx1, 25, bvs (rb 32 (outK c lm 1))), (g3, 25, bvs (rb 32 (outK c lm 0))), (gx0, 25, bvs (rb 32 (outK c lm 0))), (g2, 25, bvs (rb 32 (hmacF (rb 32 c) lm))), (g1, 25, bvs (rb 32 c)), (gk1, 25, cur1)] := H
  refine rgO H gs0 (rK [1, 1, 1, 1, 1, 1, 1, 1, 1, 1, 1, 1, 1, 1, 0] [] [] <| rS 1 rfl <| rZ0 ?_)
  try clear H a W
  intro a W H
  refine hK16 _ _ ?_
  clear hK16
  refine rgP H gs0 (rK [1, 1, 1, 1, 1, 1, 1, 1, 1, 1, 1, 1, 1, 1, 0] [] [] <| rV rfl (does_slice rfl rfl (vl := none) (vh := none) rfl rfl (sl_key gx1)) <| rK [1, 1, 1, 1, 1, 1, 1, 1, 1, 1, 1, 1, 1, 1, 0] [] [] <| rS 1 rfl <| rZ0 ?_)
  try clear H a W
  intro a W H
  refine blk_normal ?_
  refine hK14 _ _ ?_
  clear hK14
  refine rgP H gs0 (rK [1, 1, 1, 1, 1, 1, 1, 1, 1, 1, 1, 1, 1, 1, 0] [] [] <| rS 1 rfl <| rK [1, 1, 1, 1, 1, 1, 1, 1, 1, 1, 1, 1, 1, 1, 0] [] [] <| rV rfl (does_binOp rfl rfl rfl (i_inc (k := 2) (by omega) _ _)) <| rK [1, 1, 1, 1, 1, 1, 1, 1, 1, 1, 1, 1, 1, 1, 0] [] [] <| rS 1 rfl <| rZ0 ?_)
  try clear H a W
  intro a W H
  refine then_normal ?_
  rw [rounds_succ]
  refine wp_seq_k (fun K17 hK17 => ?_)
  refine sqR H gs0 fun Z_ z_ => rK [1, 1, 1, 1, 1, 1, 1, 1, 1, 1, 1, 1, 1, 1, 0] [] [] <| rS 1 rfl <| rK [1, 1, 1, 1, 1, 1, 1, 1, 1, 1, 1, 1, 1, 1, 0] [] [] <| rS 1 rfl <| rK [1, 1, 1, 1, 1, 1, 1, 1, 1, 1, 1, 1, 1, 1, 0] [] [] <| rV rfl (does_binOp rfl rfl rfl (z_leqK (k := 3) (m := 3) (decide_eq_true (by omega)) _ _)) <| rN0 z_ ?_
  try clear H a W
  intro a W H
  refine wp_cond_true (H.ev rfl) ?_
  refine wp_skip ?_
  refine hK17 _ _ ?_
  clear hK17
  refine wp_seq_k (fun K19 hK19 => ?_)
  refine wp_block ?_
  refine wp_seq_k (fun K20 hK20 => ?_)
  replace H := H.km [1, 1, 1, 1, 1, 1, 1, 1, 1, 1, 1, 1, 1, 1, 0] []
  replace H := H.km [1, 1, 1, 1, 1, 1, 1, 1, 1, 1, 1, 1, 1, 0] []
  refine drawnR SB (WR w.heap.size [(g4, 25, bvs (rb 32 (outK c lm 1))), (gx1, 25, bvs (rb 32 (outK c lm 1))), (g3, 25, bvs (rb 32 (outK c lm 0))), (gx0, 25, bvs (rb 32 (outK c lm 0))), (g2, 25, bvs (rb 32 (hmacF (rb 32 c) lm))), (g1, 25, bvs (rb 32 c)), (gk1, 25, cur1)]) [⟨20, fun u_ _ => u_ = .slice (some ⟨g2, 0, none⟩) 32 32, [], none, false⟩, ⟨21, fun u_ _ => u_ = .slice (some ⟨gx1, 0, none⟩) 32 32, [], none, false⟩, ⟨22, OF w.heap.size [(g4, 25, bvs (rb 32 (outK c lm 1))), (gx1, 25, bvs (rb 32 (outK c lm 1))), (g3, 25, bvs (rb 32 (outK c lm 0))), (gx0, 25, bvs (rb 32 (outK c lm 0))), (g2, 25, bvs (rb 32 (hmacF (rb 32 c) lm))), (g1, 25, bvs (rb 32 c)), (gk1, 25, cur1)] (rb 32 (outK c lm 1)), [1], (some 6), false⟩, ⟨23, fun u_ _ => u_ = .int .i64 ((3 : Nat) : Int), [], none, false⟩, ⟨24, fun u_ _ => u_ = bv 3, [3], none, false⟩, ⟨25, BF [3], [4], (some 6), false⟩, ⟨26, OF w.heap.size [(g4, 25, bvs (rb 32 (outK c lm 1))), (gx1, 25, bvs (rb 32 (outK c lm 1))), (g3, 25, bvs (rb 32 (outK c lm 0))), (gx0, 25, bvs (rb 32 (outK c lm 0))), (g2, 25, bvs (rb 32 (hmacF (rb 32 c) lm))), (g1, 25, bvs (rb 32 c)), (gk1, 25, cur1)] (rb 32 (outK c lm 1) ++ [3]), [2, 5], (some 7), true⟩, ⟨27, fun u_ _ => u_ = .agg (bvs (rb 32 (hmacF (rb 32 (hmacF (rb 32 c) lm)) (rb 32 (outK c lm 1) ++ [3])))), [0, 6], none, false⟩, ⟨11, NewF w.heap.size [(g4, 25, bvs (rb 32 (outK c lm 1))), (gx1, 25, bvs (rb 32 (outK c lm 1))), (g3, 25, bvs (rb 32 (outK c lm 0))), (gx0, 25, bvs (rb 32 (outK c lm 0))), (g2, 25, bvs (rb 32 (hmacF (rb 32 c) lm))), (g1, 25, bvs (rb 32 c)), (gk1, 25, cur1)] 25 (bvs (rb 32 b0s)), [], none, false⟩] [0, 0, 2, 0, 8, 16, 36, 65, 0, 511] [7, 8] sb_st wr_st (by kernel_rfl) (by kernel_rfl) (by kernel_rfl) H ⟨⟨fun a W H => ob_valS H (wanted_none rfl) (does_slice rfl rfl (vl := none) (vh := none) rfl rfl (sl_key g2)), val_grow, fun _ => val_grow⟩, ⟨fun a W H => ob_valS H (wanted_none rfl) (does_move rfl rfl), val_grow, fun _ => val_grow⟩, ⟨fun a W y1 hy1 H => by subst hy1; exact ob_app0S H (wanted_none rfl) rfl rfl (sl_keyF (H.blk (k := 1) rfl)) (by simp only [List.length_append, rb_len, List.length_cons, List.length_nil]; omega), OF.sb, fun ht_ => by cases ht_⟩, ⟨fun a W H => ob_valS H (wanted_none rfl) (does_move rfl rfl), val_grow, fun _ => val_grow⟩, ⟨fun a W y3 hy3 H => by subst hy3; exact ob_valS H (wanted_none rfl) (does_convert rfl rfl (cv_ib (x := 3) (by omega))), val_grow, fun _ => val_grow⟩, ⟨fun a W y4 hy4 H => by subst hy4; exact ob_byte1S H (wanted_none rfl) rfl rfl, BF.sb, fun ht_ => by cases ht_⟩, ⟨fun a W v2 hv2 v5 hv5 H => ob_appW H (wanted_none rfl) rfl rfl rfl hv2 hv5 (by simp only [List.length_append, rb_len, List.length_cons, List.length_nil]; omega), OF.sb, fun ht_ => by cases ht_⟩, ⟨fun a W y0 hy0 v6 hv6 H => by subst hy0; exact ob_calS H (wanted_none rfl) rfl ⟨_, Tryd.func8, by kernel_rfl⟩ rfl (rmac_any _ (sl_keyF (H.blk (k := 4) rfl)) hv6.bf (by simp only [List.length_append, rb_len, List.length_cons, List.length_nil]; omega) (by simp only [List.length_append, rb_len, List.length_cons, List.length_nil]; omega)), val_grow, fun _ => val_grow⟩, ⟨fun a W H => ob_new H (news_of rfl al_keyK) rfl, NewF.sb, fun _ => NewF.wr (by decide)⟩, trivial⟩ (by kernel_rfl) ?_
  try clear H a W
  intro a W
  rintro _ rfl
  rintro _ ⟨gx2, rfl, hb_, hB_, hn_⟩
  intro H
  replace H := H.add hb_ hB_ hn_
  clear hb_ hB_ hn_
  rw [← outK_2] at H
  replace H : St 34 w a W [(11, .pointer (some ⟨gx2, 0, none⟩)), (27, .agg (bvs (rb 32 (outK c lm 2)))), (17, .bool true), (16, .int .i64 ((3 : Nat) : Int)), (15, .int .i64 ((3 : Nat) : Int)), (10, .int .i64 ((3 : Nat) : Int)), (19, .int .i64 ((3 : Nat) : Int)), (18, .int .i64 ((2 : Nat) : Int)), (9, .slice (some ⟨gx1, 0, none⟩) 32 32), (32, .slice (some ⟨gx1, 0, none⟩) 32 32), (8, .slice (some ⟨gk1, 0, none⟩) 2 cap1), (31, .slice (some ⟨gk1, 0, none⟩) 2 cap1), (30, .slice (some ⟨g4, 0, none⟩) 1 1), (29, .agg (bvs (rb 32 (outK c lm 1)))), (28, .slice (some ⟨gk0, 0, none⟩) 1 cap0), (7, .pointer (some ⟨g2, 0, none⟩)), (6, .slice none 0 0), (2, .int .i64 ((3 : Nat) : Int))] [(gx2, 25, bvs (rb 32 b0s)), (g4, 25, bvs (rb 32 (outK c lm 1))), (gx1, 25, bvs (rb 32 (outK c lm 1))), (g3, 25, bvs (rb 32 (outK c lm 0))), (gx0, 25, bvs (rb 32 (outK c lm 0))), (g2, 25, bvs (rb 32 (hmacF (rb 32 c) lm))), (g1, 25, bvs (rb 32 c)), (gk1, 25, cur1)] := H
  refine rgO H gs0 (rW [1] ⟨rfl, rfl⟩ rfl rfl rfl (info_key _) (size_rb _ _ _) (bvs_one _) <| rZ0 ?_)
  try clear H a W
  intro a W H
  refine hK20 _ _ ?_
  clear hK20
  refine wp_seq_k (fun K21 hK21 => ?_)
  refine rgP H gs0 (rK [1, 1, 1, 1, 1, 1, 1, 1, 1, 1, 1, 1, 1, 1, 0] [] [] <| rS 1 rfl <| rK [1, 1, 1, 1, 1, 1, 1, 1, 1, 1, 1, 1, 1, 1, 0] [] [] <| rV rfl (does_load rfl rfl (k := 0) rfl Tryd.underlying25 rfl (info_key _)) <| rK [1, 1, 1, 1, 1, 1, 1, 1, 1, 1, 1, 1, 1, 1, 0] [] [] <| rM (F := fun g => .slice (some ⟨g, 0, none⟩) 1 1) (t := 25) (z := bvs (rb 32 (outK c lm 2))) rfl (made_key1 rfl rfl) fun g5 => rK [1, 1, 1, 1, 1, 1, 1, 1, 1, 1, 1, 1, 1, 1, 0] [] [] <| rI0 ?_)
  try clear H a W
  intro a W H
  refine pl_outK (h := [(g5, 25, bvs (rb 32 (outK c lm 2))), (gx2, 25, bvs (rb 32 (outK c lm 2))), (g4, 25, bvs (rb 32 (outK c lm 1))), (gx1, 25, bvs (rb 32 (outK c lm 1))), (g3, 25, bvs (rb 32 (outK c lm 0))), (gx0, 25, bvs (rb 32 (outK c lm 0))), (g2, 25, bvs (rb 32 (hmacF (rb 32 c) lm))), (g1, 25, bvs (rb 32 c))]) (t := [(gk1, 25, cur1)]) (fs := [(outK c lm 0), (outK c lm 1)]) (f := (outK c lm 2)) rfl rfl rfl hk1 (cell_key (H.blk (k := 0) rfl)) (by simp) rfl rfl rfl rfl H ?_
  try clear H a W
  intro vk2 tk2 a W hk2 H
  obtain ⟨gk2, cap2, cur2, rfl, rfl, hc2⟩ := out_cells hk2 (by simp)
  replace H : St 34 w a W [(31, .slice (some ⟨gk2, 0, none⟩) 3 cap2), (30, .slice (some ⟨g5, 0, none⟩) 1 1), (29, .agg (bvs (rb 32 (outK c lm 2)))), (28, .slice (some ⟨gk1, 0, none⟩) 2 cap1), (11, .pointer (some ⟨gx2, 0, none⟩)), (27, .agg (bvs (rb 32 (outK c lm 2)))), (17, .bool true), (16, .int .i64 ((3 : Nat) : Int)), (15, .int .i64 ((3 : Nat) : Int)), (10, .int .i64 ((3 : Nat) : Int)), (19, .int .i64 ((3 : Nat) : Int)), (18, .int .i64 ((2 : Nat) : Int)), (9, .slice (some ⟨gx1, 0, none⟩) 32 32), (32, .slice (some ⟨gx1, 0, none⟩) 32 32), (8, .slice (some ⟨gk1, 0, none⟩) 2 cap1), (7, .pointer (some ⟨g2, 0, none⟩)), (6, .slice none 0 0), (2, .int .i64 ((3 : Nat) : Int))] [(g5, 25, bvs (rb 32 (outK c lm 2))), (gx2, 25, bvs (rb 32 (outK c lm 2))), (g4, 25, bvs (rb 32 (outK c lm 1))), (gx1, 25, bvs (rb 32 (outK c lm 1))), (g3, 25, bvs (rb 32 (outK c lm 0))), (gx0, 25, bvs (rb 32 (outK c lm 0))), (g2, 25, bvs (rb 32 (hmacF (rb 32 c) lm))), (g1, 25, bvs (rb 32 c)), (gk2, 25, cur2)] := H
  refine rgO H gs0 (rK [1, 1, 1, 1, 1, 1, 1, 1, 1, 1, 1, 1, 1, 1, 0] [] [] <| rS 1 rfl <| rZ0 ?_)
  try clear H a W
  intro a W H
  refine hK21 _ _ ?_
  clear hK21
  refine rgP H gs0 (rK [1, 1, 1, 1, 1, 1, 1, 1, 1, 1, 1, 1, 1, 1, 0] [] [] <| rV rfl (does_slice rfl rfl (vl := none) (vh := none) rfl rfl (sl_key gx2)) <| rK [1, 1, 1, 1, 1, 1, 1, 1, 1, 1, 1, 1, 1, 1, 0] [] [] <| rS 1 rfl <| rZ0 ?_)
  try clear H a W
  intro a W H
  refine blk_normal ?_
  refine hK19 _ _ ?_
  clear hK19
  refine rgP H gs0 (rK [1, 1, 1, 1, 1, 1, 1, 1, 1, 1, 1, 1, 1, 1, 0] [] [] <| rS 1 rfl <| rK [1, 1, 1, 1, 1, 1, 1, 1, 1, 1, 1, 1, 1, 1, 0] [] [] <| rV rfl (does_binOp rfl rfl rfl (i_inc (k := 3) (by omega) _ _)) <| rK [1, 1, 1, 1, 1, 1, 1, 1, 1, 1, 1, 1, 1, 1, 0] [] [] <| rS 1 rfl <| rZ0 ?_)
  try clear H a W
  intro a W H
  refine then_normal ?_
  rw [rounds_succ]
  refine wp_seq_k (fun K22 hK22 => ?_)
  refine sqR H gs0 fun Z_ z_ => rK [1, 1, 1, 1, 1, 1, 1, 1, 1, 1, 1, 1, 1, 1, 0] [] [] <| rS 1 rfl <| rK [1, 1, 1, 1, 1, 1, 1, 1, 1, 1, 1, 1, 1, 1, 0] [] [] <| rS 1 rfl <| rK [1, 1, 1, 1, 1, 1, 1, 1, 1, 1, 1, 1, 1, 1, 0] [] [] <| rV rfl (does_binOp rfl rfl rfl (z_leqK (k := 4) (m := 3) (decide_eq_false (by omega)) _ _)) <| rK [1, 0, 0, 1, 1, 1, 1, 1, 1, 1, 1, 1, 1, 1, 1, 1, 1, 0] [] [] <| rN0 z_ ?_
  try clear H a W
  intro a W H
  refine wp_cond_false (H.ev rfl) ?_
  refine wp_exit ?_
  repeat (with_reducible refine then_exit ?_)
  refine blk_exit ?_
  refine hK5 _ _ ?_
  clear hK5
  refine sqR H gs0 fun Z_ z_ => rS 1 rfl <| rK [1, 1, 1, 1, 1, 1, 1, 1, 1, 1, 1, 1, 1, 1, 1, 0] [] [] <| rS 1 rfl <| rK [1, 0, 0, 0, 0, 0, 0, 0, 0, 0, 0, 0, 0, 0, 0, 0] [] [] <| rN0 z_ ?_
  try clear H a W
  intro a W H
  refine wp_ret ?_
  repeat (first | (with_reducible refine then_ret ?_) | (with_reducible refine blk_ret ?_))
  refine end_tmp (p := 6) rfl rfl H (fun hb => ?_)
  exact ⟨gk2, cap2, cur2, rfl, hb, H.blk (k := 8) rfl, H.own _ (List.mem_iff_getElem?.2 ⟨8, rfl⟩), hc2⟩
end Go.Proofs.YthjechjffhhiiaaDoor
