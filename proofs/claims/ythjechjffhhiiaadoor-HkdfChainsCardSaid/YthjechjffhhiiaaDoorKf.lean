/- Package hkdf: a key filled up, its hash, macs, outputs, names' secrets; what it answers (hk_of). -/
import Derived.Test.YthjechjffhhiiaaDoorKe
import Derived.Test.YthjechjffhhiiaaDoorBq
import Derived.Test.YthjechjffhhiiaaDoorZe
import Derived.ArgAppend
namespace Go.Proofs.YthjechjffhhiiaaDoor
set_option linter.unusedVariables false
set_option linter.unusedSimpArgs false
set_option maxRecDepth 100000
open Go Go.RowKit

/-! Purely. -/
theorem blt_yesK {i k : Nat} (h : i < k) : Nat.blt i k = true := by
  rw [Nat.blt_eq]
  exact h
theorem blt_noK {i k : Nat} (h : k ≤ i) : Nat.blt i k = false := by
  cases e : Nat.blt i k with
  | false => rfl
  | true =>
    rw [Nat.blt_eq] at e
    omega
/-- 64 bytes, each xor a number; the first k alone. -/
def xorA (f : Nat → UInt8) (c : Nat) (i : Nat) : UInt8 := f i ^^^ UInt8.ofNat c
def xorK (f : Nat → UInt8) (c : Nat) (k i : Nat) : UInt8 := bif Nat.blt i k then xorA f c i else f i
theorem xorK_0 (f : Nat → UInt8) (c : Nat) : xorK f c 0 = f := funext fun i => rfl
theorem xorK_at (f : Nat → UInt8) (c : Nat) (k : Nat) : xorK f c k k = f k := by
  unfold xorK
  rw [blt_noK (Nat.le_refl k)]
  rfl
theorem xorK_step (f : Nat → UInt8) (c : Nat) (k : Nat) : updB (xorK f c k) k (xorK f c k k ^^^ UInt8.ofNat c) = xorK f c (k + 1) := funext fun i => by
  rw [xorK_at]
  unfold updB xorK
  rcases Nat.lt_trichotomy i k with h | rfl | h
  · rw [nb_ne (show i ≠ k by omega), blt_yesK h, blt_yesK (show i < k + 1 by omega)]
    rfl
  · rw [Nat.beq_refl, blt_yesK (show i < i + 1 by omega)]
    rfl
  · rw [nb_ne (show i ≠ k by omega), blt_noK (show k ≤ i by omega), blt_noK (show k + 1 ≤ i by omega)]
    rfl
theorem xorK_all (f : Nat → UInt8) (c : Nat) : bvs (rb 64 (xorK f c 64)) = bvs (rb 64 (xorA f c)) := by
  rw [rb_ext (n := 64) (f := xorK f c 64) (g := xorA f c) fun i hi => by
    unfold xorK
    rw [blt_yesK hi]
    rfl]
theorem inn_xor (l : List UInt8) : xorA (keyF l) 54 = innL l := rfl
theorem out_xor (l : List UInt8) : xorA (keyF l) 92 = outL l := rfl
/-! Operations. -/
theorem al_hblk (W : World) : (Instr.alloc 41 true (.tuple #[])).run Tryd.prog W = .ok (.pointer (some ⟨W.heap.size, 0, none⟩)) (W.alloc (.cells (bvs (rb 64 b0s)) 41)) := by kernel_rfl
theorem bx_hblk (f : Nat → UInt8) (W : World) : (Instr.box 41 (.agg (bvs (rb 64 f)))).run Tryd.prog W = .ok (.pointer (some ⟨W.heap.size, 0, none⟩)) (W.alloc (.cells (bvs (rb 64 f)) 41)) := by kernel_rfl
theorem info_hblk (f : Nat → UInt8) : (Tryd.prog.info? 41).map (·.size) = some (bvs (rb 64 f)).size := by rw [bvs_size, rb_len]; kernel_rfl
theorem ia_hblk {j : Nat} (hj : j < 64) {g : Nat} (W : World) : (Instr.indexAt 41 (.pointer (some ⟨g, 0, none⟩)) (.int .i64 (j : Int))).run Tryd.prog W = .ok (.pointer (some ⟨g, j, none⟩)) W := by
  have h1 : (0 : Int) ≤ (j : Int) := by omega
  have h2 : (j : Int) < 64 := by omega
  go_simp
theorem sl_hblk (g : Nat) (W : World) : (Instr.sliceAt 41 (.pointer (some ⟨g, 0, none⟩)) none none none).run Tryd.prog W = .ok (.slice (some ⟨g, 0, none⟩) 64 64) W := by kernel_rfl
theorem sl_blkF {W : World} {g : Nat} {t : TypeId} {f : Nat → UInt8} (h : Blk W g t (bvs (rb 64 f))) : BF (rb 64 f) (.slice (some ⟨g, 0, none⟩) 64 64) W := ⟨_, _, _, rfl, BS.ofBlk h _ (rb_len _ _).symm _ h.lt⟩
/-! Slices of slices that are appended to a literal. -/
theorem PV.app {W : World} {B : Nat} {xs ys : List Value} {L M : List (List UInt8)} (h : PV W B xs L) (h' : PV W B ys M) : PV W B (xs ++ ys) (L ++ M) := by
  refine ⟨by simp [h.len, h'.len], fun j l hj => ?_, fun u hu => ?_⟩
  · by_cases hlt : j < L.length
    · rw [List.getElem?_append_left hlt] at hj
      obtain ⟨Aj, nj, cj, h1, h2⟩ := h.at_ j l hj
      exact ⟨Aj, nj, cj, by rw [List.getElem?_append_left (by rw [h.len]; exact hlt)]; exact h1, h2⟩
    · rw [List.getElem?_append_right (by omega)] at hj
      obtain ⟨Aj, nj, cj, h1, h2⟩ := h'.at_ _ l hj
      exact ⟨Aj, nj, cj, by rw [List.getElem?_append_right (by rw [h.len]; omega), h.len]; exact h1, h2⟩
  · rcases List.mem_append.1 hu with hu | hu
    · exact h.one u hu
    · exact h'.one u hu
theorem RS.pv {w : World} {B b o n c : Nat} {L : List (List UInt8)} (h : RS w B (some ⟨b, o, none⟩) n c L) : ∃ ys, PV w B ys L ∧ ∀ j u, ys[j]? = some u → w.cell? ⟨b, o + j, none⟩ = some u := by
  have key : ∀ (j : Nat) (l : List UInt8), L[j]? = some l → ∃ Aj nj cj, w.cell? ⟨b, o + j, none⟩ = some (.slice Aj nj cj) ∧ BS w B Aj nj cj l := by
    intro j l hl
    have hn : 0 < n := by have := (List.getElem?_eq_some_iff.1 hl).1; have := h.len; omega
    obtain ⟨b', o', e, hb, hc⟩ := h.at_ hn
    injection e with e
    injection e with e1 e2
    subst e1 e2
    exact hc j l hl
  have get : ∀ j, j < L.length → ((List.range L.length).map (fun j => (w.cell? ⟨b, o + j, none⟩).getD undef))[j]? = some ((w.cell? ⟨b, o + j, none⟩).getD undef) := fun j hj => by simp [hj]
  refine ⟨(List.range L.length).map (fun j => (w.cell? ⟨b, o + j, none⟩).getD undef), ⟨by simp, fun j l hl => ?_, fun u hu => ?_⟩, fun j u hu => ?_⟩
  · obtain ⟨Aj, nj, cj, h1, h2⟩ := key j l hl
    refine ⟨Aj, nj, cj, ?_, h2⟩
    rw [get j (List.getElem?_eq_some_iff.1 hl).1, h1]
    rfl
  · obtain ⟨j, hj, rfl⟩ := List.mem_map.1 hu
    have hj := List.mem_range.1 hj
    obtain ⟨Aj, nj, cj, h1, h2⟩ := key j L[j] (List.getElem?_eq_getElem hj)
    rw [h1]
    rfl
  · have hj : j < L.length := by
      have := (List.getElem?_eq_some_iff.1 hu).1
      simpa using this
    obtain ⟨Aj, nj, cj, h1, h2⟩ := key j L[j] (List.getElem?_eq_getElem hj)
    rw [get j hj] at hu
    rw [← hu, h1]
    rfl
theorem info_rowsK : (Tryd.prog.info? 22).map (fun i => (i.zero, i.size, i.bytes)) = some (some (.slice none 0 0), 1, 24) := by kernel_rfl
theorem Below.noneK {w w' : World} (h : w.grownBy w' none) : Below w.heap.size w w' := (Below.refl _ _).grown h (Nat.le_refl _) (fun g e => by cases e)
/-- 'append(v, u...)' of slices, v a literal. -/
theorem run_app_rows {w : World} (ty : TypeId) {L M : List (List UInt8)} {v u : Value} (hv : LF L v w) (hu : RF M u w) (hs : L.length + M.length ≤ 1000000) :
    ∃ v' w', (Builtin.append_ #[40, 40] ty #[v, u]).run Tryd.prog w = .ok v' w' ∧ Below w.heap.size w w' ∧ RF (L ++ M) v' w' := by
  obtain ⟨i, hi, hz, hsz, hby⟩ := info_parts info_rowsK
  have hrf := hv.rf
  obtain ⟨g, xs, rfl, hgl, hb, hp⟩ := hv
  obtain ⟨A, n, c, rfl, hr⟩ := hu
  have hxl := hp.len
  by_cases hn : n = 0
  · subst hn
    obtain rfl : M = [] := List.eq_nil_of_length_eq_zero hr.len
    refine ⟨_, w, ?_, Below.refl _ _, by rw [List.append_nil]; exact hrf⟩
    cases A <;> simp [Builtin.append_, run_underlying Tryd.underlying40, sizeOf, typeInfo, hi, Builtin.lenOf, Builtin.firstCells, storeCells, loadCells, loadCellsFrom]
  · obtain ⟨b, o, rfl, hB, _⟩ := hr.at_ (by omega)
    obtain ⟨ys, hys, hyc⟩ := hr.pv
    have hyl := hys.len
    have hml := hr.len
    obtain ⟨v', w', h1, h2, h3⟩ := run_append_arg_grows (P := Tryd.prog) w 40 ty 22 i _ 1 24 Tryd.underlying40 hi hz hsz hby rfl (by omega) ⟨g, 0, none⟩ L.length L.length xs (by omega) (fun j u hu => by
        rw [Addr.add_lit, Nat.zero_add]
        exact hb j u hu) ⟨b, o, none⟩ n c ys (by omega) (fun j u hu => by
        rw [Addr.add_lit]
        exact hyc j u hu) (by omega) (by simp only [maxLen]; omega) (by omega)
    have hbel := Below.noneK h3
    refine ⟨v', w', h1, hbel, ?_⟩
    have hpv : PV w' w'.heap.size (xs ++ ys) (L ++ M) := ((hp.app hys).below hbel).more hbel.size
    have hlt := World.ownsRow.lt h2
    rcases h2.2 with ⟨rfl, h0⟩ | ⟨g', cap, cur, rfl, hbb, hh, hc, hm, hcs, ht⟩
    · omega
    · refine ⟨_, _, _, rfl, rs_row (g := g') (fun j u hu => ?_) (hlt g' rfl).2 hpv (by rw [List.length_append]; omega)⟩
      have := World.ownsRow.cells h2 (g := g') rfl j u hu
      rw [Addr.add_lit, Nat.zero_add] at this
      exact this
section
variable {n : Nat} {w0 w w' : World} {a : Act} {e : Env} {h : Hep} {Q : Exit → Act → World → Prop} {ops : Array Oper} {o : Oper}
theorem ob_appRS {x y : Operand} {v u : Value} {L M : List (List UInt8)} (H : St n w0 a w e h) (hw : ∀ a w, St n w0 a w e h → Region.wanted o (yielded ops a.tmps) = true) (ho : o.op = .call { callee := .builtin .append, args := #[x, y], argTypes := #[40, 40] })
    (hx : sev e x = some v) (hy : sev e y = some u) (hv : LF L v w) (hu : RF M u w) (hs : L.length + M.length ≤ 1000000) : ObS Tryd.prog ops Q o a w (RF (L ++ M)) := by
  refine ob_runR H hw ?_
  obtain ⟨v', w', h1, h2, h3⟩ := run_app_rows (w := w) o.type hv hu hs
  refine ⟨v', w', ?_, h2, h3⟩
  simp [execOp, ho, resolve, invoke, builtin, H.ev hx, H.ev hy, h1, Result.andThen]
end
theorem sum_zK {v : Value} {L : List (List UInt8)} {l : List UInt8} (w : World) (hpg : PG w) (hv : RF L v w) (e : L.flatten = l) (h1 : l.length ≤ 100000) (h2 : L.length ≤ 1000) : Calls Tryd.prog 21 #[v] w (fun rr w' => rr = .returned (.agg (bvs (rb 32 (hashB l)))) ∧ Below w.heap.size w w') := by
  subst e
  exact sum_rf w hpg hv h1 h2
attribute [local irreducible] bvs bv rb hashB keyF innL outL hmacF OutB OutK outK strB c1K xorA xorK
set_option maxHeartbeats 4000000 in
theorem filled_long {vk : Value} {lk : List UInt8} (w : World) (hpg : PG w) (hvk : BF lk vk w) (h5 : 64 < lk.length) (h1 : lk.length ≤ 1000) : Calls Tryd.prog 15 #[vk] w (fun rr w' => rr = .returned (.agg (bvs (rb 64 (keyF lk)))) ∧ Below w.heap.size w w') := by
  obtain ⟨Ak, nk, ck, rfl, hbk⟩ := id hvk
  have hnk := hbk.len
  refine calls_st (vs := [.slice Ak nk ck]) 16 Tryd.func15 rfl Tryd.ntmps15 rfl (fun a W H => ?_)
  replace H : St 16 w a W [(0, .slice Ak nk ck)] [] := H
  refine sqR H gs0 fun Z_ z_ => rA rfl rfl al_hblk fun g1 => rN0 z_ ?_
  try clear H a W
  intro a W H
  refine wp_seq_k (fun K2 hK2 => ?_)
  refine sqR H gs0 fun Z_ z_ => rS 1 rfl <| rV rfl (does_len Tryd.underlying22 rfl rfl) <| rV rfl (does_binOp rfl rfl rfl (z_gtrZ (k := ((nk : Nat) : Int)) (m := 64) (decide_eq_true (by omega)) _ _)) <| rK [1, 0, 0] [] [] <| rN0 z_ ?_
  try clear H a W
  intro a W H
  refine wp_cond_true (H.ev rfl) ?_
  refine sqR H gs0 fun Z_ z_ => rS 1 rfl <| rO rfl (fun a W H _ => ob_rows1S H (wanted_none rfl) rfl rfl (bf_old hvk H)) fun v9 => rCV rfl rfl ⟨_, Tryd.func21, by kernel_rfl⟩ rfl (fun a W H ⟨hv9, _⟩ => (sum_zK (l := lk) _ (hpg.ext H.below) hv9.rf (by simp) (by first | omega | (simp only [List.length_append, List.flatten_cons, List.flatten_nil, List.append_nil, List.cons_append, List.nil_append, rb_len, List.length_cons, List.length_nil]; omega)) (by simp; try omega))) <| rA rfl rfl al_keyK fun g2 => rW [1] ⟨rfl, rfl⟩ rfl rfl rfl (info_key _) (size_rb _ _ _) (bvs_one _) <| rK [1, 0, 0, 0, 0] [] [] <| rN0 z_ ?_
  try clear H a W
  intro a W H
  refine rgP H gs0 (rV rfl (does_slice rfl rfl (vl := none) (vh := none) rfl rfl (sl_key g2)) <| rK [1, 1, 1, 0] [] [] <| rS 1 rfl <| rK [1, 0, 0] [] [] <| rZ0 ?_)
  try clear H a W
  intro a W H
  refine hK2 _ _ ?_
  clear hK2
  refine sqR H gs0 fun Z_ z_ => rA rfl rfl al_hblk fun g3 => rN0 z_ ?_
  try clear H a W
  intro a W H
  refine wp_seq_k (fun K6 hK6 => ?_)
  refine rgP H gs0 (rV rfl (does_slice rfl rfl (vl := none) (vh := none) rfl rfl (sl_hblk g3)) <| rS 1 rfl <| rI0 ?_)
  try clear H a W
  intro a W H
  refine pl_copy rfl Tryd.underlying22 size_u8K rfl rfl (k := 0) rfl (k2 := 1) rfl (m := 32) rfl (by rw [bvs_size, rb_len]; omega) (by rw [bvs_size, rb_len]; omega) (bvs_one _) (cp_hash (by omega)) rfl rfl rfl rfl H ?_
  try clear H a W
  intro a W H
  replace H : St 16 w a W [(14, .int .i64 ((32 : Nat) : Int)), (13, .slice (some ⟨g2, 0, none⟩) 32 32), (12, .slice (some ⟨g3, 0, none⟩) 64 64), (4, .pointer (some ⟨g3, 0, none⟩)), (0, .slice (some ⟨g2, 0, none⟩) 32 32), (2, .pointer (some ⟨g1, 0, none⟩))] [(g3, 41, bvs (rb 64 (keyF lk))), (g2, 25, bvs (rb 32 (hashB lk))), (g1, 41, bvs (rb 64 b0s))] := H
  refine rgO H gs0 (rK [0, 0, 0, 1, 0] [] [] <| rZ0 ?_)
  try clear H a W
  intro a W H
  refine hK6 _ _ ?_
  clear hK6
  refine sqR H gs0 fun Z_ z_ => rV rfl (does_load rfl rfl (k := 0) rfl Tryd.underlying41 rfl (info_hblk _)) <| rW [0, 0, 1] ⟨rfl, rfl⟩ rfl rfl rfl (info_hblk _) (size_rb _ _ _) (bvs_one _) <| rK [0, 0] [] [] <| rN0 z_ ?_
  try clear H a W
  intro a W H
  refine wp_ret ?_
  repeat (first | (with_reducible refine then_ret ?_) | (with_reducible refine blk_ret ?_))
  refine end_cell (p := 2) rfl rfl (k := 2) rfl Tryd.underlying41 rfl (info_hblk _) H (fun hb => ?_)
  exact ⟨rfl, hb⟩
set_option maxHeartbeats 4000000 in
theorem filled_some {vk : Value} {lk : List UInt8} (w : World) (hpg : PG w) (hvk : BF lk vk w) (h5 : lk.length ≤ 64) (h6 : 0 < lk.length) : Calls Tryd.prog 15 #[vk] w (fun rr w' => rr = .returned (.agg (bvs (rb 64 (keyF lk)))) ∧ Below w.heap.size w w') := by
  obtain ⟨Ak, nk, ck, rfl, hbk⟩ := id hvk
  have hnk := hbk.len
  refine calls_st (vs := [.slice Ak nk ck]) 16 Tryd.func15 rfl Tryd.ntmps15 rfl (fun a W H => ?_)
  replace H : St 16 w a W [(0, .slice Ak nk ck)] [] := H
  refine sqR H gs0 fun Z_ z_ => rA rfl rfl al_hblk fun g1 => rN0 z_ ?_
  try clear H a W
  intro a W H
  refine wp_seq_k (fun K2 hK2 => ?_)
  refine sqR H gs0 fun Z_ z_ => rS 1 rfl <| rV rfl (does_len Tryd.underlying22 rfl rfl) <| rV rfl (does_binOp rfl rfl rfl (z_gtrZ (k := ((nk : Nat) : Int)) (m := 64) (decide_eq_false (by omega)) _ _)) <| rK [1, 0, 0] [] [] <| rN0 z_ ?_
  try clear H a W
  intro a W H
  refine wp_cond_false (H.ev rfl) ?_
  refine wp_skip ?_
  refine hK2 _ _ ?_
  clear hK2
  refine sqR H gs0 fun Z_ z_ => rA rfl rfl al_hblk fun g2 => rK [1, 0] [] [] <| rN0 z_ ?_
  try clear H a W
  intro a W H
  refine wp_seq_k (fun K5 hK5 => ?_)
  refine rgP H gs0 (rV rfl (does_slice rfl rfl (vl := none) (vh := none) rfl rfl (sl_hblk g2)) <| rS 1 rfl <| rI0 ?_)
  try clear H a W
  intro a W H
  refine pl_copyB rfl Tryd.underlying22 size_u8K rfl rfl (k := 0) rfl hbk (Nat.min_eq_left (by omega)) (by omega) (by rw [bvs_size, rb_len]; omega) (cp_take hnk (by omega)) rfl rfl rfl rfl H ?_
  try clear H a W
  intro a W H
  replace H : St 16 w a W [(14, .int .i64 ((nk : Nat) : Int)), (13, .slice Ak nk ck), (12, .slice (some ⟨g2, 0, none⟩) 64 64), (4, .pointer (some ⟨g2, 0, none⟩)), (2, .pointer (some ⟨g1, 0, none⟩)), (0, .slice Ak nk ck)] [(g2, 41, bvs (rb 64 (keyF lk))), (g1, 41, bvs (rb 64 b0s))] := H
  refine rgO H gs0 (rK [0, 0, 0, 1, 1, 0] [] [] <| rZ0 ?_)
  try clear H a W
  intro a W H
  refine hK5 _ _ ?_
  clear hK5
  refine sqR H gs0 fun Z_ z_ => rV rfl (does_load rfl rfl (k := 0) rfl Tryd.underlying41 rfl (info_hblk _)) <| rW [0, 1] ⟨rfl, rfl⟩ rfl rfl rfl (info_hblk _) (size_rb _ _ _) (bvs_one _) <| rK [0, 0] [] [] <| rN0 z_ ?_
  try clear H a W
  intro a W H
  refine wp_ret ?_
  repeat (first | (with_reducible refine then_ret ?_) | (with_reducible refine blk_ret ?_))
  refine end_cell (p := 2) rfl rfl (k := 1) rfl Tryd.underlying41 rfl (info_hblk _) H (fun hb => ?_)
  exact ⟨rfl, hb⟩
set_option maxHeartbeats 4000000 in
theorem filled_none {vk : Value} {lk : List UInt8} (w : World) (hpg : PG w) (hvk : BF lk vk w) (h5 : lk.length = 0) : Calls Tryd.prog 15 #[vk] w (fun rr w' => rr = .returned (.agg (bvs (rb 64 (keyF lk)))) ∧ Below w.heap.size w w') := by
  obtain ⟨Ak, nk, ck, rfl, hbk⟩ := id hvk
  have hnk := hbk.len
  obtain rfl : nk = 0 := by omega
  refine calls_st (vs := [.slice Ak 0 ck]) 16 Tryd.func15 rfl Tryd.ntmps15 rfl (fun a W H => ?_)
  replace H : St 16 w a W [(0, .slice Ak 0 ck)] [] := H
  refine sqR H gs0 fun Z_ z_ => rA rfl rfl al_hblk fun g1 => rN0 z_ ?_
  try clear H a W
  intro a W H
  refine wp_seq_k (fun K2 hK2 => ?_)
  refine sqR H gs0 fun Z_ z_ => rS 1 rfl <| rV rfl (does_len Tryd.underlying22 rfl rfl) <| rV rfl (does_binOp rfl rfl rfl (z_gtrZ (k := ((0 : Nat) : Int)) (m := 64) (decide_eq_false (by omega)) _ _)) <| rK [1, 0, 0] [] [] <| rN0 z_ ?_
  try clear H a W
  intro a W H
  refine wp_cond_false (H.ev rfl) ?_
  refine wp_skip ?_
  refine hK2 _ _ ?_
  clear hK2
  refine sqR H gs0 fun Z_ z_ => rA rfl rfl al_hblk fun g2 => rK [1, 0] [] [] <| rN0 z_ ?_
  try clear H a W
  intro a W H
  refine wp_seq_k (fun K5 hK5 => ?_)
  refine rgP H gs0 (rV rfl (does_slice rfl rfl (vl := none) (vh := none) rfl rfl (sl_hblk g2)) <| rS 1 rfl <| rI0 ?_)
  try clear H a W
  intro a W H
  refine pl_copyE rfl Tryd.underlying22 size_u8K rfl rfl rfl rfl rfl rfl H ?_
  try clear H a W
  intro a W H
  replace H : St 16 w a W [(14, .int .i64 ((0 : Nat) : Int)), (13, .slice Ak 0 ck), (12, .slice (some ⟨g2, 0, none⟩) 64 64), (4, .pointer (some ⟨g2, 0, none⟩)), (2, .pointer (some ⟨g1, 0, none⟩)), (0, .slice Ak 0 ck)] [(g2, 41, bvs (rb 64 b0s)), (g1, 41, bvs (rb 64 b0s))] := H
  refine rgO H gs0 (rK [0, 0, 0, 1, 1, 0] [] [] <| rZ0 ?_)
  try clear H a W
  intro a W H
  refine hK5 _ _ ?_
  clear hK5
  refine sqR H gs0 fun Z_ z_ => rV rfl (does_load rfl rfl (k := 0) rfl Tryd.underlying41 rfl (info_hblk _)) <| rW [0, 1] ⟨rfl, rfl⟩ rfl rfl rfl (info_hblk _) (size_rb _ _ _) (bvs_one _) <| rK [0, 0] [] [] <| rN0 z_ ?_
  try clear H a W
  intro a W H
  refine wp_ret ?_
  repeat (first | (with_reducible refine then_ret ?_) | (with_reducible refine blk_ret ?_))
  refine end_cell (p := 2) rfl rfl (k := 1) rfl Tryd.underlying41 rfl (info_hblk _) H (fun hb => ?_)
  exact ⟨by rw [cp_none (by omega)], hb⟩
theorem filled_any {vk : Value} {lk : List UInt8} (w : World) (hpg : PG w) (hvk : BF lk vk w) (h1 : lk.length ≤ 1000) : Calls Tryd.prog 15 #[vk] w (fun rr w' => rr = .returned (.agg (bvs (rb 64 (keyF lk)))) ∧ Below w.heap.size w w') := by
  rcases (show 64 < lk.length ∨ (lk.length ≤ 64 ∧ 0 < lk.length) ∨ lk.length = 0 by omega) with h5 | ⟨h5, h6⟩ | h5
  · exact filled_long w hpg hvk h5 h1
  · exact filled_some w hpg hvk h5 h6
  · exact filled_none w hpg hvk h5
set_option maxHeartbeats 4000000 in
theorem hh_any {vp : Value} {L : List (List UInt8)} {f : Nat → UInt8} {c : Nat} (w : World) (hpg : PG w) (hc : c < 256) (hvp : RF L vp w) (h1 : L.flatten.length ≤ 1000) (h2 : L.length ≤ 500) : Calls Tryd.prog 16 #[.agg (bvs (rb 64 f)), .int .u8 ((c : Nat) : Int), vp] w (fun rr w' => rr = .returned (.agg (bvs (rb 32 (hashB (rb 64 (xorA f c) ++ L.flatten))))) ∧ Below w.heap.size w w') := by
  refine calls_st (vs := [.agg (bvs (rb 64 f)), .int .u8 ((c : Nat) : Int), vp]) 23 Tryd.func16 rfl Tryd.ntmps16 rfl (fun a W H => ?_)
  replace H : St 23 w a W [(0, .agg (bvs (rb 64 f))), (1, .int .u8 ((c : Nat) : Int)), (2, vp)] [] := H
  refine sqR H gs0 fun Z_ z_ => rB rfl rfl rfl (bx_hblk f) fun g1 => rA rfl rfl al_keyK fun g2 => rK [1, 1, 0] [] [] <| rN0 z_ ?_
  try clear H a W
  intro a W H
  refine wp_seq_k (fun K2 hK2 => ?_)
  refine sqR H gs0 fun Z_ z_ => rS 1 rfl <| rN0 z_ ?_
  try clear H a W
  intro a W H
  replace H : St 23 w a W [(8, .int .i64 0), (6, .pointer (some ⟨g2, 0, none⟩)), (3, .pointer (some ⟨g1, 0, none⟩)), (1, .int .u8 ((c : Nat) : Int)), (2, vp)] [(g2, 25, bvs (rb 32 b0s)), (g1, 41, bvs (rb 64 (xorK f c 0)))] := by rw [xorK_0]; exact H
  refine wp_block ?_
  replace H : St 23 w a W [(8, .int .i64 ((0 : Nat) : Int)), (6, .pointer (some ⟨g2, 0, none⟩)), (3, .pointer (some ⟨g1, 0, none⟩)), (1, .int .u8 ((c : Nat) : Int)), (2, vp)] [(g2, 25, bvs (rb 32 b0s)), (g1, 41, bvs (rb 64 (xorK f c 0)))] := H.pick [0, 1, 2, 3, 4] [0, 1] rfl
  refine wp_rounds 64 (fun k a W => St 23 w a W [(8, .int .i64 ((k : Nat) : Int)), (6, .pointer (some ⟨g2, 0, none⟩)), (3, .pointer (some ⟨g1, 0, none⟩)), (1, .int .u8 ((c : Nat) : Int)), (2, vp)] [(g2, 25, bvs (rb 32 b0s)), (g1, 41, bvs (rb 64 (xorK f c k)))]) (k0 := 0) H (by omega) ?_
  try clear H a W
  intro k a W hk H
  by_cases hk2 : k < 64
  · refine sqR H gs0 fun Z_ z_ => rV rfl (does_binOp rfl rfl rfl (i_lss_yes (k := k) (m := 64) (by omega) _ _)) <| rN0 z_ ?_
    try clear H a W
    intro a W H
    refine cdT H rfl ?_
    refine wp_seq_k (fun K5 hK5 => ?_)
    refine wp_block ?_
    refine sqR H gs0 fun Z_ z_ => rS 2 rfl <| rN0 z_ ?_
    try clear H a W
    intro a W H
    refine rgP H gs0 (rS 1 rfl <| rV rfl (does_indexAddr rfl rfl rfl (ia_hblk (j := k) (by omega))) <| rV rfl (does_loadAt (v := bv ((xorK f c k) k)) rfl rfl (k := 1) rfl (ld_byte (by omega))) <| rS 1 rfl <| rV rfl (does_binOp rfl rfl rfl (b_xorK _ c hc _ _)) <| rV rfl (does_indexAddr rfl rfl rfl (ia_hblk (j := k) (by omega))) <| rX [0, 1] (c := bvs (rb 64 (xorK f c (k + 1)))) ⟨rfl, rfl⟩ rfl rfl rfl (st_byte (by omega)) (sv_byte (xorK_step f c k)) <| rZ0 ?_)
    try clear H a W
    intro a W H
    refine blk_normal ?_
    refine hK5 _ _ ?_
    clear hK5
    refine rgP H gs0 (rV rfl (does_binOp rfl rfl rfl (i_inc (by omega) _ _)) <| rK [1, 1, 1, 1, 1, 1, 1, 1, 1, 1, 0] [] [] <| rS 1 rfl <| rZ0 ?_)
    try clear H a W
    intro a W H
    refine ⟨k + 1, by omega, by omega, ?_⟩
    show St 23 w a W [(8, .int .i64 ((k + 1 : Nat) : Int)), (6, .pointer (some ⟨g2, 0, none⟩)), (3, .pointer (some ⟨g1, 0, none⟩)), (1, .int .u8 ((c : Nat) : Int)), (2, vp)] [(g2, 25, bvs (rb 32 b0s)), (g1, 41, bvs (rb 64 (xorK f c (k + 1))))]
    exact H.pick [0, 11, 12, 13, 14] [0, 1] rfl
  · obtain rfl : 64 = k := by omega
    refine sqR H gs0 fun Z_ z_ => rV rfl (does_binOp rfl rfl rfl (i_lss_no (k := 64) (m := 64) (by omega) _ _)) <| rN0 z_ ?_
    try clear H a W
    intro a W H
    refine wp_seq_k (fun K8 hK8 => ?_)
    refine wp_cond_false (H.ev rfl) ?_
    refine wp_exit ?_
    repeat (with_reducible refine then_exit ?_)
    refine blk_exit ?_
    rw [xorK_all] at H
    replace H : St 23 w a W [(9, .bool false), (8, .int .i64 ((64 : Nat) : Int)), (6, .pointer (some ⟨g2, 0, none⟩)), (3, .pointer (some ⟨g1, 0, none⟩)), (1, .int .u8 ((c : Nat) : Int)), (2, vp)] [(g2, 25, bvs (rb 32 b0s)), (g1, 41, bvs (rb 64 (xorA f c)))] := H
    refine hK2 _ _ ?_
    clear hK2
    refine sqR H gs0 fun Z_ z_ => rV rfl (does_slice rfl rfl (vl := none) (vh := none) rfl rfl (sl_hblk g1)) <| rO rfl (fun a W H _ => ob_rows1S H (wanted_none rfl) rfl rfl (sl_blkF (H.blk (k := 1) rfl))) fun v19 => rS 1 rfl <| rO rfl (fun a W H ⟨hv19, _⟩ => ob_appRS H (wanted_none rfl) rfl rfl rfl hv19 (rf_old hvp H) (by simp; omega)) fun v21 => rCV rfl rfl ⟨_, Tryd.func21, by kernel_rfl⟩ rfl (fun a W H ⟨hv21, hv19, _⟩ => (sum_zK (l := rb 64 (xorA f c) ++ L.flatten) _ (hpg.ext H.below) hv21 (by simp) (by first | omega | (simp only [List.length_append, List.flatten_cons, List.flatten_nil, List.append_nil, List.cons_append, List.nil_append, rb_len, List.length_cons, List.length_nil]; omega)) (by simp; try omega))) <| rW [1] ⟨rfl, rfl⟩ rfl rfl rfl (info_key _) (size_rb _ _ _) (bvs_one _) <| rK [0, 0, 0, 0, 0, 0, 0, 1, 0, 0, 0] [] [] <| rN0 z_ ?_
    try clear H a W
    intro a W H
    refine wp_ret ?_
    repeat (first | (with_reducible refine then_ret ?_) | (with_reducible refine blk_ret ?_))
    refine end_cell (p := 6) rfl rfl (k := 0) rfl Tryd.underlying25 rfl (info_key _) H (fun hb => ?_)
    exact ⟨rfl, hb⟩
theorem hin_any {lk l : List UInt8} {vp : Value} {L : List (List UInt8)} (w : World) (hpg : PG w) (hvp : RF L vp w) (e : L.flatten = l) (h1 : l.length ≤ 1000) (h2 : L.length ≤ 100) : Calls Tryd.prog 16 #[.agg (bvs (rb 64 (keyF lk))), .int .u8 54, vp] w (fun rr w' => rr = .returned (.agg (bvs (rb 32 (hashB (rb 64 (innL lk) ++ l))))) ∧ Below w.heap.size w w') := by
  subst e
  rw [← inn_xor]
  exact hh_any (c := 54) w hpg (by decide) hvp h1 (by omega)
theorem hout_any {lk l : List UInt8} {vp : Value} (w : World) (hpg : PG w) (hvp : RF [rb 32 (hashB (rb 64 (innL lk) ++ l))] vp w) : Calls Tryd.prog 16 #[.agg (bvs (rb 64 (keyF lk))), .int .u8 92, vp] w (fun rr w' => rr = .returned (.agg (bvs (rb 32 (hmacF lk l)))) ∧ Below w.heap.size w w') := by
  have h := hh_any (c := 92) (f := keyF lk) w hpg (by decide) hvp (by simp only [List.flatten_cons, List.flatten_nil, List.append_nil, rb_len]; omega) (by simp)
  rw [out_xor, List.flatten_cons, List.flatten_nil, List.append_nil, ← mac_def] at h
  exact h
set_option maxHeartbeats 4000000 in
theorem mac_any {vk vp : Value} {lk l : List UInt8} {L : List (List UInt8)} (w : World) (hpg : PG w) (hvk : BF lk vk w) (hvp : RF L vp w) (hfl : L.flatten = l) (h1 : lk.length ≤ 1000) (h2 : l.length ≤ 1000) (h3 : L.length ≤ 100) : Calls Tryd.prog 9 #[vk, vp] w (fun rr w' => rr = .returned (.agg (bvs (rb 32 (hmacF lk l)))) ∧ Below w.heap.size w w') := by
  obtain ⟨Ak, nk, ck, rfl, hbk⟩ := id hvk
  have hnk := hbk.len
  refine calls_st (vs := [.slice Ak nk ck, vp]) 16 Tryd.func9 rfl Tryd.ntmps9 rfl (fun a W H => ?_)
  replace H : St 16 w a W [(0, .slice Ak nk ck), (1, vp)] [] := H
  refine sqR H gs0 fun Z_ z_ => rA rfl rfl al_keyK fun g1 => rN0 z_ ?_
  try clear H a W
  intro a W H
  refine sqR H gs0 fun Z_ z_ => rS 1 rfl <| rCV rfl rfl ⟨_, Tryd.func15, by kernel_rfl⟩ rfl (fun a W H _ => (filled_any _ (hpg.ext H.below) (bf_old hvk H) (by first | omega | (simp only [List.length_append, List.flatten_cons, List.flatten_nil, List.append_nil, List.cons_append, List.nil_append, rb_len, List.length_cons, List.length_nil]; omega)))) <| rA rfl rfl al_hblk fun g2 => rW [1] ⟨rfl, rfl⟩ rfl rfl rfl (info_hblk _) (size_rb _ _ _) (bvs_one _) <| rK [1, 0, 0, 1, 0] [] [] <| rN0 z_ ?_
  try clear H a W
  intro a W H
  refine sqR H gs0 fun Z_ z_ => rV rfl (does_load rfl rfl (k := 0) rfl Tryd.underlying41 rfl (info_hblk _)) <| rS 1 rfl <| rCV rfl rfl ⟨_, Tryd.func16, by kernel_rfl⟩ rfl (fun a W H _ => (hin_any _ (hpg.ext H.below) (rf_old hvp H) hfl h2 h3)) <| rA rfl rfl al_keyK fun g3 => rW [1] ⟨rfl, rfl⟩ rfl rfl rfl (info_key _) (size_rb _ _ _) (bvs_one _) <| rK [1, 0, 0, 0, 1, 1, 0] [] [] <| rN0 z_ ?_
  try clear H a W
  intro a W H
  refine sqD [.v 12 _ [], .v 13 _ [], .f 14 _ [1], .v 15 _ [0, 2]] (by kernel_rfl) (by kernel_rfl) H gs0 (fun _ => ⟨oV rfl (does_load rfl rfl (k := 1) rfl Tryd.underlying41 rfl (info_hblk _)), oV rfl (does_slice rfl rfl (vl := none) (vh := none) rfl rfl (sl_key g3)), ⟨fun a W  H _ => ob_rows1S H (wanted_none rfl) rfl rfl (sl_keyF (H.blk (k := 0) rfl)), fun _ => inferInstance⟩, fun a W v14 hv14 H _ => ob_calS H (wanted_none rfl) rfl ⟨_, Tryd.func16, by kernel_rfl⟩ rfl (hout_any _ (hpg.ext H.below) hv14.rf), trivial⟩) fun Z_ z_ => fun v14 => rW [0, 0, 1] ⟨rfl, rfl⟩ rfl rfl rfl (info_key _) (size_rb _ _ _) (bvs_one _) <| rK [0, 0, 0, 0, 0, 0] [] [] <| rN0 z_ ?_
  try clear H a W
  intro a W H
  refine wp_ret ?_
  repeat (first | (with_reducible refine then_ret ?_) | (with_reducible refine blk_ret ?_))
  refine end_cell (p := 4) rfl rfl (k := 2) rfl Tryd.underlying25 rfl (info_key _) H (fun hb => ?_)
  exact ⟨rfl, hb⟩
set_option maxHeartbeats 4000000 in
theorem first_any (t : Nat → UInt8) (w : World) (hpg : PG w) : Calls Tryd.prog 17 #[.agg (bvs (rb 32 t))] w (fun rr w' => rr = .returned (.tuple #[.agg (bvs (rb 32 (hmacF (rb 32 t) [1]))), .agg (bvs (rb 32 (hmacF (rb 32 t) (rb 32 (hmacF (rb 32 t) [1]) ++ [2]))))]) ∧ Below w.heap.size w w') := by
  refine calls_st (vs := [.agg (bvs (rb 32 t))]) 15 Tryd.func17 rfl Tryd.ntmps17 rfl (fun a W H => ?_)
  replace H : St 15 w a W [(0, .agg (bvs (rb 32 t)))] [] := H
  refine sqR H gs0 fun Z_ z_ => rB rfl rfl rfl (bx_key t) fun g1 => rA rfl rfl al_keyK fun g2 => rA rfl rfl al_keyK fun g3 => rK [1, 1, 1, 0] [] [] <| rN0 z_ ?_
  try clear H a W
  intro a W H
  refine sqR H gs0 fun Z_ z_ => rV rfl (does_slice rfl rfl (vl := none) (vh := none) rfl rfl (sl_key g1)) <| rO rfl (fun a W H _ => ob_byteC (c := 1) (x := 1) rfl H (wanted_none rfl) rfl rfl) fun v6 => rO rfl (fun a W H ⟨hv6, _⟩ => ob_rows1S H (wanted_none rfl) rfl rfl hv6) fun v7 => rCV rfl rfl ⟨_, Tryd.func9, by kernel_rfl⟩ rfl (fun a W H ⟨hv7, hv6, _⟩ => (mac_any (l := [1]) _ (hpg.ext H.below) (sl_keyF (H.blk (k := 2) rfl)) hv7.rf (by simp) (by first | omega | (simp only [List.length_append, List.flatten_cons, List.flatten_nil, List.append_nil, List.cons_append, List.nil_append, rb_len, List.length_cons, List.length_nil]; omega)) (by first | omega | (simp only [List.length_append, List.flatten_cons, List.flatten_nil, List.append_nil, List.cons_append, List.nil_append, rb_len, List.length_cons, List.length_nil]; omega)) (by simp))) <| rA rfl rfl al_keyK fun g4 => rW [1] ⟨rfl, rfl⟩ rfl rfl rfl (info_key _) (size_rb _ _ _) (bvs_one _) <| rK [1, 0, 0, 0, 0] [] [] <| rN0 z_ ?_
  try clear H a W
  intro a W H
  refine sqD [.v 9 _ [], .v 10 _ [], .v 11 _ [], .f 12 _ [], .f 13 _ [2, 3], .v 14 _ [1, 4]] (by kernel_rfl) (by kernel_rfl) H gs0 (fun _ => ⟨oV rfl (does_load rfl rfl (k := 0) rfl Tryd.underlying25 rfl (info_key _)), oV rfl (does_slice rfl rfl (vl := none) (vh := none) rfl rfl (sl_key g1)), oV rfl (does_slice rfl rfl (vl := none) (vh := none) rfl rfl (sl_key g4)), ⟨fun a W  H _ => ob_byteC (c := 2) (x := 2) rfl H (wanted_none rfl) rfl rfl, fun _ => inferInstance⟩, ⟨fun a W v12 hv12 H _ => ob_rows2S H (wanted_none rfl) rfl rfl rfl (sl_keyF (H.blk (k := 0) rfl)) hv12, fun _ => inferInstance⟩, fun a W v13 hv13 H _ => ob_calS H (wanted_none rfl) rfl ⟨_, Tryd.func9, by kernel_rfl⟩ rfl (mac_any (l := (rb 32 (hmacF (rb 32 t) [1])) ++ [2]) _ (hpg.ext H.below) (sl_keyF (H.blk (k := 3) rfl)) hv13.rf (by simp) (by first | omega | (simp only [List.length_append, List.flatten_cons, List.flatten_nil, List.append_nil, List.cons_append, List.nil_append, rb_len, List.length_cons, List.length_nil]; omega)) (by first | omega | (simp only [List.length_append, List.flatten_cons, List.flatten_nil, List.append_nil, List.cons_append, List.nil_append, rb_len, List.length_cons, List.length_nil]; omega)) (by simp)), trivial⟩) fun Z_ z_ => fun v12 v13 => rW [0, 0, 1] ⟨rfl, rfl⟩ rfl rfl rfl (info_key _) (size_rb _ _ _) (bvs_one _) <| rW [0, 1] ⟨rfl, rfl⟩ rfl rfl rfl (info_key _) (size_rb _ _ _) (bvs_one _) <| rK [0, 0, 0, 0, 0, 0, 0, 1, 1, 0] [] [] <| rN0 z_ ?_
  try clear H a W
  intro a W H
  refine wp_ret ?_
  repeat (first | (with_reducible refine then_ret ?_) | (with_reducible refine blk_ret ?_))
  refine end_cells (p := 2) (q := 3) rfl rfl (k := 2) rfl Tryd.underlying25 rfl (info_key _) rfl (k2 := 1) rfl Tryd.underlying25 rfl (info_key _) H (fun hb => ?_)
  exact ⟨rfl, hb⟩
theorem first_out {c : Nat → UInt8} {lm : List UInt8} (w : World) (hpg : PG w) : Calls Tryd.prog 17 #[.agg (bvs (rb 32 (hmacF (rb 32 c) lm)))] w (fun rr w' => rr = .returned (.tuple #[.agg (bvs (rb 32 (outK c lm 0))), .agg (bvs (rb 32 (outK c lm 1)))]) ∧ Below w.heap.size w w') := by
  have h := first_any (hmacF (rb 32 c) lm) w hpg
  rw [outK_1, outK_0, List.nil_append]
  exact h
set_option maxHeartbeats 4000000 in
theorem two_any {vm : Value} {lm : List UInt8} (c : Nat → UInt8) (w : World) (hpg : PG w) (hvm : BF lm vm w) (h2 : lm.length ≤ 1000) : Calls Tryd.prog 11 #[.agg (bvs (rb 32 c)), vm] w (fun rr w' => rr = .returned (.tuple #[.agg (bvs (rb 32 (outK c lm 0))), .agg (bvs (rb 32 (outK c lm 1)))]) ∧ Below w.heap.size w w') := by
  obtain ⟨Am, nm, cm, rfl, hbm⟩ := id hvm
  have hnm := hbm.len
  refine calls_st (vs := [.agg (bvs (rb 32 c)), .slice Am nm cm]) 13 Tryd.func11 rfl Tryd.ntmps11 rfl (fun a W H => ?_)
  replace H : St 13 w a W [(0, .agg (bvs (rb 32 c))), (1, .slice Am nm cm)] [] := H
  refine sqR H gs0 fun Z_ z_ => rB rfl rfl rfl (bx_key c) fun g1 => rA rfl rfl al_keyK fun g2 => rA rfl rfl al_keyK fun g3 => rK [1, 1, 1, 0] [] [] <| rN0 z_ ?_
  try clear H a W
  intro a W H
  refine sqR H gs0 fun Z_ z_ => rV rfl (does_slice rfl rfl (vl := none) (vh := none) rfl rfl (sl_key g1)) <| rS 1 rfl <| rO rfl (fun a W H _ => ob_rows1S H (wanted_none rfl) rfl rfl (bf_old hvm H)) fun v8 => rCV rfl rfl ⟨_, Tryd.func9, by kernel_rfl⟩ rfl (fun a W H ⟨hv8, _⟩ => (mac_any (l := lm) _ (hpg.ext H.below) (sl_keyF (H.blk (k := 2) rfl)) hv8.rf (by simp) (by first | omega | (simp only [List.length_append, List.flatten_cons, List.flatten_nil, List.append_nil, List.cons_append, List.nil_append, rb_len, List.length_cons, List.length_nil]; omega)) (by first | omega | (simp only [List.length_append, List.flatten_cons, List.flatten_nil, List.append_nil, List.cons_append, List.nil_append, rb_len, List.length_cons, List.length_nil]; omega)) (by simp))) <| rCV rfl rfl ⟨_, Tryd.func17, by kernel_rfl⟩ rfl (fun a W H _ => (first_out _ (hpg.ext H.below))) <| rS 2 rfl <| rW [0, 1] ⟨rfl, rfl⟩ rfl rfl rfl (info_key _) (size_rb _ _ _) (bvs_one _) <| rW [1] ⟨rfl, rfl⟩ rfl rfl rfl (info_key _) (size_rb _ _ _) (bvs_one _) <| rK [0, 0, 0, 0, 0, 0, 0, 1, 1, 0, 0] [] [] <| rN0 z_ ?_
  try clear H a W
  intro a W H
  refine wp_ret ?_
  repeat (first | (with_reducible refine then_ret ?_) | (with_reducible refine blk_ret ?_))
  refine end_cells (p := 4) (q := 5) rfl rfl (k := 1) rfl Tryd.underlying25 rfl (info_key _) rfl (k2 := 0) rfl Tryd.underlying25 rfl (info_key _) H (fun hb => ?_)
  exact ⟨rfl, hb⟩
set_option maxHeartbeats 4000000 in
theorem three_any {vm : Value} {lm : List UInt8} (c : Nat → UInt8) (w : World) (hpg : PG w) (hvm : BF lm vm w) (h2 : lm.length ≤ 1000) : Calls Tryd.prog 12 #[.agg (bvs (rb 32 c)), vm] w (fun rr w' => rr = .returned (.tuple #[.agg (bvs (rb 32 (outK c lm 0))), .agg (bvs (rb 32 (outK c lm 1))), .agg (bvs (rb 32 (outK c lm 2)))]) ∧ Below w.heap.size w w') := by
  obtain ⟨Am, nm, cm, rfl, hbm⟩ := id hvm
  have hnm := hbm.len
  refine calls_st (vs := [.agg (bvs (rb 32 c)), .slice Am nm cm]) 26 Tryd.func12 rfl Tryd.ntmps12 rfl (fun a W H => ?_)
  replace H : St 26 w a W [(0, .agg (bvs (rb 32 c))), (1, .slice Am nm cm)] [] := H
  refine sqR H gs0 fun Z_ z_ => rB rfl rfl rfl (bx_key c) fun g1 => rA rfl rfl al_keyK fun g2 => rA rfl rfl al_keyK fun g3 => rA rfl rfl al_keyK fun g4 => rK [1, 1, 1, 1, 0] [] [] <| rN0 z_ ?_
  try clear H a W
  intro a W H
  refine sqR H gs0 fun Z_ z_ => rV rfl (does_slice rfl rfl (vl := none) (vh := none) rfl rfl (sl_key g1)) <| rS 1 rfl <| rO rfl (fun a W H _ => ob_rows1S H (wanted_none rfl) rfl rfl (bf_old hvm H)) fun v12 => rCV rfl rfl ⟨_, Tryd.func9, by kernel_rfl⟩ rfl (fun a W H ⟨hv12, _⟩ => (mac_any (l := lm) _ (hpg.ext H.below) (sl_keyF (H.blk (k := 3) rfl)) hv12.rf (by simp) (by first | omega | (simp only [List.length_append, List.flatten_cons, List.flatten_nil, List.append_nil, List.cons_append, List.nil_append, rb_len, List.length_cons, List.length_nil]; omega)) (by first | omega | (simp only [List.length_append, List.flatten_cons, List.flatten_nil, List.append_nil, List.cons_append, List.nil_append, rb_len, List.length_cons, List.length_nil]; omega)) (by simp))) <| rA rfl rfl al_keyK fun g5 => rW [1] ⟨rfl, rfl⟩ rfl rfl rfl (info_key _) (size_rb _ _ _) (bvs_one _) <| rK [1, 0, 0, 0, 0, 1, 1, 1, 0, 0] [] [] <| rN0 z_ ?_
  try clear H a W
  intro a W H
  refine sqR H gs0 fun Z_ z_ => rV rfl (does_load rfl rfl (k := 0) rfl Tryd.underlying25 rfl (info_key _)) <| rCV rfl rfl ⟨_, Tryd.func17, by kernel_rfl⟩ rfl (fun a W H _ => (first_out _ (hpg.ext H.below))) <| rS 3 rfl <| rA rfl rfl al_keyK fun g6 => rA rfl rfl al_keyK fun g7 => rW [0, 1] ⟨rfl, rfl⟩ rfl rfl rfl (info_key _) (size_rb _ _ _) (bvs_one _) <| rW [1] ⟨rfl, rfl⟩ rfl rfl rfl (info_key _) (size_rb _ _ _) (bvs_one _) <| rK [1, 1, 0, 0, 0, 0, 0] [] [] <| rN0 z_ ?_
  try clear H a W
  intro a W H
  refine wp_seq_k (fun K4 hK4 => ?_)
  refine d2L [.v 19 _ [], .v 20 _ [], .v 21 _ [], .v 22 _ [], .f 23 _ [], .f 24 _ [3, 4], .v 25 _ [2, 5]] 1 (by kernel_rfl) (by kernel_rfl) H gs0 ⟨oV rfl (does_load rfl rfl (k := 1) rfl Tryd.underlying25 rfl (info_key _)), oV rfl (does_load rfl rfl (k := 0) rfl Tryd.underlying25 rfl (info_key _)), oV rfl (does_slice rfl rfl (vl := none) (vh := none) rfl rfl (sl_key g5)), oV rfl (does_slice rfl rfl (vl := none) (vh := none) rfl rfl (sl_key g7)), ⟨fun a W  H _ => ob_byteC (c := 3) (x := 3) rfl H (wanted_none rfl) rfl rfl, fun _ => inferInstance⟩, ⟨fun a W v23 hv23 H _ => ob_rows2S H (wanted_none rfl) rfl rfl rfl (sl_keyF (H.blk (k := 0) rfl)) hv23, fun _ => inferInstance⟩, fun a W v24 hv24 H _ => ob_calS H (wanted_none rfl) rfl ⟨_, Tryd.func9, by kernel_rfl⟩ rfl (mac_any (l := (rb 32 (outK c lm 1)) ++ [3]) _ (hpg.ext H.below) (sl_keyF (H.blk (k := 2) rfl)) hv24.rf (by simp) (by first | omega | (simp only [List.length_append, List.flatten_cons, List.flatten_nil, List.append_nil, List.cons_append, List.nil_append, rb_len, List.length_cons, List.length_nil]; omega)) (by first | omega | (simp only [List.length_append, List.flatten_cons, List.flatten_nil, List.append_nil, List.cons_append, List.nil_append, rb_len, List.length_cons, List.length_nil]; omega)) (by simp)), trivial⟩ (fun v23 v24 => rW [0, 0, 0, 0, 0, 1] ⟨rfl, rfl⟩ rfl rfl rfl (info_key _) (size_rb _ _ _) (bvs_one _) <| rW [0, 0, 0, 0, 1] ⟨rfl, rfl⟩ rfl rfl rfl (info_key _) (size_rb _ _ _) (bvs_one _) <| rW [0, 0, 0, 1] ⟨rfl, rfl⟩ rfl rfl rfl (info_key _) (size_rb _ _ _) (bvs_one _) <| rK [0, 0, 0, 0, 0, 0, 0, 0, 0, 0] [] [] <| rZ0 ?_) (fun v23 v24 => rW [0, 0, 0, 0, 0, 1] ⟨rfl, rfl⟩ rfl rfl rfl (info_key _) (size_rb _ _ _) (bvs_one _) <| rV rfl (does_load rfl rfl (k := 0) rfl Tryd.underlying25 rfl (info_key _)) <| rW [0, 0, 0, 0, 1] ⟨rfl, rfl⟩ rfl rfl rfl (info_key _) (size_rb _ _ _) (bvs_one _) <| rW [0, 0, 0, 1] ⟨rfl, rfl⟩ rfl rfl rfl (info_key _) (size_rb _ _ _) (bvs_one _) <| rK [0, 0, 0, 0, 0, 0, 0, 0, 0, 0] [] [] <| rZ0 ?_)
  · try clear H a W
    intro a W H
    refine hK4 _ _ ?_
    clear hK4
    refine wp_ret ?_
    repeat (first | (with_reducible refine then_ret ?_) | (with_reducible refine blk_ret ?_))
    refine end_cells3 (p := 4) (q := 5) (r := 6) rfl rfl (k := 5) rfl Tryd.underlying25 rfl (info_key _) rfl (k2 := 4) rfl Tryd.underlying25 rfl (info_key _) rfl (k3 := 3) rfl Tryd.underlying25 rfl (info_key _) H (fun hb => ?_)
    exact ⟨by rw [outK_2], hb⟩
  · try clear H a W
    intro a W H
    refine hK4 _ _ ?_
    clear hK4
    refine wp_ret ?_
    repeat (first | (with_reducible refine then_ret ?_) | (with_reducible refine blk_ret ?_))
    refine end_cells3 (p := 4) (q := 5) (r := 6) rfl rfl (k := 5) rfl Tryd.underlying25 rfl (info_key _) rfl (k2 := 4) rfl Tryd.underlying25 rfl (info_key _) rfl (k3 := 3) rfl Tryd.underlying25 rfl (info_key _) H (fun hb => ?_)
    exact ⟨by rw [outK_2], hb⟩
set_option maxHeartbeats 4000000 in
theorem named_any (c : Nat → UInt8) (lm : List UInt8) (w : World) (hpg : PG w) (h2 : lm.length ≤ 1000) : Calls Tryd.prog 13 #[.agg (bvs (rb 32 c)), .string (strB lm)] w (fun rr w' => rr = .returned (.agg (bvs (rb 32 (hmacF (rb 32 c) lm)))) ∧ Below w.heap.size w w') := by
  refine calls_st (vs := [.agg (bvs (rb 32 c)), .string (strB lm)]) 10 Tryd.func13 rfl Tryd.ntmps13 rfl (fun a W H => ?_)
  replace H : St 10 w a W [(0, .agg (bvs (rb 32 c))), (1, .string (strB lm))] [] := H
  refine sqR H gs0 fun Z_ z_ => rB rfl rfl rfl (bx_key c) fun g1 => rA rfl rfl al_keyK fun g2 => rK [1, 1, 0] [] [] <| rN0 z_ ?_
  try clear H a W
  intro a W H
  refine sqR H gs0 fun Z_ z_ => rV rfl (does_slice rfl rfl (vl := none) (vh := none) rfl rfl (sl_key g1)) <| rS 1 rfl <| rO rfl (fun a W H _ => ob_ofStr H (wanted_none rfl) rfl rfl) fun v7 => rO rfl (fun a W H ⟨hv7, _⟩ => ob_rows1S H (wanted_none rfl) rfl rfl hv7) fun v8 => rCV rfl rfl ⟨_, Tryd.func9, by kernel_rfl⟩ rfl (fun a W H ⟨hv8, hv7, _⟩ => (mac_any (l := lm) _ (hpg.ext H.below) (sl_keyF (H.blk (k := 1) rfl)) hv8.rf (by simp) (by first | omega | (simp only [List.length_append, List.flatten_cons, List.flatten_nil, List.append_nil, List.cons_append, List.nil_append, rb_len, List.length_cons, List.length_nil]; omega)) (by first | omega | (simp only [List.length_append, List.flatten_cons, List.flatten_nil, List.append_nil, List.cons_append, List.nil_append, rb_len, List.length_cons, List.length_nil]; omega)) (by simp))) <| rW [1] ⟨rfl, rfl⟩ rfl rfl rfl (info_key _) (size_rb _ _ _) (bvs_one _) <| rK [0, 0, 0, 0, 0, 1, 0, 0] [] [] <| rN0 z_ ?_
  try clear H a W
  intro a W H
  refine wp_ret ?_
  repeat (first | (with_reducible refine then_ret ?_) | (with_reducible refine blk_ret ?_))
  refine end_cell (p := 4) rfl rfl (k := 0) rfl Tryd.underlying25 rfl (info_key _) H (fun hb => ?_)
  exact ⟨rfl, hb⟩
theorem hk_of {w : World} (hpg : PG w) : HK w :=
  ⟨fun W hb _ _ _ _ hvk hvp h1 h2 h3 => mac_any W (hpg.ext hb) hvk hvp rfl h1 h2 h3, fun W hb c _ _ hv h => two_any c W (hpg.ext hb) hv h, fun W hb c _ _ hv h => three_any c W (hpg.ext hb) hv h, fun W hb c l h => named_any c l W (hpg.ext hb) h⟩
end Go.Proofs.YthjechjffhhiiaaDoor
