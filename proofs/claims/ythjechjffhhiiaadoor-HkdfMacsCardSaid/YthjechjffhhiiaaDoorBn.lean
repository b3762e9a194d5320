/- Package blake: operations on its rows and on its two variables; words turned. -/
import Derived.Test.YthjechjffhhiiaaDoorBm
namespace Go.Proofs.YthjechjffhhiiaaDoor
set_option linter.unusedVariables false
set_option linter.unusedSimpArgs false
set_option maxRecDepth 100000
open Go Go.RowKit

/-! Rows. -/
theorem al_bst (W : World) : (Instr.alloc 58 true (.tuple #[])).run Tryd.prog W = .ok (.pointer (some ⟨W.heap.size, 0, none⟩)) (W.alloc (.cells (wn 8 w0s) 58)) := by kernel_rfl
theorem bx_bst (f : Wd) (W : World) : (Instr.box 58 (.agg (wn 8 f))).run Tryd.prog W = .ok (.pointer (some ⟨W.heap.size, 0, none⟩)) (W.alloc (.cells (wn 8 f) 58)) := by kernel_rfl
theorem info_bst (f : Wd) : (Tryd.prog.info? 58).map (·.size) = some (wn 8 f).size := by rw [wn_size]; kernel_rfl
theorem al_bmsg (W : World) : (Instr.alloc 60 true (.tuple #[])).run Tryd.prog W = .ok (.pointer (some ⟨W.heap.size, 0, none⟩)) (W.alloc (.cells (msg w0s b0s 0 0) 60)) := by kernel_rfl
theorem info_bmsg (h : Wd) (b : Nat → UInt8) (n t : Nat) : (Tryd.prog.info? 60).map (·.size) = some (msg h b n t).size := by rw [msg_size]; kernel_rfl
theorem bd_bmsg (h : Wd) (W : World) : (Instr.build 60 [(0, .agg (wn 8 h))].toArray).run Tryd.prog W = .ok (.agg (msg h b0s 0 0)) W := by kernel_rfl
theorem bd_a16B (W : World) : (Instr.build 69 ([] : List (Nat × Value)).toArray).run Tryd.prog W = .ok (.agg (iv 16 (fun _ => 0))) W := by kernel_rfl
theorem al_fn7 (W : World) : (Instr.alloc 68 true (.tuple #[])).run Tryd.prog W = .ok (.pointer (some ⟨W.heap.size, 0, none⟩)) (W.alloc (.cells #[.nilFunc] 68)) := by kernel_rfl
theorem st_fn7 {g : Nat} {t : TypeId} {u : Value} {f : FuncId} {c : Array Value} (W : World) (h : Blk W g t #[u]) : (Instr.storeAt 68 (.pointer (some ⟨g, 0, none⟩)) (.func (.func f) #[] c)).run Tryd.prog W = .ok () (W.setCells g 0 [.func (.func f) #[] c]) := by
  have hc : W.cell? ⟨g, 0, none⟩ = some u := h.cell 0
  have hf := h.frozen 0
  have hs : (W.cell? ⟨g, 0, none⟩).isSome = true := by rw [hc]; rfl
  show _ = Result.ok () (W.setCell ⟨g, 0, none⟩ (.func (.func f) #[] c))
  go_simp
  rw [run_store _ _ _ _ _ rfl]
  go_simp
theorem ld_fn7 {g : Nat} {t : TypeId} {f : FuncId} {c : Array Value} (W : World) (h : Blk W g t #[.func (.func f) #[] c]) : (Instr.loadAt 68 (.pointer (some ⟨g, 0, none⟩))).run Tryd.prog W = .ok (.func (.func f) #[] c) W := by
  have hc : W.cell? ⟨g, 0, none⟩ = some (.func (.func f) #[] c) := h.cell 0
  go_simp
theorem fa_bmsg (g : Nat) (W : World) : (Instr.fieldAt 60 (.pointer (some ⟨g, 0, none⟩)) 0).run Tryd.prog W = .ok (.pointer (some ⟨g, 0, none⟩)) W ∧ (Instr.fieldAt 60 (.pointer (some ⟨g, 0, none⟩)) 1).run Tryd.prog W = .ok (.pointer (some ⟨g, 8, none⟩)) W
    ∧ (Instr.fieldAt 60 (.pointer (some ⟨g, 0, none⟩)) 2).run Tryd.prog W = .ok (.pointer (some ⟨g, 72, none⟩)) W ∧ (Instr.fieldAt 60 (.pointer (some ⟨g, 0, none⟩)) 3).run Tryd.prog W = .ok (.pointer (some ⟨g, 73, none⟩)) W :=
  ⟨by kernel_rfl, by kernel_rfl, by kernel_rfl, by kernel_rfl⟩
theorem fa_0 {g : Nat} (W : World) : (Instr.fieldAt 60 (.pointer (some ⟨g, 0, none⟩)) 0).run Tryd.prog W = .ok (.pointer (some ⟨g, 0, none⟩)) W := (fa_bmsg g W).1
theorem fa_1 {g : Nat} (W : World) : (Instr.fieldAt 60 (.pointer (some ⟨g, 0, none⟩)) 1).run Tryd.prog W = .ok (.pointer (some ⟨g, 8, none⟩)) W := (fa_bmsg g W).2.1
theorem fa_2 {g : Nat} (W : World) : (Instr.fieldAt 60 (.pointer (some ⟨g, 0, none⟩)) 2).run Tryd.prog W = .ok (.pointer (some ⟨g, 72, none⟩)) W := (fa_bmsg g W).2.2.1
theorem fa_3 {g : Nat} (W : World) : (Instr.fieldAt 60 (.pointer (some ⟨g, 0, none⟩)) 3).run Tryd.prog W = .ok (.pointer (some ⟨g, 73, none⟩)) W := (fa_bmsg g W).2.2.2
theorem ia_bst {j : Nat} (hj : j < 8) {g : Nat} (W : World) : (Instr.indexAt 58 (.pointer (some ⟨g, 0, none⟩)) (.int .i64 (j : Int))).run Tryd.prog W = .ok (.pointer (some ⟨g, j, none⟩)) W := by
  have h1 : (0 : Int) ≤ (j : Int) := by omega
  have h2 : (j : Int) < 8 := by omega
  go_simp
theorem ia_a16B {j : Nat} (hj : j < 16) {g : Nat} (W : World) : (Instr.indexAt 69 (.pointer (some ⟨g, 0, none⟩)) (.int .i64 (j : Int))).run Tryd.prog W = .ok (.pointer (some ⟨g, j, none⟩)) W := by
  have h1 : (0 : Int) ≤ (j : Int) := by omega
  have h2 : (j : Int) < 16 := by omega
  go_simp
theorem ld_ivB {g j m : Nat} {t : TypeId} {f : Nat → Nat} (hj : j < m) (W : World) (h : Blk W g t (iv m f)) : (Instr.loadAt 3 (.pointer (some ⟨g, j, none⟩))).run Tryd.prog W = .ok (.int .i64 ((f j : Nat) : Int)) W := by
  have hc := h.cell j
  rw [iv_get hj] at hc
  go_simp
theorem al_a16B (W : World) : (Instr.alloc 69 true (.tuple #[])).run Tryd.prog W = .ok (.pointer (some ⟨W.heap.size, 0, none⟩)) (W.alloc (.cells (iv 16 (fun _ => 0)) 69)) := by kernel_rfl
theorem iv_sizeB (m : Nat) (f : Nat → Nat) : (iv m f).size = m := by simp [iv]
theorem iv_oneB (m : Nat) (f : Nat → Nat) : (iv m f).all (·.oneCell') = true := by
  rw [Array.all_eq_true']
  intro x hx
  simp only [iv, List.mem_toArray, List.mem_map] at hx
  obtain ⟨i, _, rfl⟩ := hx
  rfl
theorem info_a16B (f : Nat → Nat) : (Tryd.prog.info? 69).map (·.size) = some (iv 16 f).size := by rw [iv_sizeB]; kernel_rfl
theorem size_ivB (f g : Nat → Nat) : (iv 16 f).size = (iv 16 g).size := by rw [iv_sizeB, iv_sizeB]
/-! Parts of a message's row. -/
theorem ld_msgW {g j : Nat} {ty : TypeId} {h : Wd} {b : Nat → UInt8} {n t : Nat} (hj : j < 8) (W : World) (hb : Blk W g ty (msg h b n t)) : (Instr.loadAt 45 (.pointer (some ⟨g, j, none⟩))).run Tryd.prog W = .ok (wc (h j)) W := by
  have hc := hb.cell j
  rw [msg_w _ _ _ _ hj] at hc
  unfold wc at hc ⊢
  go_simp
theorem ld_msgN {g : Nat} {ty : TypeId} {h : Wd} {b : Nat → UInt8} {n t : Nat} (W : World) (hb : Blk W g ty (msg h b n t)) : (Instr.loadAt 3 (.pointer (some ⟨g, 72, none⟩))).run Tryd.prog W = .ok (.int .i64 ((n : Nat) : Int)) W := by
  have hc := hb.cell 72
  rw [msg_n] at hc
  go_simp
theorem ld_msgT {g : Nat} {ty : TypeId} {h : Wd} {b : Nat → UInt8} {n t : Nat} (W : World) (hb : Blk W g ty (msg h b n t)) : (Instr.loadAt 52 (.pointer (some ⟨g, 73, none⟩))).run Tryd.prog W = .ok (un t) W := by
  have hc := hb.cell 73
  rw [msg_t] at hc
  unfold un at hc ⊢
  go_simp
theorem ld_msgS {g : Nat} {ty : TypeId} {h : Wd} {b : Nat → UInt8} {n t : Nat} (W : World) (hb : Blk W g ty (msg h b n t)) : (Instr.loadAt 58 (.pointer (some ⟨g, 0, none⟩))).run Tryd.prog W = .ok (.agg (wn 8 h)) W := by
  have hr : W.rangeAt g 0 (wn 8 h).toList := fun j v hv => by
    have hj : j < 8 := by have := (List.getElem?_eq_some_iff.1 hv).1; rwa [wn_len] at this
    rw [Array.getElem?_toList, wn_get hj] at hv
    rw [Nat.zero_add, hb.cell, msg_w _ _ _ _ hj, hv]
  have := run_loadAt_mid (P := Tryd.prog) W g 0 58 (wn 8 h).toList _ hr Tryd.underlying58 rfl (by rw [wn_len]; kernel_rfl)
  rw [Array.toArray_toList] at this
  exact this
theorem st_msgW {g j : Nat} {ty : TypeId} {h : Wd} {b : Nat → UInt8} {n t : Nat} {x : UInt32} (hj : j < 8) (W : World) (hb : Blk W g ty (msg h b n t)) : (Instr.storeAt 45 (.pointer (some ⟨g, j, none⟩)) (wc x)).run Tryd.prog W = .ok () (W.setCells g j [wc x]) := by
  have hc := hb.cell j
  have hf := hb.frozen j
  rw [msg_w _ _ _ _ hj] at hc
  have hs : (W.cell? ⟨g, j, none⟩).isSome = true := by rw [hc]; rfl
  show _ = Result.ok () (W.setCell ⟨g, j, none⟩ (wc x))
  unfold wc
  go_simp
theorem st_msgN {g : Nat} {ty : TypeId} {h : Wd} {b : Nat → UInt8} {n n' t : Nat} (W : World) (hb : Blk W g ty (msg h b n t)) : (Instr.storeAt 3 (.pointer (some ⟨g, 72, none⟩)) (.int .i64 ((n' : Nat) : Int))).run Tryd.prog W = .ok () (W.setCells g 72 [.int .i64 ((n' : Nat) : Int)]) := by
  have hc := hb.cell 72
  have hf := hb.frozen 72
  rw [msg_n] at hc
  have hs : (W.cell? ⟨g, 72, none⟩).isSome = true := by rw [hc]; rfl
  show _ = Result.ok () (W.setCell ⟨g, 72, none⟩ _)
  go_simp
theorem st_msgT {g : Nat} {ty : TypeId} {h : Wd} {b : Nat → UInt8} {n t t' : Nat} (W : World) (hb : Blk W g ty (msg h b n t)) : (Instr.storeAt 52 (.pointer (some ⟨g, 73, none⟩)) (un t')).run Tryd.prog W = .ok () (W.setCells g 73 [un t']) := by
  have hc := hb.cell 73
  have hf := hb.frozen 73
  rw [msg_t] at hc
  have hs : (W.cell? ⟨g, 73, none⟩).isSome = true := by rw [hc]; rfl
  show _ = Result.ok () (W.setCell ⟨g, 73, none⟩ (un t'))
  unfold un
  go_simp
theorem st_msgS {g : Nat} {ty : TypeId} {h h' : Wd} {b : Nat → UInt8} {n t : Nat} (W : World) (hb : Blk W g ty (msg h b n t)) : (Instr.storeAt 58 (.pointer (some ⟨g, 0, none⟩)) (.agg (wn 8 h'))).run Tryd.prog W = .ok () (W.setCells g 0 (wn 8 h').toList) :=
  run_storeAt_mid W g 0 58 (wn 8 h') (fun j hj => by
    rw [wn_size] at hj
    refine ⟨?_, ?_⟩
    · rw [Nat.zero_add, hb.cell, msg_w _ _ _ _ hj]
      rfl
    · exact hb.frozen _) (by rw [wn_size]; kernel_rfl) (wn_one _ _)
theorem bs_msg {g : Nat} {ty : TypeId} {h : Wd} {b : Nat → UInt8} {n t : Nat} {W : World} (hb : Blk W g ty (msg h b n t)) : BF (rb 64 b) (.slice (some ⟨g, 8, none⟩) 64 64) W :=
  ⟨_, _, _, rfl, rb_len _ _, Nat.le_refl _, (fun e => by cases e), fun _ => ⟨g, 8, rfl, hb.lt, fun j x hx => by
    have hj : j < 64 := by have := (List.getElem?_eq_some_iff.1 hx).1; rwa [rb_len] at this
    rw [rb_get hj] at hx
    injection hx with hx
    subst hx
    rw [hb.cell, msg_b _ _ _ _ hj]
    rfl⟩⟩
theorem bs_msgE {g : Nat} {ty : TypeId} {h : Wd} {b b' : Nat → UInt8} {n t : Nat} {W : World} (e : rb 64 b = rb 64 b') (hb : Blk W g ty (msg h b n t)) : BF (rb 64 b') (.slice (some ⟨g, 8, none⟩) 64 64) W := by
  rw [← e]
  exact bs_msg hb
/-! Slices. -/
theorem sl_b64 {g : Nat} (W : World) : (Instr.sliceAt 39 (.pointer (some ⟨g, 8, none⟩)) none none none).run Tryd.prog W = .ok (.slice (some ⟨g, 8, none⟩) 64 64) W := by kernel_rfl
theorem sl_b64f {g f : Nat} (hf : f < 64) (W : World) : (Instr.sliceAt 39 (.pointer (some ⟨g, 8, none⟩)) (some (.int .i64 (f : Int))) none none).run Tryd.prog W = .ok (.slice (some ⟨g, 8 + f, none⟩) (64 - f) (64 - f)) W := by
  have h1 : (0 : Int) ≤ (f : Int) := by omega
  have h2 : (f : Int) ≤ 64 := by omega
  go_simp
  omega
theorem sl_b64e {g : Nat} (W : World) : (Instr.sliceAt 39 (.pointer (some ⟨g, 8, none⟩)) (some (.int .i64 ((64 : Nat) : Int))) none none).run Tryd.prog W = .ok (.slice (some ⟨g, 8, none⟩) 0 0) W := by kernel_rfl
theorem sl_four {g o c i : Nat} (hi : i < 16) (hc : 64 ≤ c) (W : World) : (Instr.sliceAt 22 (.slice (some ⟨g, o, none⟩) 64 c) (some (.int .i64 ((i * 4 : Nat) : Int))) (some (.int .i64 (((i + 1) * 4 : Nat) : Int))) none).run Tryd.prog W = .ok (.slice (some ⟨g, o + 4 * i, none⟩) 4 (c - 4 * i)) W := by
  have hu : Tryd.prog.underlying 22 = some (.slice (Tryd.prog.elem 22)) := by kernel_rfl
  have hel : Tryd.prog.elem 22 = 5 := by kernel_rfl
  rw [run_sliceAt_slice W 22 _ _ _ _ hu, run_slice_lh W 22 _ _ _ hu _ _ _ _ (by omega) (by omega) (by omega), hel, size_u8 u8_info]
  simp only [Result.andThen, sliced, Int.toNat_natCast, Nat.mul_one]
  rw [if_neg (by omega)]
  simp only [Option.map_some, Addr.add_lit]
  rw [show (i + 1) * 4 - i * 4 = 4 by omega, Nat.mul_comm i 4]
/-- 'b[m:]'. -/
theorem tl_bytes {w : World} {B n c : Nat} {A : Option Addr} {l : List UInt8} (h : BS w B A n c l) {k : Nat} (hk : k ≤ n) :
    ∃ A', (∀ W, (Instr.sliceAt 22 (.slice A n c) (some (.int .i64 (k : Int))) none none).run Tryd.prog W = .ok (.slice A' (n - k) (c - k)) W) ∧ BS w B A' (n - k) (c - k) (l.drop k) := by
  have hu : Tryd.prog.underlying 22 = some (.slice (Tryd.prog.elem 22)) := by kernel_rfl
  obtain ⟨A', h1, h2⟩ := BS.tail (P := Tryd.prog) 22 5 Tryd.underlying22 u8_info h hk
  exact ⟨A', fun W => by rw [run_sliceAt_slice W 22 _ _ _ _ hu]; exact h1 W, h2⟩
/-! The variables. -/
structure PG (w : World) : Prop where
  lt : 1 < w.heap.size
  start : ∀ i, i < 8 → w.cell? ⟨0, i, none⟩ = some (wc (ivB i))
  orders : ∀ r, r < 10 → ∀ i, i < 16 → w.cell? ⟨1, 16 * r + i, none⟩ = some (.int .i64 ((ord r i : Nat) : Int))
theorem PG.ext {w w' : World} (h : PG w) (hb : Below w.heap.size w w') : PG w' :=
  ⟨Nat.lt_of_lt_of_le h.lt hb.size, fun i hi => (hb.cell (p := ⟨0, i, none⟩) (Nat.lt_of_lt_of_le Nat.zero_lt_one (Nat.le_of_lt h.lt))).trans (h.start i hi), fun r hr i hi => (hb.cell (p := ⟨1, 16 * r + i, none⟩) h.lt).trans (h.orders r hr i hi)⟩
theorem PG.lt0 {w : World} (h : PG w) : 0 < w.heap.size := Nat.lt_of_lt_of_le Nat.zero_lt_one (Nat.le_of_lt h.lt)
theorem ld_cellW {g f : Nat} {x : UInt32} (W : World) (hc : W.cell? ⟨g, f, none⟩ = some (wc x)) : (Instr.loadAt 45 (.pointer (some ⟨g, f, none⟩))).run Tryd.prog W = .ok (wc x) W := by
  unfold wc at hc ⊢
  go_simp
theorem ld_cellSB {g f : Nat} {A : Option Addr} {k c : Nat} (W : World) (hc : W.cell? ⟨g, f, none⟩ = some (.slice A k c)) : (Instr.loadAt 22 (.pointer (some ⟨g, f, none⟩))).run Tryd.prog W = .ok (.slice A k c) W := by
  go_simp
theorem ia_rowsB {j n c o : Nat} (hj : j < n) {g : Nat} (W : World) : (Instr.indexAt 40 (.slice (some ⟨g, o, none⟩) n c) (.int .i64 (j : Int))).run Tryd.prog W = .ok (.pointer (some ⟨g, o + j, none⟩)) W := by
  have h1 : (0 : Int) ≤ (j : Int) := by omega
  have h2 : (j : Int) < (n : Int) := by omega
  go_simp
theorem ia_ord10 {r : Nat} (hr : r < 10) {g : Nat} (W : World) : (Instr.indexAt 70 (.pointer (some ⟨g, 0, none⟩)) (.int .i64 (r : Int))).run Tryd.prog W = .ok (.pointer (some ⟨g, 16 * r, none⟩)) W := by
  obtain rfl | rfl | rfl | rfl | rfl | rfl | rfl | rfl | rfl | rfl : r = 0 ∨ r = 1 ∨ r = 2 ∨ r = 3 ∨ r = 4 ∨ r = 5 ∨ r = 6 ∨ r = 7 ∨ r = 8 ∨ r = 9 := by omega
  all_goals kernel_rfl
section
variable {P : Program} {n : Nat} {w0 w w' : World} {a : Act} {e : Env} {h : Hep} {Q : Exit → Act → World → Prop} {ops : Array Oper} {rest : List Oper} {o : Oper}
/-- Cells that were there at the beginning. -/
theorem does_loadR {t : TypeId} {x : Operand} {g f : Nat} {cs : Array Value} {d : TypeDesc} (ho : o.op = .load t x) (hx : sev e x = some (.pointer (some ⟨g, f, none⟩))) (hw : w0.rangeAt g f cs.toList) (hg : g < w0.heap.size)
    (hu : P.underlying t = some d) (hd : d.isRow = true) (hi : (P.info? t).map (·.size) = some cs.size) : Does P Q n w0 e h o (.agg cs) := does_run fun a w H => by
  unfold execOp
  have hr : w.rangeAt g f cs.toList := fun j v hv => (H.below.cell (p := ⟨g, f + j, none⟩) hg).trans (hw j v hv)
  have := run_loadAt_mid (P := P) w g f t cs.toList d hr hu hd (by simpa using hi)
  rw [Array.toArray_toList] at this
  simp only [ho, H.ev hx, Sem.run_bind, this, Result.andThen_ok, Sem.run_pure]
/-- A call that reads what is told. -/
theorem does_callH {f : FuncId} {args : List Operand} {tys : Array TypeId} {vs : List Value} {v : Value} (ho : o.op = .call { callee := .value (.func f), args := args.toArray, argTypes := tys }) (hf : Ours P f) (hx : sevs e args = some vs)
    (hc : ∀ a W, St n w0 a W e h → Calls P f vs.toArray W (fun r W' => r = .returned v ∧ Below W.heap.size W W')) : Does P Q n w0 e h o v := fun a w H => by
  unfold Oper.wp
  rw [run_call ho hf rfl, H.evs hx, Oper.upon_enter]
  refine (hc a w H).mono ?_
  rintro r W' ⟨rfl, hb⟩
  exact ⟨rfl, hb⟩
theorem does_nilCheckB {x : Operand} {g f : Nat} (ho : o.op = .nilCheck x) (hx : sev e x = some (.pointer (some ⟨g, f, none⟩))) : Does P Q n w0 e h o (.pointer (some ⟨g, f, none⟩)) := does_run fun a w H => by
  unfold execOp
  simp [ho, H.ev hx]
/-- A copy onto a block that is known, out of bytes that were there. -/
theorem pl_copyB {x y : Operand} {d : Nat} {dT sT elem : TypeId} {g off dl dc k m sl sc : Nat} {A : Option Addr} {l : List UInt8} {t : TypeId} {cur c : Array Value} (ho : o.op = .call { callee := .builtin .copy, args := #[x, y], argTypes := #[dT, sT] })
    (hu : P.underlying dT = some (.slice elem)) (hsz : (P.info? elem).map (·.size) = some 1)
    (hx : sev e x = some (.slice (some ⟨g, off, none⟩) dl dc)) (hy : sev e y = some (.slice A sl sc)) (hk : h[k]? = some (g, t, cur)) (hb : BS w0 w0.heap.size A sl sc l)
    (hm : Nat.min sl dl = m) (hm0 : 0 < m) (hd : off + m ≤ cur.size) (hc : spliceA cur off ((l.take m).map bv) = c)
    (hg : o.guard = none) (hdst : o.dst = some d) (hl : Nat.blt d n = true) (hf : e.all (fun p => !Nat.beq p.1 d) = true)
    (H : St n w0 a w e h) (next : ∀ a w', St n w0 a w' ((d, .int .i64 (m : Int)) :: e) (h.set k (g, t, c)) → wpList P ops Q rest a w') : wpList P ops Q (o :: rest) a w :=
  wpList_plain hg fun K hK => by
    have hms : m ≤ sl := by rw [← hm]; exact Nat.min_le_left _ _
    have hll := hb.len
    obtain ⟨b, f, rfl, hbw, hcell⟩ := hb.at_ (by omega)
    have hlen : ((l.take m).map bv).length = m := by simp; omega
    have hrun := run_copy_row (P := P) w dT sT o.type elem g off dl dc ⟨b, f, none⟩ sl sc cur t ((l.take m).map bv) hu hsz (H.blk hk) (by rw [hlen, hm]) (fun j v hv => by
      rw [List.getElem?_map, List.getElem?_take] at hv
      split at hv
      · obtain ⟨x, hx, rfl⟩ := Option.map_eq_some_iff.1 hv
        rw [Addr.add_lit, H.below.cell (p := ⟨b, f + j, none⟩) hbw, hcell j x hx]
        rfl
      · cases hv) (by rw [hlen]; exact hd) (fun v hv => by
      obtain ⟨x, _, rfl⟩ := List.mem_map.1 hv
      rfl)
    rw [show (cur.toList.take off ++ (l.take m).map bv ++ cur.toList.drop (off + ((l.take m).map bv).length)).toArray = c from hc] at hrun
    unfold Oper.wp
    simp only [execOp, ho, resolve, invoke, builtin, H.ev hx, H.ev hy, hlen] at hrun ⊢
    simp [hrun, Result.andThen, H.ev hx, H.ev hy]
    refine hK _ _ (next _ _ ?_)
    rw [hdst]
    exact (H.setRow hk c).put _ hl hf
theorem pl_clear {x : Operand} {tS te : TypeId} {g off k m c' : Nat} {t : TypeId} {cur c : Array Value} {z : Value} (ho : o.op = .call { callee := .builtin .clear, args := #[x], argTypes := #[tS] })
    (hu : P.underlying tS = some (.slice te)) (hz : ∀ w, (zeroValue te).run P w = .ok z w) (hz1 : z.cells = #[z]) (hz2 : z.oneCell' = true)
    (hx : sev e x = some (.slice (some ⟨g, off, none⟩) m c')) (hk : h[k]? = some (g, t, cur)) (hm : 0 < m) (hd : off + m ≤ cur.size) (hc : setV cur off (List.replicate m z) = c) (hg : o.guard = none) (hdst : o.dst = none)
    (H : St n w0 a w e h) (next : ∀ a w', St n w0 a w' e (h.set k (g, t, c)) → wpList P ops Q rest a w') : wpList P ops Q (o :: rest) a w :=
  wpList_plain hg fun K hK => by
    have hb := H.blk hk
    have hrun := Lib.run_clear_slice (P := P) w tS te o.type z hu hz hz1 hz2 g off m c' hm (fun j hj => by
      rw [hb.cell, Array.getElem?_eq_getElem (by omega)]
      rfl) (fun j hj => hb.frozen _)
    unfold Oper.wp
    simp only [execOp, ho, resolve, invoke, builtin] at hrun ⊢
    simp [hrun, Result.andThen, H.ev hx]
    refine hK _ _ (next _ _ ?_)
    rw [hdst]
    exact H.setCells hk off _ hc
theorem pl_clear0 {x : Operand} {tS te : TypeId} {g off c' : Nat} (ho : o.op = .call { callee := .builtin .clear, args := #[x], argTypes := #[tS] })
    (hu : P.underlying tS = some (.slice te)) (hx : sev e x = some (.slice (some ⟨g, off, none⟩) 0 c')) (hg : o.guard = none) (hdst : o.dst = none)
    (H : St n w0 a w e h) (next : ∀ a w', St n w0 a w' e h → wpList P ops Q rest a w') : wpList P ops Q (o :: rest) a w :=
  wpList_plain hg fun K hK => by
    unfold Oper.wp
    simp [execOp, ho, resolve, invoke, builtin, H.ev hx, Builtin.clear_, run_underlying hu, Result.andThen]
    refine hK _ _ (next _ _ ?_)
    rw [hdst]
    exact H
end
/-! Words turned; numbers. -/
theorem rorL_val (x : UInt32) {s k : Nat} (h : 32 - s = k) (h2 : 32 - k = s) : bits .or .u32 (IntKind.u32.wrap ((x.toNat : Int) * 2 ^ k)) ((x.toNat : Int) / 2 ^ (32 - k)) = ((rorW x s).toNat : Int) := by
  rw [w_shl_int, w_shr_int, w_or_int]
  unfold rorW
  rw [h, h2, UInt32.or_comm]
abbrev TurnB (s : Nat) : Prop := s = 16 ∨ s = 12 ∨ s = 8 ∨ s = 7
theorem rot_any (x : UInt32) (s : Nat) (hs : TurnB s) (w : World) : Calls Tryd.prog 29 #[wc x, .int .i64 (-(s : Int))] w (fun rr w' => rr = .returned (wc (rorW x s)) ∧ Below w.heap.size w w') := by
  have hx := w_lt x
  unfold wc
  have c16 : IntKind.u64.wrap (-16) = 18446744073709551600 := by decide +kernel
  have c12 : IntKind.u64.wrap (-12) = 18446744073709551604 := by decide +kernel
  have c8 : IntKind.u64.wrap (-8) = 18446744073709551608 := by decide +kernel
  have c7 : IntKind.u64.wrap (-7) = 18446744073709551609 := by decide +kernel
  have e16 : bits .and .u64 18446744073709551600 31 = 16 := by decide +kernel
  have e12 : bits .and .u64 18446744073709551604 31 = 20 := by decide +kernel
  have e8 : bits .and .u64 18446744073709551608 31 = 24 := by decide +kernel
  have e7 : bits .and .u64 18446744073709551609 31 = 25 := by decide +kernel
  rcases hs with rfl | rfl | rfl | rfl
  · have h := rorL_val x (s := 16) (k := 16) rfl rfl
    go_enter Tryd.func29, Tryd.ntmps29
    go_wp2
    go_ret
    refine ⟨?_, Below.refl _ _⟩
    rw [← h]
    rfl
  · have h := rorL_val x (s := 12) (k := 20) rfl rfl
    go_enter Tryd.func29, Tryd.ntmps29
    go_wp2
    go_ret
    refine ⟨?_, Below.refl _ _⟩
    rw [← h]
    rfl
  · have h := rorL_val x (s := 8) (k := 24) rfl rfl
    go_enter Tryd.func29, Tryd.ntmps29
    go_wp2
    go_ret
    refine ⟨?_, Below.refl _ _⟩
    rw [← h]
    rfl
  · have h := rorL_val x (s := 7) (k := 25) rfl rfl
    go_enter Tryd.func29, Tryd.ntmps29
    go_wp2
    go_ret
    refine ⟨?_, Below.refl _ _⟩
    rw [← h]
    rfl
theorem i_negB {s : Nat} (hs : s ≤ 32) (W : World) : (Op.unary .neg (.int .i64 (s : Int))).run Tryd.prog W = .ok (.int .i64 (-(s : Int))) W := by
  have e : IntKind.i64.wrap (-(s : Int)) = -(s : Int) := IntWalk.i64_in _ (by omega)
  go_simp
theorem z_gtr {k : Nat} {b : Bool} (h : decide (0 < k) = b) (p q : Operand) (W : World) : (do eqGuard .gtr 3 p q (.int .i64 (k : Int)) (.int .i64 0); binOp .gtr 3 (.int .i64 (k : Int)) (.int .i64 0) : Sem Value).run Tryd.prog W = .ok (.bool b) W := by
  have e : decide ((0 : Int) < (k : Int)) = b := by
    rw [← h]
    exact decide_eq_decide.2 (by omega)
  go_simp
  all_goals exact e
theorem un_addB {x y : Nat} (h : x + y < 18446744073709551616) (p q : Operand) (W : World) : (do eqGuard .add 52 p q (un x) (un y); binOp .add 52 (un x) (un y) : Sem Value).run Tryd.prog W = .ok (un (x + y)) W := un_add h p q W
theorem bv_cells (x : UInt8) : (bv x).cells = #[bv x] := rfl
theorem zero_u8 (W : World) : (zeroValue 5).run Tryd.prog W = .ok (bv 0) W := by kernel_rfl
end Go.Proofs.YthjechjffhhiiaaDoor
