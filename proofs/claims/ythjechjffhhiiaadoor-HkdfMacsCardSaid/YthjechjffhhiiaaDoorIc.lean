/- Rows of keys, nonces, blocks and words; slices of them; the operations on them. -/
import Derived.Test.YthjechjffhhiiaaDoorZb
namespace Go.Proofs.YthjechjffhhiiaaDoor
set_option linter.unusedVariables false
set_option linter.unusedSimpArgs false
set_option maxRecDepth 100000
open Go Go.RowKit

abbrev w0s : Wd := fun _ => 0
abbrev b0s : Nat → UInt8 := fun _ => 0
theorem al_w16 (W : World) : (Instr.alloc 51 true (.tuple #[])).run Tryd.prog W = .ok (.pointer (some ⟨W.heap.size, 0, none⟩)) (W.alloc (.cells (wv w0s) 51)) := by kernel_rfl
theorem bx_w16 (f : Wd) (W : World) : (Instr.box 51 (.agg (wv f))).run Tryd.prog W = .ok (.pointer (some ⟨W.heap.size, 0, none⟩)) (W.alloc (.cells (wv f) 51)) := by kernel_rfl
theorem bx_key (f : Nat → UInt8) (W : World) : (Instr.box 25 (.agg (bvs (rb 32 f)))).run Tryd.prog W = .ok (.pointer (some ⟨W.heap.size, 0, none⟩)) (W.alloc (.cells (bvs (rb 32 f)) 25)) := by kernel_rfl
theorem bvs_one (l : List UInt8) : (bvs l).all (·.oneCell') = true := by
  rw [Array.all_eq_true']
  intro x hx
  simp only [bvs, List.mem_toArray, List.mem_map] at hx
  obtain ⟨i, _, rfl⟩ := hx
  rfl
theorem info_w16 (f : Wd) : (Tryd.prog.info? 51).map (·.size) = some (wv f).size := by rw [wv_size]; kernel_rfl
theorem info_key (f : Nat → UInt8) : (Tryd.prog.info? 25).map (·.size) = some (bvs (rb 32 f)).size := by rw [bvs_size, rb_len]; kernel_rfl
theorem size_wv (f g : Wd) : (wv f).size = (wv g).size := by rw [wv_size, wv_size]
theorem size_rb (n : Nat) (f g : Nat → UInt8) : (bvs (rb n f)).size = (bvs (rb n g)).size := by simp only [bvs_size, rb_len]
/-! Words in a row. -/
theorem ia_w16 {j : Nat} (hj : j < 16) {g : Nat} (W : World) : (Instr.indexAt 51 (.pointer (some ⟨g, 0, none⟩)) (.int .i64 (j : Int))).run Tryd.prog W = .ok (.pointer (some ⟨g, j, none⟩)) W := by
  have h1 : (0 : Int) ≤ (j : Int) := by omega
  have h2 : (j : Int) < 16 := by omega
  go_simp
theorem ia_bytes {j n c o : Nat} (hj : j < n) {g : Nat} (W : World) : (Instr.indexAt 22 (.slice (some ⟨g, o, none⟩) n c) (.int .i64 (j : Int))).run Tryd.prog W = .ok (.pointer (some ⟨g, o + j, none⟩)) W := by
  have h1 : (0 : Int) ≤ (j : Int) := by omega
  have h2 : (j : Int) < (n : Int) := by omega
  go_simp
theorem ld_word {g j : Nat} {t : TypeId} {f : Wd} (hj : j < 16) (W : World) (h : Blk W g t (wv f)) : (Instr.loadAt 45 (.pointer (some ⟨g, j, none⟩))).run Tryd.prog W = .ok (wc (f j)) W := by
  have hc := h.cell j
  rw [wv_get f hj] at hc
  unfold wc at hc ⊢
  go_simp
theorem ld_cellB {g j : Nat} {x : UInt8} (W : World) (hc : W.cell? ⟨g, j, none⟩ = some (bv x)) : (Instr.loadAt 5 (.pointer (some ⟨g, j, none⟩))).run Tryd.prog W = .ok (bv x) W := by
  unfold bv at hc ⊢
  go_simp
theorem ld_byte {g j n : Nat} {t : TypeId} {f : Nat → UInt8} (hj : j < n) (W : World) (h : Blk W g t (bvs (rb n f))) : (Instr.loadAt 5 (.pointer (some ⟨g, j, none⟩))).run Tryd.prog W = .ok (bv (f j)) W := by
  have hc := h.cell j
  rw [bvs_get, rb_get hj] at hc
  exact ld_cellB W hc
theorem st_word {g j : Nat} {t : TypeId} {f : Wd} {x : UInt32} (hj : j < 16) (W : World) (h : Blk W g t (wv f)) : (Instr.storeAt 45 (.pointer (some ⟨g, j, none⟩)) (wc x)).run Tryd.prog W = .ok () (W.setCells g j [wc x]) := by
  have hc := h.cell j
  have hf := h.frozen j
  rw [wv_get f hj] at hc
  have hs : (W.cell? ⟨g, j, none⟩).isSome = true := by rw [hc]; rfl
  show _ = Result.ok () (W.setCell ⟨g, j, none⟩ (wc x))
  unfold wc
  go_simp
theorem sv_word {f g : Wd} {j : Nat} {x : UInt32} (h : upd f j x = g) : setV (wv f) j [wc x] = wv g := by
  rw [← h]
  exact wv_set f j x
/-- Bytes of which one is another one. -/
def updB (f : Nat → UInt8) (a : Nat) (v : UInt8) : Nat → UInt8 := fun i => bif Nat.beq i a then v else f i
theorem rb_set (n : Nat) (f : Nat → UInt8) (a : Nat) (v : UInt8) : (rb n f).set a v = rb n (updB f a v) := by
  apply List.ext_getElem?
  intro i
  by_cases h : i < n
  · rw [rb_get h, List.getElem?_set, rb_len]
    unfold updB
    by_cases e : a = i
    · subst e
      simp [h]
    · rw [if_neg e, rb_get h, nb_ne (Ne.symm e)]
      rfl
  · rw [List.getElem?_eq_none (by simp [rb_len]; omega), List.getElem?_eq_none (by rw [rb_len]; omega)]
theorem st_byte {g j n : Nat} {t : TypeId} {f : Nat → UInt8} {x : UInt8} (hj : j < n) (W : World) (h : Blk W g t (bvs (rb n f))) : (Instr.storeAt 5 (.pointer (some ⟨g, j, none⟩)) (bv x)).run Tryd.prog W = .ok () (W.setCells g j [bv x]) := by
  have hc := h.cell j
  have hf := h.frozen j
  rw [bvs_get, rb_get hj] at hc
  have hs : (W.cell? ⟨g, j, none⟩).isSome = true := by rw [hc]; rfl
  show _ = Result.ok () (W.setCell ⟨g, j, none⟩ (bv x))
  unfold bv
  go_simp
theorem sv_byte {n : Nat} {f g : Nat → UInt8} {j : Nat} {x : UInt8} (h : updB f j x = g) : setV (bvs (rb n f)) j [bv x] = bvs (rb n g) := by
  rw [← h, ← rb_set]
  exact bvs_set (rb n f) j x
/-! Slices of rows. -/
theorem sl_key (g : Nat) (W : World) : (Instr.sliceAt 25 (.pointer (some ⟨g, 0, none⟩)) none none none).run Tryd.prog W = .ok (.slice (some ⟨g, 0, none⟩) 32 32) W := by kernel_rfl
/-! Whole numbers, shifts, other kinds. -/
theorem i_quo {k m : Nat} (h : 0 < m) (hk : k ≤ 9223372036854775807) (hm : m ≤ 9223372036854775807) (p q : Operand) (W : World) : (do eqGuard .quo 3 p q (.int .i64 (k : Int)) (.int .i64 (m : Int)); binOp .quo 3 (.int .i64 (k : Int)) (.int .i64 (m : Int)) : Sem Value).run Tryd.prog W = .ok (.int .i64 ((k / m : Nat) : Int)) W := by
  have h0 : (m : Int) ≠ 0 := by omega
  go_simp
  rw [if_neg (show ¬ m = 0 by omega), show (k : Int) / (m : Int) = ((k / m : Nat) : Int) by push_cast; rfl, IntWalk.i64_in _ (by have h3 := Nat.div_le_self k m; generalize k / m = d at h3 ⊢; omega)]
theorem i_rem {k m : Nat} (h : 0 < m) (p q : Operand) (W : World) : (do eqGuard .rem 3 p q (.int .i64 (k : Int)) (.int .i64 (m : Int)); binOp .rem 3 (.int .i64 (k : Int)) (.int .i64 (m : Int)) : Sem Value).run Tryd.prog W = .ok (.int .i64 ((k % m : Nat) : Int)) W := by
  have h0 : (m : Int) ≠ 0 := by omega
  go_simp
  rw [if_neg (show ¬ m = 0 by omega), Int.tmod_eq_emod_of_nonneg (by omega)]
theorem i_mul {k m : Nat} (h : k * m ≤ 9223372036854775807) (p q : Operand) (W : World) : (do eqGuard .mul 3 p q (.int .i64 (k : Int)) (.int .i64 (m : Int)); binOp .mul 3 (.int .i64 (k : Int)) (.int .i64 (m : Int)) : Sem Value).run Tryd.prog W = .ok (.int .i64 ((k * m : Nat) : Int)) W := by
  have e : IntKind.i64.wrap ((k : Int) * (m : Int)) = ((k * m : Nat) : Int) := by
    rw [show (k : Int) * (m : Int) = ((k * m : Nat) : Int) by push_cast; rfl]
    exact IntWalk.i64_in _ (by omega)
  go_simp
theorem w_shl {x : UInt32} {s : Nat} (hs : s ≤ 32) (p q : Operand) (W : World) : (do eqGuard .shl 45 p q (wc x) (.int .i64 (s : Int)); binOp .shl 45 (wc x) (.int .i64 (s : Int)) : Sem Value).run Tryd.prog W = .ok (wc (shlW x s)) W := by
  have h1 : (0 : Int) ≤ (s : Int) := by omega
  have h2 : (s : Int) ≤ 32 := by omega
  unfold wc
  go_simp
  exact w_shl_int x s
theorem w_shr {x : UInt32} {s : Nat} (hs : s ≤ 32) (p q : Operand) (W : World) : (do eqGuard .shr 45 p q (wc x) (.int .i64 (s : Int)); binOp .shr 45 (wc x) (.int .i64 (s : Int)) : Sem Value).run Tryd.prog W = .ok (wc (shrW x s)) W := by
  have h1 : (0 : Int) ≤ (s : Int) := by omega
  have h2 : (s : Int) ≤ 32 := by omega
  unfold wc
  go_simp
  exact w_shr_int x s
theorem w_shlu {x : UInt32} {s : Nat} (hs : s ≤ 32) (p q : Operand) (W : World) : (do eqGuard .shl 45 p q (wc x) (.int .u64 (s : Int)); binOp .shl 45 (wc x) (.int .u64 (s : Int)) : Sem Value).run Tryd.prog W = .ok (wc (shlW x s)) W := by
  have h1 : (0 : Int) ≤ (s : Int) := by omega
  have h2 : (s : Int) ≤ 32 := by omega
  unfold wc
  go_simp
  exact w_shl_int x s
theorem w_shru {x : UInt32} {s : Nat} (hs : s ≤ 32) (p q : Operand) (W : World) : (do eqGuard .shr 45 p q (wc x) (.int .u64 (s : Int)); binOp .shr 45 (wc x) (.int .u64 (s : Int)) : Sem Value).run Tryd.prog W = .ok (wc (shrW x s)) W := by
  have h1 : (0 : Int) ≤ (s : Int) := by omega
  have h2 : (s : Int) ≤ 32 := by omega
  unfold wc
  go_simp
  exact w_shr_int x s
theorem cv_bw (x : UInt8) (W : World) : (convert 5 45 (bv x)).run Tryd.prog W = .ok (wc (byteW x)) W := by
  have hx := x.toNat_lt
  have e : IntKind.u32.wrap (x.toNat : Int) = ((byteW x).toNat : Int) := by
    rw [IntKind.wrap_u32', byteW, UInt32.toNat_ofNat']
    omega
  unfold bv wc
  go_simp
theorem cv_wb (x : UInt32) (W : World) : (convert 45 5 (wc x)).run Tryd.prog W = .ok (bv (lowB x)) W := by
  have e : IntKind.u8.wrap (x.toNat : Int) = ((lowB x).toNat : Int) := by
    rw [IntKind.wrap_u8', lowB, UInt8.toNat_ofNat']
    omega
  unfold bv wc
  go_simp
theorem cv_iw (s : Nat) (W : World) : (convert 3 45 (.int .i64 (s : Int))).run Tryd.prog W = .ok (wc (UInt32.ofNat s)) W := by
  have e : IntKind.u32.wrap (s : Int) = ((UInt32.ofNat s).toNat : Int) := by
    rw [IntKind.wrap_u32', UInt32.toNat_ofNat']
    omega
  unfold wc
  go_simp
theorem cv_iu {x : Nat} (hx : x < 9223372036854775808) (W : World) : (convert 3 53 (.int .i64 (x : Int))).run Tryd.prog W = .ok (.int .u64 (x : Int)) W := by
  have e : IntKind.u64.wrap (x : Int) = (x : Int) := IntWalk.u64_in _ (by omega)
  go_simp
theorem w_mul256 (x : UInt32) (p q : Operand) (W : World) : (do eqGuard .mul 45 p q (wc x) (.int .u32 256); binOp .mul 45 (wc x) (.int .u32 256) : Sem Value).run Tryd.prog W = .ok (wc (x * 256)) W := by
  have e : IntKind.u32.wrap ((x.toNat : Int) * 256) = ((x * 256).toNat : Int) := by
    rw [IntKind.wrap_u32', UInt32.toNat_mul]
    show _ = ((x.toNat * 256 % 4294967296 : Nat) : Int)
    omega
  unfold wc
  go_simp
end Go.Proofs.YthjechjffhhiiaaDoor
