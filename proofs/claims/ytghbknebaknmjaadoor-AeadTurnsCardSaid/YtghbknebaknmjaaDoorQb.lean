/- Rows of 64-bit digits, keys, marks; the operations on them. -/
import Derived.Test.YtghbknebaknmjaaDoorIb
import Derived.Test.YtghbknebaknmjaaDoorQa
namespace Go.Proofs.YtghbknebaknmjaaDoor
set_option linter.unusedVariables false
set_option linter.unusedSimpArgs false
set_option maxRecDepth 100000
open Go Go.RowKit

def uc (x : Nat) : Value := .int .u64 (x : Int)
/-- n digits. -/
def nv (n : Nat) (f : Nat → Nat) : Array Value := ((List.range n).map (fun i => uc (f i))).toArray
abbrev n0s : Nat → Nat := fun _ => 0
abbrev b0s : Nat → UInt8 := fun _ => 0
theorem nv_size (n : Nat) (f : Nat → Nat) : (nv n f).size = n := by simp [nv]
theorem nv_get {n i : Nat} (f : Nat → Nat) (h : i < n) : (nv n f)[i]? = some (uc (f i)) := by simp [nv, h]
theorem nv_ext {n : Nat} {f g : Nat → Nat} (h : ∀ i, i < n → f i = g i) : nv n f = nv n g := by
  unfold nv
  congr 1
  exact List.map_congr_left fun i hi => by rw [h i (List.mem_range.1 hi)]
theorem nv_one (n : Nat) (f : Nat → Nat) : (nv n f).all (·.oneCell') = true := by
  rw [Array.all_eq_true']
  intro x hx
  simp only [nv, List.mem_toArray, List.mem_map] at hx
  obtain ⟨i, _, rfl⟩ := hx
  rfl
theorem nv_set (n : Nat) (f : Nat → Nat) (a v : Nat) : (nv n f).setIfInBounds a (uc v) = nv n (updN f a v) := by
  apply Array.ext_getElem?
  intro i
  by_cases h : i < n
  · rw [nv_get _ h, Array.getElem?_setIfInBounds, nv_size]
    unfold updN
    by_cases e : a = i
    · subst e
      simp [h]
    · rw [if_neg e, nv_get _ h, nb_ne (Ne.symm e)]
      rfl
  · rw [Array.getElem?_eq_none (by simp [nv_size]; omega), Array.getElem?_eq_none (by rw [nv_size]; omega)]
theorem size_nv (n : Nat) (f g : Nat → Nat) : (nv n f).size = (nv n g).size := by rw [nv_size, nv_size]
theorem bvs_one (l : List UInt8) : (bvs l).all (·.oneCell') = true := by
  rw [Array.all_eq_true']
  intro x hx
  simp only [bvs, List.mem_toArray, List.mem_map] at hx
  obtain ⟨i, _, rfl⟩ := hx
  rfl
theorem size_rb (n : Nat) (f g : Nat → UInt8) : (bvs (rb n f)).size = (bvs (rb n g)).size := by simp only [bvs_size, rb_len]
theorem al_d34 (W : World) : (Instr.alloc 74 true (.tuple #[])).run Tryd.prog W = .ok (.pointer (some ⟨W.heap.size, 0, none⟩)) (W.alloc (.cells (nv 34 n0s) 74)) := by kernel_rfl
theorem al_num9 (W : World) : (Instr.alloc 73 true (.tuple #[])).run Tryd.prog W = .ok (.pointer (some ⟨W.heap.size, 0, none⟩)) (W.alloc (.cells (nv 17 n0s) 73)) := by kernel_rfl
theorem al_d16 (W : World) : (Instr.alloc 71 true (.tuple #[])).run Tryd.prog W = .ok (.pointer (some ⟨W.heap.size, 0, none⟩)) (W.alloc (.cells (nv 16 n0s) 71)) := by kernel_rfl
theorem al_mark (W : World) : (Instr.alloc 42 true (.tuple #[])).run Tryd.prog W = .ok (.pointer (some ⟨W.heap.size, 0, none⟩)) (W.alloc (.cells (bvs (rb 16 b0s)) 42)) := by kernel_rfl
theorem al_key (W : World) : (Instr.alloc 23 true (.tuple #[])).run Tryd.prog W = .ok (.pointer (some ⟨W.heap.size, 0, none⟩)) (W.alloc (.cells (bvs (rb 32 b0s)) 23)) := by kernel_rfl
theorem bx_d34 (f : Nat → Nat) (W : World) : (Instr.box 74 (.agg (nv 34 f))).run Tryd.prog W = .ok (.pointer (some ⟨W.heap.size, 0, none⟩)) (W.alloc (.cells (nv 34 f) 74)) := by kernel_rfl
theorem bx_mark (f : Nat → UInt8) (W : World) : (Instr.box 42 (.agg (bvs (rb 16 f)))).run Tryd.prog W = .ok (.pointer (some ⟨W.heap.size, 0, none⟩)) (W.alloc (.cells (bvs (rb 16 f)) 42)) := by kernel_rfl
theorem bx_key (f : Nat → UInt8) (W : World) : (Instr.box 23 (.agg (bvs (rb 32 f)))).run Tryd.prog W = .ok (.pointer (some ⟨W.heap.size, 0, none⟩)) (W.alloc (.cells (bvs (rb 32 f)) 23)) := by kernel_rfl
theorem info_d34 (f : Nat → Nat) : (Tryd.prog.info? 74).map (·.size) = some (nv 34 f).size := by rw [nv_size]; kernel_rfl
theorem info_num9 (f : Nat → Nat) : (Tryd.prog.info? 73).map (·.size) = some (nv 17 f).size := by rw [nv_size]; kernel_rfl
theorem info_d16 (f : Nat → Nat) : (Tryd.prog.info? 71).map (·.size) = some (nv 16 f).size := by rw [nv_size]; kernel_rfl
theorem info_mark (f : Nat → UInt8) : (Tryd.prog.info? 42).map (·.size) = some (bvs (rb 16 f)).size := by rw [bvs_size, rb_len]; kernel_rfl
theorem info_key (f : Nat → UInt8) : (Tryd.prog.info? 23).map (·.size) = some (bvs (rb 32 f)).size := by rw [bvs_size, rb_len]; kernel_rfl
theorem ia_d34 {j : Nat} (hj : j < 34) {g : Nat} (W : World) : (Instr.indexAt 74 (.pointer (some ⟨g, 0, none⟩)) (.int .i64 (j : Int))).run Tryd.prog W = .ok (.pointer (some ⟨g, j, none⟩)) W := by
  have h1 : (0 : Int) ≤ (j : Int) := by omega
  have h2 : (j : Int) < 34 := by omega
  go_simp
theorem ia_num9 {j : Nat} (hj : j < 17) {g : Nat} (W : World) : (Instr.indexAt 73 (.pointer (some ⟨g, 0, none⟩)) (.int .i64 (j : Int))).run Tryd.prog W = .ok (.pointer (some ⟨g, j, none⟩)) W := by
  have h1 : (0 : Int) ≤ (j : Int) := by omega
  have h2 : (j : Int) < 17 := by omega
  go_simp
theorem ia_d16 {j : Nat} (hj : j < 16) {g : Nat} (W : World) : (Instr.indexAt 71 (.pointer (some ⟨g, 0, none⟩)) (.int .i64 (j : Int))).run Tryd.prog W = .ok (.pointer (some ⟨g, j, none⟩)) W := by
  have h1 : (0 : Int) ≤ (j : Int) := by omega
  have h2 : (j : Int) < 16 := by omega
  go_simp
theorem ia_mark {j : Nat} (hj : j < 16) {g : Nat} (W : World) : (Instr.indexAt 42 (.pointer (some ⟨g, 0, none⟩)) (.int .i64 (j : Int))).run Tryd.prog W = .ok (.pointer (some ⟨g, j, none⟩)) W := by
  have h1 : (0 : Int) ≤ (j : Int) := by omega
  have h2 : (j : Int) < 16 := by omega
  go_simp
theorem ia_key {j : Nat} (hj : j < 32) {g : Nat} (W : World) : (Instr.indexAt 23 (.pointer (some ⟨g, 0, none⟩)) (.int .i64 (j : Int))).run Tryd.prog W = .ok (.pointer (some ⟨g, j, none⟩)) W := by
  have h1 : (0 : Int) ≤ (j : Int) := by omega
  have h2 : (j : Int) < 32 := by omega
  go_simp
theorem ia_bytes {j n c o : Nat} (hj : j < n) {g : Nat} (W : World) : (Instr.indexAt 25 (.slice (some ⟨g, o, none⟩) n c) (.int .i64 (j : Int))).run Tryd.prog W = .ok (.pointer (some ⟨g, o + j, none⟩)) W := by
  have h1 : (0 : Int) ≤ (j : Int) := by omega
  have h2 : (j : Int) < (n : Int) := by omega
  go_simp
theorem ld_nv {g j n x : Nat} {t : TypeId} {f : Nat → Nat} (hj : j < n) (hx : f j = x) (W : World) (h : Blk W g t (nv n f)) : (Instr.loadAt 24 (.pointer (some ⟨g, j, none⟩))).run Tryd.prog W = .ok (uc x) W := by
  have hc := h.cell j
  rw [nv_get f hj, hx] at hc
  unfold uc at hc ⊢
  go_simp
theorem ld_cellB {g j : Nat} {x : UInt8} (W : World) (hc : W.cell? ⟨g, j, none⟩ = some (bv x)) : (Instr.loadAt 5 (.pointer (some ⟨g, j, none⟩))).run Tryd.prog W = .ok (bv x) W := by
  unfold bv at hc ⊢
  go_simp
theorem ld_byte {g j n : Nat} {t : TypeId} {f : Nat → UInt8} (hj : j < n) (W : World) (h : Blk W g t (bvs (rb n f))) : (Instr.loadAt 5 (.pointer (some ⟨g, j, none⟩))).run Tryd.prog W = .ok (bv (f j)) W := by
  have hc := h.cell j
  rw [bvs_get, rb_get hj] at hc
  exact ld_cellB W hc
theorem st_nv {g j n x : Nat} {t : TypeId} {f : Nat → Nat} (hj : j < n) (W : World) (h : Blk W g t (nv n f)) : (Instr.storeAt 24 (.pointer (some ⟨g, j, none⟩)) (uc x)).run Tryd.prog W = .ok () (W.setCells g j [uc x]) := by
  have hc := h.cell j
  have hf := h.frozen j
  rw [nv_get f hj] at hc
  have hs : (W.cell? ⟨g, j, none⟩).isSome = true := by rw [hc]; rfl
  show _ = Result.ok () (W.setCell ⟨g, j, none⟩ (uc x))
  unfold uc
  go_simp
theorem sv_nv {n : Nat} {f g : Nat → Nat} {j x : Nat} (h : updN f j x = g) : setV (nv n f) j [uc x] = nv n g := by
  rw [← h]
  exact nv_set n f j x
def updB (f : Nat → UInt8) (a : Nat) (v : UInt8) : Nat → UInt8 := fun i => bif Nat.beq i a then v else f i
theorem rb_set (n : Nat) (f : Nat → UInt8) (a : Nat) (v : UInt8) : (rb n f).set a v = rb n (updB f a v) := by
  apply List.ext_getElem?
  intro i
  by_cases h : i < n
  · rw [rb_get h, List.getElem?_set, rb_len]
    unfold updB
    by_cases e : a = i
    · subst e
      simp [h]
    · rw [if_neg e, rb_get h, nb_ne (Ne.symm e)]
      rfl
  · rw [List.getElem?_eq_none (by simp [rb_len]; omega), List.getElem?_eq_none (by rw [rb_len]; omega)]
theorem st_byte {g j n : Nat} {t : TypeId} {f : Nat → UInt8} {x : UInt8} (hj : j < n) (W : World) (h : Blk W g t (bvs (rb n f))) : (Instr.storeAt 5 (.pointer (some ⟨g, j, none⟩)) (bv x)).run Tryd.prog W = .ok () (W.setCells g j [bv x]) := by
  have hc := h.cell j
  have hf := h.frozen j
  rw [bvs_get, rb_get hj] at hc
  have hs : (W.cell? ⟨g, j, none⟩).isSome = true := by rw [hc]; rfl
  show _ = Result.ok () (W.setCell ⟨g, j, none⟩ (bv x))
  unfold bv
  go_simp
theorem sv_byte {n : Nat} {f g : Nat → UInt8} {j : Nat} {x : UInt8} (h : updB f j x = g) : setV (bvs (rb n f)) j [bv x] = bvs (rb n g) := by
  rw [← h, ← rb_set]
  exact bvs_set (rb n f) j x
/-- Bytes of which the first k are done. -/
def mapB (F g : Nat → UInt8) (k i : Nat) : UInt8 := bif Nat.blt i k then F i else g i
theorem mapB_lt {F g : Nat → UInt8} {k i : Nat} (h : i < k) : mapB F g k i = F i := by simp only [mapB, blt_lt h, cond_true]
theorem mapB_ge {F g : Nat → UInt8} {k i : Nat} (h : k ≤ i) : mapB F g k i = g i := by simp only [mapB, blt_ge h, cond_false]
theorem mapB_0 (F g : Nat → UInt8) : mapB F g 0 = g := funext fun i => mapB_ge (Nat.zero_le i)
theorem mapB_step (F g : Nat → UInt8) (k : Nat) : updB (mapB F g k) k (F k) = mapB F g (k + 1) := funext fun i => by
  unfold updB
  by_cases h : i = k
  · subst h
    rw [mapB_lt (show i < i + 1 by omega)]
    simp
  · rw [nb_ne h]
    by_cases h2 : i < k
    · rw [mapB_lt (show i < k + 1 by omega)]; exact mapB_lt h2
    · rw [mapB_ge (show k + 1 ≤ i by omega)]; exact mapB_ge (by omega)
theorem mapB_all {n : Nat} (F g : Nat → UInt8) : bvs (rb n (mapB F g n)) = bvs (rb n F) := by rw [rb_ext (fun i hi => mapB_lt hi)]
theorem mapK_all {n : Nat} (F g : Nat → Nat) : nv n (mapK F g n) = nv n F := nv_ext fun i hi => mapK_lt hi
theorem sl_keyBF {W : World} {g : Nat} {t : TypeId} {n : Nat} {f : Nat → UInt8} (h : Blk W g t (bvs (rb n f))) : BF (rb n f) (.slice (some ⟨g, 0, none⟩) n n) W := ⟨_, _, _, rfl, BS.ofBlk h n (rb_len _ _).symm _ h.lt⟩
/-! Numbers. -/
theorem u_add {x y : Nat} (h : x + y < 18446744073709551616) (p q : Operand) (W : World) : (do eqGuard .add 24 p q (uc x) (uc y); binOp .add 24 (uc x) (uc y) : Sem Value).run Tryd.prog W = .ok (uc (x + y)) W := by
  have e : IntKind.u64.wrap ((x : Int) + (y : Int)) = ((x + y : Nat) : Int) := IntWalk.u64_in _ (by omega)
  unfold uc
  go_simp
theorem u_sub {x y : Nat} (h : y ≤ x) (hx : x < 18446744073709551616) (p q : Operand) (W : World) : (do eqGuard .sub 24 p q (uc x) (uc y); binOp .sub 24 (uc x) (uc y) : Sem Value).run Tryd.prog W = .ok (uc (x - y)) W := by
  have e : IntKind.u64.wrap ((x : Int) - (y : Int)) = ((x - y : Nat) : Int) := by
    rw [show (x : Int) - (y : Int) = ((x - y : Nat) : Int) by omega]
    exact IntWalk.u64_in _ (by omega)
  unfold uc
  go_simp
theorem u_mul {x y : Nat} (h : x * y < 18446744073709551616) (p q : Operand) (W : World) : (do eqGuard .mul 24 p q (uc x) (uc y); binOp .mul 24 (uc x) (uc y) : Sem Value).run Tryd.prog W = .ok (uc (x * y)) W := by
  have e : IntKind.u64.wrap ((x : Int) * (y : Int)) = ((x * y : Nat) : Int) := by
    rw [show (x : Int) * (y : Int) = ((x * y : Nat) : Int) by push_cast; rfl]
    exact IntWalk.u64_in _ (by omega)
  unfold uc
  go_simp
theorem u_quo {x m : Nat} (h : 0 < m) (hx : x < 18446744073709551616) (p q : Operand) (W : World) : (do eqGuard .quo 24 p q (uc x) (uc m); binOp .quo 24 (uc x) (uc m) : Sem Value).run Tryd.prog W = .ok (uc (x / m)) W := by
  have h0 : ¬ m = 0 := by omega
  unfold uc
  go_simp
  rw [show (x : Int) / (m : Int) = ((x / m : Nat) : Int) by push_cast; rfl]
  exact IntWalk.u64_in _ (by have h3 := Nat.div_le_self x m; generalize x / m = d at h3 ⊢; omega)
theorem u_rem {x m : Nat} (h : 0 < m) (p q : Operand) (W : World) : (do eqGuard .rem 24 p q (uc x) (uc m); binOp .rem 24 (uc x) (uc m) : Sem Value).run Tryd.prog W = .ok (uc (x % m)) W := by
  have h0 : ¬ m = 0 := by omega
  unfold uc
  go_simp
  exact Int.tmod_eq_emod_of_nonneg (by omega)
theorem u_eqlB {x m : Nat} {b : Bool} (h : decide (x = m) = b) (p q : Operand) (W : World) : (do eqGuard .eql 24 p q (uc x) (uc m); binOp .eql 24 (uc x) (uc m) : Sem Value).run Tryd.prog W = .ok (.bool b) W := by
  have e : decide ((x : Int) = (m : Int)) = b := by
    rw [← h]
    exact decide_eq_decide.2 (by omega)
  unfold uc
  go_simp
  exact e
theorem u_geqB {x m : Nat} {b : Bool} (h : decide (m ≤ x) = b) (p q : Operand) (W : World) : (do eqGuard .geq 24 p q (uc x) (uc m); binOp .geq 24 (uc x) (uc m) : Sem Value).run Tryd.prog W = .ok (.bool b) W := by
  have e : decide ((x : Int) ≥ (m : Int)) = b := by
    rw [← h]
    exact decide_eq_decide.2 (by omega)
  unfold uc
  go_simp
theorem u_gtrB {x m : Nat} {b : Bool} (h : decide (m < x) = b) (p q : Operand) (W : World) : (do eqGuard .gtr 24 p q (uc x) (uc m); binOp .gtr 24 (uc x) (uc m) : Sem Value).run Tryd.prog W = .ok (.bool b) W := by
  have e : decide ((x : Int) > (m : Int)) = b := by
    rw [← h]
    exact decide_eq_decide.2 (by omega)
  unfold uc
  go_simp
theorem cv_bu (x : UInt8) (W : World) : (convert 5 24 (bv x)).run Tryd.prog W = .ok (uc x.toNat) W := by
  have hx := x.toNat_lt
  have e : IntKind.u64.wrap (x.toNat : Int) = (x.toNat : Int) := IntWalk.u64_in _ (by omega)
  unfold bv uc
  go_simp
theorem cv_ub (x : Nat) (W : World) : (convert 24 5 (uc x)).run Tryd.prog W = .ok (bv (UInt8.ofNat x)) W := by
  have e : IntKind.u8.wrap (x : Int) = ((UInt8.ofNat x).toNat : Int) := by
    rw [IntKind.wrap_u8', UInt8.toNat_ofNat']
    omega
  unfold bv uc
  go_simp
/-! Whole numbers. -/
theorem i_addE {k m r : Nat} (e : k + m = r) (hk : r ≤ 9223372036854775807) (p q : Operand) (W : World) : (do eqGuard .add 3 p q (.int .i64 (k : Int)) (.int .i64 (m : Int)); binOp .add 3 (.int .i64 (k : Int)) (.int .i64 (m : Int)) : Sem Value).run Tryd.prog W = .ok (.int .i64 (r : Int)) W := by
  rw [i_add _ _ (by omega), show (k : Int) + (m : Int) = (r : Int) by omega]
theorem i_subE {k m r : Nat} (e : m + r = k) (hk : k ≤ 9223372036854775807) (p q : Operand) (W : World) : (do eqGuard .sub 3 p q (.int .i64 (k : Int)) (.int .i64 (m : Int)); binOp .sub 3 (.int .i64 (k : Int)) (.int .i64 (m : Int)) : Sem Value).run Tryd.prog W = .ok (.int .i64 (r : Int)) W := by
  rw [i_sub _ _ (by omega), show (k : Int) - (m : Int) = (r : Int) by omega]
theorem i_remE {k m r : Nat} (e : k % m = r) (h : 0 < m) (p q : Operand) (W : World) : (do eqGuard .rem 3 p q (.int .i64 (k : Int)) (.int .i64 (m : Int)); binOp .rem 3 (.int .i64 (k : Int)) (.int .i64 (m : Int)) : Sem Value).run Tryd.prog W = .ok (.int .i64 (r : Int)) W := by
  subst e
  have h0 : (m : Int) ≠ 0 := by omega
  go_simp
  rw [if_neg (show ¬ m = 0 by omega), Int.tmod_eq_emod_of_nonneg (by omega)]
theorem i_eqlB {k m : Nat} {b : Bool} (h : decide (k = m) = b) (p q : Operand) (W : World) : (do eqGuard .eql 3 p q (.int .i64 (k : Int)) (.int .i64 (m : Int)); binOp .eql 3 (.int .i64 (k : Int)) (.int .i64 (m : Int)) : Sem Value).run Tryd.prog W = .ok (.bool b) W := by
  have e : decide ((k : Int) = (m : Int)) = b := by
    rw [← h]
    exact decide_eq_decide.2 (by omega)
  go_simp
  exact e
theorem i_gtrB {k m : Nat} {b : Bool} (h : decide (m < k) = b) (p q : Operand) (W : World) : (do eqGuard .gtr 3 p q (.int .i64 (k : Int)) (.int .i64 (m : Int)); binOp .gtr 3 (.int .i64 (k : Int)) (.int .i64 (m : Int)) : Sem Value).run Tryd.prog W = .ok (.bool b) W := by
  have e : decide ((k : Int) > (m : Int)) = b := by
    rw [← h]
    exact decide_eq_decide.2 (by omega)
  go_simp
end Go.Proofs.YtghbknebaknmjaaDoor
