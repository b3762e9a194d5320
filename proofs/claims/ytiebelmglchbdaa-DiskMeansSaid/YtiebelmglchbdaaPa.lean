/- Package disk (layer 14): blocks, writes, a disk's own cells: what the model's operations come to on them. -/
import Derived.Test.YtiebelmglchbdaaTm
import Derived.Test.YtiebelmglchbdaaDa
import Derived.Test.YtiebelmglchbdaaZa
import Derived.Test.YtiebelmglchbdaaZd
import Derived.Test.YtiebelmglchbdaaAj
import Derived.Test.YtiebelmglchbdaaZb
import Derived.Test.YtiebelmglchbdaaZc
import Derived.Test.YtiebelmglchbdaaEqs
import Derived.Deep.MidRow
namespace Go.Proofs.Ytiebelmglchbdaa
set_option linter.unusedVariables false
set_option linter.unusedSimpArgs false
set_option maxRecDepth 100000
open Go Go.RowKit

/-- A row of bytes by their places. -/
def rb5 (f : Nat → UInt8) : List UInt8 := (List.range 512).map f
theorem eq_rb5 {b : List UInt8} (h : b.length = 512) : b = rb5 (fun i => b.getD i 0) := by
  apply List.ext_getElem?
  intro i
  unfold rb5
  rw [List.getElem?_map]
  by_cases hi : i < 512
  · rw [List.getElem?_range hi, List.getElem?_eq_getElem (by omega)]
    simp [List.getD_eq_getElem?_getD, List.getElem?_eq_getElem (show i < b.length by omega)]
  · rw [List.getElem?_eq_none (by omega), List.getElem?_eq_none (by simp; omega)]
    rfl
theorem bvs_oneP (l : List UInt8) : (bvs l).all (·.oneCell') = true := by
  rw [Array.all_eq_true']
  intro x hx
  exact bv_all l x (by simpa [bvs] using hx)
theorem zero_len : zeroB.length = 512 := List.length_replicate
/-! Blocks. -/
theorem al_block (W : World) : (Instr.alloc 77 true (.tuple #[])).run Try.prog W = .ok (.pointer (some ⟨W.heap.size, 0, none⟩)) (W.alloc (.cells (bvs zeroB) 77)) := by kernel_rfl
theorem zero_block (W : World) : (zeroValue 77).run Try.prog W = .ok (.agg (bvs zeroB)) W := by kernel_rfl
theorem info_block {b : List UInt8} (h : b.length = 512) : (Try.prog.info? 77).map (·.size) = some (bvs b).size := by rw [bvs_size, h]; kernel_rfl
theorem size_block {b c : List UInt8} (h : b.length = 512) (h' : c.length = 512) : (bvs b).size = (bvs c).size := by rw [bvs_size, bvs_size, h, h']
theorem sl_block {g o : Nat} (W : World) : (Instr.sliceAt 77 (.pointer (some ⟨g, o, none⟩)) none none none).run Try.prog W = .ok (.slice (some ⟨g, o, none⟩) 512 512) W := by kernel_rfl
theorem ld_block {g o : Nat} {b : List UInt8} (h : b.length = 512) (W : World) (hc : ∀ (j : Nat) (x : UInt8), b[j]? = some x → W.cell? ⟨g, o + j, none⟩ = some (bv x)) : (Instr.loadAt 77 (.pointer (some ⟨g, o, none⟩))).run Try.prog W = .ok (.agg (bvs b)) W := by
  refine run_loadAt_mid (P := Try.prog) W g o 77 (b.map bv) _ (fun j v hv => ?_) Try.underlying77 rfl (by rw [List.length_map, h]; kernel_rfl)
  rw [List.getElem?_map] at hv
  obtain ⟨x, hx, rfl⟩ := Option.map_eq_some_iff.1 hv
  exact hc j x hx
theorem bvs_natP (l : List UInt8) : bvs l = ncs .u8 (l.map UInt8.toNat) := by
  unfold bvs ncs
  rw [List.map_map]
  rfl
theorem toNat_injP : ∀ {l m : List UInt8}, l.map UInt8.toNat = m.map UInt8.toNat → l = m
  | [], [], _ => rfl
  | x :: l, y :: m, h => by
    injection h with h1 h2
    rw [UInt8.toNat_inj.1 h1, toNat_injP h2]
  | [], _ :: _, h => by cases h
  | _ :: _, [], h => by cases h
theorem blocks_eq {l m : List UInt8} (hl : l.length = 512) (hm : m.length = 512) {b : Bool} (h : decide (l = m) = b) (W : World) : (Op.equalIn 10000 77 (.agg (bvs l)) (.agg (bvs m))).run Try.prog W = .ok b W := by
  have h2 := run_equalIn_nats (P := Try.prog) W 9998 77 5 512 .u8 Try.underlying77 Try.underlying5 (size_u8 u8_info) (l.map UInt8.toNat) (m.map UInt8.toNat) (by rw [List.length_map, hl]) (by rw [List.length_map, hm])
  rw [← bvs_natP, ← bvs_natP] at h2
  have e : (l.map UInt8.toNat == m.map UInt8.toNat) = b := by
    rw [← h, Bool.eq_iff_iff]
    simp only [beq_iff_eq, decide_eq_true_eq]
    exact ⟨toNat_injP, fun h => by rw [h]⟩
  rw [e] at h2
  exact h2
theorem block_neq {l m : List UInt8} (hl : l.length = 512) (hm : m.length = 512) {b : Bool} (h : decide (l ≠ m) = b) (p q : Operand) (W : World) : (do eqGuard .neq 77 p q (.agg (bvs l)) (.agg (bvs m)); binOp .neq 77 (.agg (bvs l)) (.agg (bvs m)) : Sem Value).run Try.prog W = .ok (.bool b) W := by
  have hq := blocks_eq hl hm (b := !b) (by rw [← h]; simp) W
  go_simp
/-! Writes. -/
/-- A write's cells. -/
def dwv (p : Nat × List UInt8) : List Value := .int .i64 (p.1 : Int) :: p.2.map bv
def dwa (p : Nat × List UInt8) : Array Value := (dwv p).toArray
def dwcs (L : List (Nat × List UInt8)) : List Value := L.flatMap dwv
theorem dwv_len {p : Nat × List UInt8} (h : p.2.length = 512) : (dwv p).length = 513 := by simp [dwv, h]
theorem dwv_one (p : Nat × List UInt8) : ∀ u ∈ dwv p, u.oneCell' = true := by
  intro u hu
  rcases List.mem_cons.1 hu with rfl | hu
  · rfl
  · exact bv_all _ u hu
theorem dwa_one (p : Nat × List UInt8) : (dwa p).all (·.oneCell') = true := by
  rw [Array.all_eq_true']
  intro x hx
  exact dwv_one p x (by simpa [dwa] using hx)
theorem dwcs_len {L : List (Nat × List UInt8)} (h : ∀ p ∈ L, p.2.length = 512) : (dwcs L).length = L.length * 513 := by
  induction L with
  | nil => rfl
  | cons p r ih =>
    show (dwv p ++ dwcs r).length = _
    rw [List.length_append, dwv_len (h p List.mem_cons_self), ih fun q hq => h q (List.mem_cons_of_mem _ hq), List.length_cons]
    omega
theorem dwcs_at : ∀ {L : List (Nat × List UInt8)} (h : ∀ p ∈ L, p.2.length = 512) {k : Nat} {p : Nat × List UInt8}, L[k]? = some p → ∀ {j : Nat} {u : Value}, (dwv p)[j]? = some u → (dwcs L)[k * 513 + j]? = some u
  | [], _, k, p, hp, _, _, _ => by simp at hp
  | q :: r, h, 0, p, hp, j, u, hu => by
    injection hp with hp
    subst hp
    show (dwv q ++ dwcs r)[0 * 513 + j]? = _
    rw [Nat.zero_mul, Nat.zero_add, List.getElem?_append_left (List.getElem?_eq_some_iff.1 hu).1]
    exact hu
  | q :: r, h, k + 1, p, hp, j, u, hu => by
    show (dwv q ++ dwcs r)[(k + 1) * 513 + j]? = _
    have e := dwv_len (h q List.mem_cons_self)
    rw [List.getElem?_append_right (by rw [e]; omega), e, show (k + 1) * 513 + j - 513 = k * 513 + j by omega]
    exact dwcs_at (fun q hq => h q (List.mem_cons_of_mem _ hq)) hp hu
theorem dwcs_snoc (L : List (Nat × List UInt8)) (p : Nat × List UInt8) : dwcs (L ++ [p]) = dwcs L ++ dwv p := by
  unfold dwcs
  rw [List.flatMap_append, List.flatMap_cons, List.flatMap_nil, List.append_nil]
theorem dwv_num (p : Nat × List UInt8) : (dwv p)[0]? = some (.int .i64 (p.1 : Int)) := rfl
theorem dwv_byte {p : Nat × List UInt8} {j : Nat} {x : UInt8} (h : p.2[j]? = some x) : (dwv p)[1 + j]? = some (bv x) := by
  show (Value.int .i64 _ :: p.2.map bv)[1 + j]? = _
  rw [Nat.add_comm, List.getElem?_cons_succ, List.getElem?_map, h]
  rfl
theorem info_write {p : Nat × List UInt8} (h : p.2.length = 512) : (Try.prog.info? 82).map (·.size) = some (dwa p).size := by
  rw [show (dwa p).size = (dwv p).length from List.size_toArray, dwv_len h]
  kernel_rfl
theorem al_write (W : World) : (Instr.alloc 82 true (.tuple #[])).run Try.prog W = .ok (.pointer (some ⟨W.heap.size, 0, none⟩)) (W.alloc (.cells (dwa (0, zeroB)) 82)) := by kernel_rfl
theorem size_write {p q : Nat × List UInt8} (h : p.2.length = 512) (h' : q.2.length = 512) : (dwa p).size = (dwa q).size := by
  rw [show (dwa p).size = (dwv p).length from List.size_toArray, show (dwa q).size = (dwv q).length from List.size_toArray, dwv_len h, dwv_len h']
theorem bx_write (c : Array Value) (W : World) : (Instr.box 82 (.agg c)).run Try.prog W = .ok (.pointer (some ⟨W.heap.size, 0, none⟩)) (W.alloc (.cells c 82)) := by kernel_rfl
theorem fa_write0 {g o : Nat} (W : World) : (Instr.fieldAt 82 (.pointer (some ⟨g, o, none⟩)) 0).run Try.prog W = .ok (.pointer (some ⟨g, o, none⟩)) W := by kernel_rfl
theorem fa_write1 {g o : Nat} (W : World) : (Instr.fieldAt 82 (.pointer (some ⟨g, o, none⟩)) 1).run Try.prog W = .ok (.pointer (some ⟨g, o + 1, none⟩)) W := by kernel_rfl
theorem ia_writes {A : Option Addr} {j n c o g : Nat} (hA : A = some ⟨g, o, none⟩) (hj : j < n) (W : World) : (Instr.indexAt 55 (.slice A n c) (.int .i64 (j : Int))).run Try.prog W = .ok (.pointer (some ⟨g, o + j * 513, none⟩)) W := by
  subst hA
  have h1 : (0 : Int) ≤ (j : Int) := by omega
  have h2 : (j : Int) < (n : Int) := by omega
  go_simp
theorem ld_write {g o : Nat} {p : Nat × List UInt8} (h : p.2.length = 512) (W : World) (hc : ∀ (j : Nat) (u : Value), (dwv p)[j]? = some u → W.cell? ⟨g, o + j, none⟩ = some u) : (Instr.loadAt 82 (.pointer (some ⟨g, o, none⟩))).run Try.prog W = .ok (.agg (dwa p)) W :=
  run_loadAt_mid (P := Try.prog) W g o 82 (dwv p) _ (fun j v hv => hc j v hv) Try.underlying82 rfl (by rw [dwv_len h]; kernel_rfl)
/-! A disk's own cells. -/
def dkC (nb : Int) (vM vU vQ : Value) (hf : Bool) (lf : Int) (dd : Bool) : Array Value := #[.int .i64 nb, vM, vU, vQ, .bool hf, .int .i64 lf, .bool dd]
section
variable {g : Nat} {t : TypeId} {nb lf : Int} {vM vU vQ : Value} {hf dd : Bool}
theorem fa_dk (k : Nat) (hk : k < 7) (W : World) : (Instr.fieldAt 58 (.pointer (some ⟨g, 0, none⟩)) k).run Try.prog W = .ok (.pointer (some ⟨g, k, none⟩)) W := by
  rcases k with _ | _ | _ | _ | _ | _ | _ | k
  · kernel_rfl
  · kernel_rfl
  · kernel_rfl
  · kernel_rfl
  · kernel_rfl
  · kernel_rfl
  · kernel_rfl
  · omega
theorem ld_dk0 (W : World) (h : Blk W g t (dkC nb vM vU vQ hf lf dd)) : (Instr.loadAt 3 (.pointer (some ⟨g, 0, none⟩))).run Try.prog W = .ok (.int .i64 nb) W := by
  have hc : W.cell? ⟨g, 0, none⟩ = some (.int .i64 nb) := h.cell 0
  go_simp
theorem ld_dk1 {m : Option Nat} (W : World) (h : Blk W g t (dkC nb (.map m) vU vQ hf lf dd)) : (Instr.loadAt 54 (.pointer (some ⟨g, 1, none⟩))).run Try.prog W = .ok (.map m) W := by
  have hc : W.cell? ⟨g, 1, none⟩ = some (.map m) := h.cell 1
  go_simp
theorem ld_dk2 {A : Option Addr} {n c : Nat} (W : World) (h : Blk W g t (dkC nb vM (.slice A n c) vQ hf lf dd)) : (Instr.loadAt 55 (.pointer (some ⟨g, 2, none⟩))).run Try.prog W = .ok (.slice A n c) W := by
  have hc : W.cell? ⟨g, 2, none⟩ = some (.slice A n c) := h.cell 2
  go_simp
theorem ld_dk3 {m : Option Nat} (W : World) (h : Blk W g t (dkC nb vM vU (.map m) hf lf dd)) : (Instr.loadAt 56 (.pointer (some ⟨g, 3, none⟩))).run Try.prog W = .ok (.map m) W := by
  have hc : W.cell? ⟨g, 3, none⟩ = some (.map m) := h.cell 3
  go_simp
theorem ld_dk4 (W : World) (h : Blk W g t (dkC nb vM vU vQ hf lf dd)) : (Instr.loadAt 4 (.pointer (some ⟨g, 4, none⟩))).run Try.prog W = .ok (.bool hf) W := by
  have hc : W.cell? ⟨g, 4, none⟩ = some (.bool hf) := h.cell 4
  go_simp
theorem ld_dk5 (W : World) (h : Blk W g t (dkC nb vM vU vQ hf lf dd)) : (Instr.loadAt 3 (.pointer (some ⟨g, 5, none⟩))).run Try.prog W = .ok (.int .i64 lf) W := by
  have hc : W.cell? ⟨g, 5, none⟩ = some (.int .i64 lf) := h.cell 5
  go_simp
theorem ld_dk6 (W : World) (h : Blk W g t (dkC nb vM vU vQ hf lf dd)) : (Instr.loadAt 4 (.pointer (some ⟨g, 6, none⟩))).run Try.prog W = .ok (.bool dd) W := by
  have hc : W.cell? ⟨g, 6, none⟩ = some (.bool dd) := h.cell 6
  go_simp
theorem st_dk1 {m m' : Option Nat} (W : World) (h : Blk W g t (dkC nb (.map m) vU vQ hf lf dd)) : (Instr.storeAt 54 (.pointer (some ⟨g, 1, none⟩)) (.map m')).run Try.prog W = .ok () (W.setCells g 1 [.map m']) := by
  have hc : W.cell? ⟨g, 1, none⟩ = some (.map m) := h.cell 1
  have hf := h.frozen 1
  have hs : (W.cell? ⟨g, 1, none⟩).isSome = true := by rw [hc]; rfl
  show _ = Result.ok () (W.setCell ⟨g, 1, none⟩ (.map m'))
  go_simp
theorem st_dk2 {A A' : Option Addr} {n c n' c' : Nat} (W : World) (h : Blk W g t (dkC nb vM (.slice A n c) vQ hf lf dd)) : (Instr.storeAt 55 (.pointer (some ⟨g, 2, none⟩)) (.slice A' n' c')).run Try.prog W = .ok () (W.setCells g 2 [.slice A' n' c']) := by
  have hc : W.cell? ⟨g, 2, none⟩ = some (.slice A n c) := h.cell 2
  have hf := h.frozen 2
  have hs : (W.cell? ⟨g, 2, none⟩).isSome = true := by rw [hc]; rfl
  show _ = Result.ok () (W.setCell ⟨g, 2, none⟩ (.slice A' n' c'))
  go_simp
theorem st_dk3 {m m' : Option Nat} (W : World) (h : Blk W g t (dkC nb vM vU (.map m) hf lf dd)) : (Instr.storeAt 56 (.pointer (some ⟨g, 3, none⟩)) (.map m')).run Try.prog W = .ok () (W.setCells g 3 [.map m']) := by
  have hc : W.cell? ⟨g, 3, none⟩ = some (.map m) := h.cell 3
  have hf := h.frozen 3
  have hs : (W.cell? ⟨g, 3, none⟩).isSome = true := by rw [hc]; rfl
  show _ = Result.ok () (W.setCell ⟨g, 3, none⟩ (.map m'))
  go_simp
theorem st_dk4 {u : Bool} (W : World) (h : Blk W g t (dkC nb vM vU vQ hf lf dd)) : (Instr.storeAt 4 (.pointer (some ⟨g, 4, none⟩)) (.bool u)).run Try.prog W = .ok () (W.setCells g 4 [.bool u]) := by
  have hc : W.cell? ⟨g, 4, none⟩ = some (.bool hf) := h.cell 4
  have hf := h.frozen 4
  have hs : (W.cell? ⟨g, 4, none⟩).isSome = true := by rw [hc]; rfl
  show _ = Result.ok () (W.setCell ⟨g, 4, none⟩ (.bool u))
  go_simp
theorem st_dk5 {u : Int} (W : World) (h : Blk W g t (dkC nb vM vU vQ hf lf dd)) : (Instr.storeAt 3 (.pointer (some ⟨g, 5, none⟩)) (.int .i64 u)).run Try.prog W = .ok () (W.setCells g 5 [.int .i64 u]) := by
  have hc : W.cell? ⟨g, 5, none⟩ = some (.int .i64 lf) := h.cell 5
  have hf := h.frozen 5
  have hs : (W.cell? ⟨g, 5, none⟩).isSome = true := by rw [hc]; rfl
  show _ = Result.ok () (W.setCell ⟨g, 5, none⟩ (.int .i64 u))
  go_simp
theorem st_dk6 {u : Bool} (W : World) (h : Blk W g t (dkC nb vM vU vQ hf lf dd)) : (Instr.storeAt 4 (.pointer (some ⟨g, 6, none⟩)) (.bool u)).run Try.prog W = .ok () (W.setCells g 6 [.bool u]) := by
  have hc : W.cell? ⟨g, 6, none⟩ = some (.bool dd) := h.cell 6
  have hf := h.frozen 6
  have hs : (W.cell? ⟨g, 6, none⟩).isSome = true := by rw [hc]; rfl
  show _ = Result.ok () (W.setCell ⟨g, 6, none⟩ (.bool u))
  go_simp
end
theorem al_disk (W : World) : (Instr.alloc 58 true (.tuple #[])).run Try.prog W = .ok (.pointer (some ⟨W.heap.size, 0, none⟩)) (W.alloc (.cells (dkC 0 (.map none) (.slice none 0 0) (.map none) false 0 false) 58)) := by kernel_rfl
theorem bx_disk (c : Array Value) (W : World) : (Instr.box 58 (.agg c)).run Try.prog W = .ok (.pointer (some ⟨W.heap.size, 0, none⟩)) (W.alloc (.cells c 58)) := by kernel_rfl
theorem info_disk (nb : Int) (vM vU vQ : Value) (hf : Bool) (lf : Int) (dd : Bool) : (Try.prog.info? 58).map (·.size) = some (dkC nb vM vU vQ hf lf dd).size := by kernel_rfl
theorem bd_disk0 (W : World) : (Instr.build 58 [].toArray).run Try.prog W = .ok (.agg (dkC 0 (.map none) (.slice none 0 0) (.map none) false 0 false)) W := by kernel_rfl
theorem bd_disk (nb : Int) (m q : Nat) (W : World) : (Instr.build 58 [(0, .int .i64 nb), (1, .map (some m)), (3, .map (some q))].toArray).run Try.prog W = .ok (.agg (dkC nb (.map (some m)) (.slice none 0 0) (.map (some q)) false 0 false)) W := by kernel_rfl
theorem dk_one {nb lf : Int} {m q : Option Nat} {A : Option Addr} {n c : Nat} {hf dd : Bool} : (dkC nb (.map m) (.slice A n c) (.map q) hf lf dd).all (·.oneCell') = true := by simp [dkC, Value.oneCell']
theorem ptr_nil {g : Nat} {p q : Operand} (W : World) : (do eqGuard .eql 25 p q (.pointer (some ⟨g, 0, none⟩)) (.pointer none); binOp .eql 25 (.pointer (some ⟨g, 0, none⟩)) (.pointer none) : Sem Value).run Try.prog W = .ok (.bool false) W := by
  go_simp
theorem nil_nil {p q : Operand} (W : World) : (do eqGuard .eql 25 p q (.pointer none) (.pointer none); binOp .eql 25 (.pointer none) (.pointer none) : Sem Value).run Try.prog W = .ok (.bool true) W := by
  go_simp
end Go.Proofs.Ytiebelmglchbdaa
