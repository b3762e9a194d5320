/- Rows of three and six words, operations on words, on bytes; marks that are the same. -/
import Derived.Test.YtghbknebaknmjaaDoorQg
import Derived.Test.YtghbknebaknmjaaDoorEqs
import Derived.Laws.BitsAllLaws
import Derived.Shelf.Bits.Mul64
import Derived.Shelf.Spec.BitsCarry
import Derived.Lib.Hide
import Derived.ProofKit
namespace Go.Proofs.YtghbknebaknmjaaDoor
set_option linter.unusedVariables false
set_option linter.unusedSimpArgs false
set_option maxRecDepth 100000
open Go Go.RowKit

theorem size_u8c (W : World) : (sizeOf 5).run Tryd.prog W = .ok 1 W := size_u8 u8_info W
/-! Marks that are the same. -/
theorem bvs_nat (l : List UInt8) : bvs l = ncs .u8 (l.map UInt8.toNat) := by
  unfold bvs ncs
  rw [List.map_map]
  rfl
theorem toNat_inj : ∀ {l m : List UInt8}, l.map UInt8.toNat = m.map UInt8.toNat → l = m
  | [], [], _ => rfl
  | x :: l, y :: m, h => by
    injection h with h1 h2
    rw [UInt8.toNat_inj.1 h1, toNat_inj h2]
  | [], _ :: _, h => by cases h
  | _ :: _, [], h => by cases h
theorem marks_eq {f g : Nat → UInt8} {b : Bool} (h : decide (rb 16 f = rb 16 g) = b) (W : World) : (Op.equalIn 10000 42 (.agg (bvs (rb 16 f))) (.agg (bvs (rb 16 g)))).run Tryd.prog W = .ok b W := by
  have h2 := run_equalIn_nats (P := Tryd.prog) W 9998 42 5 16 .u8 Tryd.underlying42 Tryd.underlying5 size_u8c ((rb 16 f).map UInt8.toNat) ((rb 16 g).map UInt8.toNat) (by rw [List.length_map, rb_len]) (by rw [List.length_map, rb_len])
  rw [← bvs_nat, ← bvs_nat] at h2
  have e : ((rb 16 f).map UInt8.toNat == (rb 16 g).map UInt8.toNat) = b := by
    rw [← h, Bool.eq_iff_iff]
    simp only [beq_iff_eq, decide_eq_true_eq]
    exact ⟨toNat_inj, fun h => by rw [h]⟩
  rw [e] at h2
  exact h2
theorem m_eqlB {f g : Nat → UInt8} {b : Bool} (h : decide (rb 16 f = rb 16 g) = b) (p q : Operand) (W : World) : (do eqGuard .eql 42 p q (.agg (bvs (rb 16 f))) (.agg (bvs (rb 16 g))); binOp .eql 42 (.agg (bvs (rb 16 f))) (.agg (bvs (rb 16 g))) : Sem Value).run Tryd.prog W = .ok (.bool b) W := by
  have hq := marks_eq h W
  go_simp

/-! The variable. -/
structure PG (w : World) : Prop where
  lt : 0 < w.heap.size
  cell : ∀ i, i < 3 → w.cell? ⟨0, i, none⟩ = some (uc (wdg PM i))
theorem PG.ext {w w' : World} (h : PG w) (hb : Below w.heap.size w w') : PG w' := ⟨Nat.lt_of_lt_of_le h.lt hb.size, fun i hi => (hb.cell (p := ⟨0, i, none⟩) h.lt).trans (h.cell i hi)⟩
section
variable {P : Program} {n : Nat} {w0 : World} {e : Env} {h : Hep} {Q : Exit → Act → World → Prop} {o : Oper}
theorem does_nilCheck {x : Operand} {g f : Nat} (ho : o.op = .nilCheck x) (hx : sev e x = some (.pointer (some ⟨g, f, none⟩))) : Does P Q n w0 e h o (.pointer (some ⟨g, f, none⟩)) := does_run fun a w H => by
  unfold execOp
  simp [ho, H.ev hx]
/-- A call of a function that the kit knows by its answer. -/
theorem does_ext {f : FuncId} {args : List Operand} {tys : Array TypeId} {vs : List Value} {v : Value} (ho : o.op = .call { callee := .value (.func f), args := args.toArray, argTypes := tys }) (hx : sevs e args = some vs) (hr : ∀ W, (callFunc f vs.toArray).run P W = .ok (.value v) W) : Does P Q n w0 e h o v := does_run fun a w H => by
  unfold execOp
  simp only [ho, resolve, Act.eval, Deferred.ofValue, List.map_toArray, H.evs hx]
  simp [Sem.run_bind, Sem.run_pure, invoke, hr, Result.andThen]
theorem end_tmps {a : Act} {w : World} {fn : Func} {R : Ending → World → Prop} {p q : Tmp} {u v : Value} (hr : fn.results = #[.tmp p, .tmp q]) (hp : look e p = some u) (hq : look e q = some v) (H : St n w0 a w e h) (hR : Below w0.heap.size w0 w → R (.returned (.tuple #[u, v])) w) : bodyPost P fn R .ret a w := by
  refine bodyPost_ret ?_ H.defers (hR H.below)
  have h1 := H.ev (x := .tmp p) hp
  have h2 := H.ev (x := .tmp q) hq
  simp only [Act.eval, Array.getD_eq_getD_getElem?] at h1 h2
  simp [results, hr, h1, h2]
theorem Kn.perm {w0 w : World} {h h' : Hep} (hp : h.Perm h') (K : Kn w0 w h) : Kn w0 w h' :=
  ⟨K.below, fun p hq => K.heap p (hp.mem_iff.2 hq), fun p hq => K.own p (hp.mem_iff.2 hq), (hp.pairwise_iff (fun h e => h e.symm)).1 K.apart⟩
end
theorem al_n3 (W : World) : (Instr.alloc 62 true (.tuple #[])).run Tryd.prog W = .ok (.pointer (some ⟨W.heap.size, 0, none⟩)) (W.alloc (.cells (nv 3 n0s) 62)) := by kernel_rfl
theorem al_n6 (W : World) : (Instr.alloc 83 true (.tuple #[])).run Tryd.prog W = .ok (.pointer (some ⟨W.heap.size, 0, none⟩)) (W.alloc (.cells (nv 6 n0s) 83)) := by kernel_rfl
theorem bx_n3 (f : Nat → Nat) (W : World) : (Instr.box 62 (.agg (nv 3 f))).run Tryd.prog W = .ok (.pointer (some ⟨W.heap.size, 0, none⟩)) (W.alloc (.cells (nv 3 f) 62)) := by kernel_rfl
theorem bx_n6 (f : Nat → Nat) (W : World) : (Instr.box 83 (.agg (nv 6 f))).run Tryd.prog W = .ok (.pointer (some ⟨W.heap.size, 0, none⟩)) (W.alloc (.cells (nv 6 f) 83)) := by kernel_rfl
theorem info_n3 (f : Nat → Nat) : (Tryd.prog.info? 62).map (·.size) = some (nv 3 f).size := by rw [nv_size]; kernel_rfl
theorem info_n6 (f : Nat → Nat) : (Tryd.prog.info? 83).map (·.size) = some (nv 6 f).size := by rw [nv_size]; kernel_rfl
theorem ia_n3 {j : Nat} (hj : j < 3) {g : Nat} (W : World) : (Instr.indexAt 62 (.pointer (some ⟨g, 0, none⟩)) (.int .i64 (j : Int))).run Tryd.prog W = .ok (.pointer (some ⟨g, j, none⟩)) W := by
  have h1 : (0 : Int) ≤ (j : Int) := by omega
  have h2 : (j : Int) < 3 := by omega
  go_simp
theorem ia_n6 {j : Nat} (hj : j < 6) {g : Nat} (W : World) : (Instr.indexAt 83 (.pointer (some ⟨g, 0, none⟩)) (.int .i64 (j : Int))).run Tryd.prog W = .ok (.pointer (some ⟨g, j, none⟩)) W := by
  have h1 : (0 : Int) ≤ (j : Int) := by omega
  have h2 : (j : Int) < 6 := by omega
  go_simp
theorem ia_rows {j n c o : Nat} (hj : j < n) {g : Nat} (W : World) : (Instr.indexAt 51 (.slice (some ⟨g, o, none⟩) n c) (.int .i64 (j : Int))).run Tryd.prog W = .ok (.pointer (some ⟨g, o + j, none⟩)) W := by
  have h1 : (0 : Int) ≤ (j : Int) := by omega
  have h2 : (j : Int) < (n : Int) := by omega
  go_simp
theorem ix_n3 {j : Nat} (hj : j < 3) (f : Nat → Nat) (W : World) : (Instr.index 62 (.agg (nv 3 f)) (.int .i64 (j : Int))).run Tryd.prog W = .ok (uc (f j)) W := by
  obtain rfl | rfl | rfl : j = 0 ∨ j = 1 ∨ j = 2 := by omega
  all_goals kernel_rfl
theorem ix_c4 {j : Nat} (hj : j < 4) (W : World) : (Instr.index 80 (.agg #[.int .i64 3, .int .i64 7, .int .i64 11, .int .i64 15]) (.int .i64 (j : Int))).run Tryd.prog W = .ok (.int .i64 ((4 * j + 3 : Nat) : Int)) W := by
  obtain rfl | rfl | rfl | rfl : j = 0 ∨ j = 1 ∨ j = 2 ∨ j = 3 := by omega
  all_goals kernel_rfl
theorem ix_c3 {j : Nat} (hj : j < 3) (W : World) : (Instr.index 81 (.agg #[.int .i64 4, .int .i64 8, .int .i64 12]) (.int .i64 (j : Int))).run Tryd.prog W = .ok (.int .i64 ((4 * j + 4 : Nat) : Int)) W := by
  obtain rfl | rfl | rfl : j = 0 ∨ j = 1 ∨ j = 2 := by omega
  all_goals kernel_rfl
theorem bd_c4 (W : World) : (Instr.build 80 [(0, .int .i64 3), (1, .int .i64 7), (2, .int .i64 11), (3, .int .i64 15)].toArray).run Tryd.prog W = .ok (.agg #[.int .i64 3, .int .i64 7, .int .i64 11, .int .i64 15]) W := by kernel_rfl
theorem bd_c3 (W : World) : (Instr.build 81 [(0, .int .i64 4), (1, .int .i64 8), (2, .int .i64 12)].toArray).run Tryd.prog W = .ok (.agg #[.int .i64 4, .int .i64 8, .int .i64 12]) W := by kernel_rfl
theorem bd_n3 (W : World) : (Instr.build 62 ([] : List (Nat × Value)).toArray).run Tryd.prog W = .ok (.agg (nv 3 n0s)) W := by kernel_rfl
theorem sl_n3 (g : Nat) (W : World) : (Instr.sliceAt 62 (.pointer (some ⟨g, 0, none⟩)) none none none).run Tryd.prog W = .ok (.slice (some ⟨g, 0, none⟩) 3 3) W := by kernel_rfl
theorem sl_n6 (g : Nat) (W : World) : (Instr.sliceAt 83 (.pointer (some ⟨g, 0, none⟩)) none (some (.int .i64 3)) none).run Tryd.prog W = .ok (.slice (some ⟨g, 0, none⟩) 3 6) W := by kernel_rfl
theorem size_u64 : (Tryd.prog.info? 24).map (·.size) = some 1 := by kernel_rfl
/-- A part of a list of parts that was there at the beginning. -/
theorem ld_cellS {g f : Nat} {A : Option Addr} {k c : Nat} (W : World) (hc : W.cell? ⟨g, f, none⟩ = some (.slice A k c)) : (Instr.loadAt 25 (.pointer (some ⟨g, f, none⟩))).run Tryd.prog W = .ok (.slice A k c) W := by
  go_simp
theorem ld_cellU {g f x : Nat} (W : World) (hc : W.cell? ⟨g, f, none⟩ = some (uc x)) : (Instr.loadAt 24 (.pointer (some ⟨g, f, none⟩))).run Tryd.prog W = .ok (uc x) W := by
  unfold uc at hc ⊢
  go_simp
/-! math/bits. -/
theorem add64_q {x y c s d : Nat} (hx : x < 18446744073709551616) (hy : y < 18446744073709551616) (hc : c ≤ 1) (hs : (x + y + c) % 18446744073709551616 = s) (hd : (x + y + c) / 18446744073709551616 = d) (W : World) :
    (callFunc 47 [uc x, uc y, uc c].toArray).run Tryd.prog W = .ok (.value (.tuple #[uc s, uc d])) W := by
  subst hs hd
  unfold uc
  rw [run_callFunc_extern Tryd.func47 (by kernel_rfl) (by kernel_rfl) (by kernel_rfl) (e := add64Entry) (by kernel_rfl), run_add64 x y c (by omega) (by omega) (by omega) (by omega)]
  simp only [Result.andThen]
  congr 5 <;> omega
theorem sub64_q {x y b s d : Nat} (hb : b ≤ 1) (hs : (x + 18446744073709551616 - y - b) % 18446744073709551616 = s) (hd : (if x < y + b then 1 else 0) = d) (W : World) :
    (callFunc 46 [uc x, uc y, uc b].toArray).run Tryd.prog W = .ok (.value (.tuple #[uc s, uc d])) W := by
  subst hs hd
  unfold uc
  rw [run_callFunc_extern Tryd.func46 (by kernel_rfl) (by kernel_rfl) (by kernel_rfl) (e := sub64Entry) (by kernel_rfl), run_sub64 x y b hb]
  rfl
set_option maxHeartbeats 1000000 in
theorem mul64_any (x y : Nat) (hx : x < 18446744073709551616) (hy : y < 18446744073709551616) (w : World) :
    Calls Tryd.prog 49 #[.int .u64 x, .int .u64 y] w fun e w' => e = .returned (.tuple #[.int .u64 ((x * y / 18446744073709551616 : Nat) : Int), .int .u64 ((x * y % 18446744073709551616 : Nat) : Int)]) ∧ w = w' := by
  obtain ⟨bd, bt, bw, hhi⟩ := Lib.mul64_hi x y hx hy
  have ba := Lib.half_mul_le (a := x / 4294967296) (b := y / 4294967296) (by omega) (by omega)
  have bb := Lib.half_mul_le (a := x / 4294967296) (b := y % 4294967296) (by omega) (by omega)
  have bc := Lib.half_mul_le (a := x % 4294967296) (b := y / 4294967296) (by omega) (by omega)
  have ba' : x / 4294967296 * (y / 4294967296) < 18446744073709551616 := by omega
  have bb' : x / 4294967296 * (y % 4294967296) < 18446744073709551616 := by omega
  have bc' : x % 4294967296 * (y / 4294967296) < 18446744073709551616 := by omega
  have bh1 : x / 4294967296 * (y / 4294967296) + (x / 4294967296 * (y % 4294967296) + x % 4294967296 * (y % 4294967296) / 4294967296) / 4294967296 < 18446744073709551616 := by omega
  have bh : x / 4294967296 * (y / 4294967296) + (x / 4294967296 * (y % 4294967296) + x % 4294967296 * (y % 4294967296) / 4294967296) / 4294967296 + ((x / 4294967296 * (y % 4294967296) + x % 4294967296 * (y % 4294967296) / 4294967296) % 4294967296 + x % 4294967296 * (y / 4294967296)) / 4294967296 < 18446744073709551616 := by omega
  go_enter Tryd.func49, Tryd.ntmps49
  go_wp2
  simp only [Mul64.maskN x hx, Mul64.maskN y hy, Mul64.divN, Mul64.mulN, Mul64.addN, Mul64.wrapN _ bd, Mul64.wrapN _ bb', Mul64.wrapN _ bt, Mul64.maskN _ bt, Mul64.wrapN _ bc', Mul64.wrapN _ bw, Mul64.wrapN _ ba', Mul64.wrapN _ bh1, Mul64.wrapN _ bh, Mul64.wrapM (x * y)]
  rw [hhi]
  go_ret2
  exact ⟨rfl, rfl⟩
theorem mul64_q {x y hi lo : Nat} (hx : x < 18446744073709551616) (hy : y < 18446744073709551616) (h1 : x * y / 18446744073709551616 = hi) (h2 : x * y % 18446744073709551616 = lo) (w : World) :
    Calls Tryd.prog 49 #[uc x, uc y] w (fun rr w' => rr = .returned (.tuple #[uc hi, uc lo]) ∧ Below w.heap.size w w') := by
  subst h1 h2
  refine (mul64_any x y hx hy w).mono ?_
  rintro e w' ⟨rfl, rfl⟩
  exact ⟨rfl, Below.refl _ _⟩
/-! Operations. -/
theorem shl_nat (x s : Nat) : IntKind.u64.wrap ((x : Int) * 2 ^ s) = ((x * 2 ^ s % 18446744073709551616 : Nat) : Int) := by
  rw [show (x : Int) * 2 ^ s = ((x * 2 ^ s : Nat) : Int) by push_cast; rfl, IntKind.wrap_u64]
  omega
theorem u_shl {x s : Nat} (hs : s < 64) (p q : Operand) (W : World) : (do eqGuard .shl 24 p q (uc x) (.int .i64 (s : Int)); binOp .shl 24 (uc x) (.int .i64 (s : Int)) : Sem Value).run Tryd.prog W = .ok (uc (x * 2 ^ s % 18446744073709551616)) W := by
  have h1 : (0 : Int) ≤ (s : Int) := by omega
  have h2 : (s : Int) ≤ 64 := by omega
  unfold uc
  go_simp
  exact shl_nat x s
theorem u_shr {x s : Nat} (hs : s < 64) (p q : Operand) (W : World) : (do eqGuard .shr 24 p q (uc x) (.int .i64 (s : Int)); binOp .shr 24 (uc x) (.int .i64 (s : Int)) : Sem Value).run Tryd.prog W = .ok (uc (x / 2 ^ s)) W := by
  have h1 : (0 : Int) ≤ (s : Int) := by omega
  have h2 : (s : Int) ≤ 64 := by omega
  unfold uc
  go_simp
theorem u_shl62 (x : Nat) (p q : Operand) (W : World) : (do eqGuard .shl 24 p q (uc x) (.int .u64 62); binOp .shl 24 (uc x) (.int .u64 62) : Sem Value).run Tryd.prog W = .ok (uc (x * 4611686018427387904 % 18446744073709551616)) W := by
  unfold uc
  go_simp
  exact shl_nat x 62
theorem u_shr2 (x : Nat) (p q : Operand) (W : World) : (do eqGuard .shr 24 p q (uc x) (.int .u64 2); binOp .shr 24 (uc x) (.int .u64 2) : Sem Value).run Tryd.prog W = .ok (uc (x / 4)) W := by
  unfold uc
  go_simp
theorem u_orE {x y r : Nat} (hx : x < 18446744073709551616) (hy : y < 18446744073709551616) (e : (x ||| y) = r) (p q : Operand) (W : World) : (do eqGuard .or 24 p q (uc x) (uc y); binOp .or 24 (uc x) (uc y) : Sem Value).run Tryd.prog W = .ok (uc r) W := by
  have h := u64_or_nat x y hx hy
  subst e
  unfold uc
  go_simp
theorem u_and3 {x : Nat} (hx : x < 18446744073709551616) (p q : Operand) (W : World) : (do eqGuard .and 24 p q (uc x) (uc 3); binOp .and 24 (uc x) (uc 3) : Sem Value).run Tryd.prog W = .ok (uc (x % 4)) W := by
  have h := u64_and_nat x 3 hx (by omega)
  rw [show (3 : Nat) = 2 ^ 2 - 1 by decide, Nat.and_two_pow_sub_one_eq_mod] at h
  unfold uc
  go_simp
  exact h
theorem and15_all : ∀ i : Fin 256, bits .and .u8 (i.val : Int) 15 = ((i.val % 16 : Nat) : Int) := by decide +kernel
theorem andNot3_all : ∀ i : Fin 256, bits .andNot .u8 (i.val : Int) 3 = ((i.val / 4 * 4 : Nat) : Int) := by decide +kernel
theorem b_and15 (x : UInt8) (p q : Operand) (W : World) : (do eqGuard .and 5 p q (bv x) (.int .u8 15); binOp .and 5 (bv x) (.int .u8 15) : Sem Value).run Tryd.prog W = .ok (bv (UInt8.ofNat (x.toNat % 16))) W := by
  have h := and15_all ⟨x.toNat, x.toNat_lt⟩
  have hx := x.toNat_lt
  simp only at h
  unfold bv
  rw [UInt8.toNat_ofNat', Nat.mod_eq_of_lt (show x.toNat % 16 < 2 ^ 8 by omega)]
  go_simp
theorem b_andNot3 (x : UInt8) (p q : Operand) (W : World) : (do eqGuard .andNot 5 p q (bv x) (.int .u8 3); binOp .andNot 5 (bv x) (.int .u8 3) : Sem Value).run Tryd.prog W = .ok (bv (UInt8.ofNat (x.toNat / 4 * 4))) W := by
  have h := andNot3_all ⟨x.toNat, x.toNat_lt⟩
  have hx := x.toNat_lt
  simp only at h
  unfold bv
  rw [UInt8.toNat_ofNat', Nat.mod_eq_of_lt (show x.toNat / 4 * 4 < 2 ^ 8 by omega)]
  go_simp
theorem i_quoE {k m r : Nat} (e : k / m = r) (h : 0 < m) (hk : k ≤ 9223372036854775807) (p q : Operand) (W : World) : (do eqGuard .quo 3 p q (.int .i64 (k : Int)) (.int .i64 (m : Int)); binOp .quo 3 (.int .i64 (k : Int)) (.int .i64 (m : Int)) : Sem Value).run Tryd.prog W = .ok (.int .i64 (r : Int)) W := by
  subst e
  have h0 : (m : Int) ≠ 0 := by omega
  go_simp
  rw [if_neg (show ¬ m = 0 by omega), show (k : Int) / (m : Int) = ((k / m : Nat) : Int) by push_cast; rfl, IntWalk.i64_in _ (by have h3 := Nat.div_le_self k m; generalize k / m = d at h3 ⊢; omega)]
theorem i_mulE {k m r : Nat} (e : k * m = r) (h : r ≤ 9223372036854775807) (p q : Operand) (W : World) : (do eqGuard .mul 3 p q (.int .i64 (k : Int)) (.int .i64 (m : Int)); binOp .mul 3 (.int .i64 (k : Int)) (.int .i64 (m : Int)) : Sem Value).run Tryd.prog W = .ok (.int .i64 (r : Int)) W := by
  subst e
  have e : IntKind.i64.wrap ((k : Int) * (m : Int)) = ((k * m : Nat) : Int) := by
    rw [show (k : Int) * (m : Int) = ((k * m : Nat) : Int) by push_cast; rfl]
    exact IntWalk.i64_in _ (by omega)
  go_simp
end Go.Proofs.YtghbknebaknmjaaDoor
