/- Layer 10's laws, what they ask purely: what is sealed is opened, what is opened was sealed, another mark; numbers' nonces. -/
import Derived.Test.YtghbknebaknmjaaDoorAe
namespace Go.Proofs.YtghbknebaknmjaaDoor
set_option linter.unusedVariables false
set_option linter.unusedSimpArgs false
set_option maxRecDepth 100000
open Go Go.RowKit Cha

theorem seal_take (kk nn : Nat → UInt8) (a p : List UInt8) : (sealB kk nn a p).take p.length = encB kk nn p := by
  unfold sealB
  rw [List.take_append_of_le_length (by rw [encB_len]; omega), List.take_of_length_le (by rw [encB_len]; omega)]
theorem seal_drop (kk nn : Nat → UInt8) (a p : List UInt8) : (sealB kk nn a p).drop p.length = rb 16 (markM kk nn a (encB kk nn p)) := by
  unfold sealB
  rw [← encB_len kk nn p, List.drop_left]
theorem seal_mark (kk nn : Nat → UInt8) (a p : List UInt8) : decide (rb 16 (endF (sealB kk nn a p) p.length) = rb 16 (tagF (blockF kk 0 nn) (macB a ((sealB kk nn a p).take p.length)))) = true := by
  rw [endF_drop (sealB_len kk nn a p), seal_take, seal_drop]
  exact decide_eq_true rfl
/-- What is opened was sealed. -/
theorem seal_back {kk nn : Nat → UInt8} {a l : List UInt8} {m : Nat} (hl : l.length = m + 16) (hq : decide (rb 16 (endF l m) = rb 16 (tagF (blockF kk 0 nn) (macB a (l.take m)))) = true) : sealB kk nn a (encB kk nn (l.take m)) = l := by
  have h := of_decide_eq_true hq
  rw [endF_drop hl] at h
  unfold sealB markM
  rw [encB_back, ← h, List.take_append_drop]
/-- The document's look at the mark. -/
theorem mark_look {l : List UInt8} {m : Nat} {f : Nat → UInt8} {b : Bool} (hl : l.length = m + 16) (hq : decide (rb 16 (endF l m) = rb 16 f) = b) : decide (rb 16 f = l.drop m) = b := by
  rw [endF_drop hl] at hq
  rw [← hq]
  exact decide_eq_decide.2 ⟨fun h => h.symm, fun h => h.symm⟩
/-- Another byte of the mark. -/
theorem turned_mark {kk nn : Nat → UInt8} {a p : List UInt8} {j : Nat} {y : UInt8} (hj : j < 16) (hy : (sealB kk nn a p)[p.length + j]? ≠ some y) :
    decide (rb 16 (endF ((sealB kk nn a p).set (p.length + j) y) p.length) = rb 16 (tagF (blockF kk 0 nn) (macB a (((sealB kk nn a p).set (p.length + j) y).take p.length)))) = false := by
  have hl : ((sealB kk nn a p).set (p.length + j) y).length = p.length + 16 := by rw [List.length_set, sealB_len]
  have ht : ((sealB kk nn a p).set (p.length + j) y).take p.length = encB kk nn p := by
    rw [List.take_set_of_le (by omega), seal_take]
  refine decide_eq_false fun h => hy ?_
  rw [endF_drop hl, ht] at h
  have e : ((sealB kk nn a p).set (p.length + j) y).drop p.length = (sealB kk nn a p).drop p.length := by rw [h, seal_drop]; rfl
  have e2 := congrArg (fun x : List UInt8 => x[j]?) e
  simp only [List.getElem?_drop] at e2
  rw [← e2, List.getElem?_set_self (by rw [sealB_len]; omega)]
theorem xor_ne {x y : UInt8} (h : y ≠ 0) : some x ≠ some (x ^^^ y) := by
  intro e
  injection e with e
  refine h ?_
  have : x ^^^ (x ^^^ y) = y := by rw [← UInt8.xor_assoc, UInt8.xor_self, UInt8.zero_xor]
  rw [← this, ← e, UInt8.xor_self]
/-! Numbers' nonces. -/
def NK (x k : Nat) : Nat := x / 256 ^ (8 - k)
theorem pow8 (i : Nat) : (2 : Nat) ^ (8 * i) = 256 ^ i := by rw [Nat.pow_mul]
theorem NK_0 {x : Nat} (hx : x < 18446744073709551616) : NK x 0 = 0 := by
  unfold NK
  rw [show (256 : Nat) ^ (8 - 0) = 18446744073709551616 by decide]
  exact Nat.div_eq_of_lt hx
theorem NK_8 (x : Nat) : NK x 8 = x := by
  unfold NK
  rw [show (256 : Nat) ^ (8 - 8) = 1 by decide, Nat.div_one]
theorem nonce_at (x j : Nat) : (nonceF x (4 + j)).toNat = x / 256 ^ j % 256 := by
  unfold nonceF
  rw [show Nat.blt (4 + j) 4 = false from blt_ge (by omega), Nat.add_sub_cancel_left]
  show (UInt8.ofNat (x / 2 ^ (8 * j))).toNat = _
  rw [UInt8.toNat_ofNat', pow8]
theorem nonce_low (x : Nat) {i : Nat} (hi : i < 4) : nonceF x i = 0 := by
  unfold nonceF
  rw [show Nat.blt i 4 = true from blt_lt hi]
  rfl
theorem nonce_z (x : Nat) {i : Nat} (hi : i < 4) : (nonceF x i).toNat = 0 := by
  rw [nonce_low x hi]
  rfl
theorem NK_step (x : Nat) {k j : Nat} (h : k + j = 7) : NK x k * 256 + (nonceF x (4 + j)).toNat = NK x (k + 1) := by
  rw [nonce_at]
  unfold NK
  rw [show 8 - k = j + 1 by omega, show 8 - (k + 1) = j by omega, Nat.pow_succ, ← Nat.div_div_eq_div_mul]
  have := Nat.div_add_mod (x / 256 ^ j) 256
  omega
theorem NK_le {x : Nat} (hx : x < 18446744073709551616) (k : Nat) : NK x k < 18446744073709551616 := Nat.lt_of_le_of_lt (Nat.div_le_self _ _) hx
theorem nonce_inj {x y : Nat} (hx : x < 18446744073709551616) (hy : y < 18446744073709551616) (h : rb 12 (nonceF x) = rb 12 (nonceF y)) : x = y := by
  have hat : ∀ j, j < 8 → nonceF x (4 + j) = nonceF y (4 + j) := fun j hj => by
    have := congrArg (fun l : List UInt8 => l[4 + j]?) h
    simp only [rb_get (show 4 + j < 12 by omega)] at this
    exact Option.some.inj this
  have hk : ∀ k, k ≤ 8 → NK x k = NK y k := by
    intro k
    induction k with
    | zero => intro _; rw [NK_0 hx, NK_0 hy]
    | succ k ih =>
      intro hk
      rw [← NK_step x (show k + (7 - k) = 7 by omega), ← NK_step y (show k + (7 - k) = 7 by omega), ih (by omega), hat (7 - k) (by omega)]
  have := hk 8 (by omega)
  rw [NK_8, NK_8] at this
  exact this
theorem nonce_dec {x y : Nat} {b : Bool} (hx : x < 18446744073709551616) (hy : y < 18446744073709551616) (h : decide (x = y) = b) : decide (rb 12 (nonceF x) = rb 12 (nonceF y)) = b := by
  rw [← h]
  exact decide_eq_decide.2 ⟨nonce_inj hx hy, fun h => by rw [h]⟩
/-! Calls, as the laws ask them. -/
/-- A pair of new bytes and a value. -/
def TF (l : List UInt8) (E : Value) (v : Value) (w : World) : Prop := ∃ u, v = .tuple #[u, E] ∧ BF l u w
theorem TF.sb {l : List UInt8} {E : Value} : ∀ (v : Value) (w w' : World), TF l E v w → SB w w' → TF l E v w' := fun v w w' ⟨u, e, h⟩ hb => ⟨u, e, h.below hb⟩
theorem tf_call {P : Program} {f : FuncId} {vs : Array Value} {w : World} {l m : List UInt8} {E : Value} (e : m = l) (hc : Calls P f vs w (fun rr w' => ∃ u, rr = .returned (.tuple #[u, E]) ∧ Below w.heap.size w w' ∧ BF m u w')) : Calls P f vs w (fun rr w' => ∃ v, rr = .returned v ∧ Below w.heap.size w w' ∧ TF l E v w') := by
  subst e
  refine hc.mono ?_
  rintro rr w' ⟨u, rfl, hb, h⟩
  exact ⟨_, rfl, hb, u, rfl, h⟩
theorem open_seal {va v : Value} {la lp : List UInt8} (kk nn : Nat → UInt8) (w : World) (hpg : PG w) (hva : BF la va w) (hv : BF (sealB kk nn la lp) v w) (ha : la.length ≤ 20000) (hp : lp.length ≤ 20000) : Calls Tryd.prog 10 #[.agg (bvs (rb 32 kk)), .agg (bvs (rb 12 nn)), va, v] w (fun rr w' => ∃ v, rr = .returned v ∧ Below w.heap.size w w' ∧ TF lp (.int .i64 0) v w') :=
  tf_call (by rw [seal_take, encB_back]) (open_yes (m := lp.length) kk nn w hpg hva hv ha (sealB_len kk nn la lp) hp (seal_mark kk nn la lp))
theorem own_same {P : Program} {f : FuncId} {vs : Array Value} {w : World} {l m : List UInt8} (e : m = l) (hc : Calls P f vs w (fun r W' => ∃ v, r = .returned v ∧ Below w.heap.size w W' ∧ OwnB W' w.heap.size 5 v m)) : Calls P f vs w (fun r W' => ∃ v, r = .returned v ∧ Below w.heap.size w W' ∧ OwnB W' w.heap.size 5 v l) := e ▸ hc
section
variable {n : Nat} {w0 w w' : World} {a : Act} {e : Env} {h h' : Hep} {Q : Exit → Act → World → Prop} {ops : Array Oper} {rest : List Oper} {o : Oper}
theorem ob_lenS {x : Operand} {v : Value} {l : List UInt8} {k : Nat} (H : St n w0 a w e h) (hw : ∀ a w, St n w0 a w e h → Region.wanted o (yielded ops a.tmps) = true) (ho : o.op = .call { callee := .builtin .len, args := #[x], argTypes := #[25] }) (hx : sev e x = some v) (hv : BF l v w) (hk : l.length = k) :
    ObS Tryd.prog ops Q o a w (fun u _ => u = .int .i64 (k : Int)) := by
  obtain ⟨A, j, c, rfl, hb⟩ := hv
  have hj := hb.len
  refine ob_runR H hw ⟨.int .i64 (k : Int), w, ?_, Below.refl _ _, rfl⟩
  subst hk
  simp [execOp, ho, resolve, invoke, builtin, H.ev hx, Builtin.len_, Builtin.lenOf, goInt, run_underlying Tryd.underlying25, Result.andThen, hj]
end
theorem bd_key (W : World) : (Instr.build 23 ([] : List (Nat × Value)).toArray).run Tryd.prog W = .ok (.agg (bvs (rb 32 b0s))) W := by kernel_rfl
theorem nonce_1 (W : World) : Calls Tryd.prog 8 #[.int .u64 1] W (fun rr w' => rr = .returned (.agg (bvs (rb 12 (nonceF 1)))) ∧ Below W.heap.size W w') := nonce_any 1 W
theorem b_eql_yes {x : UInt8} {m : Nat} (h : x.toNat = m) (p q : Operand) (W : World) : (do eqGuard .eql 5 p q (bv x) (.int .u8 (m : Int)); binOp .eql 5 (bv x) (.int .u8 (m : Int)) : Sem Value).run Tryd.prog W = .ok (.bool true) W := by
  subst h
  unfold bv
  go_simp
theorem b_eqlB {x : UInt8} {b : Bool} (h : decide (x = 0) = b) (p q : Operand) (W : World) : (do eqGuard .eql 5 p q (bv x) (.int .u8 0); binOp .eql 5 (bv x) (.int .u8 0) : Sem Value).run Tryd.prog W = .ok (.bool b) W := by
  have e : decide ((x.toNat : Int) = 0) = b := by
    rw [← h]
    refine decide_eq_decide.2 ⟨fun e => UInt8.toNat_inj.1 (by simp; omega), fun e => by rw [e]; rfl⟩
  unfold bv
  go_simp
  exact e
theorem s_bool (b : Bool) (p q : Operand) (W : World) : (do eqGuard .eql 4 p q (.bool b) (.bool b); binOp .eql 4 (.bool b) (.bool b) : Sem Value).run Tryd.prog W = .ok (.bool true) W := by
  cases b <;> go_simp
theorem e_eql (k : Int) (p q : Operand) (W : World) : (do eqGuard .eql 30 p q (.int .i64 k) (.int .i64 k); binOp .eql 30 (.int .i64 k) (.int .i64 k) : Sem Value).run Tryd.prog W = .ok (.bool true) W := by go_simp
theorem i_eqlI (k : Int) (p q : Operand) (W : World) : (do eqGuard .eql 3 p q (.int .i64 k) (.int .i64 k); binOp .eql 3 (.int .i64 k) (.int .i64 k) : Sem Value).run Tryd.prog W = .ok (.bool true) W := by go_simp
theorem u_mul256 {x : Nat} (h : x * 256 < 18446744073709551616) (p q : Operand) (W : World) : (do eqGuard .mul 24 p q (uc x) (.int .u64 256); binOp .mul 24 (uc x) (.int .u64 256) : Sem Value).run Tryd.prog W = .ok (uc (x * 256)) W := u_mul (y := 256) h p q W
theorem n_eqlB {f g : Nat → UInt8} {b : Bool} (h : decide (rb 12 f = rb 12 g) = b) (p q : Operand) (W : World) : (do eqGuard .eql 27 p q (.agg (bvs (rb 12 f))) (.agg (bvs (rb 12 g))); binOp .eql 27 (.agg (bvs (rb 12 f))) (.agg (bvs (rb 12 g))) : Sem Value).run Tryd.prog W = .ok (.bool b) W := by
  have hq : (Op.equalIn 10000 27 (.agg (bvs (rb 12 f))) (.agg (bvs (rb 12 g)))).run Tryd.prog W = .ok b W := by
    have h2 := run_equalIn_nats (P := Tryd.prog) W 9998 27 5 12 .u8 Tryd.underlying27 Tryd.underlying5 size_u8c ((rb 12 f).map UInt8.toNat) ((rb 12 g).map UInt8.toNat) (by rw [List.length_map, rb_len]) (by rw [List.length_map, rb_len])
    rw [← bvs_nat, ← bvs_nat] at h2
    have e : ((rb 12 f).map UInt8.toNat == (rb 12 g).map UInt8.toNat) = b := by
      rw [← h, Bool.eq_iff_iff]
      simp only [beq_iff_eq, decide_eq_true_eq]
      exact ⟨toNat_inj, fun h => by rw [h]⟩
    rw [e] at h2
    exact h2
  go_simp
theorem i_gtrZ {k m : Int} {b : Bool} (h : decide (k > m) = b) (p q : Operand) (W : World) : (do eqGuard .gtr 3 p q (.int .i64 k) (.int .i64 m); binOp .gtr 3 (.int .i64 k) (.int .i64 m) : Sem Value).run Tryd.prog W = .ok (.bool b) W := by go_simp
theorem i_geqZ {k m : Int} {b : Bool} (h : decide (k ≥ m) = b) (p q : Operand) (W : World) : (do eqGuard .geq 3 p q (.int .i64 k) (.int .i64 m); binOp .geq 3 (.int .i64 k) (.int .i64 m) : Sem Value).run Tryd.prog W = .ok (.bool b) W := by
  rw [i_geq, h]
theorem i_dec {j k : Nat} (h : k + j = 7) (p q : Operand) (W : World) : (do eqGuard .sub 3 p q (.int .i64 (j : Int)) (.int .i64 1); binOp .sub 3 (.int .i64 (j : Int)) (.int .i64 1) : Sem Value).run Tryd.prog W = .ok (.int .i64 (7 - ((k + 1 : Nat) : Int))) W := by
  rw [i_sub _ _ (by omega), show (j : Int) - 1 = 7 - ((k + 1 : Nat) : Int) by omega]
theorem uc_0 {x : Nat} (hx : x < 18446744073709551616) : Value.int .u64 0 = uc (NK x 0) := by rw [NK_0 hx]; rfl
theorem st_cur {g j : Nat} {t : TypeId} {cur : Array Value} {x y : UInt8} (hj : cur[j]? = some (bv y)) (W : World) (h : Blk W g t cur) : (Instr.storeAt 5 (.pointer (some ⟨g, j, none⟩)) (bv x)).run Tryd.prog W = .ok () (W.setCells g j [bv x]) := by
  have hc := h.cell j
  have hf := h.frozen j
  rw [hj] at hc
  have hs : (W.cell? ⟨g, j, none⟩).isSome = true := by rw [hc]; rfl
  show _ = Result.ok () (W.setCell ⟨g, j, none⟩ (bv x))
  unfold bv
  go_simp
theorem uc_set {cur : Array Value} {n' cap j : Nat} {l : List UInt8} (hu : US8 cur n' cap l) (y : UInt8) : US8 (cur.setIfInBounds j (bv y)) n' cap (l.set j y) := by
  refine ⟨hu.le, hu.max, by rw [Array.size_setIfInBounds]; exact hu.size, ?_, by simpa using hu.len⟩
  have h := hu.take
  rw [List.map_set, ← h, Array.toList_setIfInBounds, List.take_set]
end Go.Proofs.YtghbknebaknmjaaDoor
