/- The laws of layer 9: the mark of bytes, in whatever parts; of none, and where r is nought; which are the same; sums. -/
import Derived.Test.YtompjaponedjoaaDoorQp
import Derived.Test.YtompjaponedjoaaDoorQe
import Derived.Test.YtompjaponedjoaaDoorQd
namespace Go.Proofs.YtompjaponedjoaaDoor
set_option linter.unusedVariables false
set_option linter.unusedSimpArgs false
set_option maxRecDepth 100000
open Go Go.RowKit

theorem elem_bytes : Tryd.prog.elem 24 = 5 := by kernel_rfl
theorem cut_lo {A : Option Addr} {k c K : Nat} {l : List UInt8} {w : World} (hm : BF l (.slice A k c) w) (hK : K ≤ k) : ∃ v, BF (l.take K) v w ∧ ∀ W, (Instr.sliceAt 24 (.slice A k c) none (some (.int .i64 (K : Int))) none).run Tryd.prog W = .ok v W := by
  obtain ⟨A', n', c', e, hb⟩ := hm
  injection e with e1 e2 e3
  subst e1 e2 e3
  have hl := hb.len
  have hc := hb.cap
  refine ⟨.slice A K c, ⟨A, K, c, rfl, ?_⟩, fun W => ?_⟩
  · refine ⟨by rw [List.length_take]; omega, by omega, hb.nil_, fun h0 => ?_⟩
    obtain ⟨b, o, e, hlt, hx⟩ := hb.at_ (by omega)
    refine ⟨b, o, e, hlt, fun j x hj => hx j x ?_⟩
    rw [List.getElem?_take] at hj
    split at hj
    · exact hj
    · cases hj
  · have ht : Tryd.prog.underlying 24 = some (.slice (Tryd.prog.elem 24)) := by rw [elem_bytes]; exact Tryd.underlying24
    rw [run_sliceAt_slice (h := ht), run_slice_h (ht := ht) (h0 := by omega) (h2 := by omega), elem_bytes, size_u8c]
    simp only [Result.andThen_ok, sliced, Int.toNat_natCast, Nat.sub_zero, Nat.zero_mul]
    congr 2
    split
    · rfl
    · cases A with
      | none => rfl
      | some a => rfl
theorem cut_hi {A : Option Addr} {k c K : Nat} {l : List UInt8} {w : World} (hm : BF l (.slice A k c) w) (hK : K ≤ k) : ∃ v, BF (l.drop K) v w ∧ ∀ W, (Instr.sliceAt 24 (.slice A k c) (some (.int .i64 (K : Int))) none none).run Tryd.prog W = .ok v W := by
  obtain ⟨A', n', c', e, hb⟩ := hm
  injection e with e1 e2 e3
  subst e1 e2 e3
  have hl := hb.len
  have hc := hb.cap
  refine ⟨.slice (if c = K then A else A.map (·.add (K * 1))) (k - K) (c - K), ⟨_, _, _, rfl, ?_⟩, fun W => ?_⟩
  · refine ⟨by rw [List.length_drop]; omega, by omega, fun e => ?_, fun h0 => ?_⟩
    · have hA : A = none := by
        split at e
        · exact e
        · cases A with
          | none => rfl
          | some a => cases e
      have := hb.nil_ hA
      omega
    · obtain ⟨b, o, rfl, hlt, hx⟩ := hb.at_ (by omega)
      refine ⟨b, o + K, ?_, hlt, fun j x hj => ?_⟩
      · rw [if_neg (by omega)]
        simp only [Option.map_some, Addr.add_lit, Nat.mul_one]
      · rw [List.getElem?_drop] at hj
        rw [Nat.add_assoc]
        exact hx (K + j) x hj
  · have ht : Tryd.prog.underlying 24 = some (.slice (Tryd.prog.elem 24)) := by rw [elem_bytes]; exact Tryd.underlying24
    rw [run_sliceAt_slice (h := ht), run_slice_l (ht := ht) (h0 := by omega) (h1 := by omega), elem_bytes, size_u8c]
    simp only [Result.andThen_ok, sliced, Int.toNat_natCast]
theorem i_rem_any {z r : Int} {d : Nat} (hd : 0 < d) (hd2 : d < 1000000) (h : z.tmod (d : Int) = r) (p q : Operand) (W : World) : (do eqGuard .rem 3 p q (.int .i64 z) (.int .i64 (d : Int)); binOp .rem 3 (.int .i64 z) (.int .i64 (d : Int)) : Sem Value).run Tryd.prog W = .ok (.int .i64 r) W := by
  have h1 := Int.tmod_lt_of_pos z (show 0 < (d : Int) by omega)
  have h2 := Int.lt_tmod_of_pos z (show 0 < (d : Int) by omega)
  rw [h] at h1 h2
  have e : IntKind.i64.wrap (z.tmod (d : Int)) = r := by rw [h]; exact IntWalk.i64_in _ (by omega)
  have hne : ¬ (d = 0) := by omega
  go_simp
theorem i_add_any {x y r : Int} (h : x + y = r) (h1 : -1000000 ≤ r) (h2 : r ≤ 1000000) (p q : Operand) (W : World) : (do eqGuard .add 3 p q (.int .i64 x) (.int .i64 y); binOp .add 3 (.int .i64 x) (.int .i64 y) : Sem Value).run Tryd.prog W = .ok (.int .i64 r) W := by
  have e : IntKind.i64.wrap r = r := IntWalk.i64_in _ (by omega)
  go_simp
theorem place (z : Int) (k : Nat) (hk : k ≤ 1000) : ∃ (r : Int) (K : Nat), z.tmod ((k + 1 : Nat) : Int) = r ∧ (r + (k : Int) + 1).tmod ((k + 1 : Nat) : Int) = (K : Int) ∧ K ≤ k ∧ -1000000 ≤ r + (k : Int) ∧ r + (k : Int) ≤ 999000 := by
  have h1 := Int.tmod_lt_of_pos z (show 0 < ((k + 1 : Nat) : Int) by omega)
  have h2 := Int.lt_tmod_of_pos z (show 0 < ((k + 1 : Nat) : Int) by omega)
  obtain ⟨r, hr⟩ : ∃ r, z.tmod ((k + 1 : Nat) : Int) = r := ⟨_, rfl⟩
  rw [hr] at h1 h2
  have h3 := Int.tmod_lt_of_pos (r + (k : Int) + 1) (show 0 < ((k + 1 : Nat) : Int) by omega)
  have h4 := Int.tmod_nonneg ((k + 1 : Nat) : Int) (show 0 ≤ r + (k : Int) + 1 by omega)
  obtain ⟨K, hK⟩ := Int.eq_ofNat_of_zero_le h4
  refine ⟨r, K, hr, hK, ?_, by omega, by omega⟩
  rw [hK] at h3
  omega
theorem three_flat (l : List UInt8) (K : Nat) : [l.take K, [], l.drop K].flatten = l := by simp

section
variable {n : Nat} {w0 w w' : World} {a : Act} {e : Env} {h : Hep} {Q : Exit → Act → World → Prop} {ops : Array Oper} {o : Oper}
theorem ob_takeS {x y : Operand} {v : Value} {l : List UInt8} {K : Nat} (H : St n w0 a w e h) (hw : ∀ a w, St n w0 a w e h → Region.wanted o (yielded ops a.tmps) = true) (ho : o.op = .slice 24 x none (some y) none) (hx : sev e x = some v) (hy : sev e y = some (.int .i64 (K : Int))) (hv : BF l v w) (hK : K ≤ l.length) :
    ObS Tryd.prog ops Q o a w (BF (l.take K)) := by
  obtain ⟨A, j, c, rfl, hb⟩ := hv
  obtain ⟨u, hu, hr⟩ := cut_lo (K := K) ⟨A, j, c, rfl, hb⟩ (by have := hb.len; omega)
  refine ob_runR H hw ⟨u, w, ?_, Below.refl _ _, hu⟩
  simp [execOp, ho, H.ev hx, H.ev hy, hr, Result.andThen]
theorem ob_dropS {x y : Operand} {v : Value} {l : List UInt8} {K : Nat} (H : St n w0 a w e h) (hw : ∀ a w, St n w0 a w e h → Region.wanted o (yielded ops a.tmps) = true) (ho : o.op = .slice 24 x (some y) none none) (hx : sev e x = some v) (hy : sev e y = some (.int .i64 (K : Int))) (hv : BF l v w) (hK : K ≤ l.length) :
    ObS Tryd.prog ops Q o a w (BF (l.drop K)) := by
  obtain ⟨A, j, c, rfl, hb⟩ := hv
  obtain ⟨u, hu, hr⟩ := cut_hi (K := K) ⟨A, j, c, rfl, hb⟩ (by have := hb.len; omega)
  refine ob_runR H hw ⟨u, w, ?_, Below.refl _ _, hu⟩
  simp [execOp, ho, H.ev hx, H.ev hy, hr, Result.andThen]
theorem run_any3 (w : World) : (Instr.buildSlice 24 3 #[(0, .int .u8 97), (1, .int .u8 110), (2, .int .u8 121)]).run Tryd.prog w = .ok (.slice (some ⟨w.heap.size, 0, none⟩) 3 3) (w.alloc (.cells (bvs [97, 110, 121]) 5)) := by kernel_rfl
theorem ob_any3S (H : St n w0 a w e h) (hw : ∀ a w, St n w0 a w e h → Region.wanted o (yielded ops a.tmps) = true) (ho : o.op = .buildSlice 24 3 #[(0, .const (.int .u8 97)), (1, .const (.int .u8 110)), (2, .const (.int .u8 121))]) :
    ObS Tryd.prog ops Q o a w (MF w0.heap.size h [97, 110, 121]) := by
  refine ob_runR H hw ⟨.slice (some ⟨w.heap.size, 0, none⟩) 3 3, w.alloc (.cells (bvs [97, 110, 121]) 5), ?_, (Below.refl _ _).alloc (Nat.le_refl _) _, w.heap.size, (0, 0), rfl, H.below.size, fun p hp => Nat.ne_of_lt (H.heap p hp).lt, Blk.new _ _ _⟩
  simp [execOp, ho, Act.eval, run_any3, Result.andThen]
end
/-! Marks that are the same. -/
theorem m_eql (f : Nat → UInt8) (p q : Operand) (W : World) : (do eqGuard .eql 26 p q (.agg (bvs (rb 16 f))) (.agg (bvs (rb 16 f))); binOp .eql 26 (.agg (bvs (rb 16 f))) (.agg (bvs (rb 16 f))) : Sem Value).run Tryd.prog W = .ok (.bool true) W := m_eqlB (decide_eq_true rfl) p q W
theorem m_neq (f : Nat → UInt8) (p q : Operand) (W : World) : (do eqGuard .neq 26 p q (.agg (bvs (rb 16 f))) (.agg (bvs (rb 16 f))); binOp .neq 26 (.agg (bvs (rb 16 f))) (.agg (bvs (rb 16 f))) : Sem Value).run Tryd.prog W = .ok (.bool false) W := by
  have hq := marks_eq (f := f) (g := f) (decide_eq_true rfl) W
  go_simp
theorem s_bool (b : Bool) (p q : Operand) (W : World) : (do eqGuard .eql 4 p q (.bool b) (.bool b); binOp .eql 4 (.bool b) (.bool b) : Sem Value).run Tryd.prog W = .ok (.bool true) W := by
  cases b <;> go_simp
theorem b_eql_yes {x : UInt8} {m : Nat} (h : x.toNat = m) (p q : Operand) (W : World) : (do eqGuard .eql 5 p q (bv x) (.int .u8 (m : Int)); binOp .eql 5 (bv x) (.int .u8 (m : Int)) : Sem Value).run Tryd.prog W = .ok (.bool true) W := by
  subst h
  unfold bv
  go_simp
theorem i_neq_no {k m : Nat} (h : k = m) (p q : Operand) (W : World) : (do eqGuard .neq 3 p q (.int .i64 (k : Int)) (.int .i64 (m : Int)); binOp .neq 3 (.int .i64 (k : Int)) (.int .i64 (m : Int)) : Sem Value).run Tryd.prog W = .ok (.bool false) W := by
  subst h
  go_simp
theorem i_quo {k m : Nat} (h : 0 < m) (hk : k ≤ 9223372036854775807) (p q : Operand) (W : World) : (do eqGuard .quo 3 p q (.int .i64 (k : Int)) (.int .i64 (m : Int)); binOp .quo 3 (.int .i64 (k : Int)) (.int .i64 (m : Int)) : Sem Value).run Tryd.prog W = .ok (.int .i64 ((k / m : Nat) : Int)) W := by
  have h0 : (m : Int) ≠ 0 := by omega
  go_simp
  rw [if_neg (show ¬ m = 0 by omega), show (k : Int) / (m : Int) = ((k / m : Nat) : Int) by push_cast; rfl, IntWalk.i64_in _ (by have h3 := Nat.div_le_self k m; generalize k / m = d at h3 ⊢; omega)]
theorem cv_bi (x : UInt8) (W : World) : (convert 5 3 (bv x)).run Tryd.prog W = .ok (.int .i64 (x.toNat : Int)) W := by
  have hx := x.toNat_lt
  have e : IntKind.i64.wrap (x.toNat : Int) = (x.toNat : Int) := IntWalk.i64_in _ (by omega)
  unfold bv
  go_simp
theorem cv_ib (x : Nat) (W : World) : (convert 3 5 (.int .i64 (x : Int))).run Tryd.prog W = .ok (bv (UInt8.ofNat x)) W := by
  have e : IntKind.u8.wrap (x : Int) = ((UInt8.ofNat x).toNat : Int) := by
    rw [IntKind.wrap_u8', UInt8.toNat_ofNat']
    omega
  unfold bv
  go_simp
theorem bd_key (W : World) : (Instr.build 23 ([] : List (Nat × Value)).toArray).run Tryd.prog W = .ok (.agg (bvs (rb 32 b0s))) W := by kernel_rfl
/-! Purely. -/
theorem tag_z {v : Value} {L : List (List UInt8)} {l : List UInt8} {kk : Nat → UInt8} {f : Nat → UInt8} (hl : L.flatten = l) (hf : bvs (rb 16 (tagF kk l)) = bvs (rb 16 f)) (w : World) (hpg : PG w) (hv : RF L v w) (h1 : l.length ≤ 100000) (h2 : L.length ≤ 1000) : Calls Tryd.prog 9 #[.agg (bvs (rb 32 kk)), v] w (fun rr w' => rr = .returned (.agg (bvs (rb 16 f))) ∧ Below w.heap.size w w') := by
  subst hl
  have h := tag_any kk w hpg hv h1 h2
  rw [hf] at h
  exact h
def sF (kk : Nat → UInt8) (i : Nat) : UInt8 := kk (16 + i)
theorem mark_0 (kk : Nat → UInt8) : bvs (rb 16 (markF kk 0)) = bvs (rb 16 (sF kk)) := by
  refine congrArg bvs (rb_ext fun i hi => ?_)
  unfold markF sF
  rw [Nat.zero_add, dig_sumD (fun i _ => sD_lt kk i) hi]
  exact UInt8.ofNat_toNat
theorem tag_nil (kk : Nat → UInt8) : bvs (rb 16 (tagF kk [])) = bvs (rb 16 (sF kk)) := mark_0 kk
theorem acc_zero {kk bb : Nat → UInt8} {n : Nat} (h : sumD (rD kk) 16 = 0) : ∀ j, acc kk bb n j = 0
  | 0 => rfl
  | j + 1 => by
    show (_ * sumD (rD kk) 16) % PM = 0
    rw [h, Nat.mul_zero, Nat.zero_mod]
def zF (i : Nat) : UInt8 := if i % 4 = 3 then 240 else 0
theorem rD_zero (kk : Nat → UInt8) : sumD (rD (mapB zF kk 16)) 16 = 0 := by
  rw [sumD_zero (n := 0) (Nat.zero_le _) (fun i _ hi => ?_)]
  · rfl
  · unfold rD
    rw [mapB_lt hi]
    unfold zF
    by_cases h : i % 4 = 3
    · rw [if_pos h, if_pos h]; decide
    · rw [if_neg h, if_neg h]
      split <;> decide
theorem sF_same (kk : Nat → UInt8) : sF (mapB zF kk 16) = sF kk := funext fun i => mapB_ge (by omega)
theorem tag_zero (kk : Nat → UInt8) (l : List UInt8) : bvs (rb 16 (tagF (mapB zF kk 16) l)) = bvs (rb 16 (sF kk)) := by
  unfold tagF
  rw [acc_zero (rD_zero kk), mark_0, sF_same]
/-- The chapter's row. -/
def kF (i : Nat) : UInt8 := if i < 16 then 0 else UInt8.ofNat i
theorem known_at : (tagF kF [97, 110, 121] 0).toNat = 16 ∧ (tagF kF [97, 110, 121] 15).toNat = 31 := by decide +kernel
/-! Another second half. -/
def otF (kk ss : Nat → UInt8) (k p : Nat) : UInt8 := if 16 ≤ p ∧ p < 16 + k then ss (p - 16) else kk p
theorem otF_0 (kk ss : Nat → UInt8) : otF kk ss 0 = kk := funext fun p => by
  unfold otF
  rw [if_neg (by omega)]
theorem otF_step (kk ss : Nat → UInt8) (k : Nat) : updB (otF kk ss k) (16 + k) (ss k) = otF kk ss (k + 1) := funext fun p => by
  unfold updB otF
  by_cases h : p = 16 + k
  · subst h
    rw [if_pos (show 16 ≤ 16 + k ∧ 16 + k < 16 + (k + 1) by omega), show 16 + k - 16 = k by omega]
    simp
  · rw [nb_ne h]
    by_cases h2 : 16 ≤ p ∧ p < 16 + k
    · rw [if_pos (show 16 ≤ p ∧ p < 16 + (k + 1) by omega)]
      exact if_pos h2
    · rw [if_neg (show ¬ (16 ≤ p ∧ p < 16 + (k + 1)) by omega)]
      exact if_neg h2
theorem rD_ot (kk ss : Nat → UInt8) : sumD (rD (otF kk ss 16)) 16 = sumD (rD kk) 16 := sumD_ext fun i hi => by
  unfold rD otF
  rw [if_neg (show ¬ (16 ≤ i ∧ i < 16 + 16) by omega)]
theorem acc_ot (kk ss bb : Nat → UInt8) (n : Nat) : ∀ j, acc (otF kk ss 16) bb n j = acc kk bb n j
  | 0 => rfl
  | j + 1 => by
    show ((acc (otF kk ss 16) bb n j + _) * sumD (rD (otF kk ss 16)) 16) % PM = _
    rw [rD_ot, acc_ot kk ss bb n j]
    rfl
def ssD (ss : Nat → UInt8) (i : Nat) : Nat := (ss i).toNat
theorem sD_ot (kk ss : Nat → UInt8) : sumD (sD (otF kk ss 16)) 16 = sumD (ssD ss) 16 := sumD_ext fun i hi => by
  unfold sD otF ssD
  rw [if_pos (by omega), show 16 + i - 16 = i by omega]
def addF (f g : Nat → UInt8) (i : Nat) : Nat := (f i).toNat + (g i).toNat
theorem addF_le (f g : Nat → UInt8) (i : Nat) : addF f g i ≤ 510 := by
  have := (f i).toNat_lt
  have := (g i).toNat_lt
  unfold addF
  omega
theorem tag_nat (kk : Nat → UInt8) (l : List UInt8) (i : Nat) : (tagF kk l i).toNat = dig (acc kk (fun i => l.getD i 0) l.length ((l.length + 15) / 16) + sumD (sD kk) 16) i := by
  show (UInt8.ofNat (dig _ i)).toNat = _
  rw [UInt8.toNat_ofNat', Nat.mod_eq_of_lt (dig_lt _ _)]
theorem add_dig (N : Nat) (f : Nat → UInt8) (g : Nat → UInt8) (hf : ∀ i, (f i).toNat = dig N i) {k : Nat} (hk : k < 16) : (addF f g k + carC 0 (addF f g) k) % 256 = dig (N + sumD (ssD g) 16) k := by
  rw [carD_dig 0 (addF f g) 16 k hk, Nat.add_zero]
  have e : sumD (addF f g) 16 = N % 256 ^ 16 + sumD (ssD g) 16 := by
    rw [← sumD_dig, ← sumD_add (dig N) (ssD g)]
    exact sumD_ext fun i _ => by unfold addF; rw [hf i]; rfl
  rw [e, dig_low hk]
theorem sums_same (kk ss : Nat → UInt8) (l : List UInt8) {k : Nat} (hk : k < 16) : (addF (tagF kk l) ss k + carC 0 (addF (tagF kk l) ss) k) % 256 = (addF (tagF (otF kk ss 16) l) (sF kk) k + carC 0 (addF (tagF (otF kk ss 16) l) (sF kk)) k) % 256 := by
  rw [add_dig _ (tagF kk l) ss (tag_nat kk l) hk, add_dig _ (tagF (otF kk ss 16) l) (sF kk) (tag_nat (otF kk ss 16) l) hk, acc_ot, sD_ot, Nat.add_right_comm]
  rfl
attribute [local irreducible] nv bvs rb tagF
def kU (k p : Nat) : UInt8 := if 16 ≤ p ∧ p < 16 + k then UInt8.ofNat p else 0
theorem kU_0 : kU 0 = b0s := funext fun p => by
  unfold kU
  rw [if_neg (by omega)]
theorem kU_step (k : Nat) : updB (kU k) (16 + k) (UInt8.ofNat (16 + k)) = kU (k + 1) := funext fun p => by
  unfold updB kU
  by_cases h : p = 16 + k
  · subst h
    rw [if_pos (show 16 ≤ 16 + k ∧ 16 + k < 16 + (k + 1) by omega)]
    simp
  · rw [nb_ne h]
    by_cases h2 : 16 ≤ p ∧ p < 16 + k
    · rw [if_pos (show 16 ≤ p ∧ p < 16 + (k + 1) by omega)]
      exact if_pos h2
    · rw [if_neg (show ¬ (16 ≤ p ∧ p < 16 + (k + 1)) by omega)]
      exact if_neg h2
theorem kF_all : bvs (rb 32 (kU 16)) = bvs (rb 32 kF) := congrArg bvs (rb_ext fun i hi => by
  unfold kU kF
  by_cases h : i < 16
  · rw [if_neg (by omega), if_pos h]
  · rw [if_pos (by omega), if_neg h])
set_option maxHeartbeats 4000000 in
theorem known_any (w : World) (hpg : PG w) : Calls Tryd.prog 7 #[] w (fun rr w' => rr = .returned (.bool true) ∧ Below w.heap.size w w') := by
  refine calls_st (vs := []) 26 Tryd.func7 rfl Tryd.ntmps7 rfl (fun a W H => ?_)
  replace H : St 26 w a W [] [] := H
  refine wp_seq_k (fun K1 hK1 => ?_)
  refine rg_plain ?_
  refine pl_does (does_assign rfl rfl) rfl rfl rfl rfl H ?_
  try clear H a W
  intro a W H
  refine pl_end ?_
  refine hK1 _ _ ?_
  clear hK1
  refine wp_seq_k (fun K2 hK2 => ?_)
  refine rg_plain ?_
  refine pl_does (does_build (ps := []) rfl rfl bd_key) rfl rfl rfl rfl H ?_
  try clear H a W
  intro a W H
  refine pl_new (news_of rfl al_key) rfl rfl rfl rfl H ?_
  try clear H a W
  intro g1 a W H
  refine pl_store rfl rfl rfl (k := 0) rfl (info_key _) (size_rb _ _ _) (bvs_one _) rfl rfl H ?_
  try clear H a W
  intro a W H
  refine pl_end ?_
  replace H : St 26 w a W [(1, .pointer (some ⟨g1, 0, none⟩)), (0, .bool false)] [(g1, 23, bvs (rb 32 b0s))] := H.pick [0, 2] [0] rfl
  refine hK2 _ _ ?_
  clear hK2
  refine wp_seq_k (fun K3 hK3 => ?_)
  refine wp_seq_k (fun K4 hK4 => ?_)
  refine rg_plain ?_
  refine pl_does (does_assign rfl rfl) rfl rfl rfl rfl H ?_
  try clear H a W
  intro a W H
  refine pl_end ?_
  refine hK4 _ _ ?_
  clear hK4
  rw [← kU_0] at H
  refine wp_block ?_
  replace H : St 26 w a W [(2, .int .i64 ((16 + 0 : Nat) : Int)), (1, .pointer (some ⟨g1, 0, none⟩))] [(g1, 23, bvs (rb 32 (kU 0)))] := H.pick [0, 1] [0] rfl
  refine wp_rounds 16 (fun k a W => St 26 w a W [(2, .int .i64 ((16 + k : Nat) : Int)), (1, .pointer (some ⟨g1, 0, none⟩))] [(g1, 23, bvs (rb 32 (kU k)))]) (k0 := 0) H (by omega) ?_
  try clear H a W
  intro k a W hk H
  by_cases hk2 : k < 16
  · refine wp_seq_k (fun K5 hK5 => ?_)
    refine wp_seq_k (fun K6 hK6 => ?_)
    refine rg_plain ?_
    refine pl_does (does_move rfl rfl) rfl rfl rfl rfl H ?_
    try clear H a W
    intro a W H
    refine pl_does (does_binOp rfl rfl rfl (i_lss_yes (k := (16 + k)) (m := 32) (by omega) _ _)) rfl rfl rfl rfl H ?_
    try clear H a W
    intro a W H
    refine pl_end ?_
    refine hK6 _ _ ?_
    clear hK6
    refine wp_cond_true (H.ev rfl) ?_
    refine wp_skip ?_
    refine hK5 _ _ ?_
    clear hK5
    refine wp_seq_k (fun K7 hK7 => ?_)
    refine wp_block ?_
    refine rg_plain ?_
    refine pl_does (does_move rfl rfl) rfl rfl rfl rfl H ?_
    try clear H a W
    intro a W H
    refine pl_does (does_move rfl rfl) rfl rfl rfl rfl H ?_
    try clear H a W
    intro a W H
    refine pl_does (does_convert rfl rfl (cv_ib _)) rfl rfl rfl rfl H ?_
    try clear H a W
    intro a W H
    refine pl_does (does_indexAddr rfl rfl rfl (ia_key (j := (16 + k)) (by omega))) rfl rfl rfl rfl H ?_
    try clear H a W
    intro a W H
    refine pl_storeAt rfl rfl rfl (k := 0) rfl (st_byte (n := 32) (x := UInt8.ofNat (16 + k)) (by omega)) (sv_byte (kU_step k)) rfl rfl H ?_
    try clear H a W
    intro a W H
    refine pl_end ?_
    refine blk_normal ?_
    refine hK7 _ _ ?_
    clear hK7
    refine rg_plain ?_
    refine pl_does (does_move rfl rfl) rfl rfl rfl rfl H ?_
    try clear H a W
    intro a W H
    refine pl_does (does_binOp rfl rfl rfl (i_addE (k := (16 + k)) (m := 1) rfl (by omega) _ _)) rfl rfl rfl rfl H ?_
    try clear H a W
    intro a W H
    replace H : St 26 w a W [(8, .int .i64 ((16 + k + 1 : Nat) : Int)), (7, .int .i64 ((16 + k : Nat) : Int)), (12, .pointer (some ⟨g1, 16 + k, none⟩)), (11, bv (UInt8.ofNat (16 + k))), (10, .int .i64 ((16 + k : Nat) : Int)), (9, .int .i64 ((16 + k : Nat) : Int)), (6, .bool true), (5, .int .i64 ((16 + k : Nat) : Int)), (1, .pointer (some ⟨g1, 0, none⟩))] [(g1, 23, bvs (rb 32 (kU (k + 1))))] := H.pick [0, 1, 2, 3, 4, 5, 6, 7, 9] [0] rfl
    refine pl_does (does_assign rfl rfl) rfl rfl rfl rfl H ?_
    try clear H a W
    intro a W H
    refine pl_end ?_
    refine ⟨k + 1, by omega, by omega, ?_⟩
    show St 26 w a W [(2, .int .i64 ((16 + (k + 1) : Nat) : Int)), (1, .pointer (some ⟨g1, 0, none⟩))] [(g1, 23, bvs (rb 32 (kU (k + 1))))]
    exact H.pick [0, 9] [0] rfl
  · obtain rfl : 16 = k := by omega
    refine wp_seq_k (fun K8 hK8 => ?_)
    refine wp_seq_k (fun K9 hK9 => ?_)
    refine rg_plain ?_
    refine pl_does (does_move rfl rfl) rfl rfl rfl rfl H ?_
    try clear H a W
    intro a W H
    refine pl_does (does_binOp rfl rfl rfl (i_lss_no (k := (16 + 16)) (m := 32) (by omega) _ _)) rfl rfl rfl rfl H ?_
    try clear H a W
    intro a W H
    refine pl_end ?_
    replace H : St 26 w a W [(6, .bool false), (2, .int .i64 ((16 + 16 : Nat) : Int)), (1, .pointer (some ⟨g1, 0, none⟩))] [(g1, 23, bvs (rb 32 (kU 16)))] := H.pick [0, 2, 3] [0] rfl
    refine hK9 _ _ ?_
    clear hK9
    refine wp_cond_false (H.ev rfl) ?_
    refine wp_exit ?_
    repeat (with_reducible refine then_exit ?_)
    refine blk_exit ?_
    rw [kF_all] at H
    refine hK3 _ _ ?_
    clear hK3
    refine wp_seq_k (fun K10 hK10 => ?_)
    refine rg_plain ?_
    refine pl_does (does_load rfl rfl (k := 0) rfl Tryd.underlying23 rfl (info_key _)) rfl rfl rfl rfl H ?_
    try clear H a W
    intro a W H
    refine pl_R (R := SB) (F := MF w.heap.size [(g1, 23, bvs (rb 32 kF))] [97, 110, 121]) sb_st (ob_any3S H (wanted_none rfl) rfl) rfl rfl rfl H ?_
    try clear H a W
    intro v14 a W hv14 hR_ H
    clear hR_
    replace H : St 26 w a W [(14, v14), (13, .agg (bvs (rb 32 kF))), (6, .bool false), (2, .int .i64 ((16 + 16 : Nat) : Int)), (1, .pointer (some ⟨g1, 0, none⟩))] [(g1, 23, bvs (rb 32 kF))] := H
    refine pl_R (R := (Grow w.heap.size [(g1, 23, bvs (rb 32 kF))])) (F := BF [97, 110, 121]) grow_st (ob_mark H (wanted_none rfl) rfl rfl hv14) rfl rfl rfl H ?_
    try clear H a
    intro v15 a W hv15 hR_ H
    clear hR_
    replace H : St 26 w a W [(15, v15), (14, v14), (13, .agg (bvs (rb 32 kF))), (6, .bool false), (2, .int .i64 ((16 + 16 : Nat) : Int)), (1, .pointer (some ⟨g1, 0, none⟩))] [(g1, 23, bvs (rb 32 kF))] := H
    refine pl_R (R := SB) (F := LF [[97, 110, 121]]) sb_st (ob_rows1S H (wanted_none rfl) rfl rfl hv15) rfl rfl rfl H ?_
    try clear H a
    intro v16 a W hv16 hR_ H
    replace hv15 := BF.sb _ _ _ hv15 hR_
    clear hR_
    replace H : St 26 w a W [(16, v16), (15, v15), (14, v14), (13, .agg (bvs (rb 32 kF))), (6, .bool false), (2, .int .i64 ((16 + 16 : Nat) : Int)), (1, .pointer (some ⟨g1, 0, none⟩))] [(g1, 23, bvs (rb 32 kF))] := H
    refine pl_R (R := SB) (F := fun u_ _ => u_ = .agg (bvs (rb 16 (tagF kF [97, 110, 121])))) sb_st (ob_calS H (wanted_none rfl) rfl ⟨_, Tryd.func9, by kernel_rfl⟩ rfl (tag_z (L := [[97, 110, 121]]) (rfl) (rfl) W (hpg.ext H.below) hv16.rf (by decide) (by simp))) rfl rfl rfl H ?_
    try clear H a
    rintro _ a W rfl hR_ H
    replace hv16 := LF.sb _ _ _ hv16 hR_
    replace hv15 := BF.sb _ _ _ hv15 hR_
    clear hR_
    replace H : St 26 w a W [(17, .agg (bvs (rb 16 (tagF kF [97, 110, 121])))), (16, v16), (15, v15), (14, v14), (13, .agg (bvs (rb 32 kF))), (6, .bool false), (2, .int .i64 ((16 + 16 : Nat) : Int)), (1, .pointer (some ⟨g1, 0, none⟩))] [(g1, 23, bvs (rb 32 kF))] := H
    replace H : St 26 w a W [(17, .agg (bvs (rb 16 (tagF kF [97, 110, 121])))), (14, v14), (13, .agg (bvs (rb 32 kF))), (6, .bool false), (2, .int .i64 ((16 + 16 : Nat) : Int)), (1, .pointer (some ⟨g1, 0, none⟩))] [(g1, 23, bvs (rb 32 kF))] := H.pick [0, 3, 4, 5, 6, 7] [0] rfl
    refine pl_new (news_of rfl al_mark) rfl rfl rfl rfl H ?_
    try clear H a W
    intro g2 a W H
    refine pl_store rfl rfl rfl (k := 0) rfl (info_mark _) (size_rb _ _ _) (bvs_one _) rfl rfl H ?_
    try clear H a W
    intro a W H
    refine pl_end ?_
    replace H : St 26 w a W [(3, .pointer (some ⟨g2, 0, none⟩))] [(g2, 26, bvs (rb 16 (tagF kF [97, 110, 121]))), (g1, 23, bvs (rb 32 kF))] := H.pick [0] [0, 1] rfl
    refine hK10 _ _ ?_
    clear hK10
    refine wp_seq_k (fun K11 hK11 => ?_)
    refine rg_plain ?_
    refine pl_does (does_indexAddr rfl rfl rfl (ia_mark (j := 0) (by omega))) rfl rfl rfl rfl H ?_
    try clear H a W
    intro a W H
    refine pl_does (does_loadAt (v := bv ((tagF kF [97, 110, 121]) 0)) rfl rfl (k := 0) rfl (ld_byte (by omega))) rfl rfl rfl rfl H ?_
    try clear H a W
    intro a W H
    refine pl_does (does_binOp rfl rfl rfl (b_eql_yes (m := 16) known_at.1 _ _)) rfl rfl rfl rfl H ?_
    try clear H a W
    intro a W H
    refine pl_does (does_move rfl rfl) rfl rfl rfl rfl H ?_
    try clear H a W
    intro a W H
    refine pl_does_g (does_indexAddr rfl rfl rfl (ia_mark (j := 15) (by omega))) (wanted_some rfl rfl rfl rfl rfl) rfl rfl rfl H ?_
    try clear H a W
    intro a W H
    refine pl_does_g (does_loadAt (v := bv ((tagF kF [97, 110, 121]) 15)) rfl rfl (k := 0) rfl (ld_byte (by omega))) (wanted_some rfl rfl rfl rfl rfl) rfl rfl rfl H ?_
    try clear H a W
    intro a W H
    refine pl_does_g (does_binOp rfl rfl rfl (b_eql_yes (m := 31) known_at.2 _ _)) (wanted_some rfl rfl rfl rfl rfl) rfl rfl rfl H ?_
    try clear H a W
    intro a W H
    refine pl_does (does_pick rfl rfl (fun _ => rfl) (fun hb => by cases hb)) rfl rfl rfl rfl H ?_
    try clear H a W
    intro a W H
    refine pl_does (does_assign rfl rfl) rfl rfl rfl rfl H ?_
    try clear H a W
    intro a W H
    refine pl_end ?_
    replace H : St 26 w a W [(0, .bool true)] [(g2, 26, bvs (rb 16 (tagF kF [97, 110, 121]))), (g1, 23, bvs (rb 32 kF))] := H.pick [0] [0, 1] rfl
    refine hK11 _ _ ?_
    clear hK11
    refine wp_ret ?_
    repeat (first | (with_reducible refine then_ret ?_) | (with_reducible refine blk_ret ?_))
    refine end_tmp (p := 0) rfl rfl H (fun hb => ?_)
    exact ⟨rfl, hb⟩
set_option maxHeartbeats 4000000 in
theorem law_tags {A : Option Addr} {n cap : Nat} {l : List UInt8} (kk : Nat → UInt8) (z : Int) (w : World) (hpg : PG w) (hv : BF l (.slice A n cap) w) : Calls Tryd.prog 3 #[.agg (bvs (rb 32 kk)), .slice A n cap, .int .i64 z] w (fun rr w' => rr = .returned (.bool true) ∧ Below w.heap.size w w') := by
  have hn : l.length = n := by obtain ⟨A', n', c', e, hb⟩ := hv; injection e with e1 e2 e3; rw [e2]; exact hb.len
  obtain ⟨bl, hbl⟩ : ∃ b : Bool, decide (600 < n) = b := ⟨_, rfl⟩
  refine calls_st (vs := [.agg (bvs (rb 32 kk)), .slice A n cap, .int .i64 z]) 51 Tryd.func3 rfl Tryd.ntmps3 rfl (fun a W H => ?_)
  replace H : St 51 w a W [(0, .agg (bvs (rb 32 kk))), (1, .slice A n cap), (2, .int .i64 z)] [] := H
  refine wp_seq_k (fun K1 hK1 => ?_)
  refine rg_plain ?_
  refine pl_box rfl rfl (bx_key kk) rfl rfl rfl rfl H ?_
  try clear H a W
  intro g1 a W H
  refine pl_does (does_assign rfl rfl) rfl rfl rfl rfl H ?_
  try clear H a W
  intro a W H
  refine pl_end ?_
  replace H : St 51 w a W [(6, .bool false), (3, .pointer (some ⟨g1, 0, none⟩)), (1, .slice A n cap), (2, .int .i64 z)] [(g1, 23, bvs (rb 32 kk))] := H.pick [0, 1, 3, 4] [0] rfl
  refine hK1 _ _ ?_
  clear hK1
  refine wp_seq_k (fun K2 hK2 => ?_)
  refine wp_seq_k (fun K3 hK3 => ?_)
  refine rg_plain ?_
  refine pl_does (does_move rfl rfl) rfl rfl rfl rfl H ?_
  try clear H a W
  intro a W H
  refine pl_does (does_len Tryd.underlying24 rfl rfl) rfl rfl rfl rfl H ?_
  try clear H a W
  intro a W H
  refine pl_does (does_binOp rfl rfl rfl (i_gtrB (k := n) (m := 600) hbl _ _)) rfl rfl rfl rfl H ?_
  try clear H a W
  intro a W H
  refine pl_end ?_
  replace H : St 51 w a W [(11, .bool bl), (6, .bool false), (3, .pointer (some ⟨g1, 0, none⟩)), (1, .slice A n cap), (2, .int .i64 z)] [(g1, 23, bvs (rb 32 kk))] := H.pick [0, 3, 4, 5, 6] [0] rfl
  refine hK3 _ _ ?_
  clear hK3
  cases bl with
  | true =>
    refine wp_cond_true (H.ev rfl) ?_
    refine wp_seq_k (fun K4 hK4 => ?_)
    refine rg_plain ?_
    refine pl_does (does_call rfl ⟨_, Tryd.func7, by kernel_rfl⟩ rfl (fun W hb => known_any W (hpg.ext hb))) rfl rfl rfl rfl H ?_
    try clear H a W
    intro a W H
    replace H : St 51 w a W [(12, .bool true), (11, .bool true), (3, .pointer (some ⟨g1, 0, none⟩)), (1, .slice A n cap), (2, .int .i64 z)] [(g1, 23, bvs (rb 32 kk))] := H.pick [0, 1, 3, 4, 5] [0] rfl
    refine pl_does (does_assign rfl rfl) rfl rfl rfl rfl H ?_
    try clear H a W
    intro a W H
    refine pl_end ?_
    replace H : St 51 w a W [(6, .bool true), (3, .pointer (some ⟨g1, 0, none⟩)), (1, .slice A n cap), (2, .int .i64 z)] [(g1, 23, bvs (rb 32 kk))] := H.pick [0, 3, 4, 5] [0] rfl
    refine hK4 _ _ ?_
    clear hK4
    refine wp_ret ?_
    repeat (first | (with_reducible refine then_ret ?_) | (with_reducible refine blk_ret ?_))
    refine end_tmp (p := 6) rfl rfl H (fun hb => ?_)
    exact ⟨rfl, hb⟩
  | false =>
    have hlim : n ≤ 600 := by have := of_decide_eq_false hbl; omega
    obtain ⟨r, K, hr1, hr2, hr3, hr4, hr5⟩ := place z n (by omega)
    refine wp_cond_false (H.ev rfl) ?_
    refine wp_skip ?_
    refine hK2 _ _ ?_
    clear hK2
    refine wp_seq_k (fun K5 hK5 => ?_)
    refine rg_plain ?_
    refine pl_does (does_move rfl rfl) rfl rfl rfl rfl H ?_
    try clear H a W
    intro a W H
    refine pl_does (does_move rfl rfl) rfl rfl rfl rfl H ?_
    try clear H a W
    intro a W H
    refine pl_does (does_len Tryd.underlying24 rfl rfl) rfl rfl rfl rfl H ?_
    try clear H a W
    intro a W H
    refine pl_does (does_binOp rfl rfl rfl (i_addE (k := n) (m := 1) rfl (by omega) _ _)) rfl rfl rfl rfl H ?_
    try clear H a W
    intro a W H
    refine pl_does (does_binOp rfl rfl rfl (i_rem_any (d := n + 1) (by omega) (by omega) hr1 _ _)) rfl rfl rfl rfl H ?_
    try clear H a W
    intro a W H
    refine pl_does (does_move rfl rfl) rfl rfl rfl rfl H ?_
    try clear H a W
    intro a W H
    refine pl_does (does_len Tryd.underlying24 rfl rfl) rfl rfl rfl rfl H ?_
    try clear H a W
    intro a W H
    refine pl_does (does_binOp rfl rfl rfl (i_add_any rfl hr4 (by omega) _ _)) rfl rfl rfl rfl H ?_
    try clear H a W
    intro a W H
    refine pl_does (does_binOp rfl rfl rfl (i_add_any rfl (by omega) (by omega) _ _)) rfl rfl rfl rfl H ?_
    try clear H a W
    intro a W H
    refine pl_does (does_move rfl rfl) rfl rfl rfl rfl H ?_
    try clear H a W
    intro a W H
    refine pl_does (does_len Tryd.underlying24 rfl rfl) rfl rfl rfl rfl H ?_
    try clear H a W
    intro a W H
    refine pl_does (does_binOp rfl rfl rfl (i_addE (k := n) (m := 1) rfl (by omega) _ _)) rfl rfl rfl rfl H ?_
    try clear H a W
    intro a W H
    refine pl_does (does_binOp rfl rfl rfl (i_rem_any (d := n + 1) (by omega) (by omega) hr2 _ _)) rfl rfl rfl rfl H ?_
    try clear H a W
    intro a W H
    refine pl_does (does_assign rfl rfl) rfl rfl rfl rfl H ?_
    try clear H a W
    intro a W H
    refine pl_end ?_
    replace H : St 51 w a W [(7, .int .i64 ((K : Nat) : Int)), (6, .bool false), (3, .pointer (some ⟨g1, 0, none⟩)), (1, .slice A n cap)] [(g1, 23, bvs (rb 32 kk))] := H.pick [0, 15, 16, 17] [0] rfl
    refine hK5 _ _ ?_
    clear hK5
    refine wp_seq_k (fun K6 hK6 => ?_)
    refine rg_plain ?_
    refine pl_does (does_load rfl rfl (k := 0) rfl Tryd.underlying23 rfl (info_key _)) rfl rfl rfl rfl H ?_
    try clear H a W
    intro a W H
    refine pl_does (does_move rfl rfl) rfl rfl rfl rfl H ?_
    try clear H a W
    intro a W H
    refine pl_R (R := SB) (F := fun u_ _ => u_ = .agg (bvs (rb 16 (tagF kk l)))) sb_st (ob_calS H (wanted_none rfl) rfl ⟨_, Tryd.func8, by kernel_rfl⟩ rfl (rtag_any kk W (bf_old hv H) (by omega))) rfl rfl rfl H ?_
    try clear H a W
    rintro _ a W rfl hR_ H
    clear hR_
    replace H : St 51 w a W [(28, .agg (bvs (rb 16 (tagF kk l)))), (27, .slice A n cap), (26, .agg (bvs (rb 32 kk))), (7, .int .i64 ((K : Nat) : Int)), (6, .bool false), (3, .pointer (some ⟨g1, 0, none⟩)), (1, .slice A n cap)] [(g1, 23, bvs (rb 32 kk))] := H
    refine pl_new (news_of rfl al_mark) rfl rfl rfl rfl H ?_
    try clear H a W
    intro g2 a W H
    refine pl_store rfl rfl rfl (k := 0) rfl (info_mark _) (size_rb _ _ _) (bvs_one _) rfl rfl H ?_
    try clear H a W
    intro a W H
    refine pl_end ?_
    replace H : St 51 w a W [(8, .pointer (some ⟨g2, 0, none⟩)), (7, .int .i64 ((K : Nat) : Int)), (6, .bool false), (3, .pointer (some ⟨g1, 0, none⟩)), (1, .slice A n cap)] [(g2, 26, bvs (rb 16 (tagF kk l))), (g1, 23, bvs (rb 32 kk))] := H.pick [0, 4, 5, 6, 7] [0, 1] rfl
    refine hK6 _ _ ?_
    clear hK6
    refine wp_seq_k (fun K7 hK7 => ?_)
    refine drawnR SB SB (⟨29, fun u_ _ => u_ = .agg (bvs (rb 32 kk)), [], none, false⟩ :: ⟨30, fun u_ _ => u_ = .slice A n cap, [], none, false⟩ :: ⟨31, LF [l], [1], none, false⟩ :: ⟨32, fun u_ _ => u_ = .agg (bvs (rb 16 (tagF kk l))), [0, 2], none, false⟩ :: ⟨33, fun u_ _ => u_ = .agg (bvs (rb 16 (tagF kk l))), [], none, false⟩ :: ⟨34, fun u_ _ => u_ = .bool true, [3, 4], none, false⟩ :: ⟨35, fun u_ _ => u_ = .bool true, [5], none, false⟩ :: ⟨36, fun u_ _ => u_ = .agg (bvs (rb 32 kk)), [6], none, false⟩ :: ⟨37, fun u_ _ => u_ = .slice A n cap, [6], none, false⟩ :: ⟨38, fun u_ _ => u_ = .int .i64 ((K : Nat) : Int), [6], none, false⟩ :: ⟨39, BF (l.take K), [8, 9, 6], none, false⟩ :: ⟨40, fun u_ _ => u_ = .slice A n cap, [6], none, false⟩ :: ⟨41, fun u_ _ => u_ = .int .i64 ((K : Nat) : Int), [6], none, false⟩ :: ⟨42, BF (l.drop K), [11, 12, 6], none, false⟩ :: ⟨43, LF [(l.take K), [], (l.drop K)], [10, 13, 6], none, false⟩ :: ⟨44, fun u_ _ => u_ = .agg (bvs (rb 16 (tagF kk l))), [7, 14, 6], none, false⟩ :: ⟨45, fun u_ _ => u_ = .agg (bvs (rb 16 (tagF kk l))), [6], none, false⟩ :: ⟨46, fun u_ _ => u_ = .bool true, [15, 16, 6], none, false⟩ :: ⟨47, fun u_ _ => u_ = .bool true, [6, 17], none, false⟩ :: ⟨48, fun u_ _ => u_ = .bool true, [18], none, false⟩ :: ⟨49, fun u_ _ => u_ = .bool true, [19], none, false⟩ :: ⟨50, fun u_ _ => u_ = .bool true, [19, 20], none, false⟩ :: []) (0 :: 0 :: 2 :: 5 :: 0 :: 24 :: 40 :: 64 :: 64 :: 64 :: 832 :: 64 :: 64 :: 6208 :: 9280 :: 16576 :: 64 :: 98368 :: 131136 :: 294912 :: 524288 :: 1572864 :: 4194303 :: []) [21] sb_st sb_st (by kernel_rfl) (by kernel_rfl) (by kernel_rfl) H ⟨⟨fun a W  H => by exact ob_valS H (wanted_none rfl) (does_load rfl rfl (k := 1) rfl Tryd.underlying23 rfl (info_key _)), val_grow, fun _ => val_grow⟩, ⟨fun a W  H => by exact ob_valS H (wanted_none rfl) (does_move rfl rfl), val_grow, fun _ => val_grow⟩, ⟨fun a W y1 hy1 H => by subst hy1; exact ob_rows1S H (wanted_none rfl) rfl rfl (bf_old hv H), LF.sb, fun _ => LF.sb⟩, ⟨fun a W y0 hy0 v31 hv31 H => by subst hy0; exact ob_calS H (wanted_none rfl) rfl ⟨_, Tryd.func9, by kernel_rfl⟩ rfl (tag_z (L := [l]) (by simp) (rfl) W (hpg.ext H.below) hv31.rf (by omega) (by simp)), val_grow, fun _ => val_grow⟩, ⟨fun a W  H => by exact ob_valS H (wanted_none rfl) (does_load rfl rfl (k := 0) rfl Tryd.underlying26 rfl (info_mark _)), val_grow, fun _ => val_grow⟩, ⟨fun a W y3 hy3 y4 hy4 H => by subst hy3; subst hy4; exact ob_valS H (wanted_none rfl) (does_binOp rfl rfl rfl (m_eql _ _ _)), val_grow, fun _ => val_grow⟩, ⟨fun a W y5 hy5 H => by subst hy5; exact ob_valS H (wanted_none rfl) (does_move rfl rfl), val_grow, fun _ => val_grow⟩, ⟨fun a W y6 hy6 H => by subst hy6; exact ob_valS H (wanted_some rfl rfl rfl rfl rfl) (does_load rfl rfl (k := 1) rfl Tryd.underlying23 rfl (info_key _)), val_grow, fun _ => val_grow⟩, ⟨fun a W y6 hy6 H => by subst hy6; exact ob_valS H (wanted_some rfl rfl rfl rfl rfl) (does_move rfl rfl), val_grow, fun _ => val_grow⟩, ⟨fun a W y6 hy6 H => by subst hy6; exact ob_valS H (wanted_some rfl rfl rfl rfl rfl) (does_move rfl rfl), val_grow, fun _ => val_grow⟩, ⟨fun a W y8 hy8 y9 hy9 y6 hy6 H => by subst hy8; subst hy9; subst hy6; exact ob_takeS (K := K) H (wanted_some rfl rfl rfl rfl rfl) rfl rfl rfl (bf_old hv H) (by omega), BF.sb, fun _ => BF.sb⟩, ⟨fun a W y6 hy6 H => by subst hy6; exact ob_valS H (wanted_some rfl rfl rfl rfl rfl) (does_move rfl rfl), val_grow, fun _ => val_grow⟩, ⟨fun a W y6 hy6 H => by subst hy6; exact ob_valS H (wanted_some rfl rfl rfl rfl rfl) (does_move rfl rfl), val_grow, fun _ => val_grow⟩, ⟨fun a W y11 hy11 y12 hy12 y6 hy6 H => by subst hy11; subst hy12; subst hy6; exact ob_dropS (K := K) H (wanted_some rfl rfl rfl rfl rfl) rfl rfl rfl (bf_old hv H) (by omega), BF.sb, fun _ => BF.sb⟩, ⟨fun a W v39 hv39 v42 hv42 y6 hy6 H => by subst hy6; exact ob_rows3S H (wanted_some rfl rfl rfl rfl rfl) rfl rfl rfl rfl hv39 (BF.nil _) hv42, LF.sb, fun _ => LF.sb⟩, ⟨fun a W y7 hy7 v43 hv43 y6 hy6 H => by subst hy7; subst hy6; exact ob_calS H (wanted_some rfl rfl rfl rfl rfl) rfl ⟨_, Tryd.func9, by kernel_rfl⟩ rfl (tag_z (L := [(l.take K), [], (l.drop K)]) (three_flat l K) (rfl) W (hpg.ext H.below) hv43.rf (by omega) (by simp)), val_grow, fun _ => val_grow⟩, ⟨fun a W y6 hy6 H => by subst hy6; exact ob_valS H (wanted_some rfl rfl rfl rfl rfl) (does_load rfl rfl (k := 0) rfl Tryd.underlying26 rfl (info_mark _)), val_grow, fun _ => val_grow⟩, ⟨fun a W y15 hy15 y16 hy16 y6 hy6 H => by subst hy15; subst hy16; subst hy6; exact ob_valS H (wanted_some rfl rfl rfl rfl rfl) (does_binOp rfl rfl rfl (m_eql _ _ _)), val_grow, fun _ => val_grow⟩, ⟨fun a W y6 hy6 y17 hy17 H => by subst hy6; subst hy17; exact ob_valS H (wanted_none rfl) (does_pick rfl rfl (fun _ => rfl) (fun hb => by cases hb)), val_grow, fun _ => val_grow⟩, ⟨fun a W y18 hy18 H => by subst hy18; exact ob_valS H (wanted_none rfl) (does_move rfl rfl), val_grow, fun _ => val_grow⟩, ⟨fun a W y19 hy19 H => by subst hy19; exact ob_calS H (wanted_some rfl rfl rfl rfl rfl) rfl ⟨_, Tryd.func7, by kernel_rfl⟩ rfl (known_any W (hpg.ext H.below)), val_grow, fun _ => val_grow⟩, ⟨fun a W y19 hy19 y20 hy20 H => by subst hy19; subst hy20; exact ob_valS H (wanted_none rfl) (does_pick rfl rfl (fun _ => rfl) (fun hb => by cases hb)), val_grow, fun _ => val_grow⟩, trivial⟩ (by kernel_rfl) ?_
    try clear H a W
    intro a W
    rintro _ rfl
    intro H
    replace H : St 51 w a W [(50, .bool true), (8, .pointer (some ⟨g2, 0, none⟩)), (7, .int .i64 ((K : Nat) : Int)), (6, .bool false), (3, .pointer (some ⟨g1, 0, none⟩)), (1, .slice A n cap)] [(g2, 26, bvs (rb 16 (tagF kk l))), (g1, 23, bvs (rb 32 kk))] := H
    replace H : St 51 w a W [(50, .bool true), (8, .pointer (some ⟨g2, 0, none⟩)), (7, .int .i64 ((K : Nat) : Int)), (3, .pointer (some ⟨g1, 0, none⟩)), (1, .slice A n cap)] [(g2, 26, bvs (rb 16 (tagF kk l))), (g1, 23, bvs (rb 32 kk))] := H.pick [0, 1, 2, 4, 5] [0, 1] rfl
    refine pl_does (does_assign rfl rfl) rfl rfl rfl rfl H ?_
    try clear H a W
    intro a W H
    refine pl_end ?_
    replace H : St 51 w a W [(6, .bool true)] [(g2, 26, bvs (rb 16 (tagF kk l))), (g1, 23, bvs (rb 32 kk))] := H.pick [0] [0, 1] rfl
    refine hK7 _ _ ?_
    clear hK7
    refine wp_ret ?_
    repeat (first | (with_reducible refine then_ret ?_) | (with_reducible refine blk_ret ?_))
    refine end_tmp (p := 6) rfl rfl H (fun hb => ?_)
    exact ⟨rfl, hb⟩
theorem updB_updB (f : Nat → UInt8) (a : Nat) (v u : UInt8) : updB (updB f a v) a u = updB f a u := funext fun i => by
  unfold updB
  cases Nat.beq i a <;> rfl
theorem zF_one {kk : Nat → UInt8} {k : Nat} (h : ¬ k % 4 = 3) : updB (mapB zF kk k) k 0 = mapB zF kk (k + 1) := by
  have e : zF k = 0 := if_neg h
  rw [← e]
  exact mapB_step zF kk k
theorem zF_two {kk : Nat → UInt8} {k : Nat} (h : k % 4 = 3) : updB (updB (mapB zF kk k) k 0) k 240 = mapB zF kk (k + 1) := by
  have e : zF k = 240 := if_pos h
  rw [updB_updB, ← e]
  exact mapB_step zF kk k
set_option maxHeartbeats 4000000 in
theorem law_noughts {A : Option Addr} {n cap : Nat} {l : List UInt8} (kk : Nat → UInt8) (w : World) (hpg : PG w) (hv : BF l (.slice A n cap) w) : Calls Tryd.prog 4 #[.agg (bvs (rb 32 kk)), .slice A n cap] w (fun rr w' => rr = .returned (.bool true) ∧ Below w.heap.size w w') := by
  have hn : l.length = n := by obtain ⟨A', n', c', e, hb⟩ := hv; injection e with e1 e2 e3; rw [e2]; exact hb.len
  obtain ⟨bl, hbl⟩ : ∃ b : Bool, decide (600 < n) = b := ⟨_, rfl⟩
  refine calls_st (vs := [.agg (bvs (rb 32 kk)), .slice A n cap]) 53 Tryd.func4 rfl Tryd.ntmps4 rfl (fun a W H => ?_)
  replace H : St 53 w a W [(0, .agg (bvs (rb 32 kk))), (1, .slice A n cap)] [] := H
  refine wp_seq_k (fun K1 hK1 => ?_)
  refine rg_plain ?_
  refine pl_box rfl rfl (bx_key kk) rfl rfl rfl rfl H ?_
  try clear H a W
  intro g1 a W H
  refine pl_does (does_assign rfl rfl) rfl rfl rfl rfl H ?_
  try clear H a W
  intro a W H
  refine pl_end ?_
  replace H : St 53 w a W [(4, .bool false), (2, .pointer (some ⟨g1, 0, none⟩)), (1, .slice A n cap)] [(g1, 23, bvs (rb 32 kk))] := H.pick [0, 1, 3] [0] rfl
  refine hK1 _ _ ?_
  clear hK1
  refine wp_seq_k (fun K2 hK2 => ?_)
  refine wp_seq_k (fun K3 hK3 => ?_)
  refine rg_plain ?_
  refine pl_does (does_move rfl rfl) rfl rfl rfl rfl H ?_
  try clear H a W
  intro a W H
  refine pl_does (does_len Tryd.underlying24 rfl rfl) rfl rfl rfl rfl H ?_
  try clear H a W
  intro a W H
  refine pl_does (does_binOp rfl rfl rfl (i_gtrB (k := n) (m := 600) hbl _ _)) rfl rfl rfl rfl H ?_
  try clear H a W
  intro a W H
  refine pl_end ?_
  replace H : St 53 w a W [(10, .bool bl), (4, .bool false), (2, .pointer (some ⟨g1, 0, none⟩)), (1, .slice A n cap)] [(g1, 23, bvs (rb 32 kk))] := H.pick [0, 3, 4, 5] [0] rfl
  refine hK3 _ _ ?_
  clear hK3
  cases bl with
  | true =>
    refine wp_cond_true (H.ev rfl) ?_
    refine wp_seq_k (fun K4 hK4 => ?_)
    refine rg_plain ?_
    refine pl_does (does_call rfl ⟨_, Tryd.func7, by kernel_rfl⟩ rfl (fun W hb => known_any W (hpg.ext hb))) rfl rfl rfl rfl H ?_
    try clear H a W
    intro a W H
    replace H : St 53 w a W [(11, .bool true), (10, .bool true), (2, .pointer (some ⟨g1, 0, none⟩)), (1, .slice A n cap)] [(g1, 23, bvs (rb 32 kk))] := H.pick [0, 1, 3, 4] [0] rfl
    refine pl_does (does_assign rfl rfl) rfl rfl rfl rfl H ?_
    try clear H a W
    intro a W H
    refine pl_end ?_
    replace H : St 53 w a W [(4, .bool true), (2, .pointer (some ⟨g1, 0, none⟩)), (1, .slice A n cap)] [(g1, 23, bvs (rb 32 kk))] := H.pick [0, 3, 4] [0] rfl
    refine hK4 _ _ ?_
    clear hK4
    refine wp_ret ?_
    repeat (first | (with_reducible refine then_ret ?_) | (with_reducible refine blk_ret ?_))
    refine end_tmp (p := 4) rfl rfl H (fun hb => ?_)
    exact ⟨rfl, hb⟩
  | false =>
    have hlim : n ≤ 600 := by have := of_decide_eq_false hbl; omega
    refine wp_cond_false (H.ev rfl) ?_
    refine wp_skip ?_
    refine hK2 _ _ ?_
    clear hK2
    refine wp_seq_k (fun K5 hK5 => ?_)
    refine rg_plain ?_
    refine pl_new (news_of rfl al_mark) rfl rfl rfl rfl H ?_
    try clear H a W
    intro g2 a W H
    refine pl_end ?_
    replace H : St 53 w a W [(5, .pointer (some ⟨g2, 0, none⟩)), (4, .bool false), (2, .pointer (some ⟨g1, 0, none⟩)), (1, .slice A n cap)] [(g2, 26, bvs (rb 16 b0s)), (g1, 23, bvs (rb 32 kk))] := H.pick [0, 2, 3, 4] [0, 1] rfl
    refine hK5 _ _ ?_
    clear hK5
    refine wp_seq_k (fun K6 hK6 => ?_)
    refine wp_seq_k (fun K7 hK7 => ?_)
    refine rg_plain ?_
    refine pl_does (does_assign rfl rfl) rfl rfl rfl rfl H ?_
    try clear H a W
    intro a W H
    refine pl_end ?_
    refine hK7 _ _ ?_
    clear hK7
    refine wp_block ?_
    replace H : St 53 w a W [(6, .int .i64 ((0 : Nat) : Int)), (5, .pointer (some ⟨g2, 0, none⟩)), (2, .pointer (some ⟨g1, 0, none⟩)), (1, .slice A n cap)] [(g2, 26, bvs (rb 16 (mapB (sF kk) b0s 0))), (g1, 23, bvs (rb 32 kk))] := H.pick [0, 1, 3, 4] [0, 1] rfl
    refine wp_rounds 16 (fun k a W => St 53 w a W [(6, .int .i64 ((k : Nat) : Int)), (5, .pointer (some ⟨g2, 0, none⟩)), (2, .pointer (some ⟨g1, 0, none⟩)), (1, .slice A n cap)] [(g2, 26, bvs (rb 16 (mapB (sF kk) b0s k))), (g1, 23, bvs (rb 32 kk))]) (k0 := 0) H (by omega) ?_
    try clear H a W
    intro k a W hk H
    by_cases hk2 : k < 16
    · refine wp_seq_k (fun K8 hK8 => ?_)
      refine wp_seq_k (fun K9 hK9 => ?_)
      refine rg_plain ?_
      refine pl_does (does_move rfl rfl) rfl rfl rfl rfl H ?_
      try clear H a W
      intro a W H
      refine pl_does (does_binOp rfl rfl rfl (i_lss_yes (k := k) (m := 16) (by omega) _ _)) rfl rfl rfl rfl H ?_
      try clear H a W
      intro a W H
      refine pl_end ?_
      refine hK9 _ _ ?_
      clear hK9
      refine wp_cond_true (H.ev rfl) ?_
      refine wp_skip ?_
      refine hK8 _ _ ?_
      clear hK8
      refine wp_seq_k (fun K10 hK10 => ?_)
      refine wp_block ?_
      refine rg_plain ?_
      refine pl_does (does_move rfl rfl) rfl rfl rfl rfl H ?_
      try clear H a W
      intro a W H
      refine pl_does (does_move rfl rfl) rfl rfl rfl rfl H ?_
      try clear H a W
      intro a W H
      refine pl_does (does_binOp rfl rfl rfl (i_addE (k := 16) (m := k) rfl (by omega) _ _)) rfl rfl rfl rfl H ?_
      try clear H a W
      intro a W H
      refine pl_does (does_indexAddr rfl rfl rfl (ia_key (j := (16 + k)) (by omega))) rfl rfl rfl rfl H ?_
      try clear H a W
      intro a W H
      refine pl_does (does_loadAt (v := bv (kk (16 + k))) rfl rfl (k := 1) rfl (ld_byte (by omega))) rfl rfl rfl rfl H ?_
      try clear H a W
      intro a W H
      refine pl_does (does_indexAddr rfl rfl rfl (ia_mark (j := k) (by omega))) rfl rfl rfl rfl H ?_
      try clear H a W
      intro a W H
      refine pl_storeAt rfl rfl rfl (k := 0) rfl (st_byte (n := 16) (x := kk (16 + k)) (by omega)) (sv_byte (mapB_step (sF kk) _ k)) rfl rfl H ?_
      try clear H a W
      intro a W H
      refine pl_end ?_
      refine blk_normal ?_
      refine hK10 _ _ ?_
      clear hK10
      refine rg_plain ?_
      refine pl_does (does_move rfl rfl) rfl rfl rfl rfl H ?_
      try clear H a W
      intro a W H
      refine pl_does (does_binOp rfl rfl rfl (i_addE (k := k) (m := 1) rfl (by omega) _ _)) rfl rfl rfl rfl H ?_
      try clear H a W
      intro a W H
      replace H : St 53 w a W [(15, .int .i64 ((k + 1 : Nat) : Int)), (14, .int .i64 ((k : Nat) : Int)), (21, .pointer (some ⟨g2, k, none⟩)), (20, bv (kk (16 + k))), (19, .pointer (some ⟨g1, 16 + k, none⟩)), (18, .int .i64 ((16 + k : Nat) : Int)), (17, .int .i64 ((k : Nat) : Int)), (16, .int .i64 ((k : Nat) : Int)), (13, .bool true), (12, .int .i64 ((k : Nat) : Int)), (5, .pointer (some ⟨g2, 0, none⟩)), (2, .pointer (some ⟨g1, 0, none⟩)), (1, .slice A n cap)] [(g2, 26, bvs (rb 16 (mapB (sF kk) b0s (k + 1)))), (g1, 23, bvs (rb 32 kk))] := H.pick [0, 1, 2, 3, 4, 5, 6, 7, 8, 9, 11, 12, 13] [0, 1] rfl
      refine pl_does (does_assign rfl rfl) rfl rfl rfl rfl H ?_
      try clear H a W
      intro a W H
      refine pl_end ?_
      refine ⟨k + 1, by omega, by omega, ?_⟩
      show St 53 w a W [(6, .int .i64 ((k + 1 : Nat) : Int)), (5, .pointer (some ⟨g2, 0, none⟩)), (2, .pointer (some ⟨g1, 0, none⟩)), (1, .slice A n cap)] [(g2, 26, bvs (rb 16 (mapB (sF kk) b0s (k + 1)))), (g1, 23, bvs (rb 32 kk))]
      exact H.pick [0, 11, 12, 13] [0, 1] rfl
    · obtain rfl : 16 = k := by omega
      refine wp_seq_k (fun K11 hK11 => ?_)
      refine wp_seq_k (fun K12 hK12 => ?_)
      refine rg_plain ?_
      refine pl_does (does_move rfl rfl) rfl rfl rfl rfl H ?_
      try clear H a W
      intro a W H
      refine pl_does (does_binOp rfl rfl rfl (i_lss_no (k := 16) (m := 16) (by omega) _ _)) rfl rfl rfl rfl H ?_
      try clear H a W
      intro a W H
      refine pl_end ?_
      replace H : St 53 w a W [(13, .bool false), (6, .int .i64 ((16 : Nat) : Int)), (5, .pointer (some ⟨g2, 0, none⟩)), (2, .pointer (some ⟨g1, 0, none⟩)), (1, .slice A n cap)] [(g2, 26, bvs (rb 16 (mapB (sF kk) b0s 16))), (g1, 23, bvs (rb 32 kk))] := H.pick [0, 2, 3, 4, 5] [0, 1] rfl
      refine hK12 _ _ ?_
      clear hK12
      refine wp_cond_false (H.ev rfl) ?_
      refine wp_exit ?_
      repeat (with_reducible refine then_exit ?_)
      refine blk_exit ?_
      rw [mapB_all] at H
      refine hK6 _ _ ?_
      clear hK6
      refine wp_seq_k (fun K13 hK13 => ?_)
      refine wp_seq_k (fun K14 hK14 => ?_)
      refine drawnR SB SB [⟨22, fun u_ _ => u_ = .agg (bvs (rb 32 kk)), [], none, false⟩, ⟨23, fun u_ _ => u_ = .agg (bvs (rb 16 (sF kk))), [0], none, false⟩, ⟨24, fun u_ _ => u_ = .agg (bvs (rb 16 (sF kk))), [], none, false⟩, ⟨25, fun u_ _ => u_ = .bool false, [1, 2], none, false⟩, ⟨26, fun u_ _ => u_ = .bool false, [3], none, false⟩, ⟨27, fun u_ _ => u_ = .agg (bvs (rb 32 kk)), [4], none, false⟩, ⟨28, LF [[], []], [4], none, false⟩, ⟨29, fun u_ _ => u_ = .agg (bvs (rb 16 (sF kk))), [5, 6, 4], none, false⟩, ⟨30, fun u_ _ => u_ = .agg (bvs (rb 16 (sF kk))), [4], none, false⟩, ⟨31, fun u_ _ => u_ = .bool false, [7, 8, 4], none, false⟩, ⟨32, fun u_ _ => u_ = .bool false, [4, 9], none, false⟩] [0, 1, 0, 6, 10, 16, 16, 112, 16, 400, 528] [10] sb_st sb_st (by kernel_rfl) (by kernel_rfl) (by kernel_rfl) H ⟨⟨fun a W  H => by exact ob_valS H (wanted_none rfl) (does_load rfl rfl (k := 1) rfl Tryd.underlying23 rfl (info_key _)), val_grow, fun _ => val_grow⟩, ⟨fun a W y0 hy0 H => by subst hy0; exact ob_calS H (wanted_none rfl) rfl ⟨_, Tryd.func9, by kernel_rfl⟩ rfl (tag_z (L := []) (rfl) (tag_nil kk) W (hpg.ext H.below) (RF.nil _) (by simp) (by simp)), val_grow, fun _ => val_grow⟩, ⟨fun a W  H => by exact ob_valS H (wanted_none rfl) (does_load rfl rfl (k := 0) rfl Tryd.underlying26 rfl (info_mark _)), val_grow, fun _ => val_grow⟩, ⟨fun a W y1 hy1 y2 hy2 H => by subst hy1; subst hy2; exact ob_valS H (wanted_none rfl) (does_binOp rfl rfl rfl (m_neq _ _ _)), val_grow, fun _ => val_grow⟩, ⟨fun a W y3 hy3 H => by subst hy3; exact ob_valS H (wanted_none rfl) (does_move rfl rfl), val_grow, fun _ => val_grow⟩, ⟨fun a W y4 hy4 H => by subst hy4; exact ob_valS H (wanted_some rfl rfl rfl rfl rfl) (does_load rfl rfl (k := 1) rfl Tryd.underlying23 rfl (info_key _)), val_grow, fun _ => val_grow⟩, ⟨fun a W y4 hy4 H => by subst hy4; exact ob_rows2S H (wanted_some rfl rfl rfl rfl rfl) rfl rfl rfl (BF.nil _) (BF.nil _), LF.sb, fun _ => LF.sb⟩, ⟨fun a W y5 hy5 v28 hv28 y4 hy4 H => by subst hy5; subst hy4; exact ob_calS H (wanted_some rfl rfl rfl rfl rfl) rfl ⟨_, Tryd.func9, by kernel_rfl⟩ rfl (tag_z (L := [[], []]) (rfl) (tag_nil kk) W (hpg.ext H.below) hv28.rf (by simp) (by simp)), val_grow, fun _ => val_grow⟩, ⟨fun a W y4 hy4 H => by subst hy4; exact ob_valS H (wanted_some rfl rfl rfl rfl rfl) (does_load rfl rfl (k := 0) rfl Tryd.underlying26 rfl (info_mark _)), val_grow, fun _ => val_grow⟩, ⟨fun a W y7 hy7 y8 hy8 y4 hy4 H => by subst hy7; subst hy8; subst hy4; exact ob_valS H (wanted_some rfl rfl rfl rfl rfl) (does_binOp rfl rfl rfl (m_neq _ _ _)), val_grow, fun _ => val_grow⟩, ⟨fun a W y4 hy4 y9 hy9 H => by subst hy4; subst hy9; exact ob_valS H (wanted_none rfl) (does_pick rfl rfl (fun hb => by cases hb) (fun _ => rfl)), val_grow, fun _ => val_grow⟩, trivial⟩ (by kernel_rfl) ?_
      try clear H a W
      intro a W
      rintro _ rfl
      intro H
      replace H : St 53 w a W [(32, .bool false), (13, .bool false), (6, .int .i64 ((16 : Nat) : Int)), (5, .pointer (some ⟨g2, 0, none⟩)), (2, .pointer (some ⟨g1, 0, none⟩)), (1, .slice A n cap)] [(g2, 26, bvs (rb 16 (sF kk))), (g1, 23, bvs (rb 32 kk))] := H
      refine pl_end ?_
      replace H : St 53 w a W [(32, .bool false), (5, .pointer (some ⟨g2, 0, none⟩)), (2, .pointer (some ⟨g1, 0, none⟩)), (1, .slice A n cap)] [(g2, 26, bvs (rb 16 (sF kk))), (g1, 23, bvs (rb 32 kk))] := H.pick [0, 3, 4, 5] [0, 1] rfl
      refine hK14 _ _ ?_
      clear hK14
      refine wp_cond_false (H.ev rfl) ?_
      refine wp_skip ?_
      refine hK13 _ _ ?_
      clear hK13
      refine wp_seq_k (fun K15 hK15 => ?_)
      refine wp_seq_k (fun K16 hK16 => ?_)
      refine rg_plain ?_
      refine pl_does (does_assign rfl rfl) rfl rfl rfl rfl H ?_
      try clear H a W
      intro a W H
      refine pl_end ?_
      replace H : St 53 w a W [(7, .int .i64 0), (5, .pointer (some ⟨g2, 0, none⟩)), (2, .pointer (some ⟨g1, 0, none⟩)), (1, .slice A n cap)] [(g2, 26, bvs (rb 16 (sF kk))), (g1, 23, bvs (rb 32 kk))] := H.pick [0, 2, 3, 4] [0, 1] rfl
      refine hK16 _ _ ?_
      clear hK16
      rw [← mapB_0 zF kk] at H
      refine wp_block ?_
      replace H : St 53 w a W [(7, .int .i64 ((0 : Nat) : Int)), (5, .pointer (some ⟨g2, 0, none⟩)), (2, .pointer (some ⟨g1, 0, none⟩)), (1, .slice A n cap)] [(g2, 26, bvs (rb 16 (sF kk))), (g1, 23, bvs (rb 32 (mapB zF kk 0)))] := H.pick [0, 1, 2, 3] [0, 1] rfl
      refine wp_rounds 16 (fun k a W => St 53 w a W [(7, .int .i64 ((k : Nat) : Int)), (5, .pointer (some ⟨g2, 0, none⟩)), (2, .pointer (some ⟨g1, 0, none⟩)), (1, .slice A n cap)] [(g2, 26, bvs (rb 16 (sF kk))), (g1, 23, bvs (rb 32 (mapB zF kk k)))]) (k0 := 0) H (by omega) ?_
      try clear H a W
      intro k a W hk H
      by_cases hk2 : k < 16
      · by_cases h3 : k % 4 = 3
        · refine wp_seq_k (fun K17 hK17 => ?_)
          refine wp_seq_k (fun K18 hK18 => ?_)
          refine rg_plain ?_
          refine pl_does (does_move rfl rfl) rfl rfl rfl rfl H ?_
          try clear H a W
          intro a W H
          refine pl_does (does_binOp rfl rfl rfl (i_lss_yes (k := k) (m := 16) (by omega) _ _)) rfl rfl rfl rfl H ?_
          try clear H a W
          intro a W H
          refine pl_end ?_
          refine hK18 _ _ ?_
          clear hK18
          refine wp_cond_true (H.ev rfl) ?_
          refine wp_skip ?_
          refine hK17 _ _ ?_
          clear hK17
          refine wp_seq_k (fun K19 hK19 => ?_)
          refine wp_block ?_
          refine wp_seq_k (fun K20 hK20 => ?_)
          refine rg_plain ?_
          refine pl_does (does_move rfl rfl) rfl rfl rfl rfl H ?_
          try clear H a W
          intro a W H
          refine pl_does (does_indexAddr rfl rfl rfl (ia_key (j := k) (by omega))) rfl rfl rfl rfl H ?_
          try clear H a W
          intro a W H
          refine pl_storeAt rfl rfl rfl (k := 1) rfl (st_byte (n := 32) (x := 0) (by omega)) (sv_byte rfl) rfl rfl H ?_
          try clear H a W
          intro a W H
          refine pl_end ?_
          refine hK20 _ _ ?_
          clear hK20
          refine wp_seq_k (fun K21 hK21 => ?_)
          refine rg_plain ?_
          refine pl_does (does_move rfl rfl) rfl rfl rfl rfl H ?_
          try clear H a W
          intro a W H
          refine pl_does (does_binOp rfl rfl rfl (i_remE (k := k) (m := 4) (r := k % 4) rfl (by omega) _ _)) rfl rfl rfl rfl H ?_
          try clear H a W
          intro a W H
          refine pl_does (does_binOp rfl rfl rfl (i_eqlB (k := k % 4) (m := 3) (decide_eq_true (by omega)) _ _)) rfl rfl rfl rfl H ?_
          try clear H a W
          intro a W H
          refine pl_end ?_
          refine hK21 _ _ ?_
          clear hK21
          refine wp_cond_true (H.ev rfl) ?_
          refine rg_plain ?_
          refine pl_does (does_move rfl rfl) rfl rfl rfl rfl H ?_
          try clear H a W
          intro a W H
          refine pl_does (does_indexAddr rfl rfl rfl (ia_key (j := k) (by omega))) rfl rfl rfl rfl H ?_
          try clear H a W
          intro a W H
          refine pl_storeAt rfl rfl rfl (k := 1) rfl (st_byte (n := 32) (x := 240) (by omega)) (sv_byte (zF_two h3)) rfl rfl H ?_
          try clear H a W
          intro a W H
          refine pl_end ?_
          refine blk_normal ?_
          refine hK19 _ _ ?_
          clear hK19
          refine rg_plain ?_
          refine pl_does (does_move rfl rfl) rfl rfl rfl rfl H ?_
          try clear H a W
          intro a W H
          refine pl_does (does_binOp rfl rfl rfl (i_addE (k := k) (m := 1) rfl (by omega) _ _)) rfl rfl rfl rfl H ?_
          try clear H a W
          intro a W H
          replace H : St 53 w a W [(36, .int .i64 ((k + 1 : Nat) : Int)), (35, .int .i64 ((k : Nat) : Int)), (43, .pointer (some ⟨g1, k, none⟩)), (42, .int .i64 ((k : Nat) : Int)), (41, .bool true), (40, .int .i64 ((k % 4 : Nat) : Int)), (39, .int .i64 ((k : Nat) : Int)), (38, .pointer (some ⟨g1, k, none⟩)), (37, .int .i64 ((k : Nat) : Int)), (34, .bool true), (33, .int .i64 ((k : Nat) : Int)), (5, .pointer (some ⟨g2, 0, none⟩)), (2, .pointer (some ⟨g1, 0, none⟩)), (1, .slice A n cap)] [(g2, 26, bvs (rb 16 (sF kk))), (g1, 23, bvs (rb 32 (mapB zF kk (k + 1))))] := H.pick [0, 1, 2, 3, 4, 5, 6, 7, 8, 9, 10, 12, 13, 14] [0, 1] rfl
          refine pl_does (does_assign rfl rfl) rfl rfl rfl rfl H ?_
          try clear H a W
          intro a W H
          refine pl_end ?_
          refine ⟨k + 1, by omega, by omega, ?_⟩
          show St 53 w a W [(7, .int .i64 ((k + 1 : Nat) : Int)), (5, .pointer (some ⟨g2, 0, none⟩)), (2, .pointer (some ⟨g1, 0, none⟩)), (1, .slice A n cap)] [(g2, 26, bvs (rb 16 (sF kk))), (g1, 23, bvs (rb 32 (mapB zF kk (k + 1))))]
          exact H.pick [0, 12, 13, 14] [0, 1] rfl
        · refine wp_seq_k (fun K22 hK22 => ?_)
          refine wp_seq_k (fun K23 hK23 => ?_)
          refine rg_plain ?_
          refine pl_does (does_move rfl rfl) rfl rfl rfl rfl H ?_
          try clear H a W
          intro a W H
          refine pl_does (does_binOp rfl rfl rfl (i_lss_yes (k := k) (m := 16) (by omega) _ _)) rfl rfl rfl rfl H ?_
          try clear H a W
          intro a W H
          refine pl_end ?_
          refine hK23 _ _ ?_
          clear hK23
          refine wp_cond_true (H.ev rfl) ?_
          refine wp_skip ?_
          refine hK22 _ _ ?_
          clear hK22
          refine wp_seq_k (fun K24 hK24 => ?_)
          refine wp_block ?_
          refine wp_seq_k (fun K25 hK25 => ?_)
          refine rg_plain ?_
          refine pl_does (does_move rfl rfl) rfl rfl rfl rfl H ?_
          try clear H a W
          intro a W H
          refine pl_does (does_indexAddr rfl rfl rfl (ia_key (j := k) (by omega))) rfl rfl rfl rfl H ?_
          try clear H a W
          intro a W H
          refine pl_storeAt rfl rfl rfl (k := 1) rfl (st_byte (n := 32) (x := 0) (by omega)) (sv_byte (zF_one h3)) rfl rfl H ?_
          try clear H a W
          intro a W H
          refine pl_end ?_
          refine hK25 _ _ ?_
          clear hK25
          refine wp_seq_k (fun K26 hK26 => ?_)
          refine rg_plain ?_
          refine pl_does (does_move rfl rfl) rfl rfl rfl rfl H ?_
          try clear H a W
          intro a W H
          refine pl_does (does_binOp rfl rfl rfl (i_remE (k := k) (m := 4) (r := k % 4) rfl (by omega) _ _)) rfl rfl rfl rfl H ?_
          try clear H a W
          intro a W H
          refine pl_does (does_binOp rfl rfl rfl (i_eqlB (k := k % 4) (m := 3) (decide_eq_false (by omega)) _ _)) rfl rfl rfl rfl H ?_
          try clear H a W
          intro a W H
          refine pl_end ?_
          refine hK26 _ _ ?_
          clear hK26
          refine wp_cond_false (H.ev rfl) ?_
          refine wp_skip ?_
          refine blk_normal ?_
          refine hK24 _ _ ?_
          clear hK24
          refine rg_plain ?_
          refine pl_does (does_move rfl rfl) rfl rfl rfl rfl H ?_
          try clear H a W
          intro a W H
          refine pl_does (does_binOp rfl rfl rfl (i_addE (k := k) (m := 1) rfl (by omega) _ _)) rfl rfl rfl rfl H ?_
          try clear H a W
          intro a W H
          replace H : St 53 w a W [(36, .int .i64 ((k + 1 : Nat) : Int)), (35, .int .i64 ((k : Nat) : Int)), (41, .bool false), (40, .int .i64 ((k % 4 : Nat) : Int)), (39, .int .i64 ((k : Nat) : Int)), (38, .pointer (some ⟨g1, k, none⟩)), (37, .int .i64 ((k : Nat) : Int)), (34, .bool true), (33, .int .i64 ((k : Nat) : Int)), (5, .pointer (some ⟨g2, 0, none⟩)), (2, .pointer (some ⟨g1, 0, none⟩)), (1, .slice A n cap)] [(g2, 26, bvs (rb 16 (sF kk))), (g1, 23, bvs (rb 32 (mapB zF kk (k + 1))))] := H.pick [0, 1, 2, 3, 4, 5, 6, 7, 8, 10, 11, 12] [0, 1] rfl
          refine pl_does (does_assign rfl rfl) rfl rfl rfl rfl H ?_
          try clear H a W
          intro a W H
          refine pl_end ?_
          refine ⟨k + 1, by omega, by omega, ?_⟩
          show St 53 w a W [(7, .int .i64 ((k + 1 : Nat) : Int)), (5, .pointer (some ⟨g2, 0, none⟩)), (2, .pointer (some ⟨g1, 0, none⟩)), (1, .slice A n cap)] [(g2, 26, bvs (rb 16 (sF kk))), (g1, 23, bvs (rb 32 (mapB zF kk (k + 1))))]
          exact H.pick [0, 10, 11, 12] [0, 1] rfl
      · obtain rfl : 16 = k := by omega
        refine wp_seq_k (fun K27 hK27 => ?_)
        refine wp_seq_k (fun K28 hK28 => ?_)
        refine rg_plain ?_
        refine pl_does (does_move rfl rfl) rfl rfl rfl rfl H ?_
        try clear H a W
        intro a W H
        refine pl_does (does_binOp rfl rfl rfl (i_lss_no (k := 16) (m := 16) (by omega) _ _)) rfl rfl rfl rfl H ?_
        try clear H a W
        intro a W H
        refine pl_end ?_
        replace H : St 53 w a W [(34, .bool false), (7, .int .i64 ((16 : Nat) : Int)), (5, .pointer (some ⟨g2, 0, none⟩)), (2, .pointer (some ⟨g1, 0, none⟩)), (1, .slice A n cap)] [(g2, 26, bvs (rb 16 (sF kk))), (g1, 23, bvs (rb 32 (mapB zF kk 16)))] := H.pick [0, 2, 3, 4, 5] [0, 1] rfl
        refine hK28 _ _ ?_
        clear hK28
        refine wp_cond_false (H.ev rfl) ?_
        refine wp_exit ?_
        repeat (with_reducible refine then_exit ?_)
        refine blk_exit ?_
        refine hK15 _ _ ?_
        clear hK15
        refine wp_seq_k (fun K29 hK29 => ?_)
        refine drawnR SB SB [⟨44, fun u_ _ => u_ = .agg (bvs (rb 32 (mapB zF kk 16))), [], none, false⟩, ⟨45, fun u_ _ => u_ = .slice A n cap, [], none, false⟩, ⟨46, LF [l], [1], none, false⟩, ⟨47, fun u_ _ => u_ = .agg (bvs (rb 16 (sF kk))), [0, 2], none, false⟩, ⟨48, fun u_ _ => u_ = .agg (bvs (rb 16 (sF kk))), [], none, false⟩, ⟨49, fun u_ _ => u_ = .bool true, [3, 4], none, false⟩, ⟨50, fun u_ _ => u_ = .bool true, [5], none, false⟩, ⟨51, fun u_ _ => u_ = .bool true, [6], none, false⟩, ⟨52, fun u_ _ => u_ = .bool true, [6, 7], none, false⟩] [0, 0, 2, 5, 0, 24, 40, 64, 192, 511] [8] sb_st sb_st (by kernel_rfl) (by kernel_rfl) (by kernel_rfl) H ⟨⟨fun a W  H => by exact ob_valS H (wanted_none rfl) (does_load rfl rfl (k := 1) rfl Tryd.underlying23 rfl (info_key _)), val_grow, fun _ => val_grow⟩, ⟨fun a W  H => by exact ob_valS H (wanted_none rfl) (does_move rfl rfl), val_grow, fun _ => val_grow⟩, ⟨fun a W y1 hy1 H => by subst hy1; exact ob_rows1S H (wanted_none rfl) rfl rfl (bf_old hv H), LF.sb, fun _ => LF.sb⟩, ⟨fun a W y0 hy0 v46 hv46 H => by subst hy0; exact ob_calS H (wanted_none rfl) rfl ⟨_, Tryd.func9, by kernel_rfl⟩ rfl (tag_z (L := [l]) (by simp) (tag_zero kk l) W (hpg.ext H.below) hv46.rf (by omega) (by simp)), val_grow, fun _ => val_grow⟩, ⟨fun a W  H => by exact ob_valS H (wanted_none rfl) (does_load rfl rfl (k := 0) rfl Tryd.underlying26 rfl (info_mark _)), val_grow, fun _ => val_grow⟩, ⟨fun a W y3 hy3 y4 hy4 H => by subst hy3; subst hy4; exact ob_valS H (wanted_none rfl) (does_binOp rfl rfl rfl (m_eql _ _ _)), val_grow, fun _ => val_grow⟩, ⟨fun a W y5 hy5 H => by subst hy5; exact ob_valS H (wanted_none rfl) (does_move rfl rfl), val_grow, fun _ => val_grow⟩, ⟨fun a W y6 hy6 H => by subst hy6; exact ob_calS H (wanted_some rfl rfl rfl rfl rfl) rfl ⟨_, Tryd.func7, by kernel_rfl⟩ rfl (known_any W (hpg.ext H.below)), val_grow, fun _ => val_grow⟩, ⟨fun a W y6 hy6 y7 hy7 H => by subst hy6; subst hy7; exact ob_valS H (wanted_none rfl) (does_pick rfl rfl (fun _ => rfl) (fun hb => by cases hb)), val_grow, fun _ => val_grow⟩, trivial⟩ (by kernel_rfl) ?_
        try clear H a W
        intro a W
        rintro _ rfl
        intro H
        replace H : St 53 w a W [(52, .bool true), (34, .bool false), (7, .int .i64 ((16 : Nat) : Int)), (5, .pointer (some ⟨g2, 0, none⟩)), (2, .pointer (some ⟨g1, 0, none⟩)), (1, .slice A n cap)] [(g2, 26, bvs (rb 16 (sF kk))), (g1, 23, bvs (rb 32 (mapB zF kk 16)))] := H
        refine pl_does (does_assign rfl rfl) rfl rfl rfl rfl H ?_
        try clear H a W
        intro a W H
        refine pl_end ?_
        replace H : St 53 w a W [(4, .bool true)] [(g2, 26, bvs (rb 16 (sF kk))), (g1, 23, bvs (rb 32 (mapB zF kk 16)))] := H.pick [0] [0, 1] rfl
        refine hK29 _ _ ?_
        clear hK29
        refine wp_ret ?_
        repeat (first | (with_reducible refine then_ret ?_) | (with_reducible refine blk_ret ?_))
        refine end_tmp (p := 4) rfl rfl H (fun hb => ?_)
        exact ⟨rfl, hb⟩
theorem equal_z {f g : Nat → UInt8} {b : Bool} (h : decide (rb 16 f = rb 16 g) = b) (w : World) : Calls Tryd.prog 10 #[.agg (bvs (rb 16 f)), .agg (bvs (rb 16 g))] w (fun rr w' => rr = .returned (.bool b) ∧ Below w.heap.size w w') := by
  subst h
  exact equal_any f g w
set_option maxHeartbeats 4000000 in
theorem law_equal (f g : Nat → UInt8) (w : World) (hpg : PG w) : Calls Tryd.prog 5 #[.agg (bvs (rb 16 f)), .agg (bvs (rb 16 g))] w (fun rr w' => rr = .returned (.bool true) ∧ Below w.heap.size w w') := by
  obtain ⟨be, hbe⟩ : ∃ b : Bool, decide (rb 16 f = rb 16 g) = b := ⟨_, rfl⟩
  refine calls_st (vs := [.agg (bvs (rb 16 f)), .agg (bvs (rb 16 g))]) 20 Tryd.func5 rfl Tryd.ntmps5 rfl (fun a W H => ?_)
  replace H : St 20 w a W [(0, .agg (bvs (rb 16 f))), (1, .agg (bvs (rb 16 g)))] [] := H
  refine wp_seq_k (fun K1 hK1 => ?_)
  refine rg_plain ?_
  refine pl_box rfl rfl (bx_mark f) rfl rfl rfl rfl H ?_
  try clear H a W
  intro g1 a W H
  refine pl_box rfl rfl (bx_mark g) rfl rfl rfl rfl H ?_
  try clear H a W
  intro g2 a W H
  refine pl_does (does_assign rfl rfl) rfl rfl rfl rfl H ?_
  try clear H a W
  intro a W H
  refine pl_end ?_
  replace H : St 20 w a W [(4, .bool false), (3, .pointer (some ⟨g2, 0, none⟩)), (2, .pointer (some ⟨g1, 0, none⟩))] [(g2, 26, bvs (rb 16 g)), (g1, 26, bvs (rb 16 f))] := H.pick [0, 1, 2] [0, 1] rfl
  refine hK1 _ _ ?_
  clear hK1
  refine wp_seq_k (fun K2 hK2 => ?_)
  replace H : St 20 w a W [(3, .pointer (some ⟨g2, 0, none⟩)), (2, .pointer (some ⟨g1, 0, none⟩))] [(g2, 26, bvs (rb 16 g)), (g1, 26, bvs (rb 16 f))] := H.pick [1, 2] [0, 1] rfl
  refine drawnS [.val 5 (.agg (bvs (rb 16 f))) [] [1], .val 6 (.agg (bvs (rb 16 g))) [] [0], .val 7 (.bool be) [0, 1] [], .val 8 (.agg (bvs (rb 16 f))) [] [1], .val 9 (.agg (bvs (rb 16 g))) [] [0], .val 10 (.bool be) [3, 4] [], .val 11 (.bool true) [2, 5] [], .val 12 (.bool true) [6] [], .val 13 (.agg (bvs (rb 16 f))) [7] [1], .val 14 (.agg (bvs (rb 16 f))) [7] [1], .val 15 (.bool true) [8, 9, 7] [], .val 16 (.bool true) [7, 10] [], .val 17 (.bool true) [11] [], .val 18 (.bool true) [12] [], .val 19 (.bool true) [12, 13] [], .val 4 (.bool true) [14] []] [0, 0, 3, 0, 0, 24, 36, 68, 128, 128, 896, 1152, 3072, 4096, 12288, 32767] (by kernel_rfl) (by kernel_rfl) (by kernel_rfl) H ⟨⟨does_load rfl rfl (k := 0) rfl Tryd.underlying26 rfl (info_mark _), wanted_none rfl⟩, ⟨does_load rfl rfl (k := 0) rfl Tryd.underlying26 rfl (info_mark _), wanted_none rfl⟩, ⟨does_call rfl ⟨_, Tryd.func10, by kernel_rfl⟩ rfl (fun W hb => equal_z hbe W), wanted_none rfl⟩, ⟨does_load rfl rfl (k := 0) rfl Tryd.underlying26 rfl (info_mark _), wanted_none rfl⟩, ⟨does_load rfl rfl (k := 0) rfl Tryd.underlying26 rfl (info_mark _), wanted_none rfl⟩, ⟨does_binOp rfl rfl rfl (m_eqlB hbe _ _), wanted_none rfl⟩, ⟨does_binOp rfl rfl rfl (s_bool _ _ _), wanted_none rfl⟩, ⟨does_move rfl rfl, wanted_none rfl⟩, ⟨does_load rfl rfl (k := 0) rfl Tryd.underlying26 rfl (info_mark _), wanted_some rfl rfl rfl rfl rfl⟩, ⟨does_load rfl rfl (k := 0) rfl Tryd.underlying26 rfl (info_mark _), wanted_some rfl rfl rfl rfl rfl⟩, ⟨does_call rfl ⟨_, Tryd.func10, by kernel_rfl⟩ rfl (fun W hb => equal_z (decide_eq_true rfl) W), wanted_some rfl rfl rfl rfl rfl⟩, ⟨does_pick rfl rfl (fun _ => rfl) (fun hb => by cases hb), wanted_none rfl⟩, ⟨does_move rfl rfl, wanted_none rfl⟩, ⟨does_call rfl ⟨_, Tryd.func7, by kernel_rfl⟩ rfl (fun W hb => known_any W (hpg.ext hb)), wanted_some rfl rfl rfl rfl rfl⟩, ⟨does_pick rfl rfl (fun _ => rfl) (fun hb => by cases hb), wanted_none rfl⟩, ⟨does_assign rfl rfl, wanted_none rfl⟩, trivial⟩ ?_
  try clear H a W
  intro G3 a W H
  replace H : St 20 w a W [(5, .agg (bvs (rb 16 f))), (6, .agg (bvs (rb 16 g))), (7, .bool be), (8, .agg (bvs (rb 16 f))), (9, .agg (bvs (rb 16 g))), (10, .bool be), (11, .bool true), (12, .bool true), (13, .agg (bvs (rb 16 f))), (14, .agg (bvs (rb 16 f))), (15, .bool true), (16, .bool true), (17, .bool true), (18, .bool true), (19, .bool true), (4, .bool true), (3, .pointer (some ⟨g2, 0, none⟩)), (2, .pointer (some ⟨g1, 0, none⟩))] [(g2, 26, bvs (rb 16 g)), (g1, 26, bvs (rb 16 f))] := H
  replace H : St 20 w a W [(4, .bool true)] [(g2, 26, bvs (rb 16 g)), (g1, 26, bvs (rb 16 f))] := H.pick [15] [0, 1] rfl
  refine hK2 _ _ ?_
  clear hK2
  refine wp_ret ?_
  repeat (first | (with_reducible refine then_ret ?_) | (with_reducible refine blk_ret ?_))
  refine end_tmp (p := 4) rfl rfl H (fun hb => ?_)
  exact ⟨rfl, hb⟩
set_option maxHeartbeats 4000000 in
theorem law_sums {A : Option Addr} {n cap : Nat} {l : List UInt8} (kk ss : Nat → UInt8) (w : World) (hpg : PG w) (hv : BF l (.slice A n cap) w) : Calls Tryd.prog 6 #[.agg (bvs (rb 32 kk)), .agg (bvs (rb 16 ss)), .slice A n cap] w (fun rr w' => rr = .returned (.bool true) ∧ Below w.heap.size w w') := by
  have hn : l.length = n := by obtain ⟨A', n', c', e, hb⟩ := hv; injection e with e1 e2 e3; rw [e2]; exact hb.len
  obtain ⟨bl, hbl⟩ : ∃ b : Bool, decide (300 < n) = b := ⟨_, rfl⟩
  refine calls_st (vs := [.agg (bvs (rb 32 kk)), .agg (bvs (rb 16 ss)), .slice A n cap]) 74 Tryd.func6 rfl Tryd.ntmps6 rfl (fun a W H => ?_)
  replace H : St 74 w a W [(0, .agg (bvs (rb 32 kk))), (1, .agg (bvs (rb 16 ss))), (2, .slice A n cap)] [] := H
  refine wp_seq_k (fun K1 hK1 => ?_)
  refine rg_plain ?_
  refine pl_box rfl rfl (bx_key kk) rfl rfl rfl rfl H ?_
  try clear H a W
  intro g1 a W H
  refine pl_box rfl rfl (bx_mark ss) rfl rfl rfl rfl H ?_
  try clear H a W
  intro g2 a W H
  refine pl_does (does_assign rfl rfl) rfl rfl rfl rfl H ?_
  try clear H a W
  intro a W H
  refine pl_end ?_
  replace H : St 74 w a W [(6, .bool false), (4, .pointer (some ⟨g2, 0, none⟩)), (3, .pointer (some ⟨g1, 0, none⟩)), (2, .slice A n cap)] [(g2, 26, bvs (rb 16 ss)), (g1, 23, bvs (rb 32 kk))] := H.pick [0, 1, 2, 5] [0, 1] rfl
  refine hK1 _ _ ?_
  clear hK1
  refine wp_seq_k (fun K2 hK2 => ?_)
  refine wp_seq_k (fun K3 hK3 => ?_)
  refine rg_plain ?_
  refine pl_does (does_move rfl rfl) rfl rfl rfl rfl H ?_
  try clear H a W
  intro a W H
  refine pl_does (does_len Tryd.underlying24 rfl rfl) rfl rfl rfl rfl H ?_
  try clear H a W
  intro a W H
  refine pl_does (does_binOp rfl rfl rfl (i_gtrB (k := n) (m := 300) hbl _ _)) rfl rfl rfl rfl H ?_
  try clear H a W
  intro a W H
  refine pl_end ?_
  replace H : St 74 w a W [(16, .bool bl), (6, .bool false), (4, .pointer (some ⟨g2, 0, none⟩)), (3, .pointer (some ⟨g1, 0, none⟩)), (2, .slice A n cap)] [(g2, 26, bvs (rb 16 ss)), (g1, 23, bvs (rb 32 kk))] := H.pick [0, 3, 4, 5, 6] [0, 1] rfl
  refine hK3 _ _ ?_
  clear hK3
  cases bl with
  | true =>
    refine wp_cond_true (H.ev rfl) ?_
    refine wp_seq_k (fun K4 hK4 => ?_)
    refine rg_plain ?_
    refine pl_does (does_call rfl ⟨_, Tryd.func7, by kernel_rfl⟩ rfl (fun W hb => known_any W (hpg.ext hb))) rfl rfl rfl rfl H ?_
    try clear H a W
    intro a W H
    replace H : St 74 w a W [(17, .bool true), (16, .bool true), (4, .pointer (some ⟨g2, 0, none⟩)), (3, .pointer (some ⟨g1, 0, none⟩)), (2, .slice A n cap)] [(g2, 26, bvs (rb 16 ss)), (g1, 23, bvs (rb 32 kk))] := H.pick [0, 1, 3, 4, 5] [0, 1] rfl
    refine pl_does (does_assign rfl rfl) rfl rfl rfl rfl H ?_
    try clear H a W
    intro a W H
    refine pl_end ?_
    replace H : St 74 w a W [(6, .bool true), (4, .pointer (some ⟨g2, 0, none⟩)), (3, .pointer (some ⟨g1, 0, none⟩)), (2, .slice A n cap)] [(g2, 26, bvs (rb 16 ss)), (g1, 23, bvs (rb 32 kk))] := H.pick [0, 3, 4, 5] [0, 1] rfl
    refine hK4 _ _ ?_
    clear hK4
    refine wp_ret ?_
    repeat (first | (with_reducible refine then_ret ?_) | (with_reducible refine blk_ret ?_))
    refine end_tmp (p := 6) rfl rfl H (fun hb => ?_)
    exact ⟨rfl, hb⟩
  | false =>
    have hlim : n ≤ 300 := by have := of_decide_eq_false hbl; omega
    refine wp_cond_false (H.ev rfl) ?_
    refine wp_skip ?_
    refine hK2 _ _ ?_
    clear hK2
    refine wp_seq_k (fun K5 hK5 => ?_)
    refine rg_plain ?_
    refine pl_does (does_load rfl rfl (k := 1) rfl Tryd.underlying23 rfl (info_key _)) rfl rfl rfl rfl H ?_
    try clear H a W
    intro a W H
    refine pl_does (does_move rfl rfl) rfl rfl rfl rfl H ?_
    try clear H a W
    intro a W H
    refine pl_R (R := SB) (F := LF [l]) sb_st (ob_rows1S H (wanted_none rfl) rfl rfl (bf_old hv H)) rfl rfl rfl H ?_
    try clear H a W
    intro v20 a W hv20 hR_ H
    clear hR_
    replace H : St 74 w a W [(20, v20), (19, .slice A n cap), (18, .agg (bvs (rb 32 kk))), (16, .bool false), (6, .bool false), (4, .pointer (some ⟨g2, 0, none⟩)), (3, .pointer (some ⟨g1, 0, none⟩)), (2, .slice A n cap)] [(g2, 26, bvs (rb 16 ss)), (g1, 23, bvs (rb 32 kk))] := H
    refine pl_R (R := SB) (F := fun u_ _ => u_ = .agg (bvs (rb 16 (tagF kk l)))) sb_st (ob_calS H (wanted_none rfl) rfl ⟨_, Tryd.func9, by kernel_rfl⟩ rfl (tag_z (L := [l]) (by simp) (rfl) W (hpg.ext H.below) hv20.rf (by omega) (by simp))) rfl rfl rfl H ?_
    try clear H a
    rintro _ a W rfl hR_ H
    replace hv20 := LF.sb _ _ _ hv20 hR_
    clear hR_
    replace H : St 74 w a W [(21, .agg (bvs (rb 16 (tagF kk l)))), (20, v20), (19, .slice A n cap), (18, .agg (bvs (rb 32 kk))), (16, .bool false), (6, .bool false), (4, .pointer (some ⟨g2, 0, none⟩)), (3, .pointer (some ⟨g1, 0, none⟩)), (2, .slice A n cap)] [(g2, 26, bvs (rb 16 ss)), (g1, 23, bvs (rb 32 kk))] := H
    replace H : St 74 w a W [(21, .agg (bvs (rb 16 (tagF kk l)))), (19, .slice A n cap), (18, .agg (bvs (rb 32 kk))), (16, .bool false), (6, .bool false), (4, .pointer (some ⟨g2, 0, none⟩)), (3, .pointer (some ⟨g1, 0, none⟩)), (2, .slice A n cap)] [(g2, 26, bvs (rb 16 ss)), (g1, 23, bvs (rb 32 kk))] := H.pick [0, 2, 3, 4, 5, 6, 7, 8] [0, 1] rfl
    refine pl_new (news_of rfl al_mark) rfl rfl rfl rfl H ?_
    try clear H a W
    intro g3 a W H
    refine pl_store rfl rfl rfl (k := 0) rfl (info_mark _) (size_rb _ _ _) (bvs_one _) rfl rfl H ?_
    try clear H a W
    intro a W H
    refine pl_end ?_
    replace H : St 74 w a W [(7, .pointer (some ⟨g3, 0, none⟩)), (6, .bool false), (4, .pointer (some ⟨g2, 0, none⟩)), (3, .pointer (some ⟨g1, 0, none⟩)), (2, .slice A n cap)] [(g3, 26, bvs (rb 16 (tagF kk l))), (g2, 26, bvs (rb 16 ss)), (g1, 23, bvs (rb 32 kk))] := H.pick [0, 5, 6, 7, 8] [0, 1, 2] rfl
    refine hK5 _ _ ?_
    clear hK5
    refine wp_seq_k (fun K6 hK6 => ?_)
    refine rg_plain ?_
    refine pl_does (does_load rfl rfl (k := 2) rfl Tryd.underlying23 rfl (info_key _)) rfl rfl rfl rfl H ?_
    try clear H a W
    intro a W H
    refine pl_new (news_of rfl al_key) rfl rfl rfl rfl H ?_
    try clear H a W
    intro g4 a W H
    refine pl_store rfl rfl rfl (k := 0) rfl (info_key _) (size_rb _ _ _) (bvs_one _) rfl rfl H ?_
    try clear H a W
    intro a W H
    refine pl_end ?_
    replace H : St 74 w a W [(8, .pointer (some ⟨g4, 0, none⟩)), (7, .pointer (some ⟨g3, 0, none⟩)), (6, .bool false), (4, .pointer (some ⟨g2, 0, none⟩)), (3, .pointer (some ⟨g1, 0, none⟩)), (2, .slice A n cap)] [(g4, 23, bvs (rb 32 kk)), (g3, 26, bvs (rb 16 (tagF kk l))), (g2, 26, bvs (rb 16 ss)), (g1, 23, bvs (rb 32 kk))] := H.pick [0, 2, 3, 4, 5, 6] [0, 1, 2, 3] rfl
    refine hK6 _ _ ?_
    clear hK6
    refine wp_seq_k (fun K7 hK7 => ?_)
    refine wp_seq_k (fun K8 hK8 => ?_)
    refine rg_plain ?_
    refine pl_does (does_assign rfl rfl) rfl rfl rfl rfl H ?_
    try clear H a W
    intro a W H
    refine pl_end ?_
    refine hK8 _ _ ?_
    clear hK8
    have hot : bvs (rb 32 (otF kk ss 0)) = bvs (rb 32 kk) := by rw [otF_0]
    replace H : St 74 w a W [(9, .int .i64 0), (8, .pointer (some ⟨g4, 0, none⟩)), (7, .pointer (some ⟨g3, 0, none⟩)), (6, .bool false), (4, .pointer (some ⟨g2, 0, none⟩)), (3, .pointer (some ⟨g1, 0, none⟩)), (2, .slice A n cap)] [(g4, 23, bvs (rb 32 (otF kk ss 0))), (g3, 26, bvs (rb 16 (tagF kk l))), (g2, 26, bvs (rb 16 ss)), (g1, 23, bvs (rb 32 kk))] := by rw [hot]; exact H
    refine wp_block ?_
    replace H : St 74 w a W [(9, .int .i64 ((0 : Nat) : Int)), (8, .pointer (some ⟨g4, 0, none⟩)), (7, .pointer (some ⟨g3, 0, none⟩)), (4, .pointer (some ⟨g2, 0, none⟩)), (3, .pointer (some ⟨g1, 0, none⟩)), (2, .slice A n cap)] [(g4, 23, bvs (rb 32 (otF kk ss 0))), (g3, 26, bvs (rb 16 (tagF kk l))), (g2, 26, bvs (rb 16 ss)), (g1, 23, bvs (rb 32 kk))] := H.pick [0, 1, 2, 4, 5, 6] [0, 1, 2, 3] rfl
    refine wp_rounds 16 (fun k a W => St 74 w a W [(9, .int .i64 ((k : Nat) : Int)), (8, .pointer (some ⟨g4, 0, none⟩)), (7, .pointer (some ⟨g3, 0, none⟩)), (4, .pointer (some ⟨g2, 0, none⟩)), (3, .pointer (some ⟨g1, 0, none⟩)), (2, .slice A n cap)] [(g4, 23, bvs (rb 32 (otF kk ss k))), (g3, 26, bvs (rb 16 (tagF kk l))), (g2, 26, bvs (rb 16 ss)), (g1, 23, bvs (rb 32 kk))]) (k0 := 0) H (by omega) ?_
    try clear H a W
    intro k a W hk H
    by_cases hk2 : k < 16
    · refine wp_seq_k (fun K9 hK9 => ?_)
      refine wp_seq_k (fun K10 hK10 => ?_)
      refine rg_plain ?_
      refine pl_does (does_move rfl rfl) rfl rfl rfl rfl H ?_
      try clear H a W
      intro a W H
      refine pl_does (does_binOp rfl rfl rfl (i_lss_yes (k := k) (m := 16) (by omega) _ _)) rfl rfl rfl rfl H ?_
      try clear H a W
      intro a W H
      refine pl_end ?_
      refine hK10 _ _ ?_
      clear hK10
      refine wp_cond_true (H.ev rfl) ?_
      refine wp_skip ?_
      refine hK9 _ _ ?_
      clear hK9
      refine wp_seq_k (fun K11 hK11 => ?_)
      refine wp_block ?_
      refine rg_plain ?_
      refine pl_does (does_move rfl rfl) rfl rfl rfl rfl H ?_
      try clear H a W
      intro a W H
      refine pl_does (does_binOp rfl rfl rfl (i_addE (k := 16) (m := k) (r := 16 + k) rfl (by omega) _ _)) rfl rfl rfl rfl H ?_
      try clear H a W
      intro a W H
      refine pl_does (does_move rfl rfl) rfl rfl rfl rfl H ?_
      try clear H a W
      intro a W H
      refine pl_does (does_indexAddr rfl rfl rfl (ia_mark (j := k) (by omega))) rfl rfl rfl rfl H ?_
      try clear H a W
      intro a W H
      refine pl_does (does_loadAt (v := bv (ss k)) rfl rfl (k := 2) rfl (ld_byte (by omega))) rfl rfl rfl rfl H ?_
      try clear H a W
      intro a W H
      refine pl_does (does_indexAddr rfl rfl rfl (ia_key (j := (16 + k)) (by omega))) rfl rfl rfl rfl H ?_
      try clear H a W
      intro a W H
      refine pl_storeAt rfl rfl rfl (k := 0) rfl (st_byte (n := 32) (x := ss k) (by omega)) (sv_byte (otF_step kk ss k)) rfl rfl H ?_
      try clear H a W
      intro a W H
      refine pl_end ?_
      refine blk_normal ?_
      refine hK11 _ _ ?_
      clear hK11
      refine rg_plain ?_
      refine pl_does (does_move rfl rfl) rfl rfl rfl rfl H ?_
      try clear H a W
      intro a W H
      refine pl_does (does_binOp rfl rfl rfl (i_addE (k := k) (m := 1) rfl (by omega) _ _)) rfl rfl rfl rfl H ?_
      try clear H a W
      intro a W H
      replace H : St 74 w a W [(26, .int .i64 ((k + 1 : Nat) : Int)), (25, .int .i64 ((k : Nat) : Int)), (32, .pointer (some ⟨g4, 16 + k, none⟩)), (31, bv (ss k)), (30, .pointer (some ⟨g2, k, none⟩)), (29, .int .i64 ((k : Nat) : Int)), (28, .int .i64 ((16 + k : Nat) : Int)), (27, .int .i64 ((k : Nat) : Int)), (24, .bool true), (23, .int .i64 ((k : Nat) : Int)), (8, .pointer (some ⟨g4, 0, none⟩)), (7, .pointer (some ⟨g3, 0, none⟩)), (4, .pointer (some ⟨g2, 0, none⟩)), (3, .pointer (some ⟨g1, 0, none⟩)), (2, .slice A n cap)] [(g4, 23, bvs (rb 32 (otF kk ss (k + 1)))), (g3, 26, bvs (rb 16 (tagF kk l))), (g2, 26, bvs (rb 16 ss)), (g1, 23, bvs (rb 32 kk))] := H.pick [0, 1, 2, 3, 4, 5, 6, 7, 8, 9, 11, 12, 13, 14, 15] [0, 1, 2, 3] rfl
      refine pl_does (does_assign rfl rfl) rfl rfl rfl rfl H ?_
      try clear H a W
      intro a W H
      refine pl_end ?_
      refine ⟨k + 1, by omega, by omega, ?_⟩
      show St 74 w a W [(9, .int .i64 ((k + 1 : Nat) : Int)), (8, .pointer (some ⟨g4, 0, none⟩)), (7, .pointer (some ⟨g3, 0, none⟩)), (4, .pointer (some ⟨g2, 0, none⟩)), (3, .pointer (some ⟨g1, 0, none⟩)), (2, .slice A n cap)] [(g4, 23, bvs (rb 32 (otF kk ss (k + 1)))), (g3, 26, bvs (rb 16 (tagF kk l))), (g2, 26, bvs (rb 16 ss)), (g1, 23, bvs (rb 32 kk))]
      exact H.pick [0, 11, 12, 13, 14, 15] [0, 1, 2, 3] rfl
    · obtain rfl : 16 = k := by omega
      refine wp_seq_k (fun K12 hK12 => ?_)
      refine wp_seq_k (fun K13 hK13 => ?_)
      refine rg_plain ?_
      refine pl_does (does_move rfl rfl) rfl rfl rfl rfl H ?_
      try clear H a W
      intro a W H
      refine pl_does (does_binOp rfl rfl rfl (i_lss_no (k := 16) (m := 16) (by omega) _ _)) rfl rfl rfl rfl H ?_
      try clear H a W
      intro a W H
      refine pl_end ?_
      replace H : St 74 w a W [(24, .bool false), (9, .int .i64 ((16 : Nat) : Int)), (8, .pointer (some ⟨g4, 0, none⟩)), (7, .pointer (some ⟨g3, 0, none⟩)), (4, .pointer (some ⟨g2, 0, none⟩)), (3, .pointer (some ⟨g1, 0, none⟩)), (2, .slice A n cap)] [(g4, 23, bvs (rb 32 (otF kk ss 16))), (g3, 26, bvs (rb 16 (tagF kk l))), (g2, 26, bvs (rb 16 ss)), (g1, 23, bvs (rb 32 kk))] := H.pick [0, 2, 3, 4, 5, 6, 7] [0, 1, 2, 3] rfl
      refine hK13 _ _ ?_
      clear hK13
      refine wp_cond_false (H.ev rfl) ?_
      refine wp_exit ?_
      repeat (with_reducible refine then_exit ?_)
      refine blk_exit ?_
      refine hK7 _ _ ?_
      clear hK7
      refine wp_seq_k (fun K14 hK14 => ?_)
      refine rg_plain ?_
      refine pl_does (does_load rfl rfl (k := 0) rfl Tryd.underlying23 rfl (info_key _)) rfl rfl rfl rfl H ?_
      try clear H a W
      intro a W H
      refine pl_does (does_move rfl rfl) rfl rfl rfl rfl H ?_
      try clear H a W
      intro a W H
      refine pl_R (R := SB) (F := LF [l]) sb_st (ob_rows1S H (wanted_none rfl) rfl rfl (bf_old hv H)) rfl rfl rfl H ?_
      try clear H a W
      intro v35 a W hv35 hR_ H
      clear hR_
      replace H : St 74 w a W [(35, v35), (34, .slice A n cap), (33, .agg (bvs (rb 32 (otF kk ss 16)))), (24, .bool false), (9, .int .i64 ((16 : Nat) : Int)), (8, .pointer (some ⟨g4, 0, none⟩)), (7, .pointer (some ⟨g3, 0, none⟩)), (4, .pointer (some ⟨g2, 0, none⟩)), (3, .pointer (some ⟨g1, 0, none⟩)), (2, .slice A n cap)] [(g4, 23, bvs (rb 32 (otF kk ss 16))), (g3, 26, bvs (rb 16 (tagF kk l))), (g2, 26, bvs (rb 16 ss)), (g1, 23, bvs (rb 32 kk))] := H
      refine pl_R (R := SB) (F := fun u_ _ => u_ = .agg (bvs (rb 16 (tagF (otF kk ss 16) l)))) sb_st (ob_calS H (wanted_none rfl) rfl ⟨_, Tryd.func9, by kernel_rfl⟩ rfl (tag_z (L := [l]) (by simp) (rfl) W (hpg.ext H.below) hv35.rf (by omega) (by simp))) rfl rfl rfl H ?_
      try clear H a
      rintro _ a W rfl hR_ H
      replace hv35 := LF.sb _ _ _ hv35 hR_
      clear hR_
      replace H : St 74 w a W [(36, .agg (bvs (rb 16 (tagF (otF kk ss 16) l)))), (35, v35), (34, .slice A n cap), (33, .agg (bvs (rb 32 (otF kk ss 16)))), (24, .bool false), (9, .int .i64 ((16 : Nat) : Int)), (8, .pointer (some ⟨g4, 0, none⟩)), (7, .pointer (some ⟨g3, 0, none⟩)), (4, .pointer (some ⟨g2, 0, none⟩)), (3, .pointer (some ⟨g1, 0, none⟩)), (2, .slice A n cap)] [(g4, 23, bvs (rb 32 (otF kk ss 16))), (g3, 26, bvs (rb 16 (tagF kk l))), (g2, 26, bvs (rb 16 ss)), (g1, 23, bvs (rb 32 kk))] := H
      replace H : St 74 w a W [(36, .agg (bvs (rb 16 (tagF (otF kk ss 16) l)))), (34, .slice A n cap), (33, .agg (bvs (rb 32 (otF kk ss 16)))), (24, .bool false), (9, .int .i64 ((16 : Nat) : Int)), (8, .pointer (some ⟨g4, 0, none⟩)), (7, .pointer (some ⟨g3, 0, none⟩)), (4, .pointer (some ⟨g2, 0, none⟩)), (3, .pointer (some ⟨g1, 0, none⟩)), (2, .slice A n cap)] [(g4, 23, bvs (rb 32 (otF kk ss 16))), (g3, 26, bvs (rb 16 (tagF kk l))), (g2, 26, bvs (rb 16 ss)), (g1, 23, bvs (rb 32 kk))] := H.pick [0, 2, 3, 4, 5, 6, 7, 8, 9, 10] [0, 1, 2, 3] rfl
      refine pl_new (news_of rfl al_mark) rfl rfl rfl rfl H ?_
      try clear H a W
      intro g5 a W H
      refine pl_store rfl rfl rfl (k := 0) rfl (info_mark _) (size_rb _ _ _) (bvs_one _) rfl rfl H ?_
      try clear H a W
      intro a W H
      refine pl_end ?_
      replace H : St 74 w a W [(10, .pointer (some ⟨g5, 0, none⟩)), (7, .pointer (some ⟨g3, 0, none⟩)), (4, .pointer (some ⟨g2, 0, none⟩)), (3, .pointer (some ⟨g1, 0, none⟩))] [(g5, 26, bvs (rb 16 (tagF (otF kk ss 16) l))), (g4, 23, bvs (rb 32 (otF kk ss 16))), (g3, 26, bvs (rb 16 (tagF kk l))), (g2, 26, bvs (rb 16 ss)), (g1, 23, bvs (rb 32 kk))] := H.pick [0, 7, 8, 9] [0, 1, 2, 3, 4] rfl
      refine hK14 _ _ ?_
      clear hK14
      refine wp_seq_k (fun K15 hK15 => ?_)
      refine rg_plain ?_
      refine pl_does (does_assign rfl rfl) rfl rfl rfl rfl H ?_
      try clear H a W
      intro a W H
      refine pl_does (does_assign rfl rfl) rfl rfl rfl rfl H ?_
      try clear H a W
      intro a W H
      refine pl_end ?_
      refine hK15 _ _ ?_
      clear hK15
      refine wp_seq_k (fun K16 hK16 => ?_)
      refine wp_seq_k (fun K17 hK17 => ?_)
      refine rg_plain ?_
      refine pl_does (does_assign rfl rfl) rfl rfl rfl rfl H ?_
      try clear H a W
      intro a W H
      refine pl_end ?_
      refine hK17 _ _ ?_
      clear hK17
      refine wp_block ?_
      replace H : St 74 w a W [(13, .int .i64 ((0 : Nat) : Int)), (12, .int .i64 ((carC 0 (addF (tagF (otF kk ss 16) l) (sF kk)) 0 : Nat) : Int)), (11, .int .i64 ((carC 0 (addF (tagF kk l) ss) 0 : Nat) : Int)), (10, .pointer (some ⟨g5, 0, none⟩)), (7, .pointer (some ⟨g3, 0, none⟩)), (4, .pointer (some ⟨g2, 0, none⟩)), (3, .pointer (some ⟨g1, 0, none⟩))] [(g5, 26, bvs (rb 16 (tagF (otF kk ss 16) l))), (g4, 23, bvs (rb 32 (otF kk ss 16))), (g3, 26, bvs (rb 16 (tagF kk l))), (g2, 26, bvs (rb 16 ss)), (g1, 23, bvs (rb 32 kk))] := H.pick [0, 1, 2, 3, 4, 5, 6] [0, 1, 2, 3, 4] rfl
      refine wp_rounds 16 (fun k a W => St 74 w a W [(13, .int .i64 ((k : Nat) : Int)), (12, .int .i64 ((carC 0 (addF (tagF (otF kk ss 16) l) (sF kk)) k : Nat) : Int)), (11, .int .i64 ((carC 0 (addF (tagF kk l) ss) k : Nat) : Int)), (10, .pointer (some ⟨g5, 0, none⟩)), (7, .pointer (some ⟨g3, 0, none⟩)), (4, .pointer (some ⟨g2, 0, none⟩)), (3, .pointer (some ⟨g1, 0, none⟩))] [(g5, 26, bvs (rb 16 (tagF (otF kk ss 16) l))), (g4, 23, bvs (rb 32 (otF kk ss 16))), (g3, 26, bvs (rb 16 (tagF kk l))), (g2, 26, bvs (rb 16 ss)), (g1, 23, bvs (rb 32 kk))]) (k0 := 0) H (by omega) ?_
      try clear H a W
      intro k a W hk H
      by_cases hk2 : k < 16
      · have b1 := (tagF kk l k).toNat_lt
        have b2 := (ss k).toNat_lt
        have b3 := (tagF (otF kk ss 16) l k).toNat_lt
        have b4 := (kk (16 + k)).toNat_lt
        have b5 := carC_le (c := 0) (b := 510) (f := (addF (tagF kk l) ss)) (Nat.zero_le _) (addF_le _ _) k
        have b6 := carC_le (c := 0) (b := 510) (f := (addF (tagF (otF kk ss 16) l) (sF kk))) (Nat.zero_le _) (addF_le _ _) k
        have hc : carC 0 (addF (tagF kk l) ss) k + (tagF kk l k).toNat + (ss k).toNat = addF (tagF kk l) ss k + carC 0 (addF (tagF kk l) ss) k := by unfold addF; omega
        have hd : carC 0 (addF (tagF (otF kk ss 16) l) (sF kk)) k + (tagF (otF kk ss 16) l k).toNat + (kk (16 + k)).toNat = addF (tagF (otF kk ss 16) l) (sF kk) k + carC 0 (addF (tagF (otF kk ss 16) l) (sF kk)) k := by unfold addF sF; omega
        have hs := sums_same kk ss l hk2
        refine wp_seq_k (fun K18 hK18 => ?_)
        refine wp_seq_k (fun K19 hK19 => ?_)
        refine rg_plain ?_
        refine pl_does (does_move rfl rfl) rfl rfl rfl rfl H ?_
        try clear H a W
        intro a W H
        refine pl_does (does_binOp rfl rfl rfl (i_lss_yes (k := k) (m := 16) (by omega) _ _)) rfl rfl rfl rfl H ?_
        try clear H a W
        intro a W H
        refine pl_end ?_
        refine hK19 _ _ ?_
        clear hK19
        refine wp_cond_true (H.ev rfl) ?_
        refine wp_skip ?_
        refine hK18 _ _ ?_
        clear hK18
        refine wp_seq_k (fun K20 hK20 => ?_)
        refine wp_block ?_
        refine wp_seq_k (fun K21 hK21 => ?_)
        refine drawnR SB SB [⟨41, fun u_ _ => u_ = .int .i64 ((carC 0 (addF (tagF kk l) ss) k : Nat) : Int), [], none, false⟩, ⟨42, fun u_ _ => u_ = .int .i64 ((k : Nat) : Int), [], none, false⟩, ⟨43, fun u_ _ => u_ = .pointer (some ⟨g3, k, none⟩), [1], none, false⟩, ⟨44, fun u_ _ => u_ = bv ((tagF kk l) k), [2], none, false⟩, ⟨45, fun u_ _ => u_ = .int .i64 ((((tagF kk l) k).toNat : Nat) : Int), [3], none, false⟩, ⟨46, fun u_ _ => u_ = .int .i64 ((carC 0 (addF (tagF kk l) ss) k + ((tagF kk l) k).toNat : Nat) : Int), [0, 4], none, false⟩, ⟨47, fun u_ _ => u_ = .int .i64 ((k : Nat) : Int), [], none, false⟩, ⟨48, fun u_ _ => u_ = .pointer (some ⟨g2, k, none⟩), [6], none, false⟩, ⟨49, fun u_ _ => u_ = bv (ss k), [7], none, false⟩, ⟨50, fun u_ _ => u_ = .int .i64 (((ss k).toNat : Nat) : Int), [8], none, false⟩, ⟨51, fun u_ _ => u_ = .int .i64 ((addF (tagF kk l) ss k + carC 0 (addF (tagF kk l) ss) k : Nat) : Int), [5, 9], none, false⟩] [0, 0, 2, 4, 8, 17, 0, 64, 128, 256, 544, 2047] [0, 1, 2, 3, 4, 5, 6, 7, 8, 9, 10] sb_st sb_st (by kernel_rfl) (by kernel_rfl) (by kernel_rfl) H ⟨⟨fun a W  H => by exact ob_valS H (wanted_none rfl) (does_move rfl rfl), val_grow, fun _ => val_grow⟩, ⟨fun a W  H => by exact ob_valS H (wanted_none rfl) (does_move rfl rfl), val_grow, fun _ => val_grow⟩, ⟨fun a W y1 hy1 H => by subst hy1; exact ob_valS H (wanted_none rfl) (does_indexAddr rfl rfl rfl (ia_mark (j := k) (by omega))), val_grow, fun _ => val_grow⟩, ⟨fun a W y2 hy2 H => by subst hy2; exact ob_valS H (wanted_none rfl) (does_loadAt (v := bv ((tagF kk l) k)) rfl rfl (k := 2) rfl (ld_byte (by omega))), val_grow, fun _ => val_grow⟩, ⟨fun a W y3 hy3 H => by subst hy3; exact ob_valS H (wanted_none rfl) (does_convert rfl rfl (cv_bi _)), val_grow, fun _ => val_grow⟩, ⟨fun a W y0 hy0 y4 hy4 H => by subst hy0; subst hy4; exact ob_valS H (wanted_none rfl) (does_binOp rfl rfl rfl (i_addE (k := (carC 0 (addF (tagF kk l) ss) k)) (m := (((tagF kk l) k).toNat)) rfl (by omega) _ _)), val_grow, fun _ => val_grow⟩, ⟨fun a W  H => by exact ob_valS H (wanted_none rfl) (does_move rfl rfl), val_grow, fun _ => val_grow⟩, ⟨fun a W y6 hy6 H => by subst hy6; exact ob_valS H (wanted_none rfl) (does_indexAddr rfl rfl rfl (ia_mark (j := k) (by omega))), val_grow, fun _ => val_grow⟩, ⟨fun a W y7 hy7 H => by subst hy7; exact ob_valS H (wanted_none rfl) (does_loadAt (v := bv (ss k)) rfl rfl (k := 3) rfl (ld_byte (by omega))), val_grow, fun _ => val_grow⟩, ⟨fun a W y8 hy8 H => by subst hy8; exact ob_valS H (wanted_none rfl) (does_convert rfl rfl (cv_bi _)), val_grow, fun _ => val_grow⟩, ⟨fun a W y5 hy5 y9 hy9 H => by subst hy5; subst hy9; exact ob_valS H (wanted_none rfl) (does_binOp rfl rfl rfl (i_addE (k := (carC 0 (addF (tagF kk l) ss) k + ((tagF kk l) k).toNat)) (m := ((ss k).toNat)) (r := addF (tagF kk l) ss k + carC 0 (addF (tagF kk l) ss) k) hc (by omega) _ _)), val_grow, fun _ => val_grow⟩, trivial⟩ (by kernel_rfl) ?_
        try clear H a W
        intro a W
        rintro _ rfl
        rintro _ rfl
        rintro _ rfl
        rintro _ rfl
        rintro _ rfl
        rintro _ rfl
        rintro _ rfl
        rintro _ rfl
        rintro _ rfl
        rintro _ rfl
        rintro _ rfl
        intro H
        replace H : St 74 w a W [(51, .int .i64 ((addF (tagF kk l) ss k + carC 0 (addF (tagF kk l) ss) k : Nat) : Int)), (50, .int .i64 (((ss k).toNat : Nat) : Int)), (49, bv (ss k)), (48, .pointer (some ⟨g2, k, none⟩)), (47, .int .i64 ((k : Nat) : Int)), (46, .int .i64 ((carC 0 (addF (tagF kk l) ss) k + ((tagF kk l) k).toNat : Nat) : Int)), (45, .int .i64 ((((tagF kk l) k).toNat : Nat) : Int)), (44, bv ((tagF kk l) k)), (43, .pointer (some ⟨g3, k, none⟩)), (42, .int .i64 ((k : Nat) : Int)), (41, .int .i64 ((carC 0 (addF (tagF kk l) ss) k : Nat) : Int)), (38, .bool true), (37, .int .i64 ((k : Nat) : Int)), (13, .int .i64 ((k : Nat) : Int)), (12, .int .i64 ((carC 0 (addF (tagF (otF kk ss 16) l) (sF kk)) k : Nat) : Int)), (11, .int .i64 ((carC 0 (addF (tagF kk l) ss) k : Nat) : Int)), (10, .pointer (some ⟨g5, 0, none⟩)), (7, .pointer (some ⟨g3, 0, none⟩)), (4, .pointer (some ⟨g2, 0, none⟩)), (3, .pointer (some ⟨g1, 0, none⟩))] [(g5, 26, bvs (rb 16 (tagF (otF kk ss 16) l))), (g4, 23, bvs (rb 32 (otF kk ss 16))), (g3, 26, bvs (rb 16 (tagF kk l))), (g2, 26, bvs (rb 16 ss)), (g1, 23, bvs (rb 32 kk))] := H
        replace H : St 74 w a W [(51, .int .i64 ((addF (tagF kk l) ss k + carC 0 (addF (tagF kk l) ss) k : Nat) : Int)), (50, .int .i64 (((ss k).toNat : Nat) : Int)), (49, bv (ss k)), (48, .pointer (some ⟨g2, k, none⟩)), (47, .int .i64 ((k : Nat) : Int)), (46, .int .i64 ((carC 0 (addF (tagF kk l) ss) k + ((tagF kk l) k).toNat : Nat) : Int)), (45, .int .i64 ((((tagF kk l) k).toNat : Nat) : Int)), (44, bv ((tagF kk l) k)), (43, .pointer (some ⟨g3, k, none⟩)), (42, .int .i64 ((k : Nat) : Int)), (41, .int .i64 ((carC 0 (addF (tagF kk l) ss) k : Nat) : Int)), (38, .bool true), (37, .int .i64 ((k : Nat) : Int)), (13, .int .i64 ((k : Nat) : Int)), (12, .int .i64 ((carC 0 (addF (tagF (otF kk ss 16) l) (sF kk)) k : Nat) : Int)), (10, .pointer (some ⟨g5, 0, none⟩)), (7, .pointer (some ⟨g3, 0, none⟩)), (4, .pointer (some ⟨g2, 0, none⟩)), (3, .pointer (some ⟨g1, 0, none⟩))] [(g5, 26, bvs (rb 16 (tagF (otF kk ss 16) l))), (g4, 23, bvs (rb 32 (otF kk ss 16))), (g3, 26, bvs (rb 16 (tagF kk l))), (g2, 26, bvs (rb 16 ss)), (g1, 23, bvs (rb 32 kk))] := H.pick [0, 1, 2, 3, 4, 5, 6, 7, 8, 9, 10, 11, 12, 13, 14, 16, 17, 18, 19] [0, 1, 2, 3, 4] rfl
        refine pl_does (does_assign rfl rfl) rfl rfl rfl rfl H ?_
        try clear H a W
        intro a W H
        refine pl_end ?_
        refine hK21 _ _ ?_
        clear hK21
        refine wp_seq_k (fun K22 hK22 => ?_)
        refine drawnR SB SB [⟨52, fun u_ _ => u_ = .int .i64 ((carC 0 (addF (tagF (otF kk ss 16) l) (sF kk)) k : Nat) : Int), [], none, false⟩, ⟨53, fun u_ _ => u_ = .int .i64 ((k : Nat) : Int), [], none, false⟩, ⟨54, fun u_ _ => u_ = .pointer (some ⟨g5, k, none⟩), [1], none, false⟩, ⟨55, fun u_ _ => u_ = bv ((tagF (otF kk ss 16) l) k), [2], none, false⟩, ⟨56, fun u_ _ => u_ = .int .i64 ((((tagF (otF kk ss 16) l) k).toNat : Nat) : Int), [3], none, false⟩, ⟨57, fun u_ _ => u_ = .int .i64 ((carC 0 (addF (tagF (otF kk ss 16) l) (sF kk)) k + ((tagF (otF kk ss 16) l) k).toNat : Nat) : Int), [0, 4], none, false⟩, ⟨58, fun u_ _ => u_ = .int .i64 ((k : Nat) : Int), [], none, false⟩, ⟨59, fun u_ _ => u_ = .int .i64 ((16 + k : Nat) : Int), [6], none, false⟩, ⟨60, fun u_ _ => u_ = .pointer (some ⟨g1, 16 + k, none⟩), [7], none, false⟩, ⟨61, fun u_ _ => u_ = bv (kk (16 + k)), [8], none, false⟩, ⟨62, fun u_ _ => u_ = .int .i64 (((kk (16 + k)).toNat : Nat) : Int), [9], none, false⟩, ⟨63, fun u_ _ => u_ = .int .i64 ((addF (tagF (otF kk ss 16) l) (sF kk) k + carC 0 (addF (tagF (otF kk ss 16) l) (sF kk)) k : Nat) : Int), [5, 10], none, false⟩] [0, 0, 2, 4, 8, 17, 0, 64, 128, 256, 512, 1056, 4095] [0, 1, 2, 3, 4, 5, 6, 7, 8, 9, 10, 11] sb_st sb_st (by kernel_rfl) (by kernel_rfl) (by kernel_rfl) H ⟨⟨fun a W  H => by exact ob_valS H (wanted_none rfl) (does_move rfl rfl), val_grow, fun _ => val_grow⟩, ⟨fun a W  H => by exact ob_valS H (wanted_none rfl) (does_move rfl rfl), val_grow, fun _ => val_grow⟩, ⟨fun a W y1 hy1 H => by subst hy1; exact ob_valS H (wanted_none rfl) (does_indexAddr rfl rfl rfl (ia_mark (j := k) (by omega))), val_grow, fun _ => val_grow⟩, ⟨fun a W y2 hy2 H => by subst hy2; exact ob_valS H (wanted_none rfl) (does_loadAt (v := bv ((tagF (otF kk ss 16) l) k)) rfl rfl (k := 0) rfl (ld_byte (by omega))), val_grow, fun _ => val_grow⟩, ⟨fun a W y3 hy3 H => by subst hy3; exact ob_valS H (wanted_none rfl) (does_convert rfl rfl (cv_bi _)), val_grow, fun _ => val_grow⟩, ⟨fun a W y0 hy0 y4 hy4 H => by subst hy0; subst hy4; exact ob_valS H (wanted_none rfl) (does_binOp rfl rfl rfl (i_addE (k := (carC 0 (addF (tagF (otF kk ss 16) l) (sF kk)) k)) (m := (((tagF (otF kk ss 16) l) k).toNat)) rfl (by omega) _ _)), val_grow, fun _ => val_grow⟩, ⟨fun a W  H => by exact ob_valS H (wanted_none rfl) (does_move rfl rfl), val_grow, fun _ => val_grow⟩, ⟨fun a W y6 hy6 H => by subst hy6; exact ob_valS H (wanted_none rfl) (does_binOp rfl rfl rfl (i_addE (k := 16) (m := k) (r := 16 + k) rfl (by omega) _ _)), val_grow, fun _ => val_grow⟩, ⟨fun a W y7 hy7 H => by subst hy7; exact ob_valS H (wanted_none rfl) (does_indexAddr rfl rfl rfl (ia_key (j := (16 + k)) (by omega))), val_grow, fun _ => val_grow⟩, ⟨fun a W y8 hy8 H => by subst hy8; exact ob_valS H (wanted_none rfl) (does_loadAt (v := bv (kk (16 + k))) rfl rfl (k := 4) rfl (ld_byte (by omega))), val_grow, fun _ => val_grow⟩, ⟨fun a W y9 hy9 H => by subst hy9; exact ob_valS H (wanted_none rfl) (does_convert rfl rfl (cv_bi _)), val_grow, fun _ => val_grow⟩, ⟨fun a W y5 hy5 y10 hy10 H => by subst hy5; subst hy10; exact ob_valS H (wanted_none rfl) (does_binOp rfl rfl rfl (i_addE (k := (carC 0 (addF (tagF (otF kk ss 16) l) (sF kk)) k + ((tagF (otF kk ss 16) l) k).toNat)) (m := ((kk (16 + k)).toNat)) (r := addF (tagF (otF kk ss 16) l) (sF kk) k + carC 0 (addF (tagF (otF kk ss 16) l) (sF kk)) k) hd (by omega) _ _)), val_grow, fun _ => val_grow⟩, trivial⟩ (by kernel_rfl) ?_
        try clear H a W
        intro a W
        rintro _ rfl
        rintro _ rfl
        rintro _ rfl
        rintro _ rfl
        rintro _ rfl
        rintro _ rfl
        rintro _ rfl
        rintro _ rfl
        rintro _ rfl
        rintro _ rfl
        rintro _ rfl
        rintro _ rfl
        intro H
        replace H : St 74 w a W [(63, .int .i64 ((addF (tagF (otF kk ss 16) l) (sF kk) k + carC 0 (addF (tagF (otF kk ss 16) l) (sF kk)) k : Nat) : Int)), (62, .int .i64 (((kk (16 + k)).toNat : Nat) : Int)), (61, bv (kk (16 + k))), (60, .pointer (some ⟨g1, 16 + k, none⟩)), (59, .int .i64 ((16 + k : Nat) : Int)), (58, .int .i64 ((k : Nat) : Int)), (57, .int .i64 ((carC 0 (addF (tagF (otF kk ss 16) l) (sF kk)) k + ((tagF (otF kk ss 16) l) k).toNat : Nat) : Int)), (56, .int .i64 ((((tagF (otF kk ss 16) l) k).toNat : Nat) : Int)), (55, bv ((tagF (otF kk ss 16) l) k)), (54, .pointer (some ⟨g5, k, none⟩)), (53, .int .i64 ((k : Nat) : Int)), (52, .int .i64 ((carC 0 (addF (tagF (otF kk ss 16) l) (sF kk)) k : Nat) : Int)), (11, .int .i64 ((addF (tagF kk l) ss k + carC 0 (addF (tagF kk l) ss) k : Nat) : Int)), (51, .int .i64 ((addF (tagF kk l) ss k + carC 0 (addF (tagF kk l) ss) k : Nat) : Int)), (50, .int .i64 (((ss k).toNat : Nat) : Int)), (49, bv (ss k)), (48, .pointer (some ⟨g2, k, none⟩)), (47, .int .i64 ((k : Nat) : Int)), (46, .int .i64 ((carC 0 (addF (tagF kk l) ss) k + ((tagF kk l) k).toNat : Nat) : Int)), (45, .int .i64 ((((tagF kk l) k).toNat : Nat) : Int)), (44, bv ((tagF kk l) k)), (43, .pointer (some ⟨g3, k, none⟩)), (42, .int .i64 ((k : Nat) : Int)), (41, .int .i64 ((carC 0 (addF (tagF kk l) ss) k : Nat) : Int)), (38, .bool true), (37, .int .i64 ((k : Nat) : Int)), (13, .int .i64 ((k : Nat) : Int)), (12, .int .i64 ((carC 0 (addF (tagF (otF kk ss 16) l) (sF kk)) k : Nat) : Int)), (10, .pointer (some ⟨g5, 0, none⟩)), (7, .pointer (some ⟨g3, 0, none⟩)), (4, .pointer (some ⟨g2, 0, none⟩)), (3, .pointer (some ⟨g1, 0, none⟩))] [(g5, 26, bvs (rb 16 (tagF (otF kk ss 16) l))), (g4, 23, bvs (rb 32 (otF kk ss 16))), (g3, 26, bvs (rb 16 (tagF kk l))), (g2, 26, bvs (rb 16 ss)), (g1, 23, bvs (rb 32 kk))] := H
        replace H : St 74 w a W [(63, .int .i64 ((addF (tagF (otF kk ss 16) l) (sF kk) k + carC 0 (addF (tagF (otF kk ss 16) l) (sF kk)) k : Nat) : Int)), (62, .int .i64 (((kk (16 + k)).toNat : Nat) : Int)), (61, bv (kk (16 + k))), (60, .pointer (some ⟨g1, 16 + k, none⟩)), (59, .int .i64 ((16 + k : Nat) : Int)), (58, .int .i64 ((k : Nat) : Int)), (57, .int .i64 ((carC 0 (addF (tagF (otF kk ss 16) l) (sF kk)) k + ((tagF (otF kk ss 16) l) k).toNat : Nat) : Int)), (56, .int .i64 ((((tagF (otF kk ss 16) l) k).toNat : Nat) : Int)), (55, bv ((tagF (otF kk ss 16) l) k)), (54, .pointer (some ⟨g5, k, none⟩)), (53, .int .i64 ((k : Nat) : Int)), (52, .int .i64 ((carC 0 (addF (tagF (otF kk ss 16) l) (sF kk)) k : Nat) : Int)), (11, .int .i64 ((addF (tagF kk l) ss k + carC 0 (addF (tagF kk l) ss) k : Nat) : Int)), (51, .int .i64 ((addF (tagF kk l) ss k + carC 0 (addF (tagF kk l) ss) k : Nat) : Int)), (50, .int .i64 (((ss k).toNat : Nat) : Int)), (49, bv (ss k)), (48, .pointer (some ⟨g2, k, none⟩)), (47, .int .i64 ((k : Nat) : Int)), (46, .int .i64 ((carC 0 (addF (tagF kk l) ss) k + ((tagF kk l) k).toNat : Nat) : Int)), (45, .int .i64 ((((tagF kk l) k).toNat : Nat) : Int)), (44, bv ((tagF kk l) k)), (43, .pointer (some ⟨g3, k, none⟩)), (42, .int .i64 ((k : Nat) : Int)), (41, .int .i64 ((carC 0 (addF (tagF kk l) ss) k : Nat) : Int)), (38, .bool true), (37, .int .i64 ((k : Nat) : Int)), (13, .int .i64 ((k : Nat) : Int)), (10, .pointer (some ⟨g5, 0, none⟩)), (7, .pointer (some ⟨g3, 0, none⟩)), (4, .pointer (some ⟨g2, 0, none⟩)), (3, .pointer (some ⟨g1, 0, none⟩))] [(g5, 26, bvs (rb 16 (tagF (otF kk ss 16) l))), (g4, 23, bvs (rb 32 (otF kk ss 16))), (g3, 26, bvs (rb 16 (tagF kk l))), (g2, 26, bvs (rb 16 ss)), (g1, 23, bvs (rb 32 kk))] := H.pick [0, 1, 2, 3, 4, 5, 6, 7, 8, 9, 10, 11, 12, 13, 14, 15, 16, 17, 18, 19, 20, 21, 22, 23, 24, 25, 26, 28, 29, 30, 31] [0, 1, 2, 3, 4] rfl
        refine pl_does (does_assign rfl rfl) rfl rfl rfl rfl H ?_
        try clear H a W
        intro a W H
        refine pl_end ?_
        refine hK22 _ _ ?_
        clear hK22
        refine wp_seq_k (fun K23 hK23 => ?_)
        refine wp_seq_k (fun K24 hK24 => ?_)
        refine rg_plain ?_
        refine pl_does (does_move rfl rfl) rfl rfl rfl rfl H ?_
        try clear H a W
        intro a W H
        refine pl_does (does_binOp rfl rfl rfl (i_remE (k := addF (tagF kk l) ss k + carC 0 (addF (tagF kk l) ss) k) (m := 256) (r := (addF (tagF kk l) ss k + carC 0 (addF (tagF kk l) ss) k) % 256) rfl (by omega) _ _)) rfl rfl rfl rfl H ?_
        try clear H a W
        intro a W H
        refine pl_does (does_move rfl rfl) rfl rfl rfl rfl H ?_
        try clear H a W
        intro a W H
        refine pl_does (does_binOp rfl rfl rfl (i_remE (k := addF (tagF (otF kk ss 16) l) (sF kk) k + carC 0 (addF (tagF (otF kk ss 16) l) (sF kk)) k) (m := 256) (r := (addF (tagF (otF kk ss 16) l) (sF kk) k + carC 0 (addF (tagF (otF kk ss 16) l) (sF kk)) k) % 256) rfl (by omega) _ _)) rfl rfl rfl rfl H ?_
        try clear H a W
        intro a W H
        refine pl_does (does_binOp rfl rfl rfl (i_neq_no hs _ _)) rfl rfl rfl rfl H ?_
        try clear H a W
        intro a W H
        refine pl_end ?_
        refine hK24 _ _ ?_
        clear hK24
        refine wp_cond_false (H.ev rfl) ?_
        refine wp_skip ?_
        refine hK23 _ _ ?_
        clear hK23
        refine rg_plain ?_
        refine pl_does (does_move rfl rfl) rfl rfl rfl rfl H ?_
        try clear H a W
        intro a W H
        refine pl_does (does_binOp rfl rfl rfl (i_quo (k := addF (tagF kk l) ss k + carC 0 (addF (tagF kk l) ss) k) (m := 256) (by omega) (by omega) _ _)) rfl rfl rfl rfl H ?_
        try clear H a W
        intro a W H
        refine pl_does (does_move rfl rfl) rfl rfl rfl rfl H ?_
        try clear H a W
        intro a W H
        refine pl_does (does_binOp rfl rfl rfl (i_quo (k := addF (tagF (otF kk ss 16) l) (sF kk) k + carC 0 (addF (tagF (otF kk ss 16) l) (sF kk)) k) (m := 256) (by omega) (by omega) _ _)) rfl rfl rfl rfl H ?_
        try clear H a W
        intro a W H
        replace H : St 74 w a W [(72, .int .i64 (((addF (tagF (otF kk ss 16) l) (sF kk) k + carC 0 (addF (tagF (otF kk ss 16) l) (sF kk)) k) / 256 : Nat) : Int)), (71, .int .i64 ((addF (tagF (otF kk ss 16) l) (sF kk) k + carC 0 (addF (tagF (otF kk ss 16) l) (sF kk)) k : Nat) : Int)), (70, .int .i64 (((addF (tagF kk l) ss k + carC 0 (addF (tagF kk l) ss) k) / 256 : Nat) : Int)), (69, .int .i64 ((addF (tagF kk l) ss k + carC 0 (addF (tagF kk l) ss) k : Nat) : Int)), (68, .bool false), (67, .int .i64 (((addF (tagF (otF kk ss 16) l) (sF kk) k + carC 0 (addF (tagF (otF kk ss 16) l) (sF kk)) k) % 256 : Nat) : Int)), (66, .int .i64 ((addF (tagF (otF kk ss 16) l) (sF kk) k + carC 0 (addF (tagF (otF kk ss 16) l) (sF kk)) k : Nat) : Int)), (65, .int .i64 (((addF (tagF kk l) ss k + carC 0 (addF (tagF kk l) ss) k) % 256 : Nat) : Int)), (64, .int .i64 ((addF (tagF kk l) ss k + carC 0 (addF (tagF kk l) ss) k : Nat) : Int)), (12, .int .i64 ((addF (tagF (otF kk ss 16) l) (sF kk) k + carC 0 (addF (tagF (otF kk ss 16) l) (sF kk)) k : Nat) : Int)), (63, .int .i64 ((addF (tagF (otF kk ss 16) l) (sF kk) k + carC 0 (addF (tagF (otF kk ss 16) l) (sF kk)) k : Nat) : Int)), (62, .int .i64 (((kk (16 + k)).toNat : Nat) : Int)), (61, bv (kk (16 + k))), (60, .pointer (some ⟨g1, 16 + k, none⟩)), (59, .int .i64 ((16 + k : Nat) : Int)), (58, .int .i64 ((k : Nat) : Int)), (57, .int .i64 ((carC 0 (addF (tagF (otF kk ss 16) l) (sF kk)) k + ((tagF (otF kk ss 16) l) k).toNat : Nat) : Int)), (56, .int .i64 ((((tagF (otF kk ss 16) l) k).toNat : Nat) : Int)), (55, bv ((tagF (otF kk ss 16) l) k)), (54, .pointer (some ⟨g5, k, none⟩)), (53, .int .i64 ((k : Nat) : Int)), (52, .int .i64 ((carC 0 (addF (tagF (otF kk ss 16) l) (sF kk)) k : Nat) : Int)), (51, .int .i64 ((addF (tagF kk l) ss k + carC 0 (addF (tagF kk l) ss) k : Nat) : Int)), (50, .int .i64 (((ss k).toNat : Nat) : Int)), (49, bv (ss k)), (48, .pointer (some ⟨g2, k, none⟩)), (47, .int .i64 ((k : Nat) : Int)), (46, .int .i64 ((carC 0 (addF (tagF kk l) ss) k + ((tagF kk l) k).toNat : Nat) : Int)), (45, .int .i64 ((((tagF kk l) k).toNat : Nat) : Int)), (44, bv ((tagF kk l) k)), (43, .pointer (some ⟨g3, k, none⟩)), (42, .int .i64 ((k : Nat) : Int)), (41, .int .i64 ((carC 0 (addF (tagF kk l) ss) k : Nat) : Int)), (38, .bool true), (37, .int .i64 ((k : Nat) : Int)), (13, .int .i64 ((k : Nat) : Int)), (10, .pointer (some ⟨g5, 0, none⟩)), (7, .pointer (some ⟨g3, 0, none⟩)), (4, .pointer (some ⟨g2, 0, none⟩)), (3, .pointer (some ⟨g1, 0, none⟩))] [(g5, 26, bvs (rb 16 (tagF (otF kk ss 16) l))), (g4, 23, bvs (rb 32 (otF kk ss 16))), (g3, 26, bvs (rb 16 (tagF kk l))), (g2, 26, bvs (rb 16 ss)), (g1, 23, bvs (rb 32 kk))] := H.pick [0, 1, 2, 3, 4, 5, 6, 7, 8, 9, 10, 11, 12, 13, 14, 15, 16, 17, 18, 19, 20, 21, 23, 24, 25, 26, 27, 28, 29, 30, 31, 32, 33, 34, 35, 36, 37, 38, 39, 40] [0, 1, 2, 3, 4] rfl
        refine pl_does (does_assign rfl rfl) rfl rfl rfl rfl H ?_
        try clear H a W
        intro a W H
        replace H : St 74 w a W [(11, .int .i64 (((addF (tagF kk l) ss k + carC 0 (addF (tagF kk l) ss) k) / 256 : Nat) : Int)), (72, .int .i64 (((addF (tagF (otF kk ss 16) l) (sF kk) k + carC 0 (addF (tagF (otF kk ss 16) l) (sF kk)) k) / 256 : Nat) : Int)), (71, .int .i64 ((addF (tagF (otF kk ss 16) l) (sF kk) k + carC 0 (addF (tagF (otF kk ss 16) l) (sF kk)) k : Nat) : Int)), (70, .int .i64 (((addF (tagF kk l) ss k + carC 0 (addF (tagF kk l) ss) k) / 256 : Nat) : Int)), (69, .int .i64 ((addF (tagF kk l) ss k + carC 0 (addF (tagF kk l) ss) k : Nat) : Int)), (68, .bool false), (67, .int .i64 (((addF (tagF (otF kk ss 16) l) (sF kk) k + carC 0 (addF (tagF (otF kk ss 16) l) (sF kk)) k) % 256 : Nat) : Int)), (66, .int .i64 ((addF (tagF (otF kk ss 16) l) (sF kk) k + carC 0 (addF (tagF (otF kk ss 16) l) (sF kk)) k : Nat) : Int)), (65, .int .i64 (((addF (tagF kk l) ss k + carC 0 (addF (tagF kk l) ss) k) % 256 : Nat) : Int)), (64, .int .i64 ((addF (tagF kk l) ss k + carC 0 (addF (tagF kk l) ss) k : Nat) : Int)), (63, .int .i64 ((addF (tagF (otF kk ss 16) l) (sF kk) k + carC 0 (addF (tagF (otF kk ss 16) l) (sF kk)) k : Nat) : Int)), (62, .int .i64 (((kk (16 + k)).toNat : Nat) : Int)), (61, bv (kk (16 + k))), (60, .pointer (some ⟨g1, 16 + k, none⟩)), (59, .int .i64 ((16 + k : Nat) : Int)), (58, .int .i64 ((k : Nat) : Int)), (57, .int .i64 ((carC 0 (addF (tagF (otF kk ss 16) l) (sF kk)) k + ((tagF (otF kk ss 16) l) k).toNat : Nat) : Int)), (56, .int .i64 ((((tagF (otF kk ss 16) l) k).toNat : Nat) : Int)), (55, bv ((tagF (otF kk ss 16) l) k)), (54, .pointer (some ⟨g5, k, none⟩)), (53, .int .i64 ((k : Nat) : Int)), (52, .int .i64 ((carC 0 (addF (tagF (otF kk ss 16) l) (sF kk)) k : Nat) : Int)), (51, .int .i64 ((addF (tagF kk l) ss k + carC 0 (addF (tagF kk l) ss) k : Nat) : Int)), (50, .int .i64 (((ss k).toNat : Nat) : Int)), (49, bv (ss k)), (48, .pointer (some ⟨g2, k, none⟩)), (47, .int .i64 ((k : Nat) : Int)), (46, .int .i64 ((carC 0 (addF (tagF kk l) ss) k + ((tagF kk l) k).toNat : Nat) : Int)), (45, .int .i64 ((((tagF kk l) k).toNat : Nat) : Int)), (44, bv ((tagF kk l) k)), (43, .pointer (some ⟨g3, k, none⟩)), (42, .int .i64 ((k : Nat) : Int)), (41, .int .i64 ((carC 0 (addF (tagF kk l) ss) k : Nat) : Int)), (38, .bool true), (37, .int .i64 ((k : Nat) : Int)), (13, .int .i64 ((k : Nat) : Int)), (10, .pointer (some ⟨g5, 0, none⟩)), (7, .pointer (some ⟨g3, 0, none⟩)), (4, .pointer (some ⟨g2, 0, none⟩)), (3, .pointer (some ⟨g1, 0, none⟩))] [(g5, 26, bvs (rb 16 (tagF (otF kk ss 16) l))), (g4, 23, bvs (rb 32 (otF kk ss 16))), (g3, 26, bvs (rb 16 (tagF kk l))), (g2, 26, bvs (rb 16 ss)), (g1, 23, bvs (rb 32 kk))] := H.pick [0, 1, 2, 3, 4, 5, 6, 7, 8, 9, 11, 12, 13, 14, 15, 16, 17, 18, 19, 20, 21, 22, 23, 24, 25, 26, 27, 28, 29, 30, 31, 32, 33, 34, 35, 36, 37, 38, 39, 40] [0, 1, 2, 3, 4] rfl
        refine pl_does (does_assign rfl rfl) rfl rfl rfl rfl H ?_
        try clear H a W
        intro a W H
        refine pl_end ?_
        refine blk_normal ?_
        refine hK20 _ _ ?_
        clear hK20
        refine rg_plain ?_
        refine pl_does (does_move rfl rfl) rfl rfl rfl rfl H ?_
        try clear H a W
        intro a W H
        refine pl_does (does_binOp rfl rfl rfl (i_addE (k := k) (m := 1) rfl (by omega) _ _)) rfl rfl rfl rfl H ?_
        try clear H a W
        intro a W H
        replace H : St 74 w a W [(40, .int .i64 ((k + 1 : Nat) : Int)), (39, .int .i64 ((k : Nat) : Int)), (12, .int .i64 (((addF (tagF (otF kk ss 16) l) (sF kk) k + carC 0 (addF (tagF (otF kk ss 16) l) (sF kk)) k) / 256 : Nat) : Int)), (11, .int .i64 (((addF (tagF kk l) ss k + carC 0 (addF (tagF kk l) ss) k) / 256 : Nat) : Int)), (72, .int .i64 (((addF (tagF (otF kk ss 16) l) (sF kk) k + carC 0 (addF (tagF (otF kk ss 16) l) (sF kk)) k) / 256 : Nat) : Int)), (71, .int .i64 ((addF (tagF (otF kk ss 16) l) (sF kk) k + carC 0 (addF (tagF (otF kk ss 16) l) (sF kk)) k : Nat) : Int)), (70, .int .i64 (((addF (tagF kk l) ss k + carC 0 (addF (tagF kk l) ss) k) / 256 : Nat) : Int)), (69, .int .i64 ((addF (tagF kk l) ss k + carC 0 (addF (tagF kk l) ss) k : Nat) : Int)), (68, .bool false), (67, .int .i64 (((addF (tagF (otF kk ss 16) l) (sF kk) k + carC 0 (addF (tagF (otF kk ss 16) l) (sF kk)) k) % 256 : Nat) : Int)), (66, .int .i64 ((addF (tagF (otF kk ss 16) l) (sF kk) k + carC 0 (addF (tagF (otF kk ss 16) l) (sF kk)) k : Nat) : Int)), (65, .int .i64 (((addF (tagF kk l) ss k + carC 0 (addF (tagF kk l) ss) k) % 256 : Nat) : Int)), (64, .int .i64 ((addF (tagF kk l) ss k + carC 0 (addF (tagF kk l) ss) k : Nat) : Int)), (63, .int .i64 ((addF (tagF (otF kk ss 16) l) (sF kk) k + carC 0 (addF (tagF (otF kk ss 16) l) (sF kk)) k : Nat) : Int)), (62, .int .i64 (((kk (16 + k)).toNat : Nat) : Int)), (61, bv (kk (16 + k))), (60, .pointer (some ⟨g1, 16 + k, none⟩)), (59, .int .i64 ((16 + k : Nat) : Int)), (58, .int .i64 ((k : Nat) : Int)), (57, .int .i64 ((carC 0 (addF (tagF (otF kk ss 16) l) (sF kk)) k + ((tagF (otF kk ss 16) l) k).toNat : Nat) : Int)), (56, .int .i64 ((((tagF (otF kk ss 16) l) k).toNat : Nat) : Int)), (55, bv ((tagF (otF kk ss 16) l) k)), (54, .pointer (some ⟨g5, k, none⟩)), (53, .int .i64 ((k : Nat) : Int)), (52, .int .i64 ((carC 0 (addF (tagF (otF kk ss 16) l) (sF kk)) k : Nat) : Int)), (51, .int .i64 ((addF (tagF kk l) ss k + carC 0 (addF (tagF kk l) ss) k : Nat) : Int)), (50, .int .i64 (((ss k).toNat : Nat) : Int)), (49, bv (ss k)), (48, .pointer (some ⟨g2, k, none⟩)), (47, .int .i64 ((k : Nat) : Int)), (46, .int .i64 ((carC 0 (addF (tagF kk l) ss) k + ((tagF kk l) k).toNat : Nat) : Int)), (45, .int .i64 ((((tagF kk l) k).toNat : Nat) : Int)), (44, bv ((tagF kk l) k)), (43, .pointer (some ⟨g3, k, none⟩)), (42, .int .i64 ((k : Nat) : Int)), (41, .int .i64 ((carC 0 (addF (tagF kk l) ss) k : Nat) : Int)), (38, .bool true), (37, .int .i64 ((k : Nat) : Int)), (10, .pointer (some ⟨g5, 0, none⟩)), (7, .pointer (some ⟨g3, 0, none⟩)), (4, .pointer (some ⟨g2, 0, none⟩)), (3, .pointer (some ⟨g1, 0, none⟩))] [(g5, 26, bvs (rb 16 (tagF (otF kk ss 16) l))), (g4, 23, bvs (rb 32 (otF kk ss 16))), (g3, 26, bvs (rb 16 (tagF kk l))), (g2, 26, bvs (rb 16 ss)), (g1, 23, bvs (rb 32 kk))] := H.pick [0, 1, 2, 3, 4, 5, 6, 7, 8, 9, 10, 11, 12, 13, 14, 15, 16, 17, 18, 19, 20, 21, 22, 23, 24, 25, 26, 27, 28, 29, 30, 31, 32, 33, 34, 35, 36, 37, 39, 40, 41, 42] [0, 1, 2, 3, 4] rfl
        refine pl_does (does_assign rfl rfl) rfl rfl rfl rfl H ?_
        try clear H a W
        intro a W H
        refine pl_end ?_
        refine ⟨k + 1, by omega, by omega, ?_⟩
        show St 74 w a W [(13, .int .i64 ((k + 1 : Nat) : Int)), (12, .int .i64 ((carC 0 (addF (tagF (otF kk ss 16) l) (sF kk)) (k + 1) : Nat) : Int)), (11, .int .i64 ((carC 0 (addF (tagF kk l) ss) (k + 1) : Nat) : Int)), (10, .pointer (some ⟨g5, 0, none⟩)), (7, .pointer (some ⟨g3, 0, none⟩)), (4, .pointer (some ⟨g2, 0, none⟩)), (3, .pointer (some ⟨g1, 0, none⟩))] [(g5, 26, bvs (rb 16 (tagF (otF kk ss 16) l))), (g4, 23, bvs (rb 32 (otF kk ss 16))), (g3, 26, bvs (rb 16 (tagF kk l))), (g2, 26, bvs (rb 16 ss)), (g1, 23, bvs (rb 32 kk))]
        exact H.pick [0, 3, 4, 39, 40, 41, 42] [0, 1, 2, 3, 4] rfl
      · obtain rfl : 16 = k := by omega
        refine wp_seq_k (fun K25 hK25 => ?_)
        refine wp_seq_k (fun K26 hK26 => ?_)
        refine rg_plain ?_
        refine pl_does (does_move rfl rfl) rfl rfl rfl rfl H ?_
        try clear H a W
        intro a W H
        refine pl_does (does_binOp rfl rfl rfl (i_lss_no (k := 16) (m := 16) (by omega) _ _)) rfl rfl rfl rfl H ?_
        try clear H a W
        intro a W H
        refine pl_end ?_
        replace H : St 74 w a W [(38, .bool false), (13, .int .i64 ((16 : Nat) : Int)), (12, .int .i64 ((carC 0 (addF (tagF (otF kk ss 16) l) (sF kk)) 16 : Nat) : Int)), (11, .int .i64 ((carC 0 (addF (tagF kk l) ss) 16 : Nat) : Int)), (10, .pointer (some ⟨g5, 0, none⟩)), (7, .pointer (some ⟨g3, 0, none⟩)), (4, .pointer (some ⟨g2, 0, none⟩)), (3, .pointer (some ⟨g1, 0, none⟩))] [(g5, 26, bvs (rb 16 (tagF (otF kk ss 16) l))), (g4, 23, bvs (rb 32 (otF kk ss 16))), (g3, 26, bvs (rb 16 (tagF kk l))), (g2, 26, bvs (rb 16 ss)), (g1, 23, bvs (rb 32 kk))] := H.pick [0, 2, 3, 4, 5, 6, 7, 8] [0, 1, 2, 3, 4] rfl
        refine hK26 _ _ ?_
        clear hK26
        refine wp_cond_false (H.ev rfl) ?_
        refine wp_exit ?_
        repeat (with_reducible refine then_exit ?_)
        refine blk_exit ?_
        refine hK16 _ _ ?_
        clear hK16
        refine wp_seq_k (fun K27 hK27 => ?_)
        refine rg_plain ?_
        refine pl_does (does_call rfl ⟨_, Tryd.func7, by kernel_rfl⟩ rfl (fun W hb => known_any W (hpg.ext hb))) rfl rfl rfl rfl H ?_
        try clear H a W
        intro a W H
        refine pl_does (does_assign rfl rfl) rfl rfl rfl rfl H ?_
        try clear H a W
        intro a W H
        refine pl_end ?_
        replace H : St 74 w a W [(6, .bool true)] [(g5, 26, bvs (rb 16 (tagF (otF kk ss 16) l))), (g4, 23, bvs (rb 32 (otF kk ss 16))), (g3, 26, bvs (rb 16 (tagF kk l))), (g2, 26, bvs (rb 16 ss)), (g1, 23, bvs (rb 32 kk))] := H.pick [0] [0, 1, 2, 3, 4] rfl
        refine hK27 _ _ ?_
        clear hK27
        refine wp_ret ?_
        repeat (first | (with_reducible refine then_ret ?_) | (with_reducible refine blk_ret ?_))
        refine end_tmp (p := 6) rfl rfl H (fun hb => ?_)
        exact ⟨rfl, hb⟩
end Go.Proofs.YtompjaponedjoaaDoor
