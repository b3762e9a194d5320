/- The document's disk (layer 14): numbers divided; losses of power; edits. -/
import Derived.Test.YtiebelmglchbdaaRc
import Derived.Test.YtiebelmglchbdaaRd
namespace Go.Proofs.Ytiebelmglchbdaa
set_option linter.unusedVariables false
set_option linter.unusedSimpArgs false
set_option maxRecDepth 100000
open Go Go.RowKit

theorem tmod_sign (n b : Int) (hb : 0 < b) : (0 ≤ n → 0 ≤ n.tmod b) ∧ (n ≤ 0 → n.tmod b ≤ 0) := by
  refine ⟨fun h => Int.tmod_nonneg b h, fun h => ?_⟩
  have h1 := Int.tmod_nonneg b (show 0 ≤ -n by omega)
  rw [Int.neg_tmod] at h1
  omega
theorem PK.bigD {w0 : World} {hh : Hep} {A : Option Addr} {n : Nat} {l : List Int} (h : PK w0 hh A n l) (k : Nat) : -9223372036854775808 ≤ l.getD k 0 ∧ l.getD k 0 < 9223372036854775808 := by
  rw [List.getD_eq_getElem?_getD]
  cases hk : l[k]? with
  | none => show -9223372036854775808 ≤ (0 : Int) ∧ (0 : Int) < _; omega
  | some z => exact h.big z (List.mem_iff_getElem?.2 ⟨k, hk⟩)
theorem PK.out {w0 : World} {hh : Hep} {A : Option Addr} {n : Nat} {l : List Int} (h : PK w0 hh A n l) {k : Nat} (hk : n ≤ k) : l.getD k 0 = 0 := by
  rw [List.getD_eq_getElem?_getD, List.getElem?_eq_none (by rw [h.len]; exact hk)]
  rfl
theorem RowB.cap {r : Hep} {x : Nat × Nat} {b : List UInt8} (hx : RowB r x b) : 512 ≤ x.2 := by
  obtain ⟨cur, h1, h2⟩ := hx
  exact h2.le
/-! Slices of a row of bytes. -/
def hiV (A : Option Addr) (k c K : Nat) : Value := .slice (if c = K then A else A.map (·.add (K * 1))) (k - K) (c - K)
theorem elemB : Try.prog.elem 39 = 5 := by kernel_rfl
theorem sizeB (W : World) : (sizeOf 5).run Try.prog W = .ok 1 W := size_u8 (by kernel_rfl) W
theorem lo_run {A : Option Addr} {k c K : Nat} (hK : K ≤ k) (hc : k ≤ c) (W : World) : (Instr.sliceAt 39 (.slice A k c) none (some (.int .i64 (K : Int))) none).run Try.prog W = .ok (.slice A K c) W := by
  have ht : Try.prog.underlying 39 = some (.slice (Try.prog.elem 39)) := by rw [elemB]; exact Try.underlying39
  rw [run_sliceAt_slice (h := ht), run_slice_h (ht := ht) (h0 := by omega) (h2 := by omega), elemB, sizeB]
  simp only [Result.andThen_ok, sliced, Int.toNat_natCast, Nat.sub_zero, Nat.zero_mul]
  congr 2
  split
  · rfl
  · cases A with
    | none => rfl
    | some a => rfl
theorem lo_bf {A : Option Addr} {k c K : Nat} {l : List UInt8} {w : World} (hm : BF l (.slice A k c) w) (hK : K ≤ k) : BF (l.take K) (.slice A K c) w := by
  obtain ⟨A', n', c', e, hb⟩ := hm
  injection e with e1 e2 e3
  subst e1 e2 e3
  have hl := hb.len
  have hc := hb.cap
  refine ⟨A, K, c, rfl, by rw [List.length_take]; omega, by omega, hb.nil_, fun h0 => ?_⟩
  obtain ⟨b, o, e, hlt, hx⟩ := hb.at_ (by omega)
  refine ⟨b, o, e, hlt, fun j x hj => hx j x ?_⟩
  rw [List.getElem?_take] at hj
  split at hj
  · exact hj
  · cases hj
theorem hi_run {A : Option Addr} {k c K : Nat} (hK : K ≤ k) (hc : k ≤ c) (W : World) : (Instr.sliceAt 39 (.slice A k c) (some (.int .i64 (K : Int))) none none).run Try.prog W = .ok (hiV A k c K) W := by
  have ht : Try.prog.underlying 39 = some (.slice (Try.prog.elem 39)) := by rw [elemB]; exact Try.underlying39
  rw [run_sliceAt_slice (h := ht), run_slice_l (ht := ht) (h0 := by omega) (h1 := by omega), elemB, sizeB]
  simp only [Result.andThen_ok, sliced, Int.toNat_natCast]
  rfl
theorem hi_bf {A : Option Addr} {k c K : Nat} {l : List UInt8} {w : World} (hm : BF l (.slice A k c) w) (hK : K ≤ k) : BF (l.drop K) (hiV A k c K) w := by
  obtain ⟨A', n', c', e, hb⟩ := hm
  injection e with e1 e2 e3
  subst e1 e2 e3
  have hl := hb.len
  have hc := hb.cap
  refine ⟨_, _, _, rfl, by rw [List.length_drop]; omega, by omega, fun e => ?_, fun h0 => ?_⟩
  · have hA : A = none := by
      split at e
      · exact e
      · cases A with
        | none => rfl
        | some a => cases e
    have := hb.nil_ hA
    omega
  · obtain ⟨b, o, rfl, hlt, hx⟩ := hb.at_ (by omega)
    refine ⟨b, o + K, ?_, hlt, fun j x hj => ?_⟩
    · rw [if_neg (by omega)]
      simp only [Option.map_some, Addr.add_lit, Nat.mul_one]
    · rw [List.getElem?_drop] at hj
      rw [Nat.add_assoc]
      exact hx (K + j) x hj
/-! One row of the rest. -/
theorem perm_of_mem {α : Type} {x : α} {l : List α} (h : x ∈ l) : ∃ r, l.Perm (x :: r) := by
  obtain ⟨s, t, rfl⟩ := List.append_of_mem h
  exact ⟨s ++ t, List.perm_middle⟩
theorem St.fromRest {n : Nat} {w0 w : World} {a : Act} {e : Env} {h tL r r0 hh : Hep} {x : Nat × Tid × Array Value} (hp : r.Perm (x :: r0)) (H : St n w0 a w e (h ++ (tL ++ (r ++ hh)))) : St n w0 a w e (x :: (h ++ (tL ++ (r0 ++ hh)))) := H.perm' (by
  have h1 : (h ++ (tL ++ (r ++ hh))).Perm (h ++ (tL ++ ((x :: r0) ++ hh))) := ((hp.append_right hh).append_left tL).append_left h
  refine h1.trans ?_
  rw [← List.append_assoc, ← List.append_assoc h tL]
  exact List.perm_middle)
theorem Kn.fromRest {w0 w : World} {h tL r r0 hh : Hep} {x : Nat × Tid × Array Value} (hp : r.Perm (x :: r0)) (K : Kn w0 w (h ++ (tL ++ (r ++ hh)))) : Kn w0 w (x :: (h ++ (tL ++ (r0 ++ hh)))) := by
  have h1 : (h ++ (tL ++ (r ++ hh))).Perm (x :: (h ++ (tL ++ (r0 ++ hh)))) := by
    refine (((hp.append_right hh).append_left tL).append_left h).trans ?_
    rw [← List.append_assoc, ← List.append_assoc h tL]
    exact List.perm_middle
  exact ⟨K.below, fun p hp => K.heap p (h1.mem_iff.2 hp), fun p hp => K.own p (h1.mem_iff.2 hp), h1.pairwise K.apart fun h1 h2 => h1 h2.symm⟩
theorem us_at {cur : Array Value} {cap k : Nat} {b : List UInt8} (hu : US8 cur 512 cap b) (hk : k < 512) : cur[k]? = some (bv (b.getD k 0)) := by
  have hl : b.length = 512 := by simpa using hu.len
  refine hu.at_ ?_
  rw [List.getElem?_map, List.getD_eq_getElem?_getD, List.getElem?_eq_getElem (by omega)]
  rfl
theorem us_xor {cur : Array Value} {cap k : Nat} {x : UInt8} {b : List UInt8} (hu : US8 cur 512 cap b) (hk : k < 512) : US8 (setV cur k [bv (b.getD k 0 ^^^ x)]) 512 cap (xorB k x b) := by
  have hl : b.length = 512 := by simpa using hu.len
  refine ⟨hu.le, hu.max, ?_, ?_, by rw [List.length_map, xor_len]; exact hl⟩
  · show (cur.setIfInBounds k _).size = _
    rw [Array.size_setIfInBounds]
    exact hu.size
  · show ((cur.setIfInBounds k _).toList).take 512 = _
    rw [Array.toList_setIfInBounds, List.take_set, hu.take, xorB_set (by omega), List.map_set]
section
variable {cB : Array Value} {xs : List Value} {r r0 : Hep} {gu gl : Nat → Nat × Nat} {B : List (List UInt8)} {L : List (Nat × List UInt8)} {cur cur' : Array Value} {b' : List UInt8}
theorem RowB.swap {g : Nat} {x : Nat × Nat} {b : List UInt8} (hx : RowB r x b) (hp : r.Perm ((g, .ty 5, cur) :: r0)) (hne : x.1 ≠ g) : RowB ((g, .ty 5, cur') :: r0) x b := by
  obtain ⟨c, h1, h2⟩ := hx
  refine ⟨c, ?_, h2⟩
  rcases List.mem_cons.1 (hp.mem_iff.1 h1) with h3 | h3
  · injection h3 with h3 _
    exact absurd h3 hne
  · exact List.mem_cons_of_mem _ h3
theorem RK.editB (h : RK cB xs r gu gl B L) {n : Nat} (hn : n < B.length) (hp : r.Perm (((gu n).1, .ty 5, cur) :: r0)) (hu : US8 cur' 512 (gu n).2 b') : RK cB xs (((gu n).1, .ty 5, cur') :: r0) gu gl (B.set n b') L := by
  refine ⟨fun i c hc => ?_, h.ln, fun k p hk => ?_, fun i j hi hj => ?_, h.ll, fun i k hi hk => ?_⟩
  · rw [List.getElem?_set] at hc
    by_cases e : n = i
    · subst e
      rw [if_pos rfl, if_pos hn] at hc
      injection hc with hc
      subst hc
      exact ⟨(h.bo n _ (List.getElem?_eq_getElem hn)).1, cur', List.mem_cons_self, hu⟩
    · rw [if_neg e] at hc
      exact ⟨(h.bo i c hc).1, (h.bo i c hc).2.swap hp fun he => e (h.uu n i hn (List.getElem?_eq_some_iff.1 hc).1 he.symm)⟩
  · obtain ⟨h1, h2, h3⟩ := h.lo k p hk
    exact ⟨h1, h2, h3.swap hp fun he => h.ul n k hn (List.getElem?_eq_some_iff.1 hk).1 he.symm⟩
  · rw [List.length_set] at hi hj
    exact h.uu i j hi hj
  · rw [List.length_set] at hi
    exact h.ul i k hi hk
theorem RK.editL (h : RK cB xs r gu gl B L) {k : Nat} {p : Nat × List UInt8} (hk : L[k]? = some p) (hp : r.Perm (((gl k).1, .ty 5, cur) :: r0)) (hu : US8 cur' 512 (gl k).2 b') : RK cB xs (((gl k).1, .ty 5, cur') :: r0) gu gl B (L.set k (p.1, b')) := by
  have hlt : k < L.length := (List.getElem?_eq_some_iff.1 hk).1
  refine ⟨fun i c hc => ⟨(h.bo i c hc).1, (h.bo i c hc).2.swap hp fun he => h.ul i k (List.getElem?_eq_some_iff.1 hc).1 hlt he⟩, by rw [List.length_set]; exact h.ln, fun j q hj => ?_, h.uu, fun i j hi hj => ?_, fun i j hi hj => ?_⟩
  · rw [List.getElem?_set] at hj
    by_cases e : k = j
    · subst e
      rw [if_pos rfl, if_pos hlt] at hj
      injection hj with hj
      subst hj
      obtain ⟨h1, h2, h3⟩ := h.lo k p hk
      exact ⟨h1, h2, cur', List.mem_cons_self, hu⟩
    · rw [if_neg e] at hj
      obtain ⟨h1, h2, h3⟩ := h.lo j q hj
      exact ⟨h1, h2, h3.swap hp fun he => e (h.ll k j hlt (List.getElem?_eq_some_iff.1 hj).1 he.symm)⟩
  · rw [List.length_set] at hi hj
    exact h.ll i j hi hj
  · rw [List.length_set] at hj
    exact h.ul i j hi hj
end
/-! Writes that are edited one by one. -/
def EL (n a : Nat) (x : UInt8) (L : List (Nat × List UInt8)) (k : Nat) : List (Nat × List UInt8) := editL n a x (L.take k) ++ L.drop k
section
variable {n a k : Nat} {x : UInt8} {L : List (Nat × List UInt8)} {p : Nat × List UInt8}
theorem EL_0 : EL n a x L 0 = L := by
  unfold EL
  rw [List.take_zero, List.drop_zero]
  rfl
theorem EL_all : EL n a x L L.length = editL n a x L := by
  unfold EL
  rw [List.take_length, List.drop_length, List.append_nil]
theorem EL_pre (hk : k ≤ L.length) : (editL n a x (L.take k)).length = k := by simp [editL, Nat.min_eq_left hk]
theorem EL_at (hp : L[k]? = some p) : (EL n a x L k)[k]? = some p := by
  have hlt : k < L.length := (List.getElem?_eq_some_iff.1 hp).1
  unfold EL
  rw [List.getElem?_append_right (by rw [EL_pre (by omega)]; exact Nat.le_refl _), EL_pre (by omega), Nat.sub_self, List.getElem?_drop]
  exact hp
theorem EL_succ (hp : L[k]? = some p) : EL n a x L (k + 1) = (EL n a x L k).set k (if p.1 = n then (p.1, xorB a x p.2) else p) := by
  have hlt : k < L.length := (List.getElem?_eq_some_iff.1 hp).1
  unfold EL
  rw [editL_take k hp, List.set_append_right _ _ (by rw [EL_pre (by omega)]; exact Nat.le_refl _), EL_pre (by omega), Nat.sub_self, List.append_assoc]
  have e : L.drop k = p :: L.drop (k + 1) := by
    rw [List.drop_eq_getElem_cons hlt]
    congr 1
    rw [List.getElem?_eq_getElem hlt] at hp
    exact Option.some.inj hp
  rw [e]
  rfl
theorem EL_no (hp : L[k]? = some p) (hn : ¬ p.1 = n) : EL n a x L (k + 1) = EL n a x L k := by
  have h1 := EL_at (n := n) (a := a) (x := x) hp
  rw [EL_succ hp, if_neg hn]
  apply List.ext_getElem?
  intro i
  rw [List.getElem?_set]
  split
  · rename_i e
    subst e
    rw [if_pos (List.getElem?_eq_some_iff.1 h1).1, h1]
  · rfl
theorem EL_len (hk : k ≤ L.length) : (EL n a x L k).length = L.length := by
  unfold EL
  rw [List.length_append, EL_pre hk, List.length_drop]
  omega
end
attribute [local irreducible] bvs dwa entsI zeroB lastsB stepP lastN xorB rb dWrite dSync dFuse dEdit readK bv hiV
set_option maxHeartbeats 4000000 in
theorem divide_any (n b : Int) (hn : -9223372036854775808 ≤ n ∧ n < 9223372036854775808) (hb : 1 < b ∧ b ≤ 1000) (w : World) : Calls Try.prog 51 #[.int .i64 n, .int .i64 b] w (fun rr w' => rr = .returned (.tuple #[.int .i64 (n / b), .int .i64 (n % b)]) ∧ Below w.heap.size w w') := by
  have hd_ := tdiv_in hn hb.1
  have hm_ := tmod_in (n := n) hb.1
  obtain ⟨hs1, hs2⟩ := tmod_sign n b (by omega)
  refine calls_st (vs := [.int .i64 n, .int .i64 b]) 31 Try.func51 rfl Try.ntmps51 rfl (fun a W H => ?_)
  replace H : St 31 w a W [(0, .int .i64 n), (1, .int .i64 b)] [] := H
  refine sqR H gs0 fun Z_ z_ => rS 2 rfl <| rN0 z_ ?_
  try clear H a W
  intro a W H
  refine sqR H gs0 fun Z_ z_ => rS 2 rfl <| rV rfl (does_binOp rfl rfl rfl (zd_remT (by omega) _ _)) <| rS 1 rfl <| rK [1, 0, 0, 0] [] [] <| rN0 z_ ?_
  try clear H a W
  intro a W H
  refine wp_seq_k (fun K3 hK3 => ?_)
  refine sqR H gs0 fun Z_ z_ => rS 1 rfl <| rV rfl (does_binOp rfl rfl rfl (zd_lss_int (k := (n.tmod b)) (m := 0) rfl _ _)) <| rK [1, 0] [] [] <| rN0 z_ ?_
  try clear H a W
  intro a W H
  cases hq1 : decide ((n.tmod b) < 0) with
  | true =>
    rw [hq1] at H
    have hq1p := of_decide_eq_true hq1
    refine wp_cond_true (H.ev rfl) ?_
    refine rgP H gs0 (rS 2 rfl <| rV rfl (does_binOp rfl rfl rfl (zd_add_int (k := (n.tmod b)) (m := b) (c := (n.tmod b) + b) rfl (by omega) _ _)) <| rK [1, 1, 1, 1, 0] [] [] <| rS 1 rfl <| rK [1, 0, 0, 0, 0] [] [] <| rZ0 ?_)
    try clear H a W
    intro a W H
    refine hK3 _ _ ?_
    clear hK3
    refine sqR H gs0 fun Z_ z_ => rS 2 rfl <| rV rfl (does_binOp rfl rfl rfl (zd_quoT (by omega) (by omega) _ _)) <| rS 1 rfl <| rK [1, 0, 0, 0] [] [] <| rN0 z_ ?_
    try clear H a W
    intro a W H
    refine wp_seq_k (fun K6 hK6 => ?_)
    refine wp_seq_k (fun K7 hK7 => ?_)
    cases hq2 : decide (n < 0) with
    | true =>
      have hq2p := of_decide_eq_true hq2
      refine rgP H gs0 (rS 1 rfl <| rV rfl (does_binOp rfl rfl rfl (zd_lss_int (k := n) (m := 0) hq2 _ _)) <| rS 3 rfl <| rV rfl (does_binOp rfl rfl rfl (zd_remT (by omega) _ _)) <| rV rfl (does_binOp rfl rfl rfl (zd_neq_int (k := (n.tmod b)) (m := 0) rfl _ _)) <| rS 1 rfl <| rK [1, 0, 0, 0, 0, 0, 0, 0, 1, 1, 1, 1, 0, 0] [] [] <| rZ0 ?_)
      try clear H a W
      intro a W H
      refine hK7 _ _ ?_
      clear hK7
      cases hq3 : decide ((n.tmod b) ≠ 0) with
      | true =>
        rw [hq3] at H
        have hq3p := of_decide_eq_true hq3
        refine wp_cond_true (H.ev rfl) ?_
        refine rgP H gs0 (rS 1 rfl <| rV rfl (does_binOp rfl rfl rfl (zd_sub_int (k := (n.tdiv b)) (m := 1) (c := (n.tdiv b) - 1) rfl (by omega) _ _)) <| rK [1, 1, 1, 0] [] [] <| rS 1 rfl <| rK [1, 0, 0, 0] [] [] <| rZ0 ?_)
        try clear H a W
        intro a W H
        refine hK6 _ _ ?_
        clear hK6
        refine sqR H gs0 fun Z_ z_ => rS 2 rfl <| rK [1, 1, 1, 1, 1, 0] [] [] <| rS 1 rfl <| rK [1, 1, 1, 1, 1, 0] [] [] <| rS 1 rfl <| rK [1, 1, 0, 0, 0, 0] [] [] <| rN0 z_ ?_
        try clear H a W
        intro a W H
        refine wp_ret ?_
        repeat (first | (with_reducible refine then_ret ?_) | (with_reducible refine blk_ret ?_))
        refine end_tmps2 (p := 4) (q := 5) rfl rfl rfl H (fun hb_ => ?_)
        first | (exfalso; omega) | (obtain ⟨e1, e2⟩ := div_neg (n := n) (b := b) (by omega) (by omega); rw [← e1, ← e2]; exact ⟨rfl, hb_⟩)
      | false =>
        rw [hq3] at H
        have hq3p := of_decide_eq_false hq3
        refine wp_cond_false (H.ev rfl) ?_
        refine wp_skip ?_
        refine hK6 _ _ ?_
        clear hK6
        refine sqR H gs0 fun Z_ z_ => rS 2 rfl <| rK [1, 1, 1, 1, 1, 1, 0] [] [] <| rS 1 rfl <| rK [1, 1, 1, 1, 1, 1, 0] [] [] <| rS 1 rfl <| rK [1, 1, 0, 0, 0, 0, 0] [] [] <| rN0 z_ ?_
        try clear H a W
        intro a W H
        refine wp_ret ?_
        repeat (first | (with_reducible refine then_ret ?_) | (with_reducible refine blk_ret ?_))
        refine end_tmps2 (p := 4) (q := 5) rfl rfl rfl H (fun hb_ => ?_)
        first | (exfalso; omega) | (obtain ⟨e1, e2⟩ := div_neg (n := n) (b := b) (by omega) (by omega); rw [← e1, ← e2]; exact ⟨rfl, hb_⟩)
    | false =>
      have hq2p := of_decide_eq_false hq2
      refine rgP H gs0 (rS 1 rfl <| rV rfl (does_binOp rfl rfl rfl (zd_lss_int (k := n) (m := 0) hq2 _ _)) <| rS 6 rfl <| rK [1, 0, 0, 0, 0, 0, 0, 0, 1, 1, 1, 1, 0, 0] [] [] <| rZ0 ?_)
      try clear H a W
      intro a W H
      refine hK7 _ _ ?_
      clear hK7
      refine wp_cond_false (H.ev rfl) ?_
      refine wp_skip ?_
      refine hK6 _ _ ?_
      clear hK6
      refine sqR H gs0 fun Z_ z_ => rS 2 rfl <| rK [1, 1, 1, 1, 1, 1, 0] [] [] <| rS 1 rfl <| rK [1, 1, 1, 1, 1, 1, 0] [] [] <| rS 1 rfl <| rK [1, 1, 0, 0, 0, 0, 0] [] [] <| rN0 z_ ?_
      try clear H a W
      intro a W H
      refine wp_ret ?_
      repeat (first | (with_reducible refine then_ret ?_) | (with_reducible refine blk_ret ?_))
      refine end_tmps2 (p := 4) (q := 5) rfl rfl rfl H (fun hb_ => ?_)
      first | (exfalso; omega) | (obtain ⟨e1, e2⟩ := div_neg (n := n) (b := b) (by omega) (by omega); rw [← e1, ← e2]; exact ⟨rfl, hb_⟩)
  | false =>
    rw [hq1] at H
    have hq1p := of_decide_eq_false hq1
    refine wp_cond_false (H.ev rfl) ?_
    refine wp_skip ?_
    refine hK3 _ _ ?_
    clear hK3
    refine sqR H gs0 fun Z_ z_ => rS 2 rfl <| rV rfl (does_binOp rfl rfl rfl (zd_quoT (by omega) (by omega) _ _)) <| rS 1 rfl <| rK [1, 0, 0, 0, 0] [] [] <| rN0 z_ ?_
    try clear H a W
    intro a W H
    refine wp_seq_k (fun K12 hK12 => ?_)
    refine wp_seq_k (fun K13 hK13 => ?_)
    cases hq4 : decide (n < 0) with
    | true =>
      have hq4p := of_decide_eq_true hq4
      refine rgP H gs0 (rS 1 rfl <| rV rfl (does_binOp rfl rfl rfl (zd_lss_int (k := n) (m := 0) hq4 _ _)) <| rS 3 rfl <| rV rfl (does_binOp rfl rfl rfl (zd_remT (by omega) _ _)) <| rV rfl (does_binOp rfl rfl rfl (zd_neq_int (k := (n.tmod b)) (m := 0) rfl _ _)) <| rS 1 rfl <| rK [1, 0, 0, 0, 0, 0, 0, 0, 1, 1, 1, 1, 0, 0] [] [] <| rZ0 ?_)
      try clear H a W
      intro a W H
      refine hK13 _ _ ?_
      clear hK13
      cases hq5 : decide ((n.tmod b) ≠ 0) with
      | true =>
        rw [hq5] at H
        have hq5p := of_decide_eq_true hq5
        refine wp_cond_true (H.ev rfl) ?_
        refine rgP H gs0 (rS 1 rfl <| rV rfl (does_binOp rfl rfl rfl (zd_sub_int (k := (n.tdiv b)) (m := 1) (c := (n.tdiv b) - 1) rfl (by omega) _ _)) <| rK [1, 1, 1, 0] [] [] <| rS 1 rfl <| rK [1, 0, 0, 0] [] [] <| rZ0 ?_)
        try clear H a W
        intro a W H
        refine hK12 _ _ ?_
        clear hK12
        refine sqR H gs0 fun Z_ z_ => rS 2 rfl <| rK [1, 1, 1, 1, 1, 0] [] [] <| rS 1 rfl <| rK [1, 1, 1, 1, 1, 0] [] [] <| rS 1 rfl <| rK [1, 1, 0, 0, 0, 0] [] [] <| rN0 z_ ?_
        try clear H a W
        intro a W H
        refine wp_ret ?_
        repeat (first | (with_reducible refine then_ret ?_) | (with_reducible refine blk_ret ?_))
        refine end_tmps2 (p := 4) (q := 5) rfl rfl rfl H (fun hb_ => ?_)
        first | (exfalso; omega) | (obtain ⟨e1, e2⟩ := div_pos (n := n) (b := b) (by omega) (by omega); rw [← e1, ← e2]; exact ⟨rfl, hb_⟩)
      | false =>
        rw [hq5] at H
        have hq5p := of_decide_eq_false hq5
        refine wp_cond_false (H.ev rfl) ?_
        refine wp_skip ?_
        refine hK12 _ _ ?_
        clear hK12
        refine sqR H gs0 fun Z_ z_ => rS 2 rfl <| rK [1, 1, 1, 1, 1, 1, 0] [] [] <| rS 1 rfl <| rK [1, 1, 1, 1, 1, 1, 0] [] [] <| rS 1 rfl <| rK [1, 1, 0, 0, 0, 0, 0] [] [] <| rN0 z_ ?_
        try clear H a W
        intro a W H
        refine wp_ret ?_
        repeat (first | (with_reducible refine then_ret ?_) | (with_reducible refine blk_ret ?_))
        refine end_tmps2 (p := 4) (q := 5) rfl rfl rfl H (fun hb_ => ?_)
        first | (exfalso; omega) | (obtain ⟨e1, e2⟩ := div_pos (n := n) (b := b) (by omega) (by omega); rw [← e1, ← e2]; exact ⟨rfl, hb_⟩)
    | false =>
      have hq4p := of_decide_eq_false hq4
      refine rgP H gs0 (rS 1 rfl <| rV rfl (does_binOp rfl rfl rfl (zd_lss_int (k := n) (m := 0) hq4 _ _)) <| rS 6 rfl <| rK [1, 0, 0, 0, 0, 0, 0, 0, 1, 1, 1, 1, 0, 0] [] [] <| rZ0 ?_)
      try clear H a W
      intro a W H
      refine hK13 _ _ ?_
      clear hK13
      refine wp_cond_false (H.ev rfl) ?_
      refine wp_skip ?_
      refine hK12 _ _ ?_
      clear hK12
      refine sqR H gs0 fun Z_ z_ => rS 2 rfl <| rK [1, 1, 1, 1, 1, 1, 0] [] [] <| rS 1 rfl <| rK [1, 1, 1, 1, 1, 1, 0] [] [] <| rS 1 rfl <| rK [1, 1, 0, 0, 0, 0, 0] [] [] <| rN0 z_ ?_
      try clear H a W
      intro a W H
      refine wp_ret ?_
      repeat (first | (with_reducible refine then_ret ?_) | (with_reducible refine blk_ret ?_))
      refine end_tmps2 (p := 4) (q := 5) rfl rfl rfl H (fun hb_ => ?_)
      first | (exfalso; omega) | (obtain ⟨e1, e2⟩ := div_pos (n := n) (b := b) (by omega) (by omega); rw [← e1, ← e2]; exact ⟨rfl, hb_⟩)
theorem divide513 (n : Int) (hn : -9223372036854775808 ≤ n ∧ n < 9223372036854775808) (w : World) : Calls Try.prog 51 #[.int .i64 n, .int .i64 513] w (fun rr w' => rr = .returned (.tuple #[.int .i64 (n / 513), .int .i64 (((n % 513).toNat : Nat) : Int)]) ∧ Below w.heap.size w w') := by
  have h := divide_any n 513 hn (by decide) w
  rwa [show (((n % 513).toNat : Nat) : Int) = n % 513 by omega]
set_option maxHeartbeats 4000000 in
theorem rcrash_x {X : RX} {p : Nat} {D : Dk} {hh : Hep} (w0 : World) {Ap : Option Addr} {np cp : Nat} {picks : List Int} (hP : PK w0 hh Ap np picks) (hnp : np < 9223372036854775808) (hX : X.ok D) (w : World) (K : Kn w0 w (X.rows p D ++ hh)) : Calls Try.prog 37 #[.pointer (some ⟨p, 0, none⟩), .slice Ap np cp] w (fun rr w' => ∃ r', rr = .returned (.tuple #[]) ∧ RO p (dCrash D picks) r' ∧ Kn w0 w' (r' ++ hh)) := by
  have hnb := hX.nb
  have hfu := hX.fu
  have hnl := hX.nl
  rw [RX.rows_hh] at K
  unfold RX.row at K
  obtain ⟨gp, op_, hpk⟩ := hP.at_
  have hpl := hP.len
  obtain ⟨gL, cL, hat⟩ := hX.at_
  refine calls_kn (vs := [.pointer (some ⟨p, 0, none⟩), .slice Ap np cp]) 90 Try.func37 rfl Try.ntmps37 rfl K (fun a W H => ?_)
  replace H : St 90 w0 a W [(0, .pointer (some ⟨p, 0, none⟩)), (1, .slice Ap np cp)] ((p, 67, (rdC (.slice (some ⟨X.gB, 0, none⟩) D.B.length X.capB) (.slice X.A D.L.length X.capL) D.fuse D.dead)) :: (X.gB, 39, X.cB) :: (X.tL ++ (X.rest ++ hh))) := H
  refine wp_seq_k (fun K1 hK1 => ?_)
  refine sqR H gs0 fun Z_ z_ => rS 1 rfl <| rN0 z_ ?_
  try clear H a W
  intro a W H
  refine wp_block ?_
  replace H : St 90 w0 a W [(4, .int .i64 0), (0, .pointer (some ⟨p, 0, none⟩)), (1, .slice Ap np cp)] ((p, 67, (rdC (.slice (some ⟨X.gB, 0, none⟩) D.B.length X.capB) (.slice X.A D.L.length X.capL) D.fuse D.dead)) :: (X.gB, 39, X.cB) :: (X.tL ++ (X.rest ++ hh))) := H.pickF (h := [(p, 67, (rdC (.slice (some ⟨X.gB, 0, none⟩) D.B.length X.capB) (.slice X.A D.L.length X.capL) D.fuse D.dead)), (X.gB, 39, X.cB)]) (t := (X.tL ++ (X.rest ++ hh))) [0, 1, 2] [0, 1] rfl
  refine wp_rounds D.L.length (fun k a W => ∃ cB r gu, (RK cB X.xs r gu X.gl (BK D.L (ksP picks D.L.length) D.B k) D.L ∧ True) ∧ St 90 w0 a W [(4, .int .i64 ((k : Nat) : Int)), (0, .pointer (some ⟨p, 0, none⟩)), (1, .slice Ap np cp)] ((p, 67, (rdC (.slice (some ⟨X.gB, 0, none⟩) D.B.length X.capB) (.slice X.A D.L.length X.capL) D.fuse D.dead)) :: (X.gB, 39, cB) :: (X.tL ++ (r ++ hh)))) (k0 := 0) ⟨X.cB, X.rest, X.gu, ⟨hX.rk, trivial⟩, H⟩ (by omega) ?_
  try clear H a W
  rintro k a W hk ⟨cB, r, gu, hJ, H⟩
  by_cases hk2 : k < D.L.length
  · obtain ⟨⟨nk, bk⟩, hLk⟩ : ∃ q, D.L[k]? = some q := ⟨_, List.getElem?_eq_getElem hk2⟩
    have hdk := hX.dk.L _ (List.mem_iff_getElem?.2 ⟨k, hLk⟩)
    have hnk : nk < D.B.length := hdk.1
    have hl_bk : bk.length = 512 := hdk.2
    have hl_old : ((BK D.L (ksP picks D.L.length) D.B k).getD nk []).length = 512 := getD_len (BK_all hX.dk.B hX.dk.L (ksP_le _ _) k (by omega)) (by rw [BK_len]; exact hnk)
    have hzb := hP.bigD k
    refine wp_seq_k (fun K3 hK3 => ?_)
    refine sqR H gs0 fun Z_ z_ => rS 2 rfl <| rV rfl (does_nilCheckQ rfl rfl) <| rV rfl (does_fieldAddr rfl rfl (fa_rd 1 (by decide))) <| rV rfl (does_loadAt (v := .slice X.A D.L.length X.capL) rfl rfl (k := 0) rfl ld_rd1) <| rV rfl (does_len Try.underlying65 rfl rfl) <| rV rfl (does_binOp rfl rfl rfl (zd_lss_int (k := ((k : Nat) : Int)) (m := ((D.L.length : Nat) : Int)) (decide_eq_true (by omega)) _ _)) <| rN0 z_ ?_
    try clear H a W
    intro a W H
    refine wp_cond_true (H.ev rfl) ?_
    refine wp_skip ?_
    refine hK3 _ _ ?_
    clear hK3
    refine wp_seq_k (fun K5 hK5 => ?_)
    refine wp_block ?_
    refine sqR H gs0 fun Z_ z_ => rS 1 rfl <| rN0 z_ ?_
    try clear H a W
    intro a W H
    refine wp_seq_k (fun K7 hK7 => ?_)
    refine sqR H gs0 fun Z_ z_ => rS 2 rfl <| rV rfl (does_len Try.underlying33 rfl rfl) <| rV rfl (does_binOp rfl rfl rfl (zd_lss_int (k := ((k : Nat) : Int)) (m := ((np : Nat) : Int)) rfl _ _)) <| rN0 z_ ?_
    try clear H a W
    intro a W H
    cases hq1 : decide (((k : Nat) : Int) < ((np : Nat) : Int)) with
    | true =>
      rw [hq1] at H
      have hq1p := of_decide_eq_true hq1
      refine wp_cond_true (H.ev rfl) ?_
      refine rgP H gs0 (rS 2 rfl <| rV rfl (does_indexAddr rfl rfl rfl (ia_ints (j := k) (hpk (by omega)).1 (by omega))) <| rV rfl (does_loadPK rfl rfl (fun q hq => (List.mem_cons_of_mem _ (List.mem_cons_of_mem _ (List.mem_append_right _ (List.mem_append_right _ hq))))) (fun W hb hW => (hpk (by omega)).2 W hb hW k _ (getD_some (by omega)))) <| rK [1, 1, 1, 1, 1, 1, 1, 1, 0] [] [] <| rS 1 rfl <| rZ0 ?_)
      try clear H a W
      intro a W H
      refine hK7 _ _ ?_
      clear hK7
      refine sqR H gs0 fun Z_ z_ => rS 1 rfl <| rV rfl (does_call rfl ⟨_, Try.func51, by kernel_rfl⟩ rfl (fun W hb => divide_any (picks.getD k 0) 3 (by omega) (by omega) W)) <| rS 5 rfl <| rN0 z_ ?_
      try clear H a W
      intro a W H
      refine wp_seq_k (fun K10 hK10 => ?_)
      refine sqR H gs0 fun Z_ z_ => rS 1 rfl <| rV rfl (does_binOp rfl rfl rfl (zd_eql_int (k := ((picks.getD k 0) % 3)) (m := 0) rfl _ _)) <| rN0 z_ ?_
      try clear H a W
      intro a W H
      cases hq2 : decide (((picks.getD k 0) % 3) = 0) with
      | true =>
        rw [hq2] at H
        have hq2p := of_decide_eq_true hq2
        refine wp_cond_true (H.ev rfl) ?_
        refine wp_exit ?_
        repeat (first | (with_reducible refine then_exit ?_) | (with_reducible refine blk_pass (by decide) ?_))
        refine blk_exit ?_
        refine hK5 _ _ ?_
        clear hK5
        refine rgP H gs0 (rS 1 rfl <| rV rfl (does_binOp rfl rfl rfl (zd_add_int (k := ((k : Nat) : Int)) (m := 1) (c := ((k + 1 : Nat) : Int)) (by omega) (by omega) _ _)) <| rK [1, 1, 1, 1, 1, 1, 1, 1, 1, 1, 1, 1, 1, 1, 1, 1, 1, 1, 1, 1, 1, 1, 1, 1, 1, 1, 1, 0] [] [] <| rS 1 rfl <| rZ0 ?_)
        try clear H a W
        intro a W H
        have hks : ksP picks D.L.length k = 0 := by
          unfold ksP lastN lastsB
          rw [if_pos hq2p]
          rfl
        refine ⟨k + 1, by omega, by omega, cB, r, gu, ⟨by rw [BK_succ, get_of hLk, hks]; show RK _ _ _ _ _ (List.set _ nk (tornB 0 bk _)) _; rw [torn_0, set_self (by rw [BK_len]; exact hnk)]; exact hJ.1, trivial⟩, ?_⟩
        exact H.pickF (h := [(p, 67, (rdC (.slice (some ⟨X.gB, 0, none⟩) D.B.length X.capB) (.slice X.A D.L.length X.capL) D.fuse D.dead)), (X.gB, 39, cB)]) (t := (X.tL ++ (r ++ hh))) [0, 28, 29] [0, 1] rfl
      | false =>
        rw [hq2] at H
        have hq2p := of_decide_eq_false hq2
        refine wp_cond_false (H.ev rfl) ?_
        refine wp_skip ?_
        refine hK10 _ _ ?_
        clear hK10
        refine sqR H gs0 fun Z_ z_ => rS 1 rfl <| rN0 z_ ?_
        try clear H a W
        intro a W H
        refine wp_seq_k (fun K13 hK13 => ?_)
        refine wp_seq_k (fun K14 hK14 => ?_)
        cases hq3 : decide (((picks.getD k 0) % 3) = 2) with
        | true =>
          have hq3p := of_decide_eq_true hq3
          refine rgP H gs0 (rS 1 rfl <| rV rfl (does_binOp rfl rfl rfl (zd_eql_int (k := ((picks.getD k 0) % 3)) (m := 2) hq3 _ _)) <| rS 3 rfl <| rV rfl (does_nilCheckQ rfl rfl) <| rV rfl (does_fieldAddr rfl rfl (fa_rd 1 (by decide))) <| rV rfl (does_loadAt (v := .slice X.A D.L.length X.capL) rfl rfl (k := 0) rfl ld_rd1) <| rV rfl (does_len Try.underlying65 rfl rfl) <| rV rfl (does_binOp rfl rfl rfl (zd_sub_int (k := ((D.L.length : Nat) : Int)) (m := 1) (c := ((D.L.length : Nat) : Int) - 1) rfl (by omega) _ _)) <| rV rfl (does_binOp rfl rfl rfl (zd_eql_int (k := ((k : Nat) : Int)) (m := (((D.L.length : Nat) : Int) - 1)) rfl _ _)) <| rS 1 rfl <| rZ0 ?_)
          try clear H a W
          intro a W H
          refine hK14 _ _ ?_
          clear hK14
          cases hq4 : decide (((k : Nat) : Int) = (((D.L.length : Nat) : Int) - 1)) with
          | true =>
            rw [hq4] at H
            have hq4p := of_decide_eq_true hq4
            refine wp_cond_true (H.ev rfl) ?_
            refine rgP H gs0 (rS 1 rfl <| rV rfl (does_call rfl ⟨_, Try.func51, by kernel_rfl⟩ rfl (fun W hb => divide513 ((picks.getD k 0) / 3) (by omega) W)) <| rS 3 rfl <| rK [1, 1, 1, 1, 1, 1, 1, 1, 1, 1, 1, 1, 1, 1, 1, 1, 1, 0] [] [] <| rS 1 rfl <| rK [1, 1, 0] [] [] <| rZ0 ?_)
            try clear H a W
            intro a W H
            refine hK13 _ _ ?_
            clear hK13
            refine sqR H gs0 fun Z_ z_ => rS 1 rfl <| rV rfl (does_nilCheckQ rfl rfl) <| rV rfl (does_fieldAddr rfl rfl (fa_rd 1 (by decide))) <| rV rfl (does_loadAt (v := .slice X.A D.L.length X.capL) rfl rfl (k := 0) rfl ld_rd1) <| rS 1 rfl <| rV rfl (does_indexAddr rfl rfl rfl (ia_lates (j := k) (hat (by omega)).1 (by omega))) <| rV rfl (does_loadMem (v := .agg (ltC ((nk : Nat) : Int) (.slice (some ⟨(X.gl k).1, 0, none⟩) 512 (X.gl k).2))) rfl rfl (List.mem_cons_of_mem _ (List.mem_cons_of_mem _ (List.mem_append_left _ (hat (by omega)).2.1))) (fun W hW => ld_lateA ((hat (by omega)).2.2 _ _ (hJ.1.lo k _ hLk).1) ((hat (by omega)).2.2 _ _ (hJ.1.lo k _ hLk).2.1) W hW)) <| rA rfl rfl al_late fun g1 => rW [1] ⟨rfl, rfl⟩ rfl rfl rfl (info_late _ _) (size_late _ _ _ _) (one_late _ _ _ _) <| rN0 z_ ?_
            try clear H a W
            intro a W H
            refine drawnR1 SB (WR w0.heap.size ((g1, 87, ltC ((nk : Nat) : Int) (.slice (some ⟨(X.gl k).1, 0, none⟩) 512 (X.gl k).2)) :: (p, 67, (rdC (.slice (some ⟨X.gB, 0, none⟩) D.B.length X.capB) (.slice X.A D.L.length X.capL) D.fuse D.dead)) :: (X.gB, 39, cB) :: (X.tL ++ (r ++ hh)))) (⟨58, fun u_ _ => u_ = .pointer (some ⟨p, 0, none⟩), [], none, false⟩ :: ⟨59, fun u_ _ => u_ = .pointer (some ⟨p, 0, none⟩), [0], none, false⟩ :: ⟨60, fun u_ _ => u_ = .pointer (some ⟨p, 0, none⟩), [1], none, false⟩ :: ⟨61, fun u_ _ => u_ = .slice (some ⟨X.gB, 0, none⟩) D.B.length X.capB, [2], none, false⟩ :: ⟨62, fun u_ _ => u_ = .pointer (some ⟨g1, 0, none⟩), [], none, false⟩ :: ⟨63, fun u_ _ => u_ = .int .i64 ((nk : Nat) : Int), [4], none, false⟩ :: ⟨64, fun u_ _ => u_ = .pointer (some ⟨g1, 1, none⟩), [], none, false⟩ :: ⟨65, fun u_ _ => u_ = .slice (some ⟨(X.gl k).1, 0, none⟩) 512 (X.gl k).2, [6], none, false⟩ :: ⟨66, fun u_ _ => u_ = .int .i64 (((((picks.getD k 0) / 3) % 513).toNat : Nat) : Int), [], none, false⟩ :: ⟨67, fun u_ _ => u_ = .slice (some ⟨(X.gl k).1, 0, none⟩) ((((picks.getD k 0) / 3) % 513).toNat) (X.gl k).2, [7, 8], none, false⟩ :: ⟨68, OF w0.heap.size ((g1, 87, ltC ((nk : Nat) : Int) (.slice (some ⟨(X.gl k).1, 0, none⟩) 512 (X.gl k).2)) :: (p, 67, (rdC (.slice (some ⟨X.gB, 0, none⟩) D.B.length X.capB) (.slice X.A D.L.length X.capL) D.fuse D.dead)) :: (X.gB, 39, cB) :: (X.tL ++ (r ++ hh))) (bk.take ((((picks.getD k 0) / 3) % 513).toNat)), [9], (some 21), false⟩ :: ⟨69, fun u_ _ => u_ = .pointer (some ⟨p, 0, none⟩), [], none, false⟩ :: ⟨70, fun u_ _ => u_ = .pointer (some ⟨p, 0, none⟩), [11], none, false⟩ :: ⟨71, fun u_ _ => u_ = .pointer (some ⟨p, 0, none⟩), [12], none, false⟩ :: ⟨72, fun u_ _ => u_ = .slice (some ⟨X.gB, 0, none⟩) D.B.length X.capB, [13], none, false⟩ :: ⟨73, fun u_ _ => u_ = .pointer (some ⟨g1, 0, none⟩), [], none, false⟩ :: ⟨74, fun u_ _ => u_ = .int .i64 ((nk : Nat) : Int), [15], none, false⟩ :: ⟨75, fun u_ _ => u_ = .pointer (some ⟨X.gB, nk, none⟩), [14, 16], none, false⟩ :: ⟨76, fun u_ _ => u_ = .slice (some ⟨(gu nk).1, 0, none⟩) 512 (gu nk).2, [17], none, false⟩ :: ⟨77, fun u_ _ => u_ = .int .i64 (((((picks.getD k 0) / 3) % 513).toNat : Nat) : Int), [], none, false⟩ :: ⟨78, fun u_ _ => u_ = hiV (some ⟨(gu nk).1, 0, none⟩) 512 (gu nk).2 ((((picks.getD k 0) / 3) % 513).toNat), [18, 19], none, false⟩ :: ⟨79, OF w0.heap.size ((g1, 87, ltC ((nk : Nat) : Int) (.slice (some ⟨(X.gl k).1, 0, none⟩) 512 (X.gl k).2)) :: (p, 67, (rdC (.slice (some ⟨X.gB, 0, none⟩) D.B.length X.capB) (.slice X.A D.L.length X.capL) D.fuse D.dead)) :: (X.gB, 39, cB) :: (X.tL ++ (r ++ hh))) ((bk.take ((((picks.getD k 0) / 3) % 513).toNat)) ++ (((BK D.L (ksP picks D.L.length) D.B k).getD nk []).drop ((((picks.getD k 0) / 3) % 513).toNat))), [10, 20], none, true⟩ :: []) (0 :: 1 :: 2 :: 4 :: 0 :: 16 :: 0 :: 64 :: 0 :: 384 :: 512 :: 0 :: 2048 :: 4096 :: 8192 :: 0 :: 32768 :: 81920 :: 131072 :: 0 :: 786432 :: 1049600 :: 4194303 :: 8388607 :: []) [3, 5, 21] (one_own (c := 21) (by kernel_rfl)) sb_st wr_st (by kernel_rfl) (by kernel_rfl) (by kernel_rfl) H ⟨⟨fun a W  H => by exact ob_valS H (wanted_none rfl) (does_move rfl rfl), val_grow, fun _ _ => val_grow⟩, ⟨fun a W y0 hy0 H => by subst hy0; exact ob_valS H (wanted_none rfl) (does_nilCheckQ rfl rfl), val_grow, fun _ _ => val_grow⟩, ⟨fun a W y1 hy1 H => by subst hy1; exact ob_valS H (wanted_none rfl) (does_fieldAddr rfl rfl (fa_rd 0 (by decide))), val_grow, fun _ _ => val_grow⟩, ⟨fun a W y2 hy2 H => by subst hy2; exact ob_valS H (wanted_none rfl) (does_loadAt (v := .slice (some ⟨X.gB, 0, none⟩) D.B.length X.capB) rfl rfl (k := 1) rfl ld_rd0), val_grow, fun _ _ => val_grow⟩, ⟨fun a W  H => by exact ob_valS H (wanted_none rfl) (does_fieldAddr rfl rfl fa_late0), val_grow, fun _ _ => val_grow⟩, ⟨fun a W y4 hy4 H => by subst hy4; exact ob_valS H (wanted_none rfl) (does_loadAt (v := .int .i64 ((nk : Nat) : Int)) rfl rfl (k := 0) rfl ld_late0), val_grow, fun _ _ => val_grow⟩, ⟨fun a W  H => by exact ob_valS H (wanted_none rfl) (does_fieldAddr rfl rfl fa_late1), val_grow, fun _ _ => val_grow⟩, ⟨fun a W y6 hy6 H => by subst hy6; exact ob_valS H (wanted_none rfl) (does_loadAt (v := .slice (some ⟨(X.gl k).1, 0, none⟩) 512 (X.gl k).2) rfl rfl (k := 0) rfl ld_late1), val_grow, fun _ _ => val_grow⟩, ⟨fun a W  H => by exact ob_valS H (wanted_none rfl) (does_move rfl rfl), val_grow, fun _ _ => val_grow⟩, ⟨fun a W y7 hy7 y8 hy8 H => by subst hy7; subst hy8; exact ob_valS H (wanted_none rfl) (does_slice rfl rfl (vl := none) (vh := some (.int .i64 (((((picks.getD k 0) / 3) % 513).toNat : Nat) : Int))) rfl rfl (lo_run (by omega) (hJ.1.lo k _ hLk).2.2.cap)), val_grow, fun _ _ => val_grow⟩, ⟨fun a W y9 hy9 H => by subst hy9; exact ob_app0S H (wanted_none rfl) rfl rfl (lo_bf (RowB.bf (hJ.1.lo k _ hLk).2.2 H (fun q_ hq_ => (List.mem_cons_of_mem _ (List.mem_cons_of_mem _ (List.mem_cons_of_mem _ (List.mem_append_right _ (List.mem_append_left _ hq_))))))) (by omega)) (by first | omega | (simp only [List.length_take, List.length_drop]; omega)), OF.sb, fun ht_ => by cases ht_⟩, ⟨fun a W  H => by exact ob_valS H (wanted_none rfl) (does_move rfl rfl), val_grow, fun _ _ => val_grow⟩, ⟨fun a W y11 hy11 H => by subst hy11; exact ob_valS H (wanted_none rfl) (does_nilCheckQ rfl rfl), val_grow, fun _ _ => val_grow⟩, ⟨fun a W y12 hy12 H => by subst hy12; exact ob_valS H (wanted_none rfl) (does_fieldAddr rfl rfl (fa_rd 0 (by decide))), val_grow, fun _ _ => val_grow⟩, ⟨fun a W y13 hy13 H => by subst hy13; exact ob_valS H (wanted_none rfl) (does_loadAt (v := .slice (some ⟨X.gB, 0, none⟩) D.B.length X.capB) rfl rfl (k := 1) rfl ld_rd0), val_grow, fun _ _ => val_grow⟩, ⟨fun a W  H => by exact ob_valS H (wanted_none rfl) (does_fieldAddr rfl rfl fa_late0), val_grow, fun _ _ => val_grow⟩, ⟨fun a W y15 hy15 H => by subst hy15; exact ob_valS H (wanted_none rfl) (does_loadAt (v := .int .i64 ((nk : Nat) : Int)) rfl rfl (k := 0) rfl ld_late0), val_grow, fun _ _ => val_grow⟩, ⟨fun a W y14 hy14 y16 hy16 H => by subst hy14; subst hy16; exact ob_valS H (wanted_none rfl) (does_indexAddr rfl rfl rfl (ia_rows0 (j := nk) (by omega))), val_grow, fun _ _ => val_grow⟩, ⟨fun a W y17 hy17 H => by subst hy17; exact ob_valS H (wanted_none rfl) (does_loadAt (v := .slice (some ⟨(gu nk).1, 0, none⟩) 512 (gu nk).2) rfl rfl (k := 2) rfl (ld_slB (hJ.1.bo nk _ (getB (by rw [BK_len]; omega))).1)), val_grow, fun _ _ => val_grow⟩, ⟨fun a W  H => by exact ob_valS H (wanted_none rfl) (does_move rfl rfl), val_grow, fun _ _ => val_grow⟩, ⟨fun a W y18 hy18 y19 hy19 H => by subst hy18; subst hy19; exact ob_valS H (wanted_none rfl) (does_slice rfl rfl (vl := some (.int .i64 (((((picks.getD k 0) / 3) % 513).toNat : Nat) : Int))) (vh := none) rfl rfl (hi_run (by omega) (hJ.1.bo nk _ (getB (by rw [BK_len]; omega))).2.cap)), val_grow, fun _ _ => val_grow⟩, ⟨fun a W v68 hv68 y20 hy20 H => by subst hy20; exact ob_appW H (wanted_none rfl) rfl rfl rfl hv68 (hi_bf (RowB.bf (hJ.1.bo nk _ (getB (by rw [BK_len]; omega))).2 H (fun q_ hq_ => (List.mem_cons_of_mem _ (List.mem_cons_of_mem _ (List.mem_cons_of_mem _ (List.mem_append_right _ (List.mem_append_left _ hq_))))))) (by omega)) (by first | omega | (simp only [List.length_take, List.length_drop]; omega)), OF.sb, fun _ ho_ => by cases ho_⟩, trivial⟩ (by kernel_rfl) ?_
            try clear H a W
            intro a W
            rintro _ rfl
            rintro _ rfl
            intro v79 hv79
            intro H
            replace H : St 90 w0 a W [(79, v79), (63, .int .i64 ((nk : Nat) : Int)), (61, .slice (some ⟨X.gB, 0, none⟩) D.B.length X.capB), (9, .pointer (some ⟨g1, 0, none⟩)), (57, .agg (ltC ((nk : Nat) : Int) (.slice (some ⟨(X.gl k).1, 0, none⟩) 512 (X.gl k).2))), (56, .pointer (some ⟨gL, k * 2, none⟩)), (55, .int .i64 ((k : Nat) : Int)), (54, .slice X.A D.L.length X.capL), (53, .pointer (some ⟨p, 1, none⟩)), (52, .pointer (some ⟨p, 0, none⟩)), (51, .pointer (some ⟨p, 0, none⟩)), (8, .int .i64 (((((picks.getD k 0) / 3) % 513).toNat : Nat) : Int)), (50, .int .i64 (((((picks.getD k 0) / 3) % 513).toNat : Nat) : Int)), (46, .tuple #[.int .i64 (((picks.getD k 0) / 3) / 513), .int .i64 (((((picks.getD k 0) / 3) % 513).toNat : Nat) : Int)]), (48, .tuple #[.int .i64 (((picks.getD k 0) / 3) / 513), .int .i64 (((((picks.getD k 0) / 3) % 513).toNat : Nat) : Int)]), (47, .int .i64 ((picks.getD k 0) / 3)), (45, .bool true), (44, .bool true), (43, .int .i64 (((D.L.length : Nat) : Int) - 1)), (42, .int .i64 ((D.L.length : Nat) : Int)), (41, .slice X.A D.L.length X.capL), (40, .pointer (some ⟨p, 1, none⟩)), (39, .pointer (some ⟨p, 0, none⟩)), (38, .pointer (some ⟨p, 0, none⟩)), (37, .int .i64 ((k : Nat) : Int)), (36, .bool true), (35, .bool true), (34, .int .i64 ((picks.getD k 0) % 3)), (33, .bool false), (32, .int .i64 ((picks.getD k 0) % 3)), (7, .int .i64 ((picks.getD k 0) % 3)), (6, .int .i64 ((picks.getD k 0) / 3)), (31, .int .i64 ((picks.getD k 0) % 3)), (30, .int .i64 ((picks.getD k 0) / 3)), (27, .tuple #[.int .i64 ((picks.getD k 0) / 3), .int .i64 ((picks.getD k 0) % 3)]), (29, .tuple #[.int .i64 ((picks.getD k 0) / 3), .int .i64 ((picks.getD k 0) % 3)]), (28, .int .i64 (picks.getD k 0)), (5, .int .i64 (picks.getD k 0)), (26, .int .i64 (picks.getD k 0)), (25, .pointer (some ⟨gp, op_ + k, none⟩)), (24, .int .i64 ((k : Nat) : Int)), (23, .slice Ap np cp), (22, .bool true), (21, .int .i64 ((np : Nat) : Int)), (20, .slice Ap np cp), (19, .int .i64 ((k : Nat) : Int)), (16, .bool true), (15, .int .i64 ((D.L.length : Nat) : Int)), (14, .slice X.A D.L.length X.capL), (13, .pointer (some ⟨p, 1, none⟩)), (12, .pointer (some ⟨p, 0, none⟩)), (11, .pointer (some ⟨p, 0, none⟩)), (10, .int .i64 ((k : Nat) : Int)), (4, .int .i64 ((k : Nat) : Int)), (0, .pointer (some ⟨p, 0, none⟩)), (1, .slice Ap np cp)] ((g1, 87, ltC ((nk : Nat) : Int) (.slice (some ⟨(X.gl k).1, 0, none⟩) 512 (X.gl k).2)) :: (p, 67, (rdC (.slice (some ⟨X.gB, 0, none⟩) D.B.length X.capB) (.slice X.A D.L.length X.capL) D.fuse D.dead)) :: (X.gB, 39, cB) :: (X.tL ++ (r ++ hh))) := H
            refine rgO H (gsC hv79 gs0) (rV rfl (does_indexAddr rfl rfl rfl (ia_rows0 (j := nk) (by omega))) <| rI ?_)
            try clear hv79 H a W
            rintro a W H ⟨hv79, -⟩
            obtain ⟨gn2, capgn2, curgn2, rfl, hugn2, hngn2, H⟩ := ofs_told hv79 (torn_len (by omega) hl_bk hl_old) H
            replace H : St 90 w0 a W [(80, .pointer (some ⟨X.gB, nk, none⟩)), (79, .slice (some ⟨gn2, 0, none⟩) 512 capgn2), (63, .int .i64 ((nk : Nat) : Int)), (61, .slice (some ⟨X.gB, 0, none⟩) D.B.length X.capB), (9, .pointer (some ⟨g1, 0, none⟩)), (57, .agg (ltC ((nk : Nat) : Int) (.slice (some ⟨(X.gl k).1, 0, none⟩) 512 (X.gl k).2))), (56, .pointer (some ⟨gL, k * 2, none⟩)), (55, .int .i64 ((k : Nat) : Int)), (54, .slice X.A D.L.length X.capL), (53, .pointer (some ⟨p, 1, none⟩)), (52, .pointer (some ⟨p, 0, none⟩)), (51, .pointer (some ⟨p, 0, none⟩)), (8, .int .i64 (((((picks.getD k 0) / 3) % 513).toNat : Nat) : Int)), (50, .int .i64 (((((picks.getD k 0) / 3) % 513).toNat : Nat) : Int)), (46, .tuple #[.int .i64 (((picks.getD k 0) / 3) / 513), .int .i64 (((((picks.getD k 0) / 3) % 513).toNat : Nat) : Int)]), (48, .tuple #[.int .i64 (((picks.getD k 0) / 3) / 513), .int .i64 (((((picks.getD k 0) / 3) % 513).toNat : Nat) : Int)]), (47, .int .i64 ((picks.getD k 0) / 3)), (45, .bool true), (44, .bool true), (43, .int .i64 (((D.L.length : Nat) : Int) - 1)), (42, .int .i64 ((D.L.length : Nat) : Int)), (41, .slice X.A D.L.length X.capL), (40, .pointer (some ⟨p, 1, none⟩)), (39, .pointer (some ⟨p, 0, none⟩)), (38, .pointer (some ⟨p, 0, none⟩)), (37, .int .i64 ((k : Nat) : Int)), (36, .bool true), (35, .bool true), (34, .int .i64 ((picks.getD k 0) % 3)), (33, .bool false), (32, .int .i64 ((picks.getD k 0) % 3)), (7, .int .i64 ((picks.getD k 0) % 3)), (6, .int .i64 ((picks.getD k 0) / 3)), (31, .int .i64 ((picks.getD k 0) % 3)), (30, .int .i64 ((picks.getD k 0) / 3)), (27, .tuple #[.int .i64 ((picks.getD k 0) / 3), .int .i64 ((picks.getD k 0) % 3)]), (29, .tuple #[.int .i64 ((picks.getD k 0) / 3), .int .i64 ((picks.getD k 0) % 3)]), (28, .int .i64 (picks.getD k 0)), (5, .int .i64 (picks.getD k 0)), (26, .int .i64 (picks.getD k 0)), (25, .pointer (some ⟨gp, op_ + k, none⟩)), (24, .int .i64 ((k : Nat) : Int)), (23, .slice Ap np cp), (22, .bool true), (21, .int .i64 ((np : Nat) : Int)), (20, .slice Ap np cp), (19, .int .i64 ((k : Nat) : Int)), (16, .bool true), (15, .int .i64 ((D.L.length : Nat) : Int)), (14, .slice X.A D.L.length X.capL), (13, .pointer (some ⟨p, 1, none⟩)), (12, .pointer (some ⟨p, 0, none⟩)), (11, .pointer (some ⟨p, 0, none⟩)), (10, .int .i64 ((k : Nat) : Int)), (4, .int .i64 ((k : Nat) : Int)), (0, .pointer (some ⟨p, 0, none⟩)), (1, .slice Ap np cp)] ((gn2, 5, curgn2) :: (g1, 87, ltC ((nk : Nat) : Int) (.slice (some ⟨(X.gl k).1, 0, none⟩) 512 (X.gl k).2)) :: (p, 67, (rdC (.slice (some ⟨X.gB, 0, none⟩) D.B.length X.capB) (.slice X.A D.L.length X.capL) D.fuse D.dead)) :: (X.gB, 39, cB) :: (X.tL ++ (r ++ hh))) := H
            refine rgO H gs0 (rX [0, 0, 0, 1] (c := (setV cB nk [.slice (some ⟨gn2, 0, none⟩) 512 capgn2])) ⟨rfl, rfl⟩ rfl rfl rfl (st_slB (hJ.1.bo nk _ (getB (by rw [BK_len]; omega))).1) rfl <| rZ0 ?_)
            try clear H a W
            intro a W H
            refine blk_normal ?_
            refine hK5 _ _ ?_
            clear hK5
            refine rgP H gs0 (rS 1 rfl <| rV rfl (does_binOp rfl rfl rfl (zd_add_int (k := ((k : Nat) : Int)) (m := 1) (c := ((k + 1 : Nat) : Int)) (by omega) (by omega) _ _)) <| rK [1, 1, 1, 1, 1, 1, 1, 1, 1, 1, 1, 1, 1, 1, 1, 1, 1, 1, 1, 1, 1, 1, 1, 1, 1, 1, 1, 1, 1, 1, 1, 1, 1, 1, 1, 1, 1, 1, 1, 1, 1, 1, 1, 1, 1, 1, 1, 1, 1, 1, 1, 1, 1, 1, 1, 1, 0] [] [] <| rS 1 rfl <| rZ0 ?_)
            try clear H a W
            intro a W H
            have hks : ksP picks D.L.length k = ((picks.getD k 0 / 3) % 513).toNat := by
              unfold ksP lastN lastsB
              rw [if_neg hq2p]
              rw [if_pos ⟨hq3p, decide_eq_true (by omega)⟩]
              rfl
            replace H : St 90 w0 a W [(4, .int .i64 ((k + 1 : Nat) : Int)), (18, .int .i64 ((k + 1 : Nat) : Int)), (17, .int .i64 ((k : Nat) : Int)), (80, .pointer (some ⟨X.gB, nk, none⟩)), (79, .slice (some ⟨gn2, 0, none⟩) 512 capgn2), (63, .int .i64 ((nk : Nat) : Int)), (61, .slice (some ⟨X.gB, 0, none⟩) D.B.length X.capB), (9, .pointer (some ⟨g1, 0, none⟩)), (57, .agg (ltC ((nk : Nat) : Int) (.slice (some ⟨(X.gl k).1, 0, none⟩) 512 (X.gl k).2))), (56, .pointer (some ⟨gL, k * 2, none⟩)), (55, .int .i64 ((k : Nat) : Int)), (54, .slice X.A D.L.length X.capL), (53, .pointer (some ⟨p, 1, none⟩)), (52, .pointer (some ⟨p, 0, none⟩)), (51, .pointer (some ⟨p, 0, none⟩)), (8, .int .i64 (((((picks.getD k 0) / 3) % 513).toNat : Nat) : Int)), (50, .int .i64 (((((picks.getD k 0) / 3) % 513).toNat : Nat) : Int)), (46, .tuple #[.int .i64 (((picks.getD k 0) / 3) / 513), .int .i64 (((((picks.getD k 0) / 3) % 513).toNat : Nat) : Int)]), (48, .tuple #[.int .i64 (((picks.getD k 0) / 3) / 513), .int .i64 (((((picks.getD k 0) / 3) % 513).toNat : Nat) : Int)]), (47, .int .i64 ((picks.getD k 0) / 3)), (45, .bool true), (44, .bool true), (43, .int .i64 (((D.L.length : Nat) : Int) - 1)), (42, .int .i64 ((D.L.length : Nat) : Int)), (41, .slice X.A D.L.length X.capL), (40, .pointer (some ⟨p, 1, none⟩)), (39, .pointer (some ⟨p, 0, none⟩)), (38, .pointer (some ⟨p, 0, none⟩)), (37, .int .i64 ((k : Nat) : Int)), (36, .bool true), (35, .bool true), (34, .int .i64 ((picks.getD k 0) % 3)), (33, .bool false), (32, .int .i64 ((picks.getD k 0) % 3)), (7, .int .i64 ((picks.getD k 0) % 3)), (6, .int .i64 ((picks.getD k 0) / 3)), (31, .int .i64 ((picks.getD k 0) % 3)), (30, .int .i64 ((picks.getD k 0) / 3)), (27, .tuple #[.int .i64 ((picks.getD k 0) / 3), .int .i64 ((picks.getD k 0) % 3)]), (29, .tuple #[.int .i64 ((picks.getD k 0) / 3), .int .i64 ((picks.getD k 0) % 3)]), (28, .int .i64 (picks.getD k 0)), (5, .int .i64 (picks.getD k 0)), (26, .int .i64 (picks.getD k 0)), (25, .pointer (some ⟨gp, op_ + k, none⟩)), (24, .int .i64 ((k : Nat) : Int)), (23, .slice Ap np cp), (22, .bool true), (21, .int .i64 ((np : Nat) : Int)), (20, .slice Ap np cp), (19, .int .i64 ((k : Nat) : Int)), (16, .bool true), (15, .int .i64 ((D.L.length : Nat) : Int)), (14, .slice X.A D.L.length X.capL), (13, .pointer (some ⟨p, 1, none⟩)), (12, .pointer (some ⟨p, 0, none⟩)), (11, .pointer (some ⟨p, 0, none⟩)), (10, .int .i64 ((k : Nat) : Int)), (0, .pointer (some ⟨p, 0, none⟩)), (1, .slice Ap np cp)] ((gn2, .ty 5, curgn2) :: ([(p, .ty 67, (rdC (.slice (some ⟨X.gB, 0, none⟩) D.B.length X.capB) (.slice X.A D.L.length X.capL) D.fuse D.dead)), (X.gB, .ty 39, (setV cB nk [.slice (some ⟨gn2, 0, none⟩) 512 capgn2]))] ++ (X.tL ++ (r ++ hh)))) := H.pickF (h := [(gn2, 5, curgn2), (g1, 87, ltC ((nk : Nat) : Int) (.slice (some ⟨(X.gl k).1, 0, none⟩) 512 (X.gl k).2)), (p, 67, (rdC (.slice (some ⟨X.gB, 0, none⟩) D.B.length X.capB) (.slice X.A D.L.length X.capL) D.fuse D.dead)), (X.gB, 39, (setV cB nk [.slice (some ⟨gn2, 0, none⟩) 512 capgn2]))]) (t := (X.tL ++ (r ++ hh))) [0, 1, 2, 3, 4, 5, 6, 7, 8, 9, 10, 11, 12, 13, 14, 15, 16, 17, 18, 19, 20, 21, 22, 23, 24, 25, 26, 27, 28, 29, 30, 31, 32, 33, 34, 35, 36, 37, 38, 39, 40, 41, 42, 43, 44, 45, 46, 47, 48, 49, 50, 51, 52, 53, 54, 55, 56, 57, 58] [0, 2, 3] rfl
            replace H := H.store1
            replace H : St 90 w0 a W [(4, .int .i64 ((k + 1 : Nat) : Int)), (18, .int .i64 ((k + 1 : Nat) : Int)), (17, .int .i64 ((k : Nat) : Int)), (80, .pointer (some ⟨X.gB, nk, none⟩)), (79, .slice (some ⟨gn2, 0, none⟩) 512 capgn2), (63, .int .i64 ((nk : Nat) : Int)), (61, .slice (some ⟨X.gB, 0, none⟩) D.B.length X.capB), (9, .pointer (some ⟨g1, 0, none⟩)), (57, .agg (ltC ((nk : Nat) : Int) (.slice (some ⟨(X.gl k).1, 0, none⟩) 512 (X.gl k).2))), (56, .pointer (some ⟨gL, k * 2, none⟩)), (55, .int .i64 ((k : Nat) : Int)), (54, .slice X.A D.L.length X.capL), (53, .pointer (some ⟨p, 1, none⟩)), (52, .pointer (some ⟨p, 0, none⟩)), (51, .pointer (some ⟨p, 0, none⟩)), (8, .int .i64 (((((picks.getD k 0) / 3) % 513).toNat : Nat) : Int)), (50, .int .i64 (((((picks.getD k 0) / 3) % 513).toNat : Nat) : Int)), (46, .tuple #[.int .i64 (((picks.getD k 0) / 3) / 513), .int .i64 (((((picks.getD k 0) / 3) % 513).toNat : Nat) : Int)]), (48, .tuple #[.int .i64 (((picks.getD k 0) / 3) / 513), .int .i64 (((((picks.getD k 0) / 3) % 513).toNat : Nat) : Int)]), (47, .int .i64 ((picks.getD k 0) / 3)), (45, .bool true), (44, .bool true), (43, .int .i64 (((D.L.length : Nat) : Int) - 1)), (42, .int .i64 ((D.L.length : Nat) : Int)), (41, .slice X.A D.L.length X.capL), (40, .pointer (some ⟨p, 1, none⟩)), (39, .pointer (some ⟨p, 0, none⟩)), (38, .pointer (some ⟨p, 0, none⟩)), (37, .int .i64 ((k : Nat) : Int)), (36, .bool true), (35, .bool true), (34, .int .i64 ((picks.getD k 0) % 3)), (33, .bool false), (32, .int .i64 ((picks.getD k 0) % 3)), (7, .int .i64 ((picks.getD k 0) % 3)), (6, .int .i64 ((picks.getD k 0) / 3)), (31, .int .i64 ((picks.getD k 0) % 3)), (30, .int .i64 ((picks.getD k 0) / 3)), (27, .tuple #[.int .i64 ((picks.getD k 0) / 3), .int .i64 ((picks.getD k 0) % 3)]), (29, .tuple #[.int .i64 ((picks.getD k 0) / 3), .int .i64 ((picks.getD k 0) % 3)]), (28, .int .i64 (picks.getD k 0)), (5, .int .i64 (picks.getD k 0)), (26, .int .i64 (picks.getD k 0)), (25, .pointer (some ⟨gp, op_ + k, none⟩)), (24, .int .i64 ((k : Nat) : Int)), (23, .slice Ap np cp), (22, .bool true), (21, .int .i64 ((np : Nat) : Int)), (20, .slice Ap np cp), (19, .int .i64 ((k : Nat) : Int)), (16, .bool true), (15, .int .i64 ((D.L.length : Nat) : Int)), (14, .slice X.A D.L.length X.capL), (13, .pointer (some ⟨p, 1, none⟩)), (12, .pointer (some ⟨p, 0, none⟩)), (11, .pointer (some ⟨p, 0, none⟩)), (10, .int .i64 ((k : Nat) : Int)), (0, .pointer (some ⟨p, 0, none⟩)), (1, .slice Ap np cp)] ((p, 67, (rdC (.slice (some ⟨X.gB, 0, none⟩) D.B.length X.capB) (.slice X.A D.L.length X.capL) D.fuse D.dead)) :: (X.gB, 39, (setV cB nk [.slice (some ⟨gn2, 0, none⟩) 512 capgn2])) :: (X.tL ++ (((gn2, .ty 5, curgn2) :: r) ++ hh))) := H
            refine ⟨k + 1, by omega, by omega, setV cB nk [.slice (some ⟨gn2, 0, none⟩) 512 capgn2], (gn2, .ty 5, curgn2) :: r, (fun i => if i = nk then (gn2, capgn2) else gu i), ⟨by rw [BK_succ, get_of hLk, hks]; exact hJ.1.setB (by rw [BK_len]; exact hnk) hugn2 (fun q_ hq_ => hngn2 q_ (List.mem_cons_of_mem _ (List.mem_cons_of_mem _ (List.mem_cons_of_mem _ (List.mem_append_right _ (List.mem_append_left _ hq_)))))), trivial⟩, ?_⟩
            exact H.pickF (h := [(p, 67, (rdC (.slice (some ⟨X.gB, 0, none⟩) D.B.length X.capB) (.slice X.A D.L.length X.capL) D.fuse D.dead)), (X.gB, 39, (setV cB nk [.slice (some ⟨gn2, 0, none⟩) 512 capgn2]))]) (t := (X.tL ++ (((gn2, .ty 5, curgn2) :: r) ++ hh))) [0, 57, 58] [0, 1] rfl
          | false =>
            rw [hq4] at H
            have hq4p := of_decide_eq_false hq4
            refine wp_cond_false (H.ev rfl) ?_
            refine wp_skip ?_
            refine hK13 _ _ ?_
            clear hK13
            refine sqR H gs0 fun Z_ z_ => rS 1 rfl <| rV rfl (does_nilCheckQ rfl rfl) <| rV rfl (does_fieldAddr rfl rfl (fa_rd 1 (by decide))) <| rV rfl (does_loadAt (v := .slice X.A D.L.length X.capL) rfl rfl (k := 0) rfl ld_rd1) <| rS 1 rfl <| rV rfl (does_indexAddr rfl rfl rfl (ia_lates (j := k) (hat (by omega)).1 (by omega))) <| rV rfl (does_loadMem (v := .agg (ltC ((nk : Nat) : Int) (.slice (some ⟨(X.gl k).1, 0, none⟩) 512 (X.gl k).2))) rfl rfl (List.mem_cons_of_mem _ (List.mem_cons_of_mem _ (List.mem_append_left _ (hat (by omega)).2.1))) (fun W hW => ld_lateA ((hat (by omega)).2.2 _ _ (hJ.1.lo k _ hLk).1) ((hat (by omega)).2.2 _ _ (hJ.1.lo k _ hLk).2.1) W hW)) <| rA rfl rfl al_late fun g3 => rW [1] ⟨rfl, rfl⟩ rfl rfl rfl (info_late _ _) (size_late _ _ _ _) (one_late _ _ _ _) <| rN0 z_ ?_
            try clear H a W
            intro a W H
            refine drawnR1 SB (WR w0.heap.size ((g3, 87, ltC ((nk : Nat) : Int) (.slice (some ⟨(X.gl k).1, 0, none⟩) 512 (X.gl k).2)) :: (p, 67, (rdC (.slice (some ⟨X.gB, 0, none⟩) D.B.length X.capB) (.slice X.A D.L.length X.capL) D.fuse D.dead)) :: (X.gB, 39, cB) :: (X.tL ++ (r ++ hh)))) (⟨58, fun u_ _ => u_ = .pointer (some ⟨p, 0, none⟩), [], none, false⟩ :: ⟨59, fun u_ _ => u_ = .pointer (some ⟨p, 0, none⟩), [0], none, false⟩ :: ⟨60, fun u_ _ => u_ = .pointer (some ⟨p, 0, none⟩), [1], none, false⟩ :: ⟨61, fun u_ _ => u_ = .slice (some ⟨X.gB, 0, none⟩) D.B.length X.capB, [2], none, false⟩ :: ⟨62, fun u_ _ => u_ = .pointer (some ⟨g3, 0, none⟩), [], none, false⟩ :: ⟨63, fun u_ _ => u_ = .int .i64 ((nk : Nat) : Int), [4], none, false⟩ :: ⟨64, fun u_ _ => u_ = .pointer (some ⟨g3, 1, none⟩), [], none, false⟩ :: ⟨65, fun u_ _ => u_ = .slice (some ⟨(X.gl k).1, 0, none⟩) 512 (X.gl k).2, [6], none, false⟩ :: ⟨66, fun u_ _ => u_ = .int .i64 512, [], none, false⟩ :: ⟨67, fun u_ _ => u_ = .slice (some ⟨(X.gl k).1, 0, none⟩) 512 (X.gl k).2, [7, 8], none, false⟩ :: ⟨68, OF w0.heap.size ((g3, 87, ltC ((nk : Nat) : Int) (.slice (some ⟨(X.gl k).1, 0, none⟩) 512 (X.gl k).2)) :: (p, 67, (rdC (.slice (some ⟨X.gB, 0, none⟩) D.B.length X.capB) (.slice X.A D.L.length X.capL) D.fuse D.dead)) :: (X.gB, 39, cB) :: (X.tL ++ (r ++ hh))) (bk.take 512), [9], (some 21), false⟩ :: ⟨69, fun u_ _ => u_ = .pointer (some ⟨p, 0, none⟩), [], none, false⟩ :: ⟨70, fun u_ _ => u_ = .pointer (some ⟨p, 0, none⟩), [11], none, false⟩ :: ⟨71, fun u_ _ => u_ = .pointer (some ⟨p, 0, none⟩), [12], none, false⟩ :: ⟨72, fun u_ _ => u_ = .slice (some ⟨X.gB, 0, none⟩) D.B.length X.capB, [13], none, false⟩ :: ⟨73, fun u_ _ => u_ = .pointer (some ⟨g3, 0, none⟩), [], none, false⟩ :: ⟨74, fun u_ _ => u_ = .int .i64 ((nk : Nat) : Int), [15], none, false⟩ :: ⟨75, fun u_ _ => u_ = .pointer (some ⟨X.gB, nk, none⟩), [14, 16], none, false⟩ :: ⟨76, fun u_ _ => u_ = .slice (some ⟨(gu nk).1, 0, none⟩) 512 (gu nk).2, [17], none, false⟩ :: ⟨77, fun u_ _ => u_ = .int .i64 512, [], none, false⟩ :: ⟨78, fun u_ _ => u_ = hiV (some ⟨(gu nk).1, 0, none⟩) 512 (gu nk).2 512, [18, 19], none, false⟩ :: ⟨79, OF w0.heap.size ((g3, 87, ltC ((nk : Nat) : Int) (.slice (some ⟨(X.gl k).1, 0, none⟩) 512 (X.gl k).2)) :: (p, 67, (rdC (.slice (some ⟨X.gB, 0, none⟩) D.B.length X.capB) (.slice X.A D.L.length X.capL) D.fuse D.dead)) :: (X.gB, 39, cB) :: (X.tL ++ (r ++ hh))) ((bk.take 512) ++ (((BK D.L (ksP picks D.L.length) D.B k).getD nk []).drop 512)), [10, 20], none, true⟩ :: []) (0 :: 1 :: 2 :: 4 :: 0 :: 16 :: 0 :: 64 :: 0 :: 384 :: 512 :: 0 :: 2048 :: 4096 :: 8192 :: 0 :: 32768 :: 81920 :: 131072 :: 0 :: 786432 :: 1049600 :: 4194303 :: 8388607 :: []) [3, 5, 21] (one_own (c := 21) (by kernel_rfl)) sb_st wr_st (by kernel_rfl) (by kernel_rfl) (by kernel_rfl) H ⟨⟨fun a W  H => by exact ob_valS H (wanted_none rfl) (does_move rfl rfl), val_grow, fun _ _ => val_grow⟩, ⟨fun a W y0 hy0 H => by subst hy0; exact ob_valS H (wanted_none rfl) (does_nilCheckQ rfl rfl), val_grow, fun _ _ => val_grow⟩, ⟨fun a W y1 hy1 H => by subst hy1; exact ob_valS H (wanted_none rfl) (does_fieldAddr rfl rfl (fa_rd 0 (by decide))), val_grow, fun _ _ => val_grow⟩, ⟨fun a W y2 hy2 H => by subst hy2; exact ob_valS H (wanted_none rfl) (does_loadAt (v := .slice (some ⟨X.gB, 0, none⟩) D.B.length X.capB) rfl rfl (k := 1) rfl ld_rd0), val_grow, fun _ _ => val_grow⟩, ⟨fun a W  H => by exact ob_valS H (wanted_none rfl) (does_fieldAddr rfl rfl fa_late0), val_grow, fun _ _ => val_grow⟩, ⟨fun a W y4 hy4 H => by subst hy4; exact ob_valS H (wanted_none rfl) (does_loadAt (v := .int .i64 ((nk : Nat) : Int)) rfl rfl (k := 0) rfl ld_late0), val_grow, fun _ _ => val_grow⟩, ⟨fun a W  H => by exact ob_valS H (wanted_none rfl) (does_fieldAddr rfl rfl fa_late1), val_grow, fun _ _ => val_grow⟩, ⟨fun a W y6 hy6 H => by subst hy6; exact ob_valS H (wanted_none rfl) (does_loadAt (v := .slice (some ⟨(X.gl k).1, 0, none⟩) 512 (X.gl k).2) rfl rfl (k := 0) rfl ld_late1), val_grow, fun _ _ => val_grow⟩, ⟨fun a W  H => by exact ob_valS H (wanted_none rfl) (does_move rfl rfl), val_grow, fun _ _ => val_grow⟩, ⟨fun a W y7 hy7 y8 hy8 H => by subst hy7; subst hy8; exact ob_valS H (wanted_none rfl) (does_slice rfl rfl (vl := none) (vh := some (.int .i64 ((512 : Nat) : Int))) rfl rfl (lo_run (by omega) (hJ.1.lo k _ hLk).2.2.cap)), val_grow, fun _ _ => val_grow⟩, ⟨fun a W y9 hy9 H => by subst hy9; exact ob_app0S H (wanted_none rfl) rfl rfl (lo_bf (RowB.bf (hJ.1.lo k _ hLk).2.2 H (fun q_ hq_ => (List.mem_cons_of_mem _ (List.mem_cons_of_mem _ (List.mem_cons_of_mem _ (List.mem_append_right _ (List.mem_append_left _ hq_))))))) (by omega)) (by first | omega | (simp only [List.length_take, List.length_drop]; omega)), OF.sb, fun ht_ => by cases ht_⟩, ⟨fun a W  H => by exact ob_valS H (wanted_none rfl) (does_move rfl rfl), val_grow, fun _ _ => val_grow⟩, ⟨fun a W y11 hy11 H => by subst hy11; exact ob_valS H (wanted_none rfl) (does_nilCheckQ rfl rfl), val_grow, fun _ _ => val_grow⟩, ⟨fun a W y12 hy12 H => by subst hy12; exact ob_valS H (wanted_none rfl) (does_fieldAddr rfl rfl (fa_rd 0 (by decide))), val_grow, fun _ _ => val_grow⟩, ⟨fun a W y13 hy13 H => by subst hy13; exact ob_valS H (wanted_none rfl) (does_loadAt (v := .slice (some ⟨X.gB, 0, none⟩) D.B.length X.capB) rfl rfl (k := 1) rfl ld_rd0), val_grow, fun _ _ => val_grow⟩, ⟨fun a W  H => by exact ob_valS H (wanted_none rfl) (does_fieldAddr rfl rfl fa_late0), val_grow, fun _ _ => val_grow⟩, ⟨fun a W y15 hy15 H => by subst hy15; exact ob_valS H (wanted_none rfl) (does_loadAt (v := .int .i64 ((nk : Nat) : Int)) rfl rfl (k := 0) rfl ld_late0), val_grow, fun _ _ => val_grow⟩, ⟨fun a W y14 hy14 y16 hy16 H => by subst hy14; subst hy16; exact ob_valS H (wanted_none rfl) (does_indexAddr rfl rfl rfl (ia_rows0 (j := nk) (by omega))), val_grow, fun _ _ => val_grow⟩, ⟨fun a W y17 hy17 H => by subst hy17; exact ob_valS H (wanted_none rfl) (does_loadAt (v := .slice (some ⟨(gu nk).1, 0, none⟩) 512 (gu nk).2) rfl rfl (k := 2) rfl (ld_slB (hJ.1.bo nk _ (getB (by rw [BK_len]; omega))).1)), val_grow, fun _ _ => val_grow⟩, ⟨fun a W  H => by exact ob_valS H (wanted_none rfl) (does_move rfl rfl), val_grow, fun _ _ => val_grow⟩, ⟨fun a W y18 hy18 y19 hy19 H => by subst hy18; subst hy19; exact ob_valS H (wanted_none rfl) (does_slice rfl rfl (vl := some (.int .i64 ((512 : Nat) : Int))) (vh := none) rfl rfl (hi_run (by omega) (hJ.1.bo nk _ (getB (by rw [BK_len]; omega))).2.cap)), val_grow, fun _ _ => val_grow⟩, ⟨fun a W v68 hv68 y20 hy20 H => by subst hy20; exact ob_appW H (wanted_none rfl) rfl rfl rfl hv68 (hi_bf (RowB.bf (hJ.1.bo nk _ (getB (by rw [BK_len]; omega))).2 H (fun q_ hq_ => (List.mem_cons_of_mem _ (List.mem_cons_of_mem _ (List.mem_cons_of_mem _ (List.mem_append_right _ (List.mem_append_left _ hq_))))))) (by omega)) (by first | omega | (simp only [List.length_take, List.length_drop]; omega)), OF.sb, fun _ ho_ => by cases ho_⟩, trivial⟩ (by kernel_rfl) ?_
            try clear H a W
            intro a W
            rintro _ rfl
            rintro _ rfl
            intro v79 hv79
            intro H
            replace H : St 90 w0 a W [(79, v79), (63, .int .i64 ((nk : Nat) : Int)), (61, .slice (some ⟨X.gB, 0, none⟩) D.B.length X.capB), (9, .pointer (some ⟨g3, 0, none⟩)), (57, .agg (ltC ((nk : Nat) : Int) (.slice (some ⟨(X.gl k).1, 0, none⟩) 512 (X.gl k).2))), (56, .pointer (some ⟨gL, k * 2, none⟩)), (55, .int .i64 ((k : Nat) : Int)), (54, .slice X.A D.L.length X.capL), (53, .pointer (some ⟨p, 1, none⟩)), (52, .pointer (some ⟨p, 0, none⟩)), (51, .pointer (some ⟨p, 0, none⟩)), (45, .bool false), (44, .bool false), (43, .int .i64 (((D.L.length : Nat) : Int) - 1)), (42, .int .i64 ((D.L.length : Nat) : Int)), (41, .slice X.A D.L.length X.capL), (40, .pointer (some ⟨p, 1, none⟩)), (39, .pointer (some ⟨p, 0, none⟩)), (38, .pointer (some ⟨p, 0, none⟩)), (37, .int .i64 ((k : Nat) : Int)), (36, .bool true), (35, .bool true), (34, .int .i64 ((picks.getD k 0) % 3)), (8, .int .i64 512), (33, .bool false), (32, .int .i64 ((picks.getD k 0) % 3)), (7, .int .i64 ((picks.getD k 0) % 3)), (6, .int .i64 ((picks.getD k 0) / 3)), (31, .int .i64 ((picks.getD k 0) % 3)), (30, .int .i64 ((picks.getD k 0) / 3)), (27, .tuple #[.int .i64 ((picks.getD k 0) / 3), .int .i64 ((picks.getD k 0) % 3)]), (29, .tuple #[.int .i64 ((picks.getD k 0) / 3), .int .i64 ((picks.getD k 0) % 3)]), (28, .int .i64 (picks.getD k 0)), (5, .int .i64 (picks.getD k 0)), (26, .int .i64 (picks.getD k 0)), (25, .pointer (some ⟨gp, op_ + k, none⟩)), (24, .int .i64 ((k : Nat) : Int)), (23, .slice Ap np cp), (22, .bool true), (21, .int .i64 ((np : Nat) : Int)), (20, .slice Ap np cp), (19, .int .i64 ((k : Nat) : Int)), (16, .bool true), (15, .int .i64 ((D.L.length : Nat) : Int)), (14, .slice X.A D.L.length X.capL), (13, .pointer (some ⟨p, 1, none⟩)), (12, .pointer (some ⟨p, 0, none⟩)), (11, .pointer (some ⟨p, 0, none⟩)), (10, .int .i64 ((k : Nat) : Int)), (4, .int .i64 ((k : Nat) : Int)), (0, .pointer (some ⟨p, 0, none⟩)), (1, .slice Ap np cp)] ((g3, 87, ltC ((nk : Nat) : Int) (.slice (some ⟨(X.gl k).1, 0, none⟩) 512 (X.gl k).2)) :: (p, 67, (rdC (.slice (some ⟨X.gB, 0, none⟩) D.B.length X.capB) (.slice X.A D.L.length X.capL) D.fuse D.dead)) :: (X.gB, 39, cB) :: (X.tL ++ (r ++ hh))) := H
            refine rgO H (gsC hv79 gs0) (rV rfl (does_indexAddr rfl rfl rfl (ia_rows0 (j := nk) (by omega))) <| rI ?_)
            try clear hv79 H a W
            rintro a W H ⟨hv79, -⟩
            obtain ⟨gn4, capgn4, curgn4, rfl, hugn4, hngn4, H⟩ := ofs_told hv79 (torn_len (by omega) hl_bk hl_old) H
            replace H : St 90 w0 a W [(80, .pointer (some ⟨X.gB, nk, none⟩)), (79, .slice (some ⟨gn4, 0, none⟩) 512 capgn4), (63, .int .i64 ((nk : Nat) : Int)), (61, .slice (some ⟨X.gB, 0, none⟩) D.B.length X.capB), (9, .pointer (some ⟨g3, 0, none⟩)), (57, .agg (ltC ((nk : Nat) : Int) (.slice (some ⟨(X.gl k).1, 0, none⟩) 512 (X.gl k).2))), (56, .pointer (some ⟨gL, k * 2, none⟩)), (55, .int .i64 ((k : Nat) : Int)), (54, .slice X.A D.L.length X.capL), (53, .pointer (some ⟨p, 1, none⟩)), (52, .pointer (some ⟨p, 0, none⟩)), (51, .pointer (some ⟨p, 0, none⟩)), (45, .bool false), (44, .bool false), (43, .int .i64 (((D.L.length : Nat) : Int) - 1)), (42, .int .i64 ((D.L.length : Nat) : Int)), (41, .slice X.A D.L.length X.capL), (40, .pointer (some ⟨p, 1, none⟩)), (39, .pointer (some ⟨p, 0, none⟩)), (38, .pointer (some ⟨p, 0, none⟩)), (37, .int .i64 ((k : Nat) : Int)), (36, .bool true), (35, .bool true), (34, .int .i64 ((picks.getD k 0) % 3)), (8, .int .i64 512), (33, .bool false), (32, .int .i64 ((picks.getD k 0) % 3)), (7, .int .i64 ((picks.getD k 0) % 3)), (6, .int .i64 ((picks.getD k 0) / 3)), (31, .int .i64 ((picks.getD k 0) % 3)), (30, .int .i64 ((picks.getD k 0) / 3)), (27, .tuple #[.int .i64 ((picks.getD k 0) / 3), .int .i64 ((picks.getD k 0) % 3)]), (29, .tuple #[.int .i64 ((picks.getD k 0) / 3), .int .i64 ((picks.getD k 0) % 3)]), (28, .int .i64 (picks.getD k 0)), (5, .int .i64 (picks.getD k 0)), (26, .int .i64 (picks.getD k 0)), (25, .pointer (some ⟨gp, op_ + k, none⟩)), (24, .int .i64 ((k : Nat) : Int)), (23, .slice Ap np cp), (22, .bool true), (21, .int .i64 ((np : Nat) : Int)), (20, .slice Ap np cp), (19, .int .i64 ((k : Nat) : Int)), (16, .bool true), (15, .int .i64 ((D.L.length : Nat) : Int)), (14, .slice X.A D.L.length X.capL), (13, .pointer (some ⟨p, 1, none⟩)), (12, .pointer (some ⟨p, 0, none⟩)), (11, .pointer (some ⟨p, 0, none⟩)), (10, .int .i64 ((k : Nat) : Int)), (4, .int .i64 ((k : Nat) : Int)), (0, .pointer (some ⟨p, 0, none⟩)), (1, .slice Ap np cp)] ((gn4, 5, curgn4) :: (g3, 87, ltC ((nk : Nat) : Int) (.slice (some ⟨(X.gl k).1, 0, none⟩) 512 (X.gl k).2)) :: (p, 67, (rdC (.slice (some ⟨X.gB, 0, none⟩) D.B.length X.capB) (.slice X.A D.L.length X.capL) D.fuse D.dead)) :: (X.gB, 39, cB) :: (X.tL ++ (r ++ hh))) := H
            refine rgO H gs0 (rX [0, 0, 0, 1] (c := (setV cB nk [.slice (some ⟨gn4, 0, none⟩) 512 capgn4])) ⟨rfl, rfl⟩ rfl rfl rfl (st_slB (hJ.1.bo nk _ (getB (by rw [BK_len]; omega))).1) rfl <| rZ0 ?_)
            try clear H a W
            intro a W H
            refine blk_normal ?_
            refine hK5 _ _ ?_
            clear hK5
            refine rgP H gs0 (rS 1 rfl <| rV rfl (does_binOp rfl rfl rfl (zd_add_int (k := ((k : Nat) : Int)) (m := 1) (c := ((k + 1 : Nat) : Int)) (by omega) (by omega) _ _)) <| rK [1, 1, 1, 1, 1, 1, 1, 1, 1, 1, 1, 1, 1, 1, 1, 1, 1, 1, 1, 1, 1, 1, 1, 1, 1, 1, 1, 1, 1, 1, 1, 1, 1, 1, 1, 1, 1, 1, 1, 1, 1, 1, 1, 1, 1, 1, 1, 1, 1, 1, 1, 1, 0] [] [] <| rS 1 rfl <| rZ0 ?_)
            try clear H a W
            intro a W H
            have hks : ksP picks D.L.length k = 512 := by
              unfold ksP lastN lastsB
              rw [if_neg hq2p]
              rw [if_neg fun h_ => by have h2_ := of_decide_eq_true h_.2; omega]
              rfl
            replace H : St 90 w0 a W [(4, .int .i64 ((k + 1 : Nat) : Int)), (18, .int .i64 ((k + 1 : Nat) : Int)), (17, .int .i64 ((k : Nat) : Int)), (80, .pointer (some ⟨X.gB, nk, none⟩)), (79, .slice (some ⟨gn4, 0, none⟩) 512 capgn4), (63, .int .i64 ((nk : Nat) : Int)), (61, .slice (some ⟨X.gB, 0, none⟩) D.B.length X.capB), (9, .pointer (some ⟨g3, 0, none⟩)), (57, .agg (ltC ((nk : Nat) : Int) (.slice (some ⟨(X.gl k).1, 0, none⟩) 512 (X.gl k).2))), (56, .pointer (some ⟨gL, k * 2, none⟩)), (55, .int .i64 ((k : Nat) : Int)), (54, .slice X.A D.L.length X.capL), (53, .pointer (some ⟨p, 1, none⟩)), (52, .pointer (some ⟨p, 0, none⟩)), (51, .pointer (some ⟨p, 0, none⟩)), (45, .bool false), (44, .bool false), (43, .int .i64 (((D.L.length : Nat) : Int) - 1)), (42, .int .i64 ((D.L.length : Nat) : Int)), (41, .slice X.A D.L.length X.capL), (40, .pointer (some ⟨p, 1, none⟩)), (39, .pointer (some ⟨p, 0, none⟩)), (38, .pointer (some ⟨p, 0, none⟩)), (37, .int .i64 ((k : Nat) : Int)), (36, .bool true), (35, .bool true), (34, .int .i64 ((picks.getD k 0) % 3)), (8, .int .i64 512), (33, .bool false), (32, .int .i64 ((picks.getD k 0) % 3)), (7, .int .i64 ((picks.getD k 0) % 3)), (6, .int .i64 ((picks.getD k 0) / 3)), (31, .int .i64 ((picks.getD k 0) % 3)), (30, .int .i64 ((picks.getD k 0) / 3)), (27, .tuple #[.int .i64 ((picks.getD k 0) / 3), .int .i64 ((picks.getD k 0) % 3)]), (29, .tuple #[.int .i64 ((picks.getD k 0) / 3), .int .i64 ((picks.getD k 0) % 3)]), (28, .int .i64 (picks.getD k 0)), (5, .int .i64 (picks.getD k 0)), (26, .int .i64 (picks.getD k 0)), (25, .pointer (some ⟨gp, op_ + k, none⟩)), (24, .int .i64 ((k : Nat) : Int)), (23, .slice Ap np cp), (22, .bool true), (21, .int .i64 ((np : Nat) : Int)), (20, .slice Ap np cp), (19, .int .i64 ((k : Nat) : Int)), (16, .bool true), (15, .int .i64 ((D.L.length : Nat) : Int)), (14, .slice X.A D.L.length X.capL), (13, .pointer (some ⟨p, 1, none⟩)), (12, .pointer (some ⟨p, 0, none⟩)), (11, .pointer (some ⟨p, 0, none⟩)), (10, .int .i64 ((k : Nat) : Int)), (0, .pointer (some ⟨p, 0, none⟩)), (1, .slice Ap np cp)] ((gn4, .ty 5, curgn4) :: ([(p, .ty 67, (rdC (.slice (some ⟨X.gB, 0, none⟩) D.B.length X.capB) (.slice X.A D.L.length X.capL) D.fuse D.dead)), (X.gB, .ty 39, (setV cB nk [.slice (some ⟨gn4, 0, none⟩) 512 capgn4]))] ++ (X.tL ++ (r ++ hh)))) := H.pickF (h := [(gn4, 5, curgn4), (g3, 87, ltC ((nk : Nat) : Int) (.slice (some ⟨(X.gl k).1, 0, none⟩) 512 (X.gl k).2)), (p, 67, (rdC (.slice (some ⟨X.gB, 0, none⟩) D.B.length X.capB) (.slice X.A D.L.length X.capL) D.fuse D.dead)), (X.gB, 39, (setV cB nk [.slice (some ⟨gn4, 0, none⟩) 512 capgn4]))]) (t := (X.tL ++ (r ++ hh))) [0, 1, 2, 3, 4, 5, 6, 7, 8, 9, 10, 11, 12, 13, 14, 15, 16, 17, 18, 19, 20, 21, 22, 23, 24, 25, 26, 27, 28, 29, 30, 31, 32, 33, 34, 35, 36, 37, 38, 39, 40, 41, 42, 43, 44, 45, 46, 47, 48, 49, 50, 51, 52, 53, 54] [0, 2, 3] rfl
            replace H := H.store1
            replace H : St 90 w0 a W [(4, .int .i64 ((k + 1 : Nat) : Int)), (18, .int .i64 ((k + 1 : Nat) : Int)), (17, .int .i64 ((k : Nat) : Int)), (80, .pointer (some ⟨X.gB, nk, none⟩)), (79, .slice (some ⟨gn4, 0, none⟩) 512 capgn4), (63, .int .i64 ((nk : Nat) : Int)), (61, .slice (some ⟨X.gB, 0, none⟩) D.B.length X.capB), (9, .pointer (some ⟨g3, 0, none⟩)), (57, .agg (ltC ((nk : Nat) : Int) (.slice (some ⟨(X.gl k).1, 0, none⟩) 512 (X.gl k).2))), (56, .pointer (some ⟨gL, k * 2, none⟩)), (55, .int .i64 ((k : Nat) : Int)), (54, .slice X.A D.L.length X.capL), (53, .pointer (some ⟨p, 1, none⟩)), (52, .pointer (some ⟨p, 0, none⟩)), (51, .pointer (some ⟨p, 0, none⟩)), (45, .bool false), (44, .bool false), (43, .int .i64 (((D.L.length : Nat) : Int) - 1)), (42, .int .i64 ((D.L.length : Nat) : Int)), (41, .slice X.A D.L.length X.capL), (40, .pointer (some ⟨p, 1, none⟩)), (39, .pointer (some ⟨p, 0, none⟩)), (38, .pointer (some ⟨p, 0, none⟩)), (37, .int .i64 ((k : Nat) : Int)), (36, .bool true), (35, .bool true), (34, .int .i64 ((picks.getD k 0) % 3)), (8, .int .i64 512), (33, .bool false), (32, .int .i64 ((picks.getD k 0) % 3)), (7, .int .i64 ((picks.getD k 0) % 3)), (6, .int .i64 ((picks.getD k 0) / 3)), (31, .int .i64 ((picks.getD k 0) % 3)), (30, .int .i64 ((picks.getD k 0) / 3)), (27, .tuple #[.int .i64 ((picks.getD k 0) / 3), .int .i64 ((picks.getD k 0) % 3)]), (29, .tuple #[.int .i64 ((picks.getD k 0) / 3), .int .i64 ((picks.getD k 0) % 3)]), (28, .int .i64 (picks.getD k 0)), (5, .int .i64 (picks.getD k 0)), (26, .int .i64 (picks.getD k 0)), (25, .pointer (some ⟨gp, op_ + k, none⟩)), (24, .int .i64 ((k : Nat) : Int)), (23, .slice Ap np cp), (22, .bool true), (21, .int .i64 ((np : Nat) : Int)), (20, .slice Ap np cp), (19, .int .i64 ((k : Nat) : Int)), (16, .bool true), (15, .int .i64 ((D.L.length : Nat) : Int)), (14, .slice X.A D.L.length X.capL), (13, .pointer (some ⟨p, 1, none⟩)), (12, .pointer (some ⟨p, 0, none⟩)), (11, .pointer (some ⟨p, 0, none⟩)), (10, .int .i64 ((k : Nat) : Int)), (0, .pointer (some ⟨p, 0, none⟩)), (1, .slice Ap np cp)] ((p, 67, (rdC (.slice (some ⟨X.gB, 0, none⟩) D.B.length X.capB) (.slice X.A D.L.length X.capL) D.fuse D.dead)) :: (X.gB, 39, (setV cB nk [.slice (some ⟨gn4, 0, none⟩) 512 capgn4])) :: (X.tL ++ (((gn4, .ty 5, curgn4) :: r) ++ hh))) := H
            refine ⟨k + 1, by omega, by omega, setV cB nk [.slice (some ⟨gn4, 0, none⟩) 512 capgn4], (gn4, .ty 5, curgn4) :: r, (fun i => if i = nk then (gn4, capgn4) else gu i), ⟨by rw [BK_succ, get_of hLk, hks]; exact hJ.1.setB (by rw [BK_len]; exact hnk) hugn4 (fun q_ hq_ => hngn4 q_ (List.mem_cons_of_mem _ (List.mem_cons_of_mem _ (List.mem_cons_of_mem _ (List.mem_append_right _ (List.mem_append_left _ hq_)))))), trivial⟩, ?_⟩
            exact H.pickF (h := [(p, 67, (rdC (.slice (some ⟨X.gB, 0, none⟩) D.B.length X.capB) (.slice X.A D.L.length X.capL) D.fuse D.dead)), (X.gB, 39, (setV cB nk [.slice (some ⟨gn4, 0, none⟩) 512 capgn4]))]) (t := (X.tL ++ (((gn4, .ty 5, curgn4) :: r) ++ hh))) [0, 53, 54] [0, 1] rfl
        | false =>
          have hq3p := of_decide_eq_false hq3
          refine rgP H gs0 (rS 1 rfl <| rV rfl (does_binOp rfl rfl rfl (zd_eql_int (k := ((picks.getD k 0) % 3)) (m := 2) hq3 _ _)) <| rS 10 rfl <| rZ0 ?_)
          try clear H a W
          intro a W H
          refine hK14 _ _ ?_
          clear hK14
          refine wp_cond_false (H.ev rfl) ?_
          refine wp_skip ?_
          refine hK13 _ _ ?_
          clear hK13
          refine sqR H gs0 fun Z_ z_ => rS 1 rfl <| rV rfl (does_nilCheckQ rfl rfl) <| rV rfl (does_fieldAddr rfl rfl (fa_rd 1 (by decide))) <| rV rfl (does_loadAt (v := .slice X.A D.L.length X.capL) rfl rfl (k := 0) rfl ld_rd1) <| rS 1 rfl <| rV rfl (does_indexAddr rfl rfl rfl (ia_lates (j := k) (hat (by omega)).1 (by omega))) <| rV rfl (does_loadMem (v := .agg (ltC ((nk : Nat) : Int) (.slice (some ⟨(X.gl k).1, 0, none⟩) 512 (X.gl k).2))) rfl rfl (List.mem_cons_of_mem _ (List.mem_cons_of_mem _ (List.mem_append_left _ (hat (by omega)).2.1))) (fun W hW => ld_lateA ((hat (by omega)).2.2 _ _ (hJ.1.lo k _ hLk).1) ((hat (by omega)).2.2 _ _ (hJ.1.lo k _ hLk).2.1) W hW)) <| rA rfl rfl al_late fun g5 => rW [1] ⟨rfl, rfl⟩ rfl rfl rfl (info_late _ _) (size_late _ _ _ _) (one_late _ _ _ _) <| rN0 z_ ?_
          try clear H a W
          intro a W H
          refine drawnR1 SB (WR w0.heap.size ((g5, 87, ltC ((nk : Nat) : Int) (.slice (some ⟨(X.gl k).1, 0, none⟩) 512 (X.gl k).2)) :: (p, 67, (rdC (.slice (some ⟨X.gB, 0, none⟩) D.B.length X.capB) (.slice X.A D.L.length X.capL) D.fuse D.dead)) :: (X.gB, 39, cB) :: (X.tL ++ (r ++ hh)))) (⟨58, fun u_ _ => u_ = .pointer (some ⟨p, 0, none⟩), [], none, false⟩ :: ⟨59, fun u_ _ => u_ = .pointer (some ⟨p, 0, none⟩), [0], none, false⟩ :: ⟨60, fun u_ _ => u_ = .pointer (some ⟨p, 0, none⟩), [1], none, false⟩ :: ⟨61, fun u_ _ => u_ = .slice (some ⟨X.gB, 0, none⟩) D.B.length X.capB, [2], none, false⟩ :: ⟨62, fun u_ _ => u_ = .pointer (some ⟨g5, 0, none⟩), [], none, false⟩ :: ⟨63, fun u_ _ => u_ = .int .i64 ((nk : Nat) : Int), [4], none, false⟩ :: ⟨64, fun u_ _ => u_ = .pointer (some ⟨g5, 1, none⟩), [], none, false⟩ :: ⟨65, fun u_ _ => u_ = .slice (some ⟨(X.gl k).1, 0, none⟩) 512 (X.gl k).2, [6], none, false⟩ :: ⟨66, fun u_ _ => u_ = .int .i64 512, [], none, false⟩ :: ⟨67, fun u_ _ => u_ = .slice (some ⟨(X.gl k).1, 0, none⟩) 512 (X.gl k).2, [7, 8], none, false⟩ :: ⟨68, OF w0.heap.size ((g5, 87, ltC ((nk : Nat) : Int) (.slice (some ⟨(X.gl k).1, 0, none⟩) 512 (X.gl k).2)) :: (p, 67, (rdC (.slice (some ⟨X.gB, 0, none⟩) D.B.length X.capB) (.slice X.A D.L.length X.capL) D.fuse D.dead)) :: (X.gB, 39, cB) :: (X.tL ++ (r ++ hh))) (bk.take 512), [9], (some 21), false⟩ :: ⟨69, fun u_ _ => u_ = .pointer (some ⟨p, 0, none⟩), [], none, false⟩ :: ⟨70, fun u_ _ => u_ = .pointer (some ⟨p, 0, none⟩), [11], none, false⟩ :: ⟨71, fun u_ _ => u_ = .pointer (some ⟨p, 0, none⟩), [12], none, false⟩ :: ⟨72, fun u_ _ => u_ = .slice (some ⟨X.gB, 0, none⟩) D.B.length X.capB, [13], none, false⟩ :: ⟨73, fun u_ _ => u_ = .pointer (some ⟨g5, 0, none⟩), [], none, false⟩ :: ⟨74, fun u_ _ => u_ = .int .i64 ((nk : Nat) : Int), [15], none, false⟩ :: ⟨75, fun u_ _ => u_ = .pointer (some ⟨X.gB, nk, none⟩), [14, 16], none, false⟩ :: ⟨76, fun u_ _ => u_ = .slice (some ⟨(gu nk).1, 0, none⟩) 512 (gu nk).2, [17], none, false⟩ :: ⟨77, fun u_ _ => u_ = .int .i64 512, [], none, false⟩ :: ⟨78, fun u_ _ => u_ = hiV (some ⟨(gu nk).1, 0, none⟩) 512 (gu nk).2 512, [18, 19], none, false⟩ :: ⟨79, OF w0.heap.size ((g5, 87, ltC ((nk : Nat) : Int) (.slice (some ⟨(X.gl k).1, 0, none⟩) 512 (X.gl k).2)) :: (p, 67, (rdC (.slice (some ⟨X.gB, 0, none⟩) D.B.length X.capB) (.slice X.A D.L.length X.capL) D.fuse D.dead)) :: (X.gB, 39, cB) :: (X.tL ++ (r ++ hh))) ((bk.take 512) ++ (((BK D.L (ksP picks D.L.length) D.B k).getD nk []).drop 512)), [10, 20], none, true⟩ :: []) (0 :: 1 :: 2 :: 4 :: 0 :: 16 :: 0 :: 64 :: 0 :: 384 :: 512 :: 0 :: 2048 :: 4096 :: 8192 :: 0 :: 32768 :: 81920 :: 131072 :: 0 :: 786432 :: 1049600 :: 4194303 :: 8388607 :: []) [3, 5, 21] (one_own (c := 21) (by kernel_rfl)) sb_st wr_st (by kernel_rfl) (by kernel_rfl) (by kernel_rfl) H ⟨⟨fun a W  H => by exact ob_valS H (wanted_none rfl) (does_move rfl rfl), val_grow, fun _ _ => val_grow⟩, ⟨fun a W y0 hy0 H => by subst hy0; exact ob_valS H (wanted_none rfl) (does_nilCheckQ rfl rfl), val_grow, fun _ _ => val_grow⟩, ⟨fun a W y1 hy1 H => by subst hy1; exact ob_valS H (wanted_none rfl) (does_fieldAddr rfl rfl (fa_rd 0 (by decide))), val_grow, fun _ _ => val_grow⟩, ⟨fun a W y2 hy2 H => by subst hy2; exact ob_valS H (wanted_none rfl) (does_loadAt (v := .slice (some ⟨X.gB, 0, none⟩) D.B.length X.capB) rfl rfl (k := 1) rfl ld_rd0), val_grow, fun _ _ => val_grow⟩, ⟨fun a W  H => by exact ob_valS H (wanted_none rfl) (does_fieldAddr rfl rfl fa_late0), val_grow, fun _ _ => val_grow⟩, ⟨fun a W y4 hy4 H => by subst hy4; exact ob_valS H (wanted_none rfl) (does_loadAt (v := .int .i64 ((nk : Nat) : Int)) rfl rfl (k := 0) rfl ld_late0), val_grow, fun _ _ => val_grow⟩, ⟨fun a W  H => by exact ob_valS H (wanted_none rfl) (does_fieldAddr rfl rfl fa_late1), val_grow, fun _ _ => val_grow⟩, ⟨fun a W y6 hy6 H => by subst hy6; exact ob_valS H (wanted_none rfl) (does_loadAt (v := .slice (some ⟨(X.gl k).1, 0, none⟩) 512 (X.gl k).2) rfl rfl (k := 0) rfl ld_late1), val_grow, fun _ _ => val_grow⟩, ⟨fun a W  H => by exact ob_valS H (wanted_none rfl) (does_move rfl rfl), val_grow, fun _ _ => val_grow⟩, ⟨fun a W y7 hy7 y8 hy8 H => by subst hy7; subst hy8; exact ob_valS H (wanted_none rfl) (does_slice rfl rfl (vl := none) (vh := some (.int .i64 ((512 : Nat) : Int))) rfl rfl (lo_run (by omega) (hJ.1.lo k _ hLk).2.2.cap)), val_grow, fun _ _ => val_grow⟩, ⟨fun a W y9 hy9 H => by subst hy9; exact ob_app0S H (wanted_none rfl) rfl rfl (lo_bf (RowB.bf (hJ.1.lo k _ hLk).2.2 H (fun q_ hq_ => (List.mem_cons_of_mem _ (List.mem_cons_of_mem _ (List.mem_cons_of_mem _ (List.mem_append_right _ (List.mem_append_left _ hq_))))))) (by omega)) (by first | omega | (simp only [List.length_take, List.length_drop]; omega)), OF.sb, fun ht_ => by cases ht_⟩, ⟨fun a W  H => by exact ob_valS H (wanted_none rfl) (does_move rfl rfl), val_grow, fun _ _ => val_grow⟩, ⟨fun a W y11 hy11 H => by subst hy11; exact ob_valS H (wanted_none rfl) (does_nilCheckQ rfl rfl), val_grow, fun _ _ => val_grow⟩, ⟨fun a W y12 hy12 H => by subst hy12; exact ob_valS H (wanted_none rfl) (does_fieldAddr rfl rfl (fa_rd 0 (by decide))), val_grow, fun _ _ => val_grow⟩, ⟨fun a W y13 hy13 H => by subst hy13; exact ob_valS H (wanted_none rfl) (does_loadAt (v := .slice (some ⟨X.gB, 0, none⟩) D.B.length X.capB) rfl rfl (k := 1) rfl ld_rd0), val_grow, fun _ _ => val_grow⟩, ⟨fun a W  H => by exact ob_valS H (wanted_none rfl) (does_fieldAddr rfl rfl fa_late0), val_grow, fun _ _ => val_grow⟩, ⟨fun a W y15 hy15 H => by subst hy15; exact ob_valS H (wanted_none rfl) (does_loadAt (v := .int .i64 ((nk : Nat) : Int)) rfl rfl (k := 0) rfl ld_late0), val_grow, fun _ _ => val_grow⟩, ⟨fun a W y14 hy14 y16 hy16 H => by subst hy14; subst hy16; exact ob_valS H (wanted_none rfl) (does_indexAddr rfl rfl rfl (ia_rows0 (j := nk) (by omega))), val_grow, fun _ _ => val_grow⟩, ⟨fun a W y17 hy17 H => by subst hy17; exact ob_valS H (wanted_none rfl) (does_loadAt (v := .slice (some ⟨(gu nk).1, 0, none⟩) 512 (gu nk).2) rfl rfl (k := 2) rfl (ld_slB (hJ.1.bo nk _ (getB (by rw [BK_len]; omega))).1)), val_grow, fun _ _ => val_grow⟩, ⟨fun a W  H => by exact ob_valS H (wanted_none rfl) (does_move rfl rfl), val_grow, fun _ _ => val_grow⟩, ⟨fun a W y18 hy18 y19 hy19 H => by subst hy18; subst hy19; exact ob_valS H (wanted_none rfl) (does_slice rfl rfl (vl := some (.int .i64 ((512 : Nat) : Int))) (vh := none) rfl rfl (hi_run (by omega) (hJ.1.bo nk _ (getB (by rw [BK_len]; omega))).2.cap)), val_grow, fun _ _ => val_grow⟩, ⟨fun a W v68 hv68 y20 hy20 H => by subst hy20; exact ob_appW H (wanted_none rfl) rfl rfl rfl hv68 (hi_bf (RowB.bf (hJ.1.bo nk _ (getB (by rw [BK_len]; omega))).2 H (fun q_ hq_ => (List.mem_cons_of_mem _ (List.mem_cons_of_mem _ (List.mem_cons_of_mem _ (List.mem_append_right _ (List.mem_append_left _ hq_))))))) (by omega)) (by first | omega | (simp only [List.length_take, List.length_drop]; omega)), OF.sb, fun _ ho_ => by cases ho_⟩, trivial⟩ (by kernel_rfl) ?_
          try clear H a W
          intro a W
          rintro _ rfl
          rintro _ rfl
          intro v79 hv79
          intro H
          replace H : St 90 w0 a W [(79, v79), (63, .int .i64 ((nk : Nat) : Int)), (61, .slice (some ⟨X.gB, 0, none⟩) D.B.length X.capB), (9, .pointer (some ⟨g5, 0, none⟩)), (57, .agg (ltC ((nk : Nat) : Int) (.slice (some ⟨(X.gl k).1, 0, none⟩) 512 (X.gl k).2))), (56, .pointer (some ⟨gL, k * 2, none⟩)), (55, .int .i64 ((k : Nat) : Int)), (54, .slice X.A D.L.length X.capL), (53, .pointer (some ⟨p, 1, none⟩)), (52, .pointer (some ⟨p, 0, none⟩)), (51, .pointer (some ⟨p, 0, none⟩)), (45, .bool false), (44, undef), (43, undef), (42, undef), (41, undef), (40, undef), (39, undef), (38, undef), (37, undef), (36, .bool false), (35, .bool false), (34, .int .i64 ((picks.getD k 0) % 3)), (8, .int .i64 512), (33, .bool false), (32, .int .i64 ((picks.getD k 0) % 3)), (7, .int .i64 ((picks.getD k 0) % 3)), (6, .int .i64 ((picks.getD k 0) / 3)), (31, .int .i64 ((picks.getD k 0) % 3)), (30, .int .i64 ((picks.getD k 0) / 3)), (27, .tuple #[.int .i64 ((picks.getD k 0) / 3), .int .i64 ((picks.getD k 0) % 3)]), (29, .tuple #[.int .i64 ((picks.getD k 0) / 3), .int .i64 ((picks.getD k 0) % 3)]), (28, .int .i64 (picks.getD k 0)), (5, .int .i64 (picks.getD k 0)), (26, .int .i64 (picks.getD k 0)), (25, .pointer (some ⟨gp, op_ + k, none⟩)), (24, .int .i64 ((k : Nat) : Int)), (23, .slice Ap np cp), (22, .bool true), (21, .int .i64 ((np : Nat) : Int)), (20, .slice Ap np cp), (19, .int .i64 ((k : Nat) : Int)), (16, .bool true), (15, .int .i64 ((D.L.length : Nat) : Int)), (14, .slice X.A D.L.length X.capL), (13, .pointer (some ⟨p, 1, none⟩)), (12, .pointer (some ⟨p, 0, none⟩)), (11, .pointer (some ⟨p, 0, none⟩)), (10, .int .i64 ((k : Nat) : Int)), (4, .int .i64 ((k : Nat) : Int)), (0, .pointer (some ⟨p, 0, none⟩)), (1, .slice Ap np cp)] ((g5, 87, ltC ((nk : Nat) : Int) (.slice (some ⟨(X.gl k).1, 0, none⟩) 512 (X.gl k).2)) :: (p, 67, (rdC (.slice (some ⟨X.gB, 0, none⟩) D.B.length X.capB) (.slice X.A D.L.length X.capL) D.fuse D.dead)) :: (X.gB, 39, cB) :: (X.tL ++ (r ++ hh))) := H
          refine rgO H (gsC hv79 gs0) (rV rfl (does_indexAddr rfl rfl rfl (ia_rows0 (j := nk) (by omega))) <| rI ?_)
          try clear hv79 H a W
          rintro a W H ⟨hv79, -⟩
          obtain ⟨gn6, capgn6, curgn6, rfl, hugn6, hngn6, H⟩ := ofs_told hv79 (torn_len (by omega) hl_bk hl_old) H
          replace H : St 90 w0 a W [(80, .pointer (some ⟨X.gB, nk, none⟩)), (79, .slice (some ⟨gn6, 0, none⟩) 512 capgn6), (63, .int .i64 ((nk : Nat) : Int)), (61, .slice (some ⟨X.gB, 0, none⟩) D.B.length X.capB), (9, .pointer (some ⟨g5, 0, none⟩)), (57, .agg (ltC ((nk : Nat) : Int) (.slice (some ⟨(X.gl k).1, 0, none⟩) 512 (X.gl k).2))), (56, .pointer (some ⟨gL, k * 2, none⟩)), (55, .int .i64 ((k : Nat) : Int)), (54, .slice X.A D.L.length X.capL), (53, .pointer (some ⟨p, 1, none⟩)), (52, .pointer (some ⟨p, 0, none⟩)), (51, .pointer (some ⟨p, 0, none⟩)), (45, .bool false), (44, undef), (43, undef), (42, undef), (41, undef), (40, undef), (39, undef), (38, undef), (37, undef), (36, .bool false), (35, .bool false), (34, .int .i64 ((picks.getD k 0) % 3)), (8, .int .i64 512), (33, .bool false), (32, .int .i64 ((picks.getD k 0) % 3)), (7, .int .i64 ((picks.getD k 0) % 3)), (6, .int .i64 ((picks.getD k 0) / 3)), (31, .int .i64 ((picks.getD k 0) % 3)), (30, .int .i64 ((picks.getD k 0) / 3)), (27, .tuple #[.int .i64 ((picks.getD k 0) / 3), .int .i64 ((picks.getD k 0) % 3)]), (29, .tuple #[.int .i64 ((picks.getD k 0) / 3), .int .i64 ((picks.getD k 0) % 3)]), (28, .int .i64 (picks.getD k 0)), (5, .int .i64 (picks.getD k 0)), (26, .int .i64 (picks.getD k 0)), (25, .pointer (some ⟨gp, op_ + k, none⟩)), (24, .int .i64 ((k : Nat) : Int)), (23, .slice Ap np cp), (22, .bool true), (21, .int .i64 ((np : Nat) : Int)), (20, .slice Ap np cp), (19, .int .i64 ((k : Nat) : Int)), (16, .bool true), (15, .int .i64 ((D.L.length : Nat) : Int)), (14, .slice X.A D.L.length X.capL), (13, .pointer (some ⟨p, 1, none⟩)), (12, .pointer (some ⟨p, 0, none⟩)), (11, .pointer (some ⟨p, 0, none⟩)), (10, .int .i64 ((k : Nat) : Int)), (4, .int .i64 ((k : Nat) : Int)), (0, .pointer (some ⟨p, 0, none⟩)), (1, .slice Ap np cp)] ((gn6, 5, curgn6) :: (g5, 87, ltC ((nk : Nat) : Int) (.slice (some ⟨(X.gl k).1, 0, none⟩) 512 (X.gl k).2)) :: (p, 67, (rdC (.slice (some ⟨X.gB, 0, none⟩) D.B.length X.capB) (.slice X.A D.L.length X.capL) D.fuse D.dead)) :: (X.gB, 39, cB) :: (X.tL ++ (r ++ hh))) := H
          refine rgO H gs0 (rX [0, 0, 0, 1] (c := (setV cB nk [.slice (some ⟨gn6, 0, none⟩) 512 capgn6])) ⟨rfl, rfl⟩ rfl rfl rfl (st_slB (hJ.1.bo nk _ (getB (by rw [BK_len]; omega))).1) rfl <| rZ0 ?_)
          try clear H a W
          intro a W H
          refine blk_normal ?_
          refine hK5 _ _ ?_
          clear hK5
          refine rgP H gs0 (rS 1 rfl <| rV rfl (does_binOp rfl rfl rfl (zd_add_int (k := ((k : Nat) : Int)) (m := 1) (c := ((k + 1 : Nat) : Int)) (by omega) (by omega) _ _)) <| rK [1, 1, 1, 1, 1, 1, 1, 1, 1, 1, 1, 1, 1, 1, 1, 1, 1, 1, 1, 1, 1, 1, 1, 1, 1, 1, 1, 1, 1, 1, 1, 1, 1, 1, 1, 1, 1, 1, 1, 1, 1, 1, 1, 1, 1, 1, 1, 1, 1, 1, 1, 1, 0] [] [] <| rS 1 rfl <| rZ0 ?_)
          try clear H a W
          intro a W H
          have hks : ksP picks D.L.length k = 512 := by
            unfold ksP lastN lastsB
            rw [if_neg hq2p]
            rw [if_neg fun h_ => absurd h_.1 hq3p]
            rfl
          replace H : St 90 w0 a W [(4, .int .i64 ((k + 1 : Nat) : Int)), (18, .int .i64 ((k + 1 : Nat) : Int)), (17, .int .i64 ((k : Nat) : Int)), (80, .pointer (some ⟨X.gB, nk, none⟩)), (79, .slice (some ⟨gn6, 0, none⟩) 512 capgn6), (63, .int .i64 ((nk : Nat) : Int)), (61, .slice (some ⟨X.gB, 0, none⟩) D.B.length X.capB), (9, .pointer (some ⟨g5, 0, none⟩)), (57, .agg (ltC ((nk : Nat) : Int) (.slice (some ⟨(X.gl k).1, 0, none⟩) 512 (X.gl k).2))), (56, .pointer (some ⟨gL, k * 2, none⟩)), (55, .int .i64 ((k : Nat) : Int)), (54, .slice X.A D.L.length X.capL), (53, .pointer (some ⟨p, 1, none⟩)), (52, .pointer (some ⟨p, 0, none⟩)), (51, .pointer (some ⟨p, 0, none⟩)), (45, .bool false), (44, undef), (43, undef), (42, undef), (41, undef), (40, undef), (39, undef), (38, undef), (37, undef), (36, .bool false), (35, .bool false), (34, .int .i64 ((picks.getD k 0) % 3)), (8, .int .i64 512), (33, .bool false), (32, .int .i64 ((picks.getD k 0) % 3)), (7, .int .i64 ((picks.getD k 0) % 3)), (6, .int .i64 ((picks.getD k 0) / 3)), (31, .int .i64 ((picks.getD k 0) % 3)), (30, .int .i64 ((picks.getD k 0) / 3)), (27, .tuple #[.int .i64 ((picks.getD k 0) / 3), .int .i64 ((picks.getD k 0) % 3)]), (29, .tuple #[.int .i64 ((picks.getD k 0) / 3), .int .i64 ((picks.getD k 0) % 3)]), (28, .int .i64 (picks.getD k 0)), (5, .int .i64 (picks.getD k 0)), (26, .int .i64 (picks.getD k 0)), (25, .pointer (some ⟨gp, op_ + k, none⟩)), (24, .int .i64 ((k : Nat) : Int)), (23, .slice Ap np cp), (22, .bool true), (21, .int .i64 ((np : Nat) : Int)), (20, .slice Ap np cp), (19, .int .i64 ((k : Nat) : Int)), (16, .bool true), (15, .int .i64 ((D.L.length : Nat) : Int)), (14, .slice X.A D.L.length X.capL), (13, .pointer (some ⟨p, 1, none⟩)), (12, .pointer (some ⟨p, 0, none⟩)), (11, .pointer (some ⟨p, 0, none⟩)), (10, .int .i64 ((k : Nat) : Int)), (0, .pointer (some ⟨p, 0, none⟩)), (1, .slice Ap np cp)] ((gn6, .ty 5, curgn6) :: ([(p, .ty 67, (rdC (.slice (some ⟨X.gB, 0, none⟩) D.B.length X.capB) (.slice X.A D.L.length X.capL) D.fuse D.dead)), (X.gB, .ty 39, (setV cB nk [.slice (some ⟨gn6, 0, none⟩) 512 capgn6]))] ++ (X.tL ++ (r ++ hh)))) := H.pickF (h := [(gn6, 5, curgn6), (g5, 87, ltC ((nk : Nat) : Int) (.slice (some ⟨(X.gl k).1, 0, none⟩) 512 (X.gl k).2)), (p, 67, (rdC (.slice (some ⟨X.gB, 0, none⟩) D.B.length X.capB) (.slice X.A D.L.length X.capL) D.fuse D.dead)), (X.gB, 39, (setV cB nk [.slice (some ⟨gn6, 0, none⟩) 512 capgn6]))]) (t := (X.tL ++ (r ++ hh))) [0, 1, 2, 3, 4, 5, 6, 7, 8, 9, 10, 11, 12, 13, 14, 15, 16, 17, 18, 19, 20, 21, 22, 23, 24, 25, 26, 27, 28, 29, 30, 31, 32, 33, 34, 35, 36, 37, 38, 39, 40, 41, 42, 43, 44, 45, 46, 47, 48, 49, 50, 51, 52, 53, 54] [0, 2, 3] rfl
          replace H := H.store1
          replace H : St 90 w0 a W [(4, .int .i64 ((k + 1 : Nat) : Int)), (18, .int .i64 ((k + 1 : Nat) : Int)), (17, .int .i64 ((k : Nat) : Int)), (80, .pointer (some ⟨X.gB, nk, none⟩)), (79, .slice (some ⟨gn6, 0, none⟩) 512 capgn6), (63, .int .i64 ((nk : Nat) : Int)), (61, .slice (some ⟨X.gB, 0, none⟩) D.B.length X.capB), (9, .pointer (some ⟨g5, 0, none⟩)), (57, .agg (ltC ((nk : Nat) : Int) (.slice (some ⟨(X.gl k).1, 0, none⟩) 512 (X.gl k).2))), (56, .pointer (some ⟨gL, k * 2, none⟩)), (55, .int .i64 ((k : Nat) : Int)), (54, .slice X.A D.L.length X.capL), (53, .pointer (some ⟨p, 1, none⟩)), (52, .pointer (some ⟨p, 0, none⟩)), (51, .pointer (some ⟨p, 0, none⟩)), (45, .bool false), (44, undef), (43, undef), (42, undef), (41, undef), (40, undef), (39, undef), (38, undef), (37, undef), (36, .bool false), (35, .bool false), (34, .int .i64 ((picks.getD k 0) % 3)), (8, .int .i64 512), (33, .bool false), (32, .int .i64 ((picks.getD k 0) % 3)), (7, .int .i64 ((picks.getD k 0) % 3)), (6, .int .i64 ((picks.getD k 0) / 3)), (31, .int .i64 ((picks.getD k 0) % 3)), (30, .int .i64 ((picks.getD k 0) / 3)), (27, .tuple #[.int .i64 ((picks.getD k 0) / 3), .int .i64 ((picks.getD k 0) % 3)]), (29, .tuple #[.int .i64 ((picks.getD k 0) / 3), .int .i64 ((picks.getD k 0) % 3)]), (28, .int .i64 (picks.getD k 0)), (5, .int .i64 (picks.getD k 0)), (26, .int .i64 (picks.getD k 0)), (25, .pointer (some ⟨gp, op_ + k, none⟩)), (24, .int .i64 ((k : Nat) : Int)), (23, .slice Ap np cp), (22, .bool true), (21, .int .i64 ((np : Nat) : Int)), (20, .slice Ap np cp), (19, .int .i64 ((k : Nat) : Int)), (16, .bool true), (15, .int .i64 ((D.L.length : Nat) : Int)), (14, .slice X.A D.L.length X.capL), (13, .pointer (some ⟨p, 1, none⟩)), (12, .pointer (some ⟨p, 0, none⟩)), (11, .pointer (some ⟨p, 0, none⟩)), (10, .int .i64 ((k : Nat) : Int)), (0, .pointer (some ⟨p, 0, none⟩)), (1, .slice Ap np cp)] ((p, 67, (rdC (.slice (some ⟨X.gB, 0, none⟩) D.B.length X.capB) (.slice X.A D.L.length X.capL) D.fuse D.dead)) :: (X.gB, 39, (setV cB nk [.slice (some ⟨gn6, 0, none⟩) 512 capgn6])) :: (X.tL ++ (((gn6, .ty 5, curgn6) :: r) ++ hh))) := H
          refine ⟨k + 1, by omega, by omega, setV cB nk [.slice (some ⟨gn6, 0, none⟩) 512 capgn6], (gn6, .ty 5, curgn6) :: r, (fun i => if i = nk then (gn6, capgn6) else gu i), ⟨by rw [BK_succ, get_of hLk, hks]; exact hJ.1.setB (by rw [BK_len]; exact hnk) hugn6 (fun q_ hq_ => hngn6 q_ (List.mem_cons_of_mem _ (List.mem_cons_of_mem _ (List.mem_cons_of_mem _ (List.mem_append_right _ (List.mem_append_left _ hq_)))))), trivial⟩, ?_⟩
          exact H.pickF (h := [(p, 67, (rdC (.slice (some ⟨X.gB, 0, none⟩) D.B.length X.capB) (.slice X.A D.L.length X.capL) D.fuse D.dead)), (X.gB, 39, (setV cB nk [.slice (some ⟨gn6, 0, none⟩) 512 capgn6]))]) (t := (X.tL ++ (((gn6, .ty 5, curgn6) :: r) ++ hh))) [0, 53, 54] [0, 1] rfl
    | false =>
      rw [hq1] at H
      have hq1p := of_decide_eq_false hq1
      refine wp_cond_false (H.ev rfl) ?_
      refine wp_skip ?_
      refine hK7 _ _ ?_
      clear hK7
      refine sqR H gs0 fun Z_ z_ => rS 1 rfl <| rV rfl (does_call rfl ⟨_, Try.func51, by kernel_rfl⟩ rfl (fun W hb => divide_any 0 3 (by omega) (by omega) W)) <| rS 5 rfl <| rN0 z_ ?_
      try clear H a W
      intro a W H
      refine wp_seq_k (fun K19 hK19 => ?_)
      refine sqR H gs0 fun Z_ z_ => rS 1 rfl <| rV rfl (does_binOp rfl rfl rfl (zd_eql_int (k := (0 % 3)) (m := 0) (decide_eq_true (by omega)) _ _)) <| rN0 z_ ?_
      try clear H a W
      intro a W H
      refine wp_cond_true (H.ev rfl) ?_
      refine wp_exit ?_
      repeat (first | (with_reducible refine then_exit ?_) | (with_reducible refine blk_pass (by decide) ?_))
      refine blk_exit ?_
      refine hK5 _ _ ?_
      clear hK5
      refine rgP H gs0 (rS 1 rfl <| rV rfl (does_binOp rfl rfl rfl (zd_add_int (k := ((k : Nat) : Int)) (m := 1) (c := ((k + 1 : Nat) : Int)) (by omega) (by omega) _ _)) <| rK [1, 1, 1, 1, 1, 1, 1, 1, 1, 1, 1, 1, 1, 1, 1, 1, 1, 1, 1, 1, 1, 1, 1, 0] [] [] <| rS 1 rfl <| rZ0 ?_)
      try clear H a W
      intro a W H
      have hz0 : picks.getD k 0 = 0 := hP.out (by omega)
      have hks : ksP picks D.L.length k = 0 := by
        unfold ksP lastN lastsB
        rw [if_pos (by rw [hz0]; rfl)]
        rfl
      refine ⟨k + 1, by omega, by omega, cB, r, gu, ⟨by rw [BK_succ, get_of hLk, hks]; show RK _ _ _ _ _ (List.set _ nk (tornB 0 bk _)) _; rw [torn_0, set_self (by rw [BK_len]; exact hnk)]; exact hJ.1, trivial⟩, ?_⟩
      exact H.pickF (h := [(p, 67, (rdC (.slice (some ⟨X.gB, 0, none⟩) D.B.length X.capB) (.slice X.A D.L.length X.capL) D.fuse D.dead)), (X.gB, 39, cB)]) (t := (X.tL ++ (r ++ hh))) [0, 24, 25] [0, 1] rfl
  · obtain rfl : D.L.length = k := by omega
    refine wp_seq_k (fun K21 hK21 => ?_)
    refine sqR H gs0 fun Z_ z_ => rS 2 rfl <| rV rfl (does_nilCheckQ rfl rfl) <| rV rfl (does_fieldAddr rfl rfl (fa_rd 1 (by decide))) <| rV rfl (does_loadAt (v := .slice X.A D.L.length X.capL) rfl rfl (k := 0) rfl ld_rd1) <| rV rfl (does_len Try.underlying65 rfl rfl) <| rV rfl (does_binOp rfl rfl rfl (zd_lss_int (k := ((D.L.length : Nat) : Int)) (m := ((D.L.length : Nat) : Int)) (decide_eq_false (by omega)) _ _)) <| rK [1, 0, 0, 0, 0, 0, 0] [] [] <| rN0 z_ ?_
    try clear H a W
    intro a W H
    refine wp_cond_false (H.ev rfl) ?_
    refine wp_exit ?_
    repeat (first | (with_reducible refine then_exit ?_) | (with_reducible refine blk_pass (by decide) ?_))
    refine blk_exit ?_
    refine hK1 _ _ ?_
    clear hK1
    refine rgP H gs0 (rS 3 rfl <| rV rfl (does_nilCheckQ rfl rfl) <| rV rfl (does_fieldAddr rfl rfl (fa_rd 1 (by decide))) <| rX [1] (c := (rdC (.slice (some ⟨X.gB, 0, none⟩) D.B.length X.capB) (.slice none 0 0) D.fuse D.dead)) ⟨rfl, rfl⟩ rfl rfl rfl st_rd1 rfl <| rV rfl (does_nilCheckQ rfl rfl) <| rV rfl (does_fieldAddr rfl rfl (fa_rd 2 (by decide))) <| rX [1] (c := (rdC (.slice (some ⟨X.gB, 0, none⟩) D.B.length X.capB) (.slice none 0 0) (-1) D.dead)) ⟨rfl, rfl⟩ rfl rfl rfl st_rd2 rfl <| rV rfl (does_nilCheckQ rfl rfl) <| rV rfl (does_fieldAddr rfl rfl (fa_rd 3 (by decide))) <| rX [1] (c := (rdC (.slice (some ⟨X.gB, 0, none⟩) D.B.length X.capB) (.slice none 0 0) (-1) false)) ⟨rfl, rfl⟩ rfl rfl rfl st_rd3 rfl <| rK [0, 0, 0, 0, 0, 0, 0, 0, 0, 0, 0, 0, 0] [] [] <| rZ0 ?_)
    try clear H a W
    intro a W H
    refine end_none rfl H (fun hk => ?_)
    have hBN : crashB picks 0 D.L D.B = (BK D.L (ksP picks D.L.length) D.B D.L.length) := BK_crash (fun q hq => (hX.dk.L q hq).1) (fun k _ => rfl) 0 (Nat.zero_le _)
    have hok2 := crash_ok hX.dk picks
    have hrk2 := (hJ.1.noL).mono (r' := X.tL ++ r) (fun q_ hq_ => List.mem_append_right _ hq_)
    rw [← hBN] at hrk2
    have eR : RX.row (RX.mk X.gB cB X.capB none 0 [] [] (X.tL ++ r) gu X.gl) (dCrash D picks) = rdC (.slice (some ⟨X.gB, 0, none⟩) D.B.length X.capB) (.slice none 0 0) (-1) false := by unfold RX.row dCrash; dsimp only; rw [crash_len]; rfl
    refine ⟨RX.rows (RX.mk X.gB cB X.capB none 0 [] [] (X.tL ++ r) gu X.gl) p (dCrash D picks), rfl, ⟨(RX.mk X.gB cB X.capB none 0 [] [] (X.tL ++ r) gu X.gl), rfl, ⟨OutD.nil _ _, hrk2, hok2, by show 0 < (crashB picks 0 D.L D.B).length ∧ (crashB picks 0 D.L D.B).length ≤ 8192; rw [crash_len]; exact hX.nb, Nat.zero_le _, ⟨Int.le_refl _, (by decide : (-1 : Int) < 9223372036854775808)⟩⟩⟩, ?_⟩
    rw [RX.rows_hh, eR]
    try dsimp only
    rw [List.nil_append, List.append_assoc]
    show Kn w0 W ((p, .ty 67, (rdC (.slice (some ⟨X.gB, 0, none⟩) D.B.length X.capB) (.slice none 0 0) (-1) false)) :: (X.gB, .ty 39, cB) :: (X.tL ++ (r ++ hh)))
    have H_ := H.pickF (h := [(p, .ty 67, (rdC (.slice (some ⟨X.gB, 0, none⟩) D.B.length X.capB) (.slice none 0 0) (-1) false)), (X.gB, .ty 39, cB)]) (t := (X.tL ++ (r ++ hh))) [] [0, 1] rfl
    exact H_.kn
set_option maxHeartbeats 4000000 in
theorem redit_no1 {X : RX} {p : Nat} {D : Dk} {hh : Hep} (n k_ : Int) (x : UInt8) (hno : decide (0 ≤ n ∧ n < ((D.B.length : Nat) : Int)) = false) (hX : X.ok D) (w0 w : World) (K : Kn w0 w (X.rows p D ++ hh)) : Calls Try.prog 38 #[.pointer (some ⟨p, 0, none⟩), .int .i64 n, .int .i64 k_, bv x] w (fun rr w' => rr = .returned (.int .i64 2) ∧ Kn w0 w' (X.rows p D ++ hh)) := by
  have hnb := hX.nb
  have hfu := hX.fu
  have hnl := hX.nl
  rw [RX.rows_hh] at K
  unfold RX.row at K
  refine calls_kn (vs := [.pointer (some ⟨p, 0, none⟩), .int .i64 n, .int .i64 k_, bv x]) 85 Try.func38 rfl Try.ntmps38 rfl K (fun a W H => ?_)
  replace H : St 85 w0 a W [(0, .pointer (some ⟨p, 0, none⟩)), (1, .int .i64 n), (2, .int .i64 k_), (3, bv x)] ((p, 67, (rdC (.slice (some ⟨X.gB, 0, none⟩) D.B.length X.capB) (.slice X.A D.L.length X.capL) D.fuse D.dead)) :: (X.gB, 39, X.cB) :: (X.tL ++ (X.rest ++ hh))) := H
  refine sqR H gs0 fun Z_ z_ => rS 1 rfl <| rN0 z_ ?_
  try clear H a W
  intro a W H
  refine wp_seq_k (fun K2 hK2 => ?_)
  refine wp_seq_k (fun K3 hK3 => ?_)
  refine rgP H gs0 (rS 2 rfl <| rI0 ?_)
  try clear H a W
  intro a W H
  refine pl_callV rfl rfl ⟨_, Try.func49, by kernel_rfl⟩ rfl (fun K_ => by have h_ := has_r (hh := ([(X.gB, .ty 39, X.cB)] ++ (X.tL ++ (X.rest ++ hh)))) n w0 _ K_; rw [hno] at h_; exact h_) H ?_
  try clear H a W
  intro a W H
  replace H : St 85 w0 a W [(12, .bool false), (11, .int .i64 n), (10, .pointer (some ⟨p, 0, none⟩)), (8, .int .i64 0), (0, .pointer (some ⟨p, 0, none⟩)), (1, .int .i64 n), (2, .int .i64 k_), (3, bv x)] ((p, 67, (rdC (.slice (some ⟨X.gB, 0, none⟩) D.B.length X.capB) (.slice X.A D.L.length X.capL) D.fuse D.dead)) :: (X.gB, 39, X.cB) :: (X.tL ++ (X.rest ++ hh))) := H
  refine rgO H gs0 (rS 9 rfl <| rK [1, 0, 0, 0, 0, 0, 0, 0, 0, 0, 0, 0] [] [] <| rZ0 ?_)
  try clear H a W
  intro a W H
  refine hK3 _ _ ?_
  clear hK3
  refine wp_cond_true (H.ev rfl) ?_
  refine sqR H gs0 fun Z_ z_ => rK [1, 0] [] [] <| rS 1 rfl <| rK [1, 0] [] [] <| rN0 z_ ?_
  try clear H a W
  intro a W H
  refine wp_ret ?_
  repeat (first | (with_reducible refine then_ret ?_) | (with_reducible refine blk_ret ?_))
  refine end_tmp (p := 8) rfl rfl H (fun hb => ?_)
  refine ⟨rfl, ?_⟩
  rw [RX.rows_hh]
  unfold RX.row
  show Kn w0 W ((p, .ty 67, (rdC (.slice (some ⟨X.gB, 0, none⟩) D.B.length X.capB) (.slice X.A D.L.length X.capL) D.fuse D.dead)) :: (X.gB, .ty 39, X.cB) :: (X.tL ++ (X.rest ++ hh)))
  have H_ := H.pickF (h := [(p, .ty 67, (rdC (.slice (some ⟨X.gB, 0, none⟩) D.B.length X.capB) (.slice X.A D.L.length X.capL) D.fuse D.dead)), (X.gB, .ty 39, X.cB)]) (t := (X.tL ++ (X.rest ++ hh))) [] [0, 1] rfl
  exact H_.kn
set_option maxHeartbeats 4000000 in
theorem redit_no2 {X : RX} {p : Nat} {D : Dk} {hh : Hep} (n k_ : Int) (x : UInt8) (hhas : decide (0 ≤ n ∧ n < ((D.B.length : Nat) : Int)) = true) (hno : decide (k_ < 0) = true) (hX : X.ok D) (w0 w : World) (K : Kn w0 w (X.rows p D ++ hh)) : Calls Try.prog 38 #[.pointer (some ⟨p, 0, none⟩), .int .i64 n, .int .i64 k_, bv x] w (fun rr w' => rr = .returned (.int .i64 2) ∧ Kn w0 w' (X.rows p D ++ hh)) := by
  have hnb := hX.nb
  have hfu := hX.fu
  have hnl := hX.nl
  rw [RX.rows_hh] at K
  unfold RX.row at K
  refine calls_kn (vs := [.pointer (some ⟨p, 0, none⟩), .int .i64 n, .int .i64 k_, bv x]) 85 Try.func38 rfl Try.ntmps38 rfl K (fun a W H => ?_)
  replace H : St 85 w0 a W [(0, .pointer (some ⟨p, 0, none⟩)), (1, .int .i64 n), (2, .int .i64 k_), (3, bv x)] ((p, 67, (rdC (.slice (some ⟨X.gB, 0, none⟩) D.B.length X.capB) (.slice X.A D.L.length X.capL) D.fuse D.dead)) :: (X.gB, 39, X.cB) :: (X.tL ++ (X.rest ++ hh))) := H
  refine sqR H gs0 fun Z_ z_ => rS 1 rfl <| rN0 z_ ?_
  try clear H a W
  intro a W H
  refine wp_seq_k (fun K2 hK2 => ?_)
  refine wp_seq_k (fun K3 hK3 => ?_)
  refine rgP H gs0 (rS 2 rfl <| rI0 ?_)
  try clear H a W
  intro a W H
  refine pl_callV rfl rfl ⟨_, Try.func49, by kernel_rfl⟩ rfl (fun K_ => by have h_ := has_r (hh := ([(X.gB, .ty 39, X.cB)] ++ (X.tL ++ (X.rest ++ hh)))) n w0 _ K_; rw [hhas] at h_; exact h_) H ?_
  try clear H a W
  intro a W H
  replace H : St 85 w0 a W [(12, .bool true), (11, .int .i64 n), (10, .pointer (some ⟨p, 0, none⟩)), (8, .int .i64 0), (0, .pointer (some ⟨p, 0, none⟩)), (1, .int .i64 n), (2, .int .i64 k_), (3, bv x)] ((p, 67, (rdC (.slice (some ⟨X.gB, 0, none⟩) D.B.length X.capB) (.slice X.A D.L.length X.capL) D.fuse D.dead)) :: (X.gB, 39, X.cB) :: (X.tL ++ (X.rest ++ hh))) := H
  refine rgO H gs0 (rS 3 rfl <| rV rfl (does_binOp rfl rfl rfl (zd_lss_int (k := k_) (m := 0) hno _ _)) <| rS 5 rfl <| rK [1, 0, 0, 0, 0, 0, 0, 0, 0, 0, 0, 0] [] [] <| rZ0 ?_)
  try clear H a W
  intro a W H
  refine hK3 _ _ ?_
  clear hK3
  refine wp_cond_true (H.ev rfl) ?_
  refine sqR H gs0 fun Z_ z_ => rK [1, 0] [] [] <| rS 1 rfl <| rK [1, 0] [] [] <| rN0 z_ ?_
  try clear H a W
  intro a W H
  refine wp_ret ?_
  repeat (first | (with_reducible refine then_ret ?_) | (with_reducible refine blk_ret ?_))
  refine end_tmp (p := 8) rfl rfl H (fun hb => ?_)
  refine ⟨rfl, ?_⟩
  rw [RX.rows_hh]
  unfold RX.row
  show Kn w0 W ((p, .ty 67, (rdC (.slice (some ⟨X.gB, 0, none⟩) D.B.length X.capB) (.slice X.A D.L.length X.capL) D.fuse D.dead)) :: (X.gB, .ty 39, X.cB) :: (X.tL ++ (X.rest ++ hh)))
  have H_ := H.pickF (h := [(p, .ty 67, (rdC (.slice (some ⟨X.gB, 0, none⟩) D.B.length X.capB) (.slice X.A D.L.length X.capL) D.fuse D.dead)), (X.gB, .ty 39, X.cB)]) (t := (X.tL ++ (X.rest ++ hh))) [] [0, 1] rfl
  exact H_.kn
set_option maxHeartbeats 4000000 in
theorem redit_no3 {X : RX} {p : Nat} {D : Dk} {hh : Hep} (n k_ : Int) (x : UInt8) (hhas : decide (0 ≤ n ∧ n < ((D.B.length : Nat) : Int)) = true) (hno0 : decide (k_ < 0) = false) (hno : decide (512 ≤ k_) = true) (hX : X.ok D) (w0 w : World) (K : Kn w0 w (X.rows p D ++ hh)) : Calls Try.prog 38 #[.pointer (some ⟨p, 0, none⟩), .int .i64 n, .int .i64 k_, bv x] w (fun rr w' => rr = .returned (.int .i64 2) ∧ Kn w0 w' (X.rows p D ++ hh)) := by
  have hnb := hX.nb
  have hfu := hX.fu
  have hnl := hX.nl
  rw [RX.rows_hh] at K
  unfold RX.row at K
  refine calls_kn (vs := [.pointer (some ⟨p, 0, none⟩), .int .i64 n, .int .i64 k_, bv x]) 85 Try.func38 rfl Try.ntmps38 rfl K (fun a W H => ?_)
  replace H : St 85 w0 a W [(0, .pointer (some ⟨p, 0, none⟩)), (1, .int .i64 n), (2, .int .i64 k_), (3, bv x)] ((p, 67, (rdC (.slice (some ⟨X.gB, 0, none⟩) D.B.length X.capB) (.slice X.A D.L.length X.capL) D.fuse D.dead)) :: (X.gB, 39, X.cB) :: (X.tL ++ (X.rest ++ hh))) := H
  refine sqR H gs0 fun Z_ z_ => rS 1 rfl <| rN0 z_ ?_
  try clear H a W
  intro a W H
  refine wp_seq_k (fun K2 hK2 => ?_)
  refine wp_seq_k (fun K3 hK3 => ?_)
  refine rgP H gs0 (rS 2 rfl <| rI0 ?_)
  try clear H a W
  intro a W H
  refine pl_callV rfl rfl ⟨_, Try.func49, by kernel_rfl⟩ rfl (fun K_ => by have h_ := has_r (hh := ([(X.gB, .ty 39, X.cB)] ++ (X.tL ++ (X.rest ++ hh)))) n w0 _ K_; rw [hhas] at h_; exact h_) H ?_
  try clear H a W
  intro a W H
  replace H : St 85 w0 a W [(12, .bool true), (11, .int .i64 n), (10, .pointer (some ⟨p, 0, none⟩)), (8, .int .i64 0), (0, .pointer (some ⟨p, 0, none⟩)), (1, .int .i64 n), (2, .int .i64 k_), (3, bv x)] ((p, 67, (rdC (.slice (some ⟨X.gB, 0, none⟩) D.B.length X.capB) (.slice X.A D.L.length X.capL) D.fuse D.dead)) :: (X.gB, 39, X.cB) :: (X.tL ++ (X.rest ++ hh))) := H
  refine rgO H gs0 (rS 3 rfl <| rV rfl (does_binOp rfl rfl rfl (zd_lss_int (k := k_) (m := 0) hno0 _ _)) <| rS 3 rfl <| rV rfl (does_binOp rfl rfl rfl (zd_geq_int (k := k_) (m := 512) hno _ _)) <| rS 1 rfl <| rK [1, 0, 0, 0, 0, 0, 0, 0, 0, 0, 0, 0] [] [] <| rZ0 ?_)
  try clear H a W
  intro a W H
  refine hK3 _ _ ?_
  clear hK3
  refine wp_cond_true (H.ev rfl) ?_
  refine sqR H gs0 fun Z_ z_ => rK [1, 0] [] [] <| rS 1 rfl <| rK [1, 0] [] [] <| rN0 z_ ?_
  try clear H a W
  intro a W H
  refine wp_ret ?_
  repeat (first | (with_reducible refine then_ret ?_) | (with_reducible refine blk_ret ?_))
  refine end_tmp (p := 8) rfl rfl H (fun hb => ?_)
  refine ⟨rfl, ?_⟩
  rw [RX.rows_hh]
  unfold RX.row
  show Kn w0 W ((p, .ty 67, (rdC (.slice (some ⟨X.gB, 0, none⟩) D.B.length X.capB) (.slice X.A D.L.length X.capL) D.fuse D.dead)) :: (X.gB, .ty 39, X.cB) :: (X.tL ++ (X.rest ++ hh)))
  have H_ := H.pickF (h := [(p, .ty 67, (rdC (.slice (some ⟨X.gB, 0, none⟩) D.B.length X.capB) (.slice X.A D.L.length X.capL) D.fuse D.dead)), (X.gB, .ty 39, X.cB)]) (t := (X.tL ++ (X.rest ++ hh))) [] [0, 1] rfl
  exact H_.kn
set_option maxHeartbeats 4000000 in
theorem redit_yes {X : RX} {p : Nat} {D : Dk} {hh : Hep} (n k_ : Nat) (x : UInt8) (hn : n < D.B.length) (hk_ : k_ < 512) (hX : X.ok D) (w0 w : World) (K : Kn w0 w (X.rows p D ++ hh)) : Calls Try.prog 38 #[.pointer (some ⟨p, 0, none⟩), .int .i64 ((n : Nat) : Int), .int .i64 ((k_ : Nat) : Int), bv x] w (fun rr w' => ∃ r', rr = .returned (.int .i64 (dEdit D ((n : Nat) : Int) ((k_ : Nat) : Int) x).2) ∧ RO p (dEdit D ((n : Nat) : Int) ((k_ : Nat) : Int) x).1 r' ∧ Kn w0 w' (r' ++ hh)) := by
  have hnb := hX.nb
  have hfu := hX.fu
  have hnl := hX.nl
  rw [RX.rows_hh] at K
  unfold RX.row at K
  have hhas : decide (0 ≤ ((n : Nat) : Int) ∧ ((n : Nat) : Int) < ((D.B.length : Nat) : Int)) = true := decide_eq_true (by omega)
  obtain ⟨curn, hmn, hun⟩ := (hX.rk.bo n _ (getB hn)).2
  obtain ⟨r0, hr0⟩ := perm_of_mem hmn
  replace K : Kn w0 w (((X.gu n).1, .ty 5, curn) :: [(p, .ty 67, (rdC (.slice (some ⟨X.gB, 0, none⟩) D.B.length X.capB) (.slice X.A D.L.length X.capL) D.fuse D.dead)), (X.gB, .ty 39, X.cB)] ++ (X.tL ++ (r0 ++ hh))) := K.fromRest hr0
  obtain ⟨gL, cL, hat⟩ := hX.at_
  refine calls_kn (vs := [.pointer (some ⟨p, 0, none⟩), .int .i64 ((n : Nat) : Int), .int .i64 ((k_ : Nat) : Int), bv x]) 85 Try.func38 rfl Try.ntmps38 rfl K (fun a W H => ?_)
  replace H : St 85 w0 a W [(0, .pointer (some ⟨p, 0, none⟩)), (1, .int .i64 ((n : Nat) : Int)), (2, .int .i64 ((k_ : Nat) : Int)), (3, bv x)] (((X.gu n).1, 5, curn) :: (p, 67, (rdC (.slice (some ⟨X.gB, 0, none⟩) D.B.length X.capB) (.slice X.A D.L.length X.capL) D.fuse D.dead)) :: (X.gB, 39, X.cB) :: (X.tL ++ (r0 ++ hh))) := H
  refine sqR H gs0 fun Z_ z_ => rS 1 rfl <| rN0 z_ ?_
  try clear H a W
  intro a W H
  refine wp_seq_k (fun K2 hK2 => ?_)
  refine wp_seq_k (fun K3 hK3 => ?_)
  refine rgP H gs0 (rS 2 rfl <| rI0 ?_)
  try clear H a W
  intro a W H
  replace H : St 85 w0 a W [(11, .int .i64 ((n : Nat) : Int)), (10, .pointer (some ⟨p, 0, none⟩)), (8, .int .i64 0), (0, .pointer (some ⟨p, 0, none⟩)), (1, .int .i64 ((n : Nat) : Int)), (2, .int .i64 ((k_ : Nat) : Int)), (3, bv x)] ((p, 67, (rdC (.slice (some ⟨X.gB, 0, none⟩) D.B.length X.capB) (.slice X.A D.L.length X.capL) D.fuse D.dead)) :: ((X.gu n).1, 5, curn) :: (X.gB, 39, X.cB) :: (X.tL ++ (r0 ++ hh))) := H.perm' (@List.perm_middle (Nat × Tid × Array Value) (p, .ty 67, (rdC (.slice (some ⟨X.gB, 0, none⟩) D.B.length X.capB) (.slice X.A D.L.length X.capL) D.fuse D.dead)) [((X.gu n).1, .ty 5, curn)] (([(X.gB, .ty 39, X.cB)] : Hep) ++ (X.tL ++ (r0 ++ hh))))
  refine pl_callV rfl rfl ⟨_, Try.func49, by kernel_rfl⟩ rfl (fun K_ => by have h_ := has_r (hh := ([((X.gu n).1, .ty 5, curn), (X.gB, .ty 39, X.cB)] ++ (X.tL ++ (r0 ++ hh)))) ((n : Nat) : Int) w0 _ K_; rw [hhas] at h_; exact h_) H ?_
  try clear H a W
  intro a W H
  replace H : St 85 w0 a W [(12, .bool true), (11, .int .i64 ((n : Nat) : Int)), (10, .pointer (some ⟨p, 0, none⟩)), (8, .int .i64 0), (0, .pointer (some ⟨p, 0, none⟩)), (1, .int .i64 ((n : Nat) : Int)), (2, .int .i64 ((k_ : Nat) : Int)), (3, bv x)] ((p, 67, (rdC (.slice (some ⟨X.gB, 0, none⟩) D.B.length X.capB) (.slice X.A D.L.length X.capL) D.fuse D.dead)) :: ((X.gu n).1, 5, curn) :: (X.gB, 39, X.cB) :: (X.tL ++ (r0 ++ hh))) := H
  refine rgO H gs0 (rS 3 rfl <| rV rfl (does_binOp rfl rfl rfl (zd_lss_int (k := ((k_ : Nat) : Int)) (m := 0) (decide_eq_false (by omega)) _ _)) <| rS 3 rfl <| rV rfl (does_binOp rfl rfl rfl (zd_geq_int (k := ((k_ : Nat) : Int)) (m := 512) (decide_eq_false (by omega)) _ _)) <| rS 1 rfl <| rK [1, 0, 0, 0, 0, 0, 0, 0, 0, 0, 0, 0] [] [] <| rZ0 ?_)
  try clear H a W
  intro a W H
  refine hK3 _ _ ?_
  clear hK3
  refine wp_cond_false (H.ev rfl) ?_
  refine wp_skip ?_
  refine hK2 _ _ ?_
  clear hK2
  refine sqD (.v 22 _ [] :: .v 23 _ [0] :: .v 24 _ [1] :: .v 25 _ [2] :: .v 26 _ [] :: .v 27 _ [3, 4] :: .v 28 _ [5] :: .v 29 _ [] :: .v 30 _ [] :: .v 31 _ [8] :: .v 32 _ [9] :: .v 33 _ [10] :: .v 34 _ [] :: .v 35 _ [11, 12] :: .v 36 _ [13] :: .v 37 _ [] :: .v 38 _ [14, 15] :: .v 39 _ [16] :: .v 40 _ [] :: .v 41 _ [17, 18] :: .v 42 _ [6, 7] :: []) (by kernel_rfl) (by kernel_rfl) H gs0 (fun _ => ⟨oS rfl rfl, oV rfl (does_nilCheckQ rfl rfl), oV rfl (does_fieldAddr rfl rfl (fa_rd 0 (by decide))), oV rfl (does_loadAt (v := .slice (some ⟨X.gB, 0, none⟩) D.B.length X.capB) rfl rfl (k := 0) rfl ld_rd0), oS rfl rfl, oV rfl (does_indexAddr rfl rfl rfl (ia_rows0 (j := n) (by omega))), oV rfl (does_loadAt (v := .slice (some ⟨(X.gu n).1, 0, none⟩) 512 (X.gu n).2) rfl rfl (k := 2) rfl (ld_slB (hX.rk.bo n _ (getB (by omega))).1)), oS rfl rfl, oS rfl rfl, oV rfl (does_nilCheckQ rfl rfl), oV rfl (does_fieldAddr rfl rfl (fa_rd 0 (by decide))), oV rfl (does_loadAt (v := .slice (some ⟨X.gB, 0, none⟩) D.B.length X.capB) rfl rfl (k := 0) rfl ld_rd0), oS rfl rfl, oV rfl (does_indexAddr rfl rfl rfl (ia_rows0 (j := n) (by omega))), oV rfl (does_loadAt (v := .slice (some ⟨(X.gu n).1, 0, none⟩) 512 (X.gu n).2) rfl rfl (k := 2) rfl (ld_slB (hX.rk.bo n _ (getB (by omega))).1)), oS rfl rfl, oV rfl (does_indexAddr rfl rfl rfl (ia_b0 (j := k_) (by omega))), oV rfl (does_loadAt (v := bv ((D.B.getD n []).getD k_ 0)) rfl rfl (k := 1) rfl (ld_u8c (us_at hun (by omega)))), oS rfl rfl, oV rfl (does_binOp rfl rfl rfl (b_xorP _ _ _ _)), oV rfl (does_indexAddr rfl rfl rfl (ia_b0 (j := k_) (by omega))), trivial⟩) fun Z_ z_ => rX [0, 1] (c := (setV curn k_ [bv (((D.B.getD n []).getD k_ 0) ^^^ x)])) ⟨rfl, rfl⟩ rfl rfl rfl (st_u8c (us_at hun (by omega))) rfl <| rK [0, 0, 0, 0, 0, 0, 0, 0, 0, 0, 0, 0, 0, 0, 0, 0, 0, 0, 0, 0, 0, 0] [] [] <| rN0 z_ ?_
  try clear H a W
  intro a W H
  refine wp_seq_k (fun K5 hK5 => ?_)
  refine sqR H gs0 fun Z_ z_ => rS 1 rfl <| rN0 z_ ?_
  try clear H a W
  intro a W H
  replace H : St 85 w0 a W [(9, .int .i64 0), (8, .int .i64 0), (0, .pointer (some ⟨p, 0, none⟩)), (1, .int .i64 ((n : Nat) : Int)), (2, .int .i64 ((k_ : Nat) : Int)), (3, bv x)] ((X.gB, 39, X.cB) :: (p, 67, (rdC (.slice (some ⟨X.gB, 0, none⟩) D.B.length X.capB) (.slice X.A D.L.length X.capL) D.fuse D.dead)) :: ((X.gu n).1, 5, (setV curn k_ [bv (((D.B.getD n []).getD k_ 0) ^^^ x)])) :: (X.tL ++ (r0 ++ hh))) := H.perm' (@List.perm_middle (Nat × Tid × Array Value) (X.gB, .ty 39, X.cB) [(p, .ty 67, (rdC (.slice (some ⟨X.gB, 0, none⟩) D.B.length X.capB) (.slice X.A D.L.length X.capL) D.fuse D.dead)), ((X.gu n).1, .ty 5, (setV curn k_ [bv (((D.B.getD n []).getD k_ 0) ^^^ x)]))] (X.tL ++ (r0 ++ hh)))
  replace H : St 85 w0 a W [(9, .int .i64 0), (8, .int .i64 0), (0, .pointer (some ⟨p, 0, none⟩)), (1, .int .i64 ((n : Nat) : Int)), (2, .int .i64 ((k_ : Nat) : Int)), (3, bv x)] ((p, 67, (rdC (.slice (some ⟨X.gB, 0, none⟩) D.B.length X.capB) (.slice X.A D.L.length X.capL) D.fuse D.dead)) :: (X.gB, 39, X.cB) :: ((X.gu n).1, 5, (setV curn k_ [bv (((D.B.getD n []).getD k_ 0) ^^^ x)])) :: (X.tL ++ (r0 ++ hh))) := H.perm' (@List.perm_middle (Nat × Tid × Array Value) (p, .ty 67, (rdC (.slice (some ⟨X.gB, 0, none⟩) D.B.length X.capB) (.slice X.A D.L.length X.capL) D.fuse D.dead)) [(X.gB, .ty 39, X.cB)] (([((X.gu n).1, .ty 5, (setV curn k_ [bv (((D.B.getD n []).getD k_ 0) ^^^ x)]))] : Hep) ++ (X.tL ++ (r0 ++ hh))))
  replace H : St 85 w0 a W [(9, .int .i64 0), (8, .int .i64 0), (0, .pointer (some ⟨p, 0, none⟩)), (1, .int .i64 ((n : Nat) : Int)), (2, .int .i64 ((k_ : Nat) : Int)), (3, bv x)] (((X.gu n).1, 5, (setV curn k_ [bv (((D.B.getD n []).getD k_ 0) ^^^ x)])) :: (p, 67, (rdC (.slice (some ⟨X.gB, 0, none⟩) D.B.length X.capB) (.slice X.A D.L.length X.capL) D.fuse D.dead)) :: (X.gB, 39, X.cB) :: (X.tL ++ (r0 ++ hh))) := H.perm' (@List.perm_middle (Nat × Tid × Array Value) ((X.gu n).1, .ty 5, (setV curn k_ [bv (((D.B.getD n []).getD k_ 0) ^^^ x)])) [(p, .ty 67, (rdC (.slice (some ⟨X.gB, 0, none⟩) D.B.length X.capB) (.slice X.A D.L.length X.capL) D.fuse D.dead)), (X.gB, .ty 39, X.cB)] (X.tL ++ (r0 ++ hh)))
  replace H : St 85 w0 a W [(9, .int .i64 0), (8, .int .i64 0), (0, .pointer (some ⟨p, 0, none⟩)), (1, .int .i64 ((n : Nat) : Int)), (2, .int .i64 ((k_ : Nat) : Int)), (3, bv x)] (((X.gu n).1, .ty 5, (setV curn k_ [bv (((D.B.getD n []).getD k_ 0) ^^^ x)])) :: ([(p, .ty 67, (rdC (.slice (some ⟨X.gB, 0, none⟩) D.B.length X.capB) (.slice X.A D.L.length X.capL) D.fuse D.dead)), (X.gB, .ty 39, X.cB)] ++ (X.tL ++ (r0 ++ hh)))) := H.pickF (h := [((X.gu n).1, 5, (setV curn k_ [bv (((D.B.getD n []).getD k_ 0) ^^^ x)])), (p, 67, (rdC (.slice (some ⟨X.gB, 0, none⟩) D.B.length X.capB) (.slice X.A D.L.length X.capL) D.fuse D.dead)), (X.gB, 39, X.cB)]) (t := (X.tL ++ (r0 ++ hh))) [0, 1, 2, 3, 4, 5] [0, 1, 2] rfl
  replace H := H.store1
  replace H : St 85 w0 a W [(9, .int .i64 0), (8, .int .i64 0), (0, .pointer (some ⟨p, 0, none⟩)), (1, .int .i64 ((n : Nat) : Int)), (2, .int .i64 ((k_ : Nat) : Int)), (3, bv x)] ((p, 67, (rdC (.slice (some ⟨X.gB, 0, none⟩) D.B.length X.capB) (.slice X.A D.L.length X.capL) D.fuse D.dead)) :: (X.gB, 39, X.cB) :: (X.tL ++ ((((X.gu n).1, .ty 5, (setV curn k_ [bv (((D.B.getD n []).getD k_ 0) ^^^ x)])) :: r0) ++ hh))) := H
  refine wp_block ?_
  replace H : St 85 w0 a W [(9, .int .i64 0), (0, .pointer (some ⟨p, 0, none⟩)), (1, .int .i64 ((n : Nat) : Int)), (2, .int .i64 ((k_ : Nat) : Int)), (3, bv x)] ((p, 67, (rdC (.slice (some ⟨X.gB, 0, none⟩) D.B.length X.capB) (.slice X.A D.L.length X.capL) D.fuse D.dead)) :: (X.gB, 39, X.cB) :: (X.tL ++ ((((X.gu n).1, .ty 5, (setV curn k_ [bv (((D.B.getD n []).getD k_ 0) ^^^ x)])) :: r0) ++ hh))) := H.pickF (h := [(p, 67, (rdC (.slice (some ⟨X.gB, 0, none⟩) D.B.length X.capB) (.slice X.A D.L.length X.capL) D.fuse D.dead)), (X.gB, 39, X.cB)]) (t := (X.tL ++ ((((X.gu n).1, .ty 5, (setV curn k_ [bv (((D.B.getD n []).getD k_ 0) ^^^ x)])) :: r0) ++ hh))) [0, 2, 3, 4, 5] [0, 1] rfl
  refine wp_rounds D.L.length (fun k a W => ∃ r, (RK X.cB X.xs r X.gu X.gl (D.B.set n (xorB k_ x (D.B.getD n []))) (EL n k_ x D.L k) ∧ True) ∧ St 85 w0 a W [(9, .int .i64 ((k : Nat) : Int)), (0, .pointer (some ⟨p, 0, none⟩)), (1, .int .i64 ((n : Nat) : Int)), (2, .int .i64 ((k_ : Nat) : Int)), (3, bv x)] ((p, 67, (rdC (.slice (some ⟨X.gB, 0, none⟩) D.B.length X.capB) (.slice X.A D.L.length X.capL) D.fuse D.dead)) :: (X.gB, 39, X.cB) :: (X.tL ++ (r ++ hh)))) (k0 := 0) ⟨((X.gu n).1, .ty 5, (setV curn k_ [bv ((D.B.getD n []).getD k_ 0 ^^^ x)])) :: r0, ⟨by rw [EL_0]; exact hX.rk.editB hn hr0 (us_xor hun hk_), trivial⟩, H⟩ (by omega) ?_
  try clear H a W
  rintro k a W hk ⟨r, hJ, H⟩
  by_cases hk2 : k < D.L.length
  · obtain ⟨⟨nk, bk⟩, hLk⟩ : ∃ q, D.L[k]? = some q := ⟨_, List.getElem?_eq_getElem hk2⟩
    have hEk := EL_at (n := n) (a := k_) (x := x) hLk
    refine wp_seq_k (fun K7 hK7 => ?_)
    refine sqR H gs0 fun Z_ z_ => rS 2 rfl <| rV rfl (does_nilCheckQ rfl rfl) <| rV rfl (does_fieldAddr rfl rfl (fa_rd 1 (by decide))) <| rV rfl (does_loadAt (v := .slice X.A D.L.length X.capL) rfl rfl (k := 0) rfl ld_rd1) <| rV rfl (does_len Try.underlying65 rfl rfl) <| rV rfl (does_binOp rfl rfl rfl (zd_lss_int (k := ((k : Nat) : Int)) (m := ((D.L.length : Nat) : Int)) (decide_eq_true (by omega)) _ _)) <| rN0 z_ ?_
    try clear H a W
    intro a W H
    refine wp_cond_true (H.ev rfl) ?_
    refine wp_skip ?_
    refine hK7 _ _ ?_
    clear hK7
    refine wp_seq_k (fun K9 hK9 => ?_)
    refine wp_block ?_
    refine sqR H gs0 fun Z_ z_ => rS 1 rfl <| rV rfl (does_nilCheckQ rfl rfl) <| rV rfl (does_fieldAddr rfl rfl (fa_rd 1 (by decide))) <| rV rfl (does_loadAt (v := .slice X.A D.L.length X.capL) rfl rfl (k := 0) rfl ld_rd1) <| rS 1 rfl <| rV rfl (does_indexAddr rfl rfl rfl (ia_lates (j := k) (hat (by omega)).1 (by omega))) <| rV rfl (does_fieldAddr rfl rfl fa_late0) <| rV rfl (does_loadMem (v := .int .i64 ((nk : Nat) : Int)) rfl rfl (List.mem_cons_of_mem _ (List.mem_cons_of_mem _ (List.mem_append_left _ (hat (by omega)).2.1))) (fun W hW => ld_numC ((hat (by omega)).2.2 _ _ (hJ.1.lo k _ hEk).1) W hW)) <| rS 1 rfl <| rV rfl (does_binOp rfl rfl rfl (zd_eql_int (k := ((nk : Nat) : Int)) (m := ((n : Nat) : Int)) rfl _ _)) <| rN0 z_ ?_
    try clear H a W
    intro a W H
    cases hq1 : decide (((nk : Nat) : Int) = ((n : Nat) : Int)) with
    | true =>
      rw [hq1] at H
      have hq1p := of_decide_eq_true hq1
      refine wp_cond_true (H.ev rfl) ?_
      obtain ⟨curk, hmk, huk⟩ := (hJ.1.lo k _ hEk).2.2
      obtain ⟨r1, hr1⟩ := perm_of_mem hmk
      replace H : St 85 w0 a W [(61, .bool true), (60, .int .i64 ((n : Nat) : Int)), (59, .int .i64 ((nk : Nat) : Int)), (58, .pointer (some ⟨gL, k * 2, none⟩)), (57, .pointer (some ⟨gL, k * 2, none⟩)), (56, .int .i64 ((k : Nat) : Int)), (55, .slice X.A D.L.length X.capL), (54, .pointer (some ⟨p, 1, none⟩)), (53, .pointer (some ⟨p, 0, none⟩)), (52, .pointer (some ⟨p, 0, none⟩)), (49, .bool true), (48, .int .i64 ((D.L.length : Nat) : Int)), (47, .slice X.A D.L.length X.capL), (46, .pointer (some ⟨p, 1, none⟩)), (45, .pointer (some ⟨p, 0, none⟩)), (44, .pointer (some ⟨p, 0, none⟩)), (43, .int .i64 ((k : Nat) : Int)), (9, .int .i64 ((k : Nat) : Int)), (0, .pointer (some ⟨p, 0, none⟩)), (1, .int .i64 ((n : Nat) : Int)), (2, .int .i64 ((k_ : Nat) : Int)), (3, bv x)] ([(p, .ty 67, (rdC (.slice (some ⟨X.gB, 0, none⟩) D.B.length X.capB) (.slice X.A D.L.length X.capL) D.fuse D.dead)), (X.gB, .ty 39, X.cB)] ++ (X.tL ++ (r ++ hh))) := H
      replace H := H.fromRest hr1
      replace H : St 85 w0 a W [(61, .bool true), (60, .int .i64 ((n : Nat) : Int)), (59, .int .i64 ((nk : Nat) : Int)), (58, .pointer (some ⟨gL, k * 2, none⟩)), (57, .pointer (some ⟨gL, k * 2, none⟩)), (56, .int .i64 ((k : Nat) : Int)), (55, .slice X.A D.L.length X.capL), (54, .pointer (some ⟨p, 1, none⟩)), (53, .pointer (some ⟨p, 0, none⟩)), (52, .pointer (some ⟨p, 0, none⟩)), (49, .bool true), (48, .int .i64 ((D.L.length : Nat) : Int)), (47, .slice X.A D.L.length X.capL), (46, .pointer (some ⟨p, 1, none⟩)), (45, .pointer (some ⟨p, 0, none⟩)), (44, .pointer (some ⟨p, 0, none⟩)), (43, .int .i64 ((k : Nat) : Int)), (9, .int .i64 ((k : Nat) : Int)), (0, .pointer (some ⟨p, 0, none⟩)), (1, .int .i64 ((n : Nat) : Int)), (2, .int .i64 ((k_ : Nat) : Int)), (3, bv x)] (((X.gl k).1, 5, curk) :: (p, 67, (rdC (.slice (some ⟨X.gB, 0, none⟩) D.B.length X.capB) (.slice X.A D.L.length X.capL) D.fuse D.dead)) :: (X.gB, 39, X.cB) :: (X.tL ++ (r1 ++ hh))) := H
      refine d2 (.v 62 _ [] :: .v 63 _ [0] :: .v 64 _ [1] :: .v 65 _ [2] :: .v 66 _ [] :: .v 67 _ [3, 4] :: .v 68 _ [5] :: .v 69 _ [6] :: .v 70 _ [] :: .v 71 _ [] :: .v 72 _ [9] :: .v 73 _ [10] :: .v 74 _ [11] :: .v 75 _ [] :: .v 76 _ [12, 13] :: .v 77 _ [14] :: .v 78 _ [15] :: .v 79 _ [] :: .v 80 _ [16, 17] :: .v 81 _ [18] :: .v 82 _ [] :: .v 83 _ [19, 20] :: .v 84 _ [7, 8] :: []) (by kernel_rfl) (by kernel_rfl) H gs0 ⟨oS rfl rfl, oV rfl (does_nilCheckQ rfl rfl), oV rfl (does_fieldAddr rfl rfl (fa_rd 1 (by decide))), oV rfl (does_loadAt (v := .slice X.A D.L.length X.capL) rfl rfl (k := 1) rfl ld_rd1), oS rfl rfl, oV rfl (does_indexAddr rfl rfl rfl (ia_lates (j := k) (hat (by omega)).1 (by omega))), oV rfl (does_fieldAddr rfl rfl fa_late1), oV rfl (does_loadMem (v := .slice (some ⟨(X.gl k).1, 0, none⟩) 512 (X.gl k).2) rfl rfl (List.mem_cons_of_mem _ (List.mem_cons_of_mem _ (List.mem_cons_of_mem _ (List.mem_append_left _ (hat (by omega)).2.1)))) (fun W hW => ld_slB ((hat (by omega)).2.2 _ _ (hJ.1.lo k _ hEk).2.1) W hW)), oS rfl rfl, oS rfl rfl, oV rfl (does_nilCheckQ rfl rfl), oV rfl (does_fieldAddr rfl rfl (fa_rd 1 (by decide))), oV rfl (does_loadAt (v := .slice X.A D.L.length X.capL) rfl rfl (k := 1) rfl ld_rd1), oS rfl rfl, oV rfl (does_indexAddr rfl rfl rfl (ia_lates (j := k) (hat (by omega)).1 (by omega))), oV rfl (does_fieldAddr rfl rfl fa_late1), oV rfl (does_loadMem (v := .slice (some ⟨(X.gl k).1, 0, none⟩) 512 (X.gl k).2) rfl rfl (List.mem_cons_of_mem _ (List.mem_cons_of_mem _ (List.mem_cons_of_mem _ (List.mem_append_left _ (hat (by omega)).2.1)))) (fun W hW => ld_slB ((hat (by omega)).2.2 _ _ (hJ.1.lo k _ hEk).2.1) W hW)), oS rfl rfl, oV rfl (does_indexAddr rfl rfl rfl (ia_b0 (j := k_) (by omega))), oV rfl (does_loadAt (v := bv (bk.getD k_ 0)) rfl rfl (k := 0) rfl (ld_u8c (us_at huk (by omega)))), oS rfl rfl, oV rfl (does_binOp rfl rfl rfl (b_xorP _ _ _ _)), oV rfl (does_indexAddr rfl rfl rfl (ia_b0 (j := k_) (by omega))), trivial⟩ (rX [1] (c := (setV curk k_ [bv ((bk.getD k_ 0) ^^^ x)])) ⟨rfl, rfl⟩ rfl rfl rfl (st_u8c (us_at huk (by omega))) rfl <| rZ0 ?_)
      try clear H a W
      intro a W H
      refine blk_normal ?_
      refine hK9 _ _ ?_
      clear hK9
      refine rgP H gs0 (rS 1 rfl <| rV rfl (does_binOp rfl rfl rfl (zd_add_int (k := ((k : Nat) : Int)) (m := 1) (c := ((k + 1 : Nat) : Int)) (by omega) (by omega) _ _)) <| rK [1, 1, 1, 1, 1, 1, 1, 1, 1, 1, 1, 1, 1, 1, 1, 1, 1, 1, 1, 1, 1, 1, 1, 1, 1, 1, 1, 1, 1, 1, 1, 1, 1, 1, 1, 1, 1, 1, 1, 1, 1, 1, 0] [] [] <| rS 1 rfl <| rZ0 ?_)
      try clear H a W
      intro a W H
      replace H : St 85 w0 a W [(9, .int .i64 ((k + 1 : Nat) : Int)), (51, .int .i64 ((k + 1 : Nat) : Int)), (50, .int .i64 ((k : Nat) : Int)), (84, .pointer (some ⟨(X.gl k).1, k_, none⟩)), (83, bv ((bk.getD k_ 0) ^^^ x)), (82, bv x), (81, bv (bk.getD k_ 0)), (80, .pointer (some ⟨(X.gl k).1, k_, none⟩)), (79, .int .i64 ((k_ : Nat) : Int)), (78, .slice (some ⟨(X.gl k).1, 0, none⟩) 512 (X.gl k).2), (77, .pointer (some ⟨gL, k * 2 + 1, none⟩)), (76, .pointer (some ⟨gL, k * 2, none⟩)), (75, .int .i64 ((k : Nat) : Int)), (74, .slice X.A D.L.length X.capL), (73, .pointer (some ⟨p, 1, none⟩)), (72, .pointer (some ⟨p, 0, none⟩)), (71, .pointer (some ⟨p, 0, none⟩)), (70, .int .i64 ((k_ : Nat) : Int)), (69, .slice (some ⟨(X.gl k).1, 0, none⟩) 512 (X.gl k).2), (68, .pointer (some ⟨gL, k * 2 + 1, none⟩)), (67, .pointer (some ⟨gL, k * 2, none⟩)), (66, .int .i64 ((k : Nat) : Int)), (65, .slice X.A D.L.length X.capL), (64, .pointer (some ⟨p, 1, none⟩)), (63, .pointer (some ⟨p, 0, none⟩)), (62, .pointer (some ⟨p, 0, none⟩)), (61, .bool true), (60, .int .i64 ((n : Nat) : Int)), (59, .int .i64 ((nk : Nat) : Int)), (58, .pointer (some ⟨gL, k * 2, none⟩)), (57, .pointer (some ⟨gL, k * 2, none⟩)), (56, .int .i64 ((k : Nat) : Int)), (55, .slice X.A D.L.length X.capL), (54, .pointer (some ⟨p, 1, none⟩)), (53, .pointer (some ⟨p, 0, none⟩)), (52, .pointer (some ⟨p, 0, none⟩)), (49, .bool true), (48, .int .i64 ((D.L.length : Nat) : Int)), (47, .slice X.A D.L.length X.capL), (46, .pointer (some ⟨p, 1, none⟩)), (45, .pointer (some ⟨p, 0, none⟩)), (44, .pointer (some ⟨p, 0, none⟩)), (43, .int .i64 ((k : Nat) : Int)), (0, .pointer (some ⟨p, 0, none⟩)), (1, .int .i64 ((n : Nat) : Int)), (2, .int .i64 ((k_ : Nat) : Int)), (3, bv x)] (((X.gl k).1, .ty 5, (setV curk k_ [bv ((bk.getD k_ 0) ^^^ x)])) :: ([(p, .ty 67, (rdC (.slice (some ⟨X.gB, 0, none⟩) D.B.length X.capB) (.slice X.A D.L.length X.capL) D.fuse D.dead)), (X.gB, .ty 39, X.cB)] ++ (X.tL ++ (r1 ++ hh)))) := H.pickF (h := [((X.gl k).1, 5, (setV curk k_ [bv ((bk.getD k_ 0) ^^^ x)])), (p, 67, (rdC (.slice (some ⟨X.gB, 0, none⟩) D.B.length X.capB) (.slice X.A D.L.length X.capL) D.fuse D.dead)), (X.gB, 39, X.cB)]) (t := (X.tL ++ (r1 ++ hh))) [0, 1, 2, 3, 4, 5, 6, 7, 8, 9, 10, 11, 12, 13, 14, 15, 16, 17, 18, 19, 20, 21, 22, 23, 24, 25, 26, 27, 28, 29, 30, 31, 32, 33, 34, 35, 36, 37, 38, 39, 40, 41, 42, 43, 44, 45, 46] [0, 1, 2] rfl
      replace H := H.store1
      replace H : St 85 w0 a W [(9, .int .i64 ((k + 1 : Nat) : Int)), (51, .int .i64 ((k + 1 : Nat) : Int)), (50, .int .i64 ((k : Nat) : Int)), (84, .pointer (some ⟨(X.gl k).1, k_, none⟩)), (83, bv ((bk.getD k_ 0) ^^^ x)), (82, bv x), (81, bv (bk.getD k_ 0)), (80, .pointer (some ⟨(X.gl k).1, k_, none⟩)), (79, .int .i64 ((k_ : Nat) : Int)), (78, .slice (some ⟨(X.gl k).1, 0, none⟩) 512 (X.gl k).2), (77, .pointer (some ⟨gL, k * 2 + 1, none⟩)), (76, .pointer (some ⟨gL, k * 2, none⟩)), (75, .int .i64 ((k : Nat) : Int)), (74, .slice X.A D.L.length X.capL), (73, .pointer (some ⟨p, 1, none⟩)), (72, .pointer (some ⟨p, 0, none⟩)), (71, .pointer (some ⟨p, 0, none⟩)), (70, .int .i64 ((k_ : Nat) : Int)), (69, .slice (some ⟨(X.gl k).1, 0, none⟩) 512 (X.gl k).2), (68, .pointer (some ⟨gL, k * 2 + 1, none⟩)), (67, .pointer (some ⟨gL, k * 2, none⟩)), (66, .int .i64 ((k : Nat) : Int)), (65, .slice X.A D.L.length X.capL), (64, .pointer (some ⟨p, 1, none⟩)), (63, .pointer (some ⟨p, 0, none⟩)), (62, .pointer (some ⟨p, 0, none⟩)), (61, .bool true), (60, .int .i64 ((n : Nat) : Int)), (59, .int .i64 ((nk : Nat) : Int)), (58, .pointer (some ⟨gL, k * 2, none⟩)), (57, .pointer (some ⟨gL, k * 2, none⟩)), (56, .int .i64 ((k : Nat) : Int)), (55, .slice X.A D.L.length X.capL), (54, .pointer (some ⟨p, 1, none⟩)), (53, .pointer (some ⟨p, 0, none⟩)), (52, .pointer (some ⟨p, 0, none⟩)), (49, .bool true), (48, .int .i64 ((D.L.length : Nat) : Int)), (47, .slice X.A D.L.length X.capL), (46, .pointer (some ⟨p, 1, none⟩)), (45, .pointer (some ⟨p, 0, none⟩)), (44, .pointer (some ⟨p, 0, none⟩)), (43, .int .i64 ((k : Nat) : Int)), (0, .pointer (some ⟨p, 0, none⟩)), (1, .int .i64 ((n : Nat) : Int)), (2, .int .i64 ((k_ : Nat) : Int)), (3, bv x)] ((p, 67, (rdC (.slice (some ⟨X.gB, 0, none⟩) D.B.length X.capB) (.slice X.A D.L.length X.capL) D.fuse D.dead)) :: (X.gB, 39, X.cB) :: (X.tL ++ ((((X.gl k).1, .ty 5, (setV curk k_ [bv ((bk.getD k_ 0) ^^^ x)])) :: r1) ++ hh))) := H
      refine ⟨k + 1, by omega, by omega, ((X.gl k).1, .ty 5, (setV curk k_ [bv (bk.getD k_ 0 ^^^ x)])) :: r1, ⟨by rw [EL_succ hLk, if_pos (by show nk = n; omega)]; exact hJ.1.editL hEk hr1 (us_xor huk hk_), trivial⟩, ?_⟩
      exact H.pickF (h := [(p, 67, (rdC (.slice (some ⟨X.gB, 0, none⟩) D.B.length X.capB) (.slice X.A D.L.length X.capL) D.fuse D.dead)), (X.gB, 39, X.cB)]) (t := (X.tL ++ ((((X.gl k).1, .ty 5, (setV curk k_ [bv ((bk.getD k_ 0) ^^^ x)])) :: r1) ++ hh))) [0, 43, 44, 45, 46] [0, 1] rfl
    | false =>
      rw [hq1] at H
      have hq1p := of_decide_eq_false hq1
      refine wp_cond_false (H.ev rfl) ?_
      refine wp_skip ?_
      refine blk_normal ?_
      refine hK9 _ _ ?_
      clear hK9
      refine rgP H gs0 (rS 1 rfl <| rV rfl (does_binOp rfl rfl rfl (zd_add_int (k := ((k : Nat) : Int)) (m := 1) (c := ((k + 1 : Nat) : Int)) (by omega) (by omega) _ _)) <| rK [1, 1, 1, 1, 1, 1, 1, 1, 1, 1, 1, 1, 1, 1, 1, 1, 1, 1, 1, 0] [] [] <| rS 1 rfl <| rZ0 ?_)
      try clear H a W
      intro a W H
      refine ⟨k + 1, by omega, by omega, r, ⟨by rw [EL_no hLk (by show ¬ nk = n; omega)]; exact hJ.1, trivial⟩, ?_⟩
      exact H.pickF (h := [(p, 67, (rdC (.slice (some ⟨X.gB, 0, none⟩) D.B.length X.capB) (.slice X.A D.L.length X.capL) D.fuse D.dead)), (X.gB, 39, X.cB)]) (t := (X.tL ++ (r ++ hh))) [0, 20, 21, 22, 23] [0, 1] rfl
  · obtain rfl : D.L.length = k := by omega
    refine wp_seq_k (fun K11 hK11 => ?_)
    refine sqR H gs0 fun Z_ z_ => rS 2 rfl <| rV rfl (does_nilCheckQ rfl rfl) <| rV rfl (does_fieldAddr rfl rfl (fa_rd 1 (by decide))) <| rV rfl (does_loadAt (v := .slice X.A D.L.length X.capL) rfl rfl (k := 0) rfl ld_rd1) <| rV rfl (does_len Try.underlying65 rfl rfl) <| rV rfl (does_binOp rfl rfl rfl (zd_lss_int (k := ((D.L.length : Nat) : Int)) (m := ((D.L.length : Nat) : Int)) (decide_eq_false (by omega)) _ _)) <| rK [1, 0, 0, 0, 0, 0, 0] [] [] <| rN0 z_ ?_
    try clear H a W
    intro a W H
    refine wp_cond_false (H.ev rfl) ?_
    refine wp_exit ?_
    repeat (first | (with_reducible refine then_exit ?_) | (with_reducible refine blk_pass (by decide) ?_))
    refine blk_exit ?_
    refine hK5 _ _ ?_
    clear hK5
    refine sqR H gs0 fun Z_ z_ => rS 1 rfl <| rK [1, 0, 0, 0, 0, 0, 0] [] [] <| rN0 z_ ?_
    try clear H a W
    intro a W H
    refine wp_ret ?_
    repeat (first | (with_reducible refine then_ret ?_) | (with_reducible refine blk_ret ?_))
    refine end_tmp (p := 8) rfl rfl H (fun hb => ?_)
    have hok2 := edit_ok hX.dk ((n : Nat) : Int) ((k_ : Nat) : Int) x
    rw [dEdit_yes hn hk_] at hok2
    have hll : (editL n k_ x D.L).length = D.L.length := by simp [editL]
    have hrk2 := hJ.1
    rw [EL_all, ← modify_set (xorB k_ x) hn] at hrk2
    rw [dEdit_yes hn hk_]
    have eR : RX.row (RX.mk X.gB X.cB X.capB X.A X.capL X.xs X.tL r X.gu X.gl) (Dk.mk (D.B.modify n (xorB k_ x)) (editL n k_ x D.L) D.fuse D.dead) = rdC (.slice (some ⟨X.gB, 0, none⟩) D.B.length X.capB) (.slice X.A D.L.length X.capL) D.fuse D.dead := by unfold RX.row; dsimp only; rw [hll, List.length_modify]
    refine ⟨RX.rows (RX.mk X.gB X.cB X.capB X.A X.capL X.xs X.tL r X.gu X.gl) p (Dk.mk (D.B.modify n (xorB k_ x)) (editL n k_ x D.L) D.fuse D.dead), rfl, ⟨(RX.mk X.gB X.cB X.capB X.A X.capL X.xs X.tL r X.gu X.gl), rfl, ⟨by show OutD _ _ _ (.slice _ (editL n k_ x D.L).length _) (editL n k_ x D.L).length _; rw [hll]; exact hX.od, hrk2, hok2, by show 0 < (D.B.modify n (xorB k_ x)).length ∧ (D.B.modify n (xorB k_ x)).length ≤ 8192; rw [List.length_modify]; exact hX.nb, by show (editL n k_ x D.L).length ≤ 10000; rw [hll]; exact hX.nl, hX.fu⟩⟩, ?_⟩
    rw [RX.rows_hh, eR]
    try dsimp only
    show Kn w0 W ((p, .ty 67, (rdC (.slice (some ⟨X.gB, 0, none⟩) D.B.length X.capB) (.slice X.A D.L.length X.capL) D.fuse D.dead)) :: (X.gB, .ty 39, X.cB) :: (X.tL ++ (r ++ hh)))
    have H_ := H.pickF (h := [(p, .ty 67, (rdC (.slice (some ⟨X.gB, 0, none⟩) D.B.length X.capB) (.slice X.A D.L.length X.capL) D.fuse D.dead)), (X.gB, .ty 39, X.cB)]) (t := (X.tL ++ (r ++ hh))) [] [0, 1] rfl
    exact H_.kn
end Go.Proofs.Ytiebelmglchbdaa
