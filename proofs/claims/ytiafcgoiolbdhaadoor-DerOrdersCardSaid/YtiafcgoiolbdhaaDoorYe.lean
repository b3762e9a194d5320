/- Words, contracts and walks (Xi, Xj, Xk, Tm, Xl, Xm, Xn, Xo, Xp), laid together. No condition. -/
import Derived.Test.YtiafcgoiolbdhaaDoorYd
import Derived.MapKept
import Derived.ChangeMaps5
import Derived.LaidEql
import Derived.WideKeyRuns
import Derived.Laws.StructEq
namespace Go.Proofs.YtiafcgoiolbdhaaDoor
set_option linter.unusedVariables false
set_option linter.unusedSimpArgs false
set_option maxRecDepth 100000
open Go Go.RowKit
theorem numQ1_lt (l : List UInt8) : (numQ l 1).1 < 256 := by
  unfold numQ
  split
  · rename_i h
    unfold takeQ at h ⊢
    split at h
    · rename_i h2
      rw [if_pos h2]
      cases l with
      | nil => exact absurd h2.2 (by decide)
      | cons x r =>
        have hx := x.toNat_lt
        show (0 * 256 + x.toNat) % 18446744073709551616 < 256
        omega
    · exact absurd h.1 (by decide)
  · exact (by decide : 0 < 256)
theorem numQ_big (l : List UInt8) (z : Int) : (numQ l z).1 < 18446744073709551616 := by
  unfold numQ
  split
  · exact accD_lt _ _ (by decide)
  · exact (by decide : 0 < 18446744073709551616)
theorem lenQ_hi {l l1 : List UInt8} {n1 : Nat} (h : numQ l 1 = (n1, l1)) (hn : 128 ≤ n1) : lenQ l = (s64 (numQ l1 ((n1 : Int) - 128)).1, (numQ l1 ((n1 : Int) - 128)).2) := by
  unfold lenQ
  rw [h]
  exact if_pos hn
theorem lenQ_lo {l l1 : List UInt8} {n1 : Nat} (h : numQ l 1 = (n1, l1)) (hn : ¬ 128 ≤ n1) : lenQ l = ((n1 : Int), l1) := by
  unfold lenQ
  rw [h]
  exact if_neg hn
theorem s64_in {x : Nat} (h : x < 18446744073709551616) : -9223372036854775808 ≤ s64 x ∧ s64 x < 9223372036854775808 := by
  unfold s64
  split <;> omega
theorem lenQ_in (l : List UInt8) : -9223372036854775808 ≤ (lenQ l).1 ∧ (lenQ l).1 < 9223372036854775808 := by
  unfold lenQ
  split
  · exact s64_in (numQ_big _ _)
  · have := numQ_big l 1
    have := numQ1_lt l
    dsimp only
    omega
theorem cv_sI {x : Nat} (hx : x < 18446744073709551616) (W : World) : (convert 47 3 (.int .u64 (x : Int))).run Tryd.prog W = .ok (.int .i64 (s64 x)) W := by
  have e : IntKind.i64.wrap (x : Int) = s64 x := by
    have e1 : ∀ x : Int, IntKind.i64.wrap x = (x + 9223372036854775808) % 18446744073709551616 - 9223372036854775808 := fun x => by simp [IntKind.wrap, IntKind.bits, IntKind.signed]; try omega
    rw [e1]
    unfold s64
    split <;> omega
  go_simp
theorem cv_nI {x : Nat} (hx : x < 256) (W : World) : (convert 47 3 (.int .u64 (x : Int))).run Tryd.prog W = .ok (.int .i64 (x : Int)) W := by
  have e : IntKind.i64.wrap (x : Int) = (x : Int) := IntWalk.i64_in _ (by omega)
  go_simp
theorem cv_n8 {x : Nat} (hx : x < 256) (W : World) : (convert 47 5 (.int .u64 (x : Int))).run Tryd.prog W = .ok (.int .u8 (x : Int)) W := by
  have := cv_uD hx W
  rwa [show bv (byteD x) = .int .u8 (x : Int) from by unfold bv; rw [byteD_nat hx]] at this
/-- A difference that may come round. -/
def subW (x : Int) : Int := if x ≤ 9223372036854775807 then x else x - 18446744073709551616
theorem zd_subW {k m : Int} (h : -9223372036854775808 ≤ k - m ∧ k - m < 18446744073709551616) (p q : Operand) (W : World) : (do eqGuard .sub 3 p q (.int .i64 k) (.int .i64 m); binOp .sub 3 (.int .i64 k) (.int .i64 m) : Sem Value).run Tryd.prog W = .ok (.int .i64 (subW (k - m))) W := by
  have e : IntKind.i64.wrap (k - m) = subW (k - m) := by
    have e1 : ∀ x : Int, IntKind.i64.wrap x = (x + 9223372036854775808) % 18446744073709551616 - 9223372036854775808 := fun x => by simp [IntKind.wrap, IntKind.bits, IntKind.signed]; try omega
    rw [e1]
    unfold subW
    split <;> omega
  go_simp
theorem zd_gtrI {k m : Int} {b : Bool} (h : decide (k > m) = b) (p q : Operand) (W : World) : (do eqGuard .gtr 3 p q (.int .i64 k) (.int .i64 m); binOp .gtr 3 (.int .i64 k) (.int .i64 m) : Sem Value).run Tryd.prog W = .ok (.bool b) W := by
  have e : decide (m < k) = b := h
  go_simp
  try exact e
theorem Kn.sub {w0 w : World} {h h' : Hep} (K : Kn w0 w h) (hs : h'.Sublist h) : Kn w0 w h' := ⟨K.below, fun p hp => K.heap p (hs.subset hp), fun p hp => K.own p (hs.subset hp), K.apart.sublist hs⟩
/-- Kids over told rows. -/
structure KC (t : Hep) (xs : List DH) (Ts : List DT) : Prop where
  len : Ts.length = xs.length
  at_ : ∀ (i : Nat) (x : DH) (T : DT), xs[i]? = some x → Ts[i]? = some T → DC (TN t) T x
theorem KC.nil (t : Hep) : KC t [] [] := ⟨rfl, fun i x T hx => by simp at hx⟩
theorem KC.more {t t' : Hep} {xs : List DH} {Ts : List DT} (K : KC t xs Ts) (ht : ∀ p ∈ t, p ∈ t') : KC t' xs Ts := ⟨K.len, fun i x T hx hT => (K.at_ i x T hx hT).mono fun g k v h => h.more ht⟩
theorem KC.snoc {t : Hep} {xs : List DH} {Ts : List DT} {x : DH} {T : DT} (K : KC t xs Ts) (hx : DC (TN t) T x) : KC t (xs ++ [x]) (Ts ++ [T]) := by
  have hl := K.len
  refine ⟨by simp [hl], fun i y S hy hS => ?_⟩
  by_cases hi : i < xs.length
  · rw [List.getElem?_append_left hi] at hy
    rw [List.getElem?_append_left (by omega)] at hS
    exact K.at_ i y S hy hS
  · rw [List.getElem?_append_right (by omega)] at hy hS
    rw [hl] at hS
    generalize i - xs.length = j at hy hS
    cases j with
    | zero =>
      injection hy with hy
      injection hS with hS
      subst hy hS
      exact hx
    | succ j => simp at hy
theorem kidsRQ_stop (rd : List UInt8 → DT × List UInt8) (f : Nat) {e : Nat} {l : List UInt8} (h : ¬ e < l.length) : kidsRQ rd f e l = ([], l) := by
  cases f with
  | zero => rfl
  | succ f => exact if_neg h
theorem kidsRQ_more {rd : List UInt8 → DT × List UInt8} {f e : Nat} {l l1 : List UInt8} {T : DT} (h : e < l.length) (h1 : rd l = (T, l1)) (hf : f ≠ 0) : kidsRQ rd f e l = (T :: (kidsRQ rd (f - 1) e l1).1, (kidsRQ rd (f - 1) e l1).2) := by
  obtain ⟨f, rfl⟩ := Nat.exists_eq_succ_of_ne_zero hf
  show (if e < l.length then _ else _) = _
  rw [if_pos h, h1]
  rfl
theorem kidsOfQ_no {rd : List UInt8 → DT × List UInt8} {l : List UInt8} {n : Int} {s : Bool} (h : subW ((l.length : Int) - n) < 0 ∨ s = true) (hn : -9223372036854775808 ≤ n ∧ n < 9223372036854775808) : kidsOfQ rd l n s = ([], l) := by
  unfold kidsOfQ
  refine if_pos ?_
  unfold subW at h
  rcases h with h | h
  · split at h <;> omega
  · exact .inr (.inr (.inr h))
theorem kidsOfQ_yes {rd : List UInt8 → DT × List UInt8} {l : List UInt8} {n : Int} {e : Nat} (h : subW ((l.length : Int) - n) = (e : Int)) (hl : l.length ≤ 100000) (hn : -9223372036854775808 ≤ n ∧ n < 9223372036854775808) : kidsOfQ rd l n false = kidsRQ rd l.length e l := by
  unfold subW at h
  have h2 : (l.length : Int) - n = (e : Int) ∧ (e : Int) ≤ 9223372036854775807 := by split at h <;> omega
  unfold kidsOfQ
  rw [if_neg (by rintro (h | h | h | h) <;> first | omega | cases h), h2.1, Int.toNat_natCast]
theorem readQ_kids {d n1 : Nat} {l l1 l2 : List UInt8} {z : Int} (h1 : numQ l 1 = (n1, l1)) (h2 : lenQ l1 = (z, l2)) (hk : isKids (kindQ n1)) : readQ (d + 1) l = (.mk (kindQ n1) false (tnQ n1) [] [] [] (kidsOfQ (readQ d) l2 z (decide (d = 0))).1, (kidsOfQ (readQ d) l2 z (decide (d = 0))).2) := by
  show (if isKids (kindQ (numQ l 1).1) then _ else _) = _
  rw [h1]
  dsimp only
  rw [if_pos hk, h2]
theorem readQ_fill {d n1 : Nat} {l l1 l2 : List UInt8} {z : Int} (h1 : numQ l 1 = (n1, l1)) (h2 : lenQ l1 = (z, l2)) (hk : ¬ isKids (kindQ n1)) : readQ (d + 1) l = (fillQ (kindQ n1) (tnQ n1) (takeQ l2 z).1, (takeQ l2 z).2) := by
  show (if isKids (kindQ (numQ l 1).1) then _ else _) = _
  rw [h1]
  dsimp only
  rw [if_neg hk, h2]
theorem kindQ_in (x : Nat) : 0 ≤ kindQ x ∧ kindQ x ≤ 10 := by
  unfold kindQ
  repeat' split
  all_goals decide
theorem tnQ_in (x : Nat) : 0 ≤ tnQ x ∧ tnQ x < 32 := by
  unfold tnQ
  split <;> omega
/-- What read answers, one deep and more. -/
def RdA (d : Nat) : Prop := ∀ (w0 w : World) (g : Nat) (c : Array Value) (hh : Hep) (l : List UInt8), l.length ≤ 100000 → PGt w0 → RdC w0 l c → Kn w0 w ([(g, 95, c)] ++ hh) → Calls Tryd.prog 37 #[.pointer (some ⟨g, 0, none⟩), .int .i64 ((d + 1 : Nat) : Int)] w (fun rr W' => ∃ i : DH × Hep × Array Value, rr = .returned (.agg i.1.cs) ∧ (DC (TN i.2.1) (readQ (d + 1) l).1 i.1 ∧ RdC w0 (readQ (d + 1) l).2 i.2.2) ∧ Kn w0 W' ([(g, 95, i.2.2)] ++ (i.2.1 ++ hh)))
/-- What readKids answers. -/
def KdF (d : Nat) (w0 : World) (l : List UInt8) (n : Int) (i : Option Addr × Nat × List DH × Hep × Hep × Array Value) : Prop := OutD 27 7 i.2.2.2.1 (.slice i.1 i.2.2.1.length i.2.1) i.2.2.1.length (kidV i.2.2.1) ∧ KC i.2.2.2.2.1 i.2.2.1 (kidsOfQ (readQ d) l n (decide (d = 0))).1 ∧ i.2.2.1.length ≤ 100000 ∧ RdC w0 (kidsOfQ (readQ d) l n (decide (d = 0))).2 i.2.2.2.2.2
def KdA (d : Nat) : Prop := ∀ (w0 w : World) (g : Nat) (c : Array Value) (hh : Hep) (l : List UInt8) (n : Int), l.length ≤ 100000 → -9223372036854775808 ≤ n ∧ n < 9223372036854775808 → PGt w0 → RdC w0 l c → Kn w0 w ([(g, 95, c)] ++ hh) → Calls Tryd.prog 56 #[.pointer (some ⟨g, 0, none⟩), .int .i64 n, .int .i64 ((d : Nat) : Int)] w (fun rr W' => ∃ i : Option Addr × Nat × List DH × Hep × Hep × Array Value, rr = .returned (.slice i.1 i.2.2.1.length i.2.1) ∧ KdF d w0 l n i ∧ Kn w0 W' ([(g, 95, i.2.2.2.2.2)] ++ ((i.2.2.2.1 ++ i.2.2.2.2.1) ++ hh)))
attribute [local irreducible] bvs byteD rb takeQ numQ intQ arcsQ accD lenQ s64 subW kindQ tnQ fillQ readQ kidsOfQ kidsRQ
set_option maxHeartbeats 4000000 in
theorem len_R {g : Nat} {c : Array Value} {hh : Hep} {l : List UInt8} (hl : l.length ≤ 100000) (w0 w : World) (hr : RdC w0 l c) (K : Kn w0 w ([(g, 95, c)] ++ hh)) : Calls Tryd.prog 55 #[.pointer (some ⟨g, 0, none⟩)] w (fun rr w' => ∃ c' : Array Value, rr = .returned (.int .i64 (lenQ l).1) ∧ RdC w0 (lenQ l).2 c' ∧ Kn w0 w' ([(g, 95, c')] ++ hh)) := by
  refine calls_kn (vs := [.pointer (some ⟨g, 0, none⟩)]) 15 Tryd.func55 rfl Tryd.ntmps55 rfl K (fun a W H => ?_)
  replace H : St 15 w0 a W [(0, .pointer (some ⟨g, 0, none⟩))] ((g, 95, c) :: hh) := H
  refine sqR H gs0 fun Z_ z_ => rS 1 rfl <| rN0 z_ ?_
  try clear H a W
  intro a W H
  refine wp_seq_k (fun K2 hK2 => ?_)
  refine rgP H gs0 (rS 1 rfl <| rI0 ?_)
  try clear H a W
  intro a W H
  refine pl_callE rfl ⟨_, Tryd.func54, by kernel_rfl⟩ rfl (fun K_ => num_R (hh := hh) 1 (by omega) w0 _ hr K_) rfl rfl rfl rfl H ?_
  try clear H a W
  rintro c1 a W hc1 H
  replace H : St 15 w0 a W [(5, .int .u64 (((numQ l 1).1 : Nat) : Int)), (4, .pointer (some ⟨g, 0, none⟩)), (2, .int .i64 0), (0, .pointer (some ⟨g, 0, none⟩))] ((g, 95, c1) :: hh) := H
  obtain ⟨n1, l1, hqq1⟩ : ∃ n_ l_, numQ l 1 = (n_, l_) := ⟨_, _, rfl⟩
  have hl1 : l1.length ≤ 100000 := by have h_ := numQ_le l 1; rw [hqq1] at h_; exact Nat.le_trans h_ (by omega)
  have hn1 : n1 < 18446744073709551616 := by have h_ := numQ_big l 1; rw [hqq1] at h_; exact h_
  have hm1 : n1 < 256 := by have h_ := numQ1_lt l; rw [hqq1] at h_; exact h_
  rw [hqq1] at H hc1
  replace hc1 : RdC w0 l1 c1 := hc1
  replace H : St 15 w0 a W [(5, .int .u64 ((n1 : Nat) : Int)), (4, .pointer (some ⟨g, 0, none⟩)), (2, .int .i64 0), (0, .pointer (some ⟨g, 0, none⟩))] ((g, 95, c1) :: hh) := H
  refine rgO H gs0 (rV rfl (does_convert rfl rfl (cv_nI (by omega))) <| rS 1 rfl <| rK [1, 0, 0, 0] [] [] <| rZ0 ?_)
  try clear H a W
  intro a W H
  refine hK2 _ _ ?_
  clear hK2
  refine wp_seq_k (fun K3 hK3 => ?_)
  refine sqR H gs0 fun Z_ z_ => rS 1 rfl <| rV rfl (does_binOp rfl rfl rfl (zd_geq_int (k := ((n1 : Nat) : Int)) (m := 128) rfl _ _)) <| rK [1, 0] [] [] <| rN0 z_ ?_
  try clear H a W
  intro a W H
  cases hq1 : decide (128 ≤ ((n1 : Nat) : Int)) with
  | true =>
    rw [hq1] at H
    have hq1p := of_decide_eq_true hq1
    refine wp_cond_true (H.ev rfl) ?_
    refine rgP H gs0 (rS 2 rfl <| rV rfl (does_binOp rfl rfl rfl (zd_sub_int (k := ((n1 : Nat) : Int)) (m := 128) rfl (by omega) _ _)) <| rI0 ?_)
    try clear H a W
    intro a W H
    refine pl_callE rfl ⟨_, Tryd.func54, by kernel_rfl⟩ rfl (fun K_ => num_R (hh := hh) (((n1 : Nat) : Int) - 128) (by omega) w0 _ hc1 K_) rfl rfl rfl rfl H ?_
    try clear H a W
    rintro c2 a W hc2 H
    replace H : St 15 w0 a W [(12, .int .u64 (((numQ l1 (((n1 : Nat) : Int) - 128)).1 : Nat) : Int)), (11, .int .i64 (((n1 : Nat) : Int) - 128)), (10, .int .i64 ((n1 : Nat) : Int)), (9, .pointer (some ⟨g, 0, none⟩)), (8, .bool true), (3, .int .i64 ((n1 : Nat) : Int)), (2, .int .i64 0), (0, .pointer (some ⟨g, 0, none⟩))] ((g, 95, c2) :: hh) := H
    obtain ⟨n2, l2, hqq2⟩ : ∃ n_ l_, numQ l1 (((n1 : Nat) : Int) - 128) = (n_, l_) := ⟨_, _, rfl⟩
    have hl2 : l2.length ≤ 100000 := by have h_ := numQ_le l1 (((n1 : Nat) : Int) - 128); rw [hqq2] at h_; exact Nat.le_trans h_ (by omega)
    have hn2 : n2 < 18446744073709551616 := by have h_ := numQ_big l1 (((n1 : Nat) : Int) - 128); rw [hqq2] at h_; exact h_
    rw [hqq2] at H hc2
    replace hc2 : RdC w0 l2 c2 := hc2
    replace H : St 15 w0 a W [(12, .int .u64 ((n2 : Nat) : Int)), (11, .int .i64 (((n1 : Nat) : Int) - 128)), (10, .int .i64 ((n1 : Nat) : Int)), (9, .pointer (some ⟨g, 0, none⟩)), (8, .bool true), (3, .int .i64 ((n1 : Nat) : Int)), (2, .int .i64 0), (0, .pointer (some ⟨g, 0, none⟩))] ((g, 95, c2) :: hh) := H
    refine rgO H gs0 (rV rfl (does_convert rfl rfl (cv_sI (by omega))) <| rK [1, 1, 1, 1, 1, 1, 0] [] [] <| rS 1 rfl <| rK [1, 0, 0, 0, 0, 0, 0, 1, 0] [] [] <| rZ0 ?_)
    try clear H a W
    intro a W H
    refine hK3 _ _ ?_
    clear hK3
    refine sqR H gs0 fun Z_ z_ => rS 1 rfl <| rK [1, 1, 0] [] [] <| rS 1 rfl <| rK [1, 0, 0] [] [] <| rN0 z_ ?_
    try clear H a W
    intro a W H
    refine wp_ret ?_
    repeat (first | (with_reducible refine then_ret ?_) | (with_reducible refine blk_ret ?_))
    refine end_tmp (p := 2) rfl rfl H (fun hb => ?_)
    refine ⟨c2, ?_, ?_, H.kn⟩
    · rw [lenQ_hi hqq1 (by omega), hqq2]
    · rw [lenQ_hi hqq1 (by omega), hqq2]
      exact hc2
  | false =>
    rw [hq1] at H
    have hq1p := of_decide_eq_false hq1
    refine wp_cond_false (H.ev rfl) ?_
    refine wp_skip ?_
    refine hK3 _ _ ?_
    clear hK3
    refine sqR H gs0 fun Z_ z_ => rS 1 rfl <| rK [1, 1, 1, 0] [] [] <| rS 1 rfl <| rK [1, 0, 0, 0, 0] [] [] <| rN0 z_ ?_
    try clear H a W
    intro a W H
    refine wp_ret ?_
    repeat (first | (with_reducible refine then_ret ?_) | (with_reducible refine blk_ret ?_))
    refine end_tmp (p := 2) rfl rfl H (fun hb => ?_)
    refine ⟨c1, ?_, ?_, H.kn⟩
    · rw [lenQ_lo hqq1 (by omega)]
    · rw [lenQ_lo hqq1 (by omega)]
      exact hc1
set_option maxHeartbeats 4000000 in
theorem kids_zero {g : Nat} {c : Array Value} {hh : Hep} {l : List UInt8} (n : Int) (hl : l.length ≤ 100000) (hn : -9223372036854775808 ≤ n ∧ n < 9223372036854775808) (w0 w : World) (hpg : PGt w0) (hr : RdC w0 l c) (K : Kn w0 w ([(g, 95, c)] ++ hh)) : Calls Tryd.prog 56 #[.pointer (some ⟨g, 0, none⟩), .int .i64 n, .int .i64 ((0 : Nat) : Int)] w (fun rr w' => ∃ i : Option Addr × Nat × List DH × Hep × Hep × Array Value, rr = .returned (.slice i.1 i.2.2.1.length i.2.1) ∧ KdF (0) w0 l n i ∧ Kn w0 w' ([(g, 95, i.2.2.2.2.2)] ++ ((i.2.2.2.1 ++ i.2.2.2.2.1) ++ hh))) := by
  obtain ⟨en, hen⟩ : ∃ en, subW (((l.length : Nat) : Int) - n) = en := ⟨_, rfl⟩
  have hsubW : ∀ (p q : Operand) (W : World), (do eqGuard .sub 3 p q (.int .i64 ((l.length : Nat) : Int)) (.int .i64 n); binOp .sub 3 (.int .i64 ((l.length : Nat) : Int)) (.int .i64 n) : Sem Value).run Tryd.prog W = .ok (.int .i64 en) W := fun p q W => by rw [← hen]; exact zd_subW (by omega) p q W
  have henr : -9223372036854775808 ≤ en ∧ en < 9223372036854775808 := by rw [← hen]; unfold subW; split <;> omega
  refine calls_kn (vs := [.pointer (some ⟨g, 0, none⟩), .int .i64 n, .int .i64 ((0 : Nat) : Int)]) 30 Tryd.func56 rfl Tryd.ntmps56 rfl K (fun a W H => ?_)
  replace H : St 30 w0 a W [(0, .pointer (some ⟨g, 0, none⟩)), (1, .int .i64 n), (2, .int .i64 ((0 : Nat) : Int))] ((g, 95, c) :: hh) := H
  refine sqR H gs0 fun Z_ z_ => rS 1 rfl <| rN0 z_ ?_
  try clear H a W
  intro a W H
  refine sqR H gs0 fun Z_ z_ => rS 1 rfl <| rCV rfl rfl ⟨_, Tryd.func75, by kernel_rfl⟩ rfl (fun a W H _ => (left_R hr (H.blk (k := 0) rfl))) <| rS 1 rfl <| rV rfl (does_binOp rfl rfl rfl (hsubW _ _)) <| rS 1 rfl <| rK [1, 0, 0, 0, 0, 1, 1, 0] [] [] <| rN0 z_ ?_
  try clear H a W
  intro a W H
  refine wp_seq_k (fun K3 hK3 => ?_)
  refine wp_seq_k (fun K4 hK4 => ?_)
  cases hq1 : decide (en < 0) with
  | true =>
    have hq1p := of_decide_eq_true hq1
    refine rgP H gs0 (rS 1 rfl <| rV rfl (does_binOp rfl rfl rfl (zd_lss_int (k := en) (m := 0) hq1 _ _)) <| rS 4 rfl <| rK [1, 0, 0, 0, 0, 0] [] [] <| rZ0 ?_)
    try clear H a W
    intro a W H
    refine hK4 _ _ ?_
    clear hK4
    refine wp_cond_true (H.ev rfl) ?_
    refine sqR H gs0 fun Z_ z_ => rK [1, 1, 0] [] [] <| rS 1 rfl <| rK [1, 0] [] [] <| rN0 z_ ?_
    try clear H a W
    intro a W H
    refine wp_ret ?_
    repeat (first | (with_reducible refine then_ret ?_) | (with_reducible refine blk_ret ?_))
    refine end_tmp (p := 6) rfl rfl H (fun hb => ?_)
    refine ⟨(none, 0, [], [], [], c), rfl, ⟨OutD.nil _ _, ?_, Nat.zero_le _, ?_⟩, H.kn⟩
    · rw [kidsOfQ_no (by rw [hen]; first | exact .inl (by omega) | exact .inr (by decide)) hn]
      first | exact KC.nil _ | exact hr
    · rw [kidsOfQ_no (by rw [hen]; first | exact .inl (by omega) | exact .inr (by decide)) hn]
      first | exact KC.nil _ | exact hr
  | false =>
    have hq1p := of_decide_eq_false hq1
    refine rgP H gs0 (rS 1 rfl <| rV rfl (does_binOp rfl rfl rfl (zd_lss_int (k := en) (m := 0) hq1 _ _)) <| rS 2 rfl <| rV rfl (does_binOp rfl rfl rfl (zd_eql_int (k := ((0 : Nat) : Int)) (m := 0) (decide_eq_true (by omega)) _ _)) <| rS 1 rfl <| rK [1, 0, 0, 0, 0, 0] [] [] <| rZ0 ?_)
    try clear H a W
    intro a W H
    refine hK4 _ _ ?_
    clear hK4
    refine wp_cond_true (H.ev rfl) ?_
    refine sqR H gs0 fun Z_ z_ => rK [1, 1, 0] [] [] <| rS 1 rfl <| rK [1, 0] [] [] <| rN0 z_ ?_
    try clear H a W
    intro a W H
    refine wp_ret ?_
    repeat (first | (with_reducible refine then_ret ?_) | (with_reducible refine blk_ret ?_))
    refine end_tmp (p := 6) rfl rfl H (fun hb => ?_)
    refine ⟨(none, 0, [], [], [], c), rfl, ⟨OutD.nil _ _, ?_, Nat.zero_le _, ?_⟩, H.kn⟩
    · rw [kidsOfQ_no (by rw [hen]; first | exact .inl (by omega) | exact .inr (by decide)) hn]
      first | exact KC.nil _ | exact hr
    · rw [kidsOfQ_no (by rw [hen]; first | exact .inl (by omega) | exact .inr (by decide)) hn]
      first | exact KC.nil _ | exact hr
set_option maxHeartbeats 4000000 in
theorem kids_step {g : Nat} {c : Array Value} {hh : Hep} {l : List UInt8} (n : Int) (hl : l.length ≤ 100000) (hn : -9223372036854775808 ≤ n ∧ n < 9223372036854775808) (d : Nat) (hd : d ≤ 100) (ih : RdA d) (w0 w : World) (hpg : PGt w0) (hr : RdC w0 l c) (K : Kn w0 w ([(g, 95, c)] ++ hh)) : Calls Tryd.prog 56 #[.pointer (some ⟨g, 0, none⟩), .int .i64 n, .int .i64 ((d + 1 : Nat) : Int)] w (fun rr w' => ∃ i : Option Addr × Nat × List DH × Hep × Hep × Array Value, rr = .returned (.slice i.1 i.2.2.1.length i.2.1) ∧ KdF (d + 1) w0 l n i ∧ Kn w0 w' ([(g, 95, i.2.2.2.2.2)] ++ ((i.2.2.2.1 ++ i.2.2.2.2.1) ++ hh))) := by
  obtain ⟨en, hen⟩ : ∃ en, subW (((l.length : Nat) : Int) - n) = en := ⟨_, rfl⟩
  have hsubW : ∀ (p q : Operand) (W : World), (do eqGuard .sub 3 p q (.int .i64 ((l.length : Nat) : Int)) (.int .i64 n); binOp .sub 3 (.int .i64 ((l.length : Nat) : Int)) (.int .i64 n) : Sem Value).run Tryd.prog W = .ok (.int .i64 en) W := fun p q W => by rw [← hen]; exact zd_subW (by omega) p q W
  have henr : -9223372036854775808 ≤ en ∧ en < 9223372036854775808 := by rw [← hen]; unfold subW; split <;> omega
  refine calls_kn (vs := [.pointer (some ⟨g, 0, none⟩), .int .i64 n, .int .i64 ((d + 1 : Nat) : Int)]) 30 Tryd.func56 rfl Tryd.ntmps56 rfl K (fun a W H => ?_)
  replace H : St 30 w0 a W [(0, .pointer (some ⟨g, 0, none⟩)), (1, .int .i64 n), (2, .int .i64 ((d + 1 : Nat) : Int))] ((g, 95, c) :: hh) := H
  refine sqR H gs0 fun Z_ z_ => rS 1 rfl <| rN0 z_ ?_
  try clear H a W
  intro a W H
  refine sqR H gs0 fun Z_ z_ => rS 1 rfl <| rCV rfl rfl ⟨_, Tryd.func75, by kernel_rfl⟩ rfl (fun a W H _ => (left_R hr (H.blk (k := 0) rfl))) <| rS 1 rfl <| rV rfl (does_binOp rfl rfl rfl (hsubW _ _)) <| rS 1 rfl <| rK [1, 0, 0, 0, 0, 1, 1, 0] [] [] <| rN0 z_ ?_
  try clear H a W
  intro a W H
  refine wp_seq_k (fun K3 hK3 => ?_)
  refine wp_seq_k (fun K4 hK4 => ?_)
  cases hq1 : decide (en < 0) with
  | true =>
    have hq1p := of_decide_eq_true hq1
    refine rgP H gs0 (rS 1 rfl <| rV rfl (does_binOp rfl rfl rfl (zd_lss_int (k := en) (m := 0) hq1 _ _)) <| rS 4 rfl <| rK [1, 0, 0, 0, 0, 0] [] [] <| rZ0 ?_)
    try clear H a W
    intro a W H
    refine hK4 _ _ ?_
    clear hK4
    refine wp_cond_true (H.ev rfl) ?_
    refine sqR H gs0 fun Z_ z_ => rK [1, 1, 0] [] [] <| rS 1 rfl <| rK [1, 0] [] [] <| rN0 z_ ?_
    try clear H a W
    intro a W H
    refine wp_ret ?_
    repeat (first | (with_reducible refine then_ret ?_) | (with_reducible refine blk_ret ?_))
    refine end_tmp (p := 6) rfl rfl H (fun hb => ?_)
    refine ⟨(none, 0, [], [], [], c), rfl, ⟨OutD.nil _ _, ?_, Nat.zero_le _, ?_⟩, H.kn⟩
    · rw [kidsOfQ_no (by rw [hen]; first | exact .inl (by omega) | exact .inr (by decide)) hn]
      first | exact KC.nil _ | exact hr
    · rw [kidsOfQ_no (by rw [hen]; first | exact .inl (by omega) | exact .inr (by decide)) hn]
      first | exact KC.nil _ | exact hr
  | false =>
    have hq1p := of_decide_eq_false hq1
    refine rgP H gs0 (rS 1 rfl <| rV rfl (does_binOp rfl rfl rfl (zd_lss_int (k := en) (m := 0) hq1 _ _)) <| rS 2 rfl <| rV rfl (does_binOp rfl rfl rfl (zd_eql_int (k := ((d + 1 : Nat) : Int)) (m := 0) (decide_eq_false (by omega)) _ _)) <| rS 1 rfl <| rK [1, 0, 0, 0, 0, 0] [] [] <| rZ0 ?_)
    try clear H a W
    intro a W H
    refine hK4 _ _ ?_
    clear hK4
    refine wp_cond_false (H.ev rfl) ?_
    refine wp_skip ?_
    refine hK3 _ _ ?_
    clear hK3
    refine sqR H gs0 fun Z_ z_ => rS 1 rfl <| rK [1, 0] [] [] <| rN0 z_ ?_
    try clear H a W
    intro a W H
    refine wp_seq_k (fun K7 hK7 => ?_)
    obtain ⟨e0, he0⟩ : ∃ e0 : Nat, en = (e0 : Int) := ⟨en.toNat, by omega⟩
    refine wp_block ?_
    replace H : St 30 w0 a W [(8, .slice none 0 0), (7, .int .i64 en), (0, .pointer (some ⟨g, 0, none⟩)), (2, .int .i64 ((d + 1 : Nat) : Int))] ((g, 95, c) :: (([] : Hep) ++ (([] : Hep) ++ hh))) := H.pickF (h := [(g, 95, c)]) (t := hh) [0, 1, 3, 4] [0] rfl
    refine wp_rounds l.length (fun k a W => ∃ (vA : Option Addr) (vc : Nat) (t1 t2 : Hep) (xs : List DH) (Ts : List DT) (lq : List UInt8) (cq : Array Value), kidsRQ (readQ (d + 1)) l.length e0 l = (Ts ++ (kidsRQ (readQ (d + 1)) (l.length - k) e0 lq).1, (kidsRQ (readQ (d + 1)) (l.length - k) e0 lq).2) ∧ lq.length + k ≤ l.length ∧ OutD 27 7 t1 (.slice vA xs.length vc) xs.length (kidV xs) ∧ xs.length ≤ k ∧ KC t2 xs Ts ∧ RdC w0 lq cq ∧ St 30 w0 a W [(8, .slice vA xs.length vc), (7, .int .i64 en), (0, .pointer (some ⟨g, 0, none⟩)), (2, .int .i64 ((d + 1 : Nat) : Int))] ((g, 95, cq) :: (t1 ++ (t2 ++ hh)))) (k0 := 0) (show ∃ (vA : Option Addr) (vc : Nat) (t1 t2 : Hep) (xs : List DH) (Ts : List DT) (lq : List UInt8) (cq : Array Value), kidsRQ (readQ (d + 1)) l.length e0 l = (Ts ++ (kidsRQ (readQ (d + 1)) (l.length - 0) e0 lq).1, (kidsRQ (readQ (d + 1)) (l.length - 0) e0 lq).2) ∧ lq.length + 0 ≤ l.length ∧ OutD 27 7 t1 (.slice vA xs.length vc) xs.length (kidV xs) ∧ xs.length ≤ 0 ∧ KC t2 xs Ts ∧ RdC w0 lq cq ∧ St 30 w0 a W [(8, .slice vA xs.length vc), (7, .int .i64 en), (0, .pointer (some ⟨g, 0, none⟩)), (2, .int .i64 ((d + 1 : Nat) : Int))] ((g, 95, cq) :: (t1 ++ (t2 ++ hh))) from ⟨none, 0, [], [], [], [], l, c, rfl, Nat.le_refl _, OutD.nil _ _, Nat.le_refl _, KC.nil _, hr, H⟩) (by omega) ?_
    try clear H a W
    rintro k a W hk ⟨vA, vc, t1, t2, xs, Ts, lq, cq, hrk, hlq, hod, hxl, hkc, hcq, H⟩
    by_cases hk2 : e0 < lq.length
    · refine wp_seq_k (fun K8 hK8 => ?_)
      refine sqR H gs0 fun Z_ z_ => rS 1 rfl <| rCV rfl rfl ⟨_, Tryd.func75, by kernel_rfl⟩ rfl (fun a W H _ => (left_R hcq (H.blk (k := 0) rfl))) <| rS 1 rfl <| rV rfl (does_binOp rfl rfl rfl (zd_gtrI (k := ((lq.length : Nat) : Int)) (m := en) (decide_eq_true (by omega)) _ _)) <| rN0 z_ ?_
      try clear H a W
      intro a W H
      refine wp_cond_true (H.ev rfl) ?_
      refine wp_skip ?_
      refine hK8 _ _ ?_
      clear hK8
      refine wp_block ?_
      refine rgP H gs0 (rS 3 rfl <| rI0 ?_)
      try clear H a W
      intro a W H
      refine pl_callE rfl ⟨_, Tryd.func37, by kernel_rfl⟩ rfl (fun K_ => ih w0 _ _ _ (t1 ++ (t2 ++ hh)) _ (by omega) hpg hcq K_) rfl rfl rfl rfl H ?_
      try clear H a W
      rintro ⟨x1, r1, c1⟩ a W hk1 H
      replace H : St 30 w0 a W [(26, .agg (x1.cs)), (25, .int .i64 ((d + 1 : Nat) : Int)), (24, .pointer (some ⟨g, 0, none⟩)), (23, .slice vA xs.length vc), (22, .bool true), (21, .int .i64 en), (20, .int .i64 ((lq.length : Nat) : Int)), (19, .pointer (some ⟨g, 0, none⟩)), (8, .slice vA xs.length vc), (7, .int .i64 en), (0, .pointer (some ⟨g, 0, none⟩)), (2, .int .i64 ((d + 1 : Nat) : Int))] ((g, 95, c1) :: (r1 ++ (t1 ++ (t2 ++ hh)))) := H
      obtain ⟨T1, l1, hqq1⟩ : ∃ T_ l_, readQ (d + 1) lq = (T_, l_) := ⟨_, _, rfl⟩
      obtain ⟨hdc1, hc1⟩ := hk1
      have hl1 : l1.length < lq.length := by have h_ := readQ_lt d (l := lq) (by omega); rw [hqq1] at h_; exact h_
      rw [hqq1] at hdc1 hc1
      replace hdc1 : DC (TN r1) T1 x1 := hdc1
      replace hc1 : RdC w0 l1 c1 := hc1
      replace H : St 30 w0 a W [(26, .agg (x1.cs)), (25, .int .i64 ((d + 1 : Nat) : Int)), (24, .pointer (some ⟨g, 0, none⟩)), (23, .slice vA xs.length vc), (22, .bool true), (21, .int .i64 en), (20, .int .i64 ((lq.length : Nat) : Int)), (19, .pointer (some ⟨g, 0, none⟩)), (8, .slice vA xs.length vc), (7, .int .i64 en), (0, .pointer (some ⟨g, 0, none⟩)), (2, .int .i64 ((d + 1 : Nat) : Int))] ((g, 95, c1) :: (t1 ++ ((t2 ++ r1) ++ hh))) := H.perm' (((List.perm_append_comm_assoc r1 t1 (t2 ++ hh)).trans (((List.perm_append_comm_assoc r1 t2 hh).trans (List.Perm.of_eq (List.append_assoc t2 r1 hh).symm)).append_left t1)).append_left ([(g, .ty 95, c1)] : Hep))
      refine rgO H gs0 (rO rfl (fun a W H _ => ob_kid1 (x := x1) H (wanted_none rfl) rfl rfl) fun v27 => rI ?_)
      try clear H a W
      rintro a W H ⟨hv27, -⟩
      refine pl_kid (h := [(g, .ty 95, c1)]) (t := t1) (t2 := ((t2 ++ r1) ++ hh)) (xs := xs) rfl rfl rfl hod hv27 (by omega) rfl rfl rfl rfl H ?_
      try clear H a W
      intro v8 t8 a W hod8 H
      obtain ⟨A8, c8, rfl, hc8_⟩ := hod8.form
      replace H : St 30 w0 a W [(28, .slice A8 (xs ++ [x1]).length c8), (27, v27), (26, .agg (x1.cs)), (25, .int .i64 ((d + 1 : Nat) : Int)), (24, .pointer (some ⟨g, 0, none⟩)), (23, .slice vA xs.length vc), (22, .bool true), (21, .int .i64 en), (20, .int .i64 ((lq.length : Nat) : Int)), (19, .pointer (some ⟨g, 0, none⟩)), (8, .slice vA xs.length vc), (7, .int .i64 en), (0, .pointer (some ⟨g, 0, none⟩)), (2, .int .i64 ((d + 1 : Nat) : Int))] ((g, 95, c1) :: (t8 ++ ((t2 ++ r1) ++ hh))) := H
      refine rgO H gs0 (rK [1, 1, 1, 1, 1, 1, 1, 1, 1, 1, 0] [] [] <| rS 1 rfl <| rZ0 ?_)
      try clear H a W
      intro a W H
      refine blk_normal ?_
      refine ⟨k + 1, by omega, by omega, A8, c8, t8, (t2 ++ r1), xs ++ [x1], Ts ++ [T1], l1, c1, ?_, by omega, hod8, ?_, ?_, hc1, H.pickF (h := [(g, 95, c1)]) (t := (t8 ++ ((t2 ++ r1) ++ hh))) [0, 11, 12, 13] [0] rfl⟩
      · rw [hrk, kidsRQ_more hk2 hqq1 (by omega), show l.length - k - 1 = l.length - (k + 1) by omega, List.append_assoc]
        rfl
      · rw [List.length_append, List.length_singleton]
        omega
      · exact (hkc.more fun p hp => List.mem_append.2 (.inl hp)).snoc (hdc1.mono fun _ _ _ h_ => h_.more fun p hp => List.mem_append.2 (.inr hp))
    · have hrk2 : kidsRQ (readQ (d + 1)) l.length e0 l = (Ts, lq) := by
        rw [hrk, kidsRQ_stop _ _ hk2, List.append_nil]
      refine wp_seq_k (fun K10 hK10 => ?_)
      refine sqR H gs0 fun Z_ z_ => rS 1 rfl <| rCV rfl rfl ⟨_, Tryd.func75, by kernel_rfl⟩ rfl (fun a W H _ => (left_R hcq (H.blk (k := 0) rfl))) <| rS 1 rfl <| rV rfl (does_binOp rfl rfl rfl (zd_gtrI (k := ((lq.length : Nat) : Int)) (m := en) (decide_eq_false (by omega)) _ _)) <| rK [1, 0, 0, 0, 1, 0] [] [] <| rN0 z_ ?_
      try clear H a W
      intro a W H
      refine wp_cond_false (H.ev rfl) ?_
      refine wp_exit ?_
      repeat (first | (with_reducible refine then_exit ?_) | (with_reducible refine blk_pass (by decide) ?_))
      refine blk_exit ?_
      refine hK7 _ _ ?_
      clear hK7
      refine sqR H gs0 fun Z_ z_ => rS 2 rfl <| rK [1, 0, 0, 0, 0, 0] [] [] <| rN0 z_ ?_
      try clear H a W
      intro a W H
      refine wp_ret ?_
      repeat (first | (with_reducible refine then_ret ?_) | (with_reducible refine blk_ret ?_))
      refine end_tmp (p := 6) rfl rfl H (fun hb => ?_)
      refine ⟨(vA, vc, xs, t1, t2, cq), rfl, ⟨hod, ?_, by show xs.length ≤ _; omega, ?_⟩, ?_⟩
      · rw [show decide (d + 1 = 0) = false from rfl, kidsOfQ_yes (e := e0) (by rw [hen]; exact he0) hl hn, hrk2]
        exact hkc
      · rw [show decide (d + 1 = 0) = false from rfl, kidsOfQ_yes (e := e0) (by rw [hen]; exact he0) hl hn, hrk2]
        exact hcq
      · show Kn w0 _ ([(g, 95, cq)] ++ ((t1 ++ t2) ++ hh))
        rw [List.append_assoc]
        exact H.kn
set_option maxHeartbeats 4000000 in
theorem read_step13 {g : Nat} {c : Array Value} {hh : Hep} {l : List UInt8} (hl : l.length ≤ 100000) (d : Nat) (hd : d ≤ 100) (hka : KdA d) (w0 w : World) (hpg : PGt w0) (hr : RdC w0 l c) (K : Kn w0 w ([(g, 95, c)] ++ hh)) : Calls Tryd.prog 37 #[.pointer (some ⟨g, 0, none⟩), .int .i64 ((d + 1 : Nat) : Int)] w (fun rr w' => ∃ i : DH × Hep × Array Value, rr = .returned (.agg i.1.cs) ∧ (DC (TN i.2.1) (readQ (d + 1) l).1 i.1 ∧ RdC w0 (readQ (d + 1) l).2 i.2.2) ∧ Kn w0 w' ([(g, 95, i.2.2)] ++ (i.2.1 ++ hh))) := by
  refine calls_kn (vs := [.pointer (some ⟨g, 0, none⟩), .int .i64 ((d + 1 : Nat) : Int)]) 31 Tryd.func37 rfl Tryd.ntmps37 rfl K (fun a W H => ?_)
  replace H : St 31 w0 a W [(0, .pointer (some ⟨g, 0, none⟩)), (1, .int .i64 ((d + 1 : Nat) : Int))] ((g, 95, c) :: hh) := H
  refine sqR H gs0 fun Z_ z_ => rA rfl rfl al_der fun g1 => rN0 z_ ?_
  try clear H a W
  intro a W H
  refine wp_seq_k (fun K2 hK2 => ?_)
  refine rgP H gs0 (rS 1 rfl <| rI0 ?_)
  try clear H a W
  intro a W H
  replace H : St 31 w0 a W [(7, .pointer (some ⟨g, 0, none⟩)), (4, .pointer (some ⟨g1, 0, none⟩)), (0, .pointer (some ⟨g, 0, none⟩)), (1, .int .i64 ((d + 1 : Nat) : Int))] ((g, 95, c) :: (g1, 27, DH.no.cs) :: hh) := H.perm' (@List.perm_middle (Nat × Tid × Array Value) (g, .ty 95, c) [(g1, .ty 27, DH.no.cs)] hh)
  refine pl_callE rfl ⟨_, Tryd.func54, by kernel_rfl⟩ rfl (fun K_ => num_R (hh := ([(g1, .ty 27, DH.no.cs)] ++ hh)) 1 (by omega) w0 _ hr K_) rfl rfl rfl rfl H ?_
  try clear H a W
  rintro c1 a W hc1 H
  replace H : St 31 w0 a W [(8, .int .u64 (((numQ l 1).1 : Nat) : Int)), (7, .pointer (some ⟨g, 0, none⟩)), (4, .pointer (some ⟨g1, 0, none⟩)), (0, .pointer (some ⟨g, 0, none⟩)), (1, .int .i64 ((d + 1 : Nat) : Int))] ((g, 95, c1) :: (g1, 27, DH.no.cs) :: hh) := H
  obtain ⟨n1, l1, hqq1⟩ : ∃ n_ l_, numQ l 1 = (n_, l_) := ⟨_, _, rfl⟩
  have hl1 : l1.length ≤ 100000 := by have h_ := numQ_le l 1; rw [hqq1] at h_; exact Nat.le_trans h_ (by omega)
  have hn1 : n1 < 18446744073709551616 := by have h_ := numQ_big l 1; rw [hqq1] at h_; exact h_
  have hm1 : n1 < 256 := by have h_ := numQ1_lt l; rw [hqq1] at h_; exact h_
  rw [hqq1] at H hc1
  replace hc1 : RdC w0 l1 c1 := hc1
  replace H : St 31 w0 a W [(8, .int .u64 ((n1 : Nat) : Int)), (7, .pointer (some ⟨g, 0, none⟩)), (4, .pointer (some ⟨g1, 0, none⟩)), (0, .pointer (some ⟨g, 0, none⟩)), (1, .int .i64 ((d + 1 : Nat) : Int))] ((g, 95, c1) :: (g1, 27, DH.no.cs) :: hh) := H
  obtain ⟨K, hK⟩ : ∃ K, kindQ n1 = K := ⟨_, rfl⟩
  obtain ⟨N, hN⟩ : ∃ N, tnQ n1 = N := ⟨_, rfl⟩
  have hKr := kindQ_in n1
  rw [hK] at hKr
  have hNr := tnQ_in n1
  rw [hN] at hNr
  refine rgO H gs0 (rV rfl (does_convert rfl rfl (cv_n8 (by omega))) <| rV rfl (does_call rfl ⟨_, Tryd.func53, by kernel_rfl⟩ rfl (fun W hb => by have h_ := tagged_any n1 W (by omega) (hpg.ext hb); rw [hK, hN] at h_; exact h_)) <| rA rfl rfl al_der fun g2 => rW [1] ⟨rfl, rfl⟩ rfl rfl rfl (info_der (DH.mk K false N SL.no [] SL.no SL.no)) (size_der DH.no (DH.mk K false N SL.no [] SL.no SL.no)) (DH.mk K false N SL.no [] SL.no SL.no).one <| rK [1, 0, 0, 0, 0] [] [] <| rZ0 ?_)
  try clear H a W
  intro a W H
  refine hK2 _ _ ?_
  clear hK2
  refine wp_seq_k (fun K3 hK3 => ?_)
  refine rgP H gs0 (rS 1 rfl <| rI0 ?_)
  try clear H a W
  intro a W H
  replace H : St 31 w0 a W [(11, .pointer (some ⟨g, 0, none⟩)), (5, .pointer (some ⟨g2, 0, none⟩)), (4, .pointer (some ⟨g1, 0, none⟩)), (0, .pointer (some ⟨g, 0, none⟩)), (1, .int .i64 ((d + 1 : Nat) : Int))] ((g, 95, c1) :: (g2, 27, (DH.mk K false N SL.no [] SL.no SL.no).cs) :: (g1, 27, DH.no.cs) :: hh) := H.perm' (@List.perm_middle (Nat × Tid × Array Value) (g, .ty 95, c1) [(g2, .ty 27, (DH.mk K false N SL.no [] SL.no SL.no).cs)] (([(g1, .ty 27, DH.no.cs)] : Hep) ++ hh))
  refine pl_callE rfl ⟨_, Tryd.func55, by kernel_rfl⟩ rfl (fun K_ => len_R (hh := ([(g2, .ty 27, (DH.mk K false N SL.no [] SL.no SL.no).cs), (g1, .ty 27, DH.no.cs)] ++ hh)) (by omega) w0 _ hc1 K_) rfl rfl rfl rfl H ?_
  try clear H a W
  rintro c2 a W hc2 H
  replace H : St 31 w0 a W [(12, .int .i64 ((lenQ l1).1)), (11, .pointer (some ⟨g, 0, none⟩)), (5, .pointer (some ⟨g2, 0, none⟩)), (4, .pointer (some ⟨g1, 0, none⟩)), (0, .pointer (some ⟨g, 0, none⟩)), (1, .int .i64 ((d + 1 : Nat) : Int))] ((g, 95, c2) :: (g2, 27, (DH.mk K false N SL.no [] SL.no SL.no).cs) :: (g1, 27, DH.no.cs) :: hh) := H
  obtain ⟨z2, l2, hqq2⟩ : ∃ z_ l_, lenQ l1 = (z_, l_) := ⟨_, _, rfl⟩
  have hl2 : l2.length ≤ 100000 := by have h_ := lenQ_le l1; rw [hqq2] at h_; exact Nat.le_trans h_ (by omega)
  have hz2 : -9223372036854775808 ≤ z2 ∧ z2 < 9223372036854775808 := by have h_ := lenQ_in l1; rw [hqq2] at h_; exact h_
  rw [hqq2] at H hc2
  replace hc2 : RdC w0 l2 c2 := hc2
  replace H : St 31 w0 a W [(12, .int .i64 z2), (11, .pointer (some ⟨g, 0, none⟩)), (5, .pointer (some ⟨g2, 0, none⟩)), (4, .pointer (some ⟨g1, 0, none⟩)), (0, .pointer (some ⟨g, 0, none⟩)), (1, .int .i64 ((d + 1 : Nat) : Int))] ((g, 95, c2) :: (g2, 27, (DH.mk K false N SL.no [] SL.no SL.no).cs) :: (g1, 27, DH.no.cs) :: hh) := H
  refine rgO H gs0 (rS 1 rfl <| rK [1, 0, 0] [] [] <| rZ0 ?_)
  try clear H a W
  intro a W H
  refine hK3 _ _ ?_
  clear hK3
  refine wp_seq_k (fun K4 hK4 => ?_)
  refine sqR H gs0 fun Z_ z_ => rV rfl (does_fieldAddr rfl rfl fa_der0) <| rV rfl (does_loadAt (v := .int .i64 K) rfl rfl (k := 1) rfl ld_derK) <| rK [1, 0] [] [] <| rN0 z_ ?_
  try clear H a W
  intro a W H
  refine wp_block ?_
  refine wp_seq_k (fun K6 hK6 => ?_)
  refine sqR H gs0 fun Z_ z_ => rV rfl (does_binOp rfl rfl rfl (zd_eql_derkind (k := K) (m := 7) rfl _ _)) <| rS 1 rfl <| rK [1, 0] [] [] <| rN0 z_ ?_
  try clear H a W
  intro a W H
  cases hq1 : decide (K = 7) with
  | true =>
    rw [hq1] at H
    have hq1p := of_decide_eq_true hq1
    refine wp_cond_true (H.ev rfl) ?_
    refine wp_skip ?_
    refine hK6 _ _ ?_
    clear hK6
    refine wp_cond_true (H.ev rfl) ?_
    refine wp_seq_k (fun K8 hK8 => ?_)
    refine rgP H gs0 (rS 3 rfl <| rV rfl (does_binOp rfl rfl rfl (zd_sub_int (k := ((d + 1 : Nat) : Int)) (m := 1) (c := ((d : Nat) : Int)) (by omega) (by omega) _ _)) <| rI0 ?_)
    try clear H a W
    intro a W H
    refine pl_callE rfl ⟨_, Tryd.func56, by kernel_rfl⟩ rfl (fun K_ => hka w0 _ _ _ ([(g2, .ty 27, (DH.mk K false N SL.no [] SL.no SL.no).cs), (g1, .ty 27, DH.no.cs)] ++ hh) _ z2 (by omega) (by omega) hpg hc2 K_) rfl rfl rfl rfl H ?_
    try clear H a W
    rintro ⟨A3, cc3, xs3, t3, u3, c3⟩ a W hk3 H
    replace H := H.perm' ((List.perm_append_comm_assoc (t3 ++ u3) [(g2, .ty 27, (DH.mk K false N SL.no [] SL.no SL.no).cs), (g1, .ty 27, DH.no.cs)] hh).append_left ([(g, .ty 95, c3)] : Hep))
    replace H : St 31 w0 a W [(23, .slice A3 xs3.length cc3), (22, .int .i64 ((d : Nat) : Int)), (21, .int .i64 ((d + 1 : Nat) : Int)), (20, .int .i64 z2), (19, .pointer (some ⟨g, 0, none⟩)), (15, .bool true), (14, .int .i64 K), (6, .int .i64 z2), (5, .pointer (some ⟨g2, 0, none⟩)), (4, .pointer (some ⟨g1, 0, none⟩)), (0, .pointer (some ⟨g, 0, none⟩)), (1, .int .i64 ((d + 1 : Nat) : Int))] ((g, 95, c3) :: (g2, 27, (DH.mk K false N SL.no [] SL.no SL.no).cs) :: (g1, 27, DH.no.cs) :: ((t3 ++ u3) ++ hh)) := H
    obtain ⟨Ts3, l3, hqq3⟩ : ∃ T_ l_, kidsOfQ (readQ d) l2 z2 (decide (d = 0)) = (T_, l_) := ⟨_, _, rfl⟩
    obtain ⟨hod3, hkc3, hxl3, hc3⟩ := hk3
    rw [hqq3] at hkc3 hc3
    replace hxl3 : xs3.length ≤ 100000 := hxl3
    replace hkc3 : KC u3 xs3 Ts3 := hkc3
    replace hc3 : RdC w0 l3 c3 := hc3
    refine rgO H gs0 (rV rfl (does_fieldAddr rfl rfl fa_der6) <| rX [0, 1] (c := (DH.mk K false N SL.no [] SL.no (SL.mk A3 xs3.length cc3)).cs) ⟨rfl, rfl⟩ rfl rfl rfl (st_derS (u := (SL.mk A3 xs3.length cc3))) sv_derS <| rK [0, 0, 0, 0, 0, 0, 0, 0, 1, 1, 1, 1, 0] [] [] <| rZ0 ?_)
    try clear H a W
    intro a W H
    refine hK8 _ _ ?_
    clear hK8
    refine sqR H gs0 fun Z_ z_ => rV rfl (does_load rfl rfl (k := 1) rfl Tryd.underlying27 rfl (info_der (DH.mk K false N SL.no [] SL.no (SL.mk A3 xs3.length cc3)))) <| rW [0, 0, 1] ⟨rfl, rfl⟩ rfl rfl rfl (info_der (DH.mk K false N SL.no [] SL.no (SL.mk A3 xs3.length cc3))) (size_der DH.no (DH.mk K false N SL.no [] SL.no (SL.mk A3 xs3.length cc3))) (DH.mk K false N SL.no [] SL.no (SL.mk A3 xs3.length cc3)).one <| rK [0] [] [] <| rN0 z_ ?_
    try clear H a W
    intro a W H
    refine wp_ret ?_
    repeat (first | (with_reducible refine then_ret ?_) | (with_reducible refine blk_ret ?_))
    refine end_cell (p := 4) rfl rfl (k := 2) rfl Tryd.underlying27 rfl (info_der _) H (fun hb => ?_)
    refine ⟨((DH.mk K false N SL.no [] SL.no (SL.mk A3 xs3.length cc3)), (t3 ++ u3), c3), rfl, ⟨?_, ?_⟩, H.kn.sub (List.Sublist.cons_cons _ (List.Sublist.cons _ (List.Sublist.cons _ (List.Sublist.refl _))))⟩
    · rw [readQ_kids hqq1 hqq2 (by rw [hK]; unfold isKids; omega), hqq3, hK, hN]
      exact dc_K (by omega) (by omega) (by omega) hkc3.len hod3 hkc3.at_
    · rw [readQ_kids hqq1 hqq2 (by rw [hK]; unfold isKids; omega), hqq3]
      exact hc3
  | false =>
    rw [hq1] at H
    have hq1p := of_decide_eq_false hq1
    refine wp_cond_false (H.ev rfl) ?_
    refine sqR H gs0 fun Z_ z_ => rV rfl (does_binOp rfl rfl rfl (zd_eql_derkind (k := K) (m := 8) rfl _ _)) <| rK [1, 0] [] [] <| rS 1 rfl <| rK [1, 0] [] [] <| rN0 z_ ?_
    try clear H a W
    intro a W H
    cases hq2 : decide (K = 8) with
    | true =>
      rw [hq2] at H
      have hq2p := of_decide_eq_true hq2
      refine wp_cond_true (H.ev rfl) ?_
      refine wp_skip ?_
      refine hK6 _ _ ?_
      clear hK6
      refine wp_cond_true (H.ev rfl) ?_
      refine wp_seq_k (fun K11 hK11 => ?_)
      refine rgP H gs0 (rS 3 rfl <| rV rfl (does_binOp rfl rfl rfl (zd_sub_int (k := ((d + 1 : Nat) : Int)) (m := 1) (c := ((d : Nat) : Int)) (by omega) (by omega) _ _)) <| rI0 ?_)
      try clear H a W
      intro a W H
      refine pl_callE rfl ⟨_, Tryd.func56, by kernel_rfl⟩ rfl (fun K_ => hka w0 _ _ _ ([(g2, .ty 27, (DH.mk K false N SL.no [] SL.no SL.no).cs), (g1, .ty 27, DH.no.cs)] ++ hh) _ z2 (by omega) (by omega) hpg hc2 K_) rfl rfl rfl rfl H ?_
      try clear H a W
      rintro ⟨A4, cc4, xs4, t4, u4, c4⟩ a W hk4 H
      replace H := H.perm' ((List.perm_append_comm_assoc (t4 ++ u4) [(g2, .ty 27, (DH.mk K false N SL.no [] SL.no SL.no).cs), (g1, .ty 27, DH.no.cs)] hh).append_left ([(g, .ty 95, c4)] : Hep))
      replace H : St 31 w0 a W [(23, .slice A4 xs4.length cc4), (22, .int .i64 ((d : Nat) : Int)), (21, .int .i64 ((d + 1 : Nat) : Int)), (20, .int .i64 z2), (19, .pointer (some ⟨g, 0, none⟩)), (15, .bool true), (14, .int .i64 K), (6, .int .i64 z2), (5, .pointer (some ⟨g2, 0, none⟩)), (4, .pointer (some ⟨g1, 0, none⟩)), (0, .pointer (some ⟨g, 0, none⟩)), (1, .int .i64 ((d + 1 : Nat) : Int))] ((g, 95, c4) :: (g2, 27, (DH.mk K false N SL.no [] SL.no SL.no).cs) :: (g1, 27, DH.no.cs) :: ((t4 ++ u4) ++ hh)) := H
      obtain ⟨Ts4, l4, hqq4⟩ : ∃ T_ l_, kidsOfQ (readQ d) l2 z2 (decide (d = 0)) = (T_, l_) := ⟨_, _, rfl⟩
      obtain ⟨hod4, hkc4, hxl4, hc4⟩ := hk4
      rw [hqq4] at hkc4 hc4
      replace hxl4 : xs4.length ≤ 100000 := hxl4
      replace hkc4 : KC u4 xs4 Ts4 := hkc4
      replace hc4 : RdC w0 l4 c4 := hc4
      refine rgO H gs0 (rV rfl (does_fieldAddr rfl rfl fa_der6) <| rX [0, 1] (c := (DH.mk K false N SL.no [] SL.no (SL.mk A4 xs4.length cc4)).cs) ⟨rfl, rfl⟩ rfl rfl rfl (st_derS (u := (SL.mk A4 xs4.length cc4))) sv_derS <| rK [0, 0, 0, 0, 0, 0, 0, 0, 1, 1, 1, 1, 0] [] [] <| rZ0 ?_)
      try clear H a W
      intro a W H
      refine hK11 _ _ ?_
      clear hK11
      refine sqR H gs0 fun Z_ z_ => rV rfl (does_load rfl rfl (k := 1) rfl Tryd.underlying27 rfl (info_der (DH.mk K false N SL.no [] SL.no (SL.mk A4 xs4.length cc4)))) <| rW [0, 0, 1] ⟨rfl, rfl⟩ rfl rfl rfl (info_der (DH.mk K false N SL.no [] SL.no (SL.mk A4 xs4.length cc4))) (size_der DH.no (DH.mk K false N SL.no [] SL.no (SL.mk A4 xs4.length cc4))) (DH.mk K false N SL.no [] SL.no (SL.mk A4 xs4.length cc4)).one <| rK [0] [] [] <| rN0 z_ ?_
      try clear H a W
      intro a W H
      refine wp_ret ?_
      repeat (first | (with_reducible refine then_ret ?_) | (with_reducible refine blk_ret ?_))
      refine end_cell (p := 4) rfl rfl (k := 2) rfl Tryd.underlying27 rfl (info_der _) H (fun hb => ?_)
      refine ⟨((DH.mk K false N SL.no [] SL.no (SL.mk A4 xs4.length cc4)), (t4 ++ u4), c4), rfl, ⟨?_, ?_⟩, H.kn.sub (List.Sublist.cons_cons _ (List.Sublist.cons _ (List.Sublist.cons _ (List.Sublist.refl _))))⟩
      · rw [readQ_kids hqq1 hqq2 (by rw [hK]; unfold isKids; omega), hqq4, hK, hN]
        exact dc_K (by omega) (by omega) (by omega) hkc4.len hod4 hkc4.at_
      · rw [readQ_kids hqq1 hqq2 (by rw [hK]; unfold isKids; omega), hqq4]
        exact hc4
    | false =>
      rw [hq2] at H
      have hq2p := of_decide_eq_false hq2
      refine wp_cond_false (H.ev rfl) ?_
      refine rgP H gs0 (rV rfl (does_binOp rfl rfl rfl (zd_eql_derkind (k := K) (m := 9) rfl _ _)) <| rK [1, 0] [] [] <| rS 1 rfl <| rK [1, 0, 0] [] [] <| rZ0 ?_)
      try clear H a W
      intro a W H
      refine hK6 _ _ ?_
      clear hK6
      cases hq3 : decide (K = 9) with
      | true =>
        rw [hq3] at H
        have hq3p := of_decide_eq_true hq3
        refine wp_cond_true (H.ev rfl) ?_
        refine wp_seq_k (fun K13 hK13 => ?_)
        refine rgP H gs0 (rS 3 rfl <| rV rfl (does_binOp rfl rfl rfl (zd_sub_int (k := ((d + 1 : Nat) : Int)) (m := 1) (c := ((d : Nat) : Int)) (by omega) (by omega) _ _)) <| rI0 ?_)
        try clear H a W
        intro a W H
        refine pl_callE rfl ⟨_, Tryd.func56, by kernel_rfl⟩ rfl (fun K_ => hka w0 _ _ _ ([(g2, .ty 27, (DH.mk K false N SL.no [] SL.no SL.no).cs), (g1, .ty 27, DH.no.cs)] ++ hh) _ z2 (by omega) (by omega) hpg hc2 K_) rfl rfl rfl rfl H ?_
        try clear H a W
        rintro ⟨A5, cc5, xs5, t5, u5, c5⟩ a W hk5 H
        replace H := H.perm' ((List.perm_append_comm_assoc (t5 ++ u5) [(g2, .ty 27, (DH.mk K false N SL.no [] SL.no SL.no).cs), (g1, .ty 27, DH.no.cs)] hh).append_left ([(g, .ty 95, c5)] : Hep))
        replace H : St 31 w0 a W [(23, .slice A5 xs5.length cc5), (22, .int .i64 ((d : Nat) : Int)), (21, .int .i64 ((d + 1 : Nat) : Int)), (20, .int .i64 z2), (19, .pointer (some ⟨g, 0, none⟩)), (15, .bool true), (6, .int .i64 z2), (5, .pointer (some ⟨g2, 0, none⟩)), (4, .pointer (some ⟨g1, 0, none⟩)), (0, .pointer (some ⟨g, 0, none⟩)), (1, .int .i64 ((d + 1 : Nat) : Int))] ((g, 95, c5) :: (g2, 27, (DH.mk K false N SL.no [] SL.no SL.no).cs) :: (g1, 27, DH.no.cs) :: ((t5 ++ u5) ++ hh)) := H
        obtain ⟨Ts5, l5, hqq5⟩ : ∃ T_ l_, kidsOfQ (readQ d) l2 z2 (decide (d = 0)) = (T_, l_) := ⟨_, _, rfl⟩
        obtain ⟨hod5, hkc5, hxl5, hc5⟩ := hk5
        rw [hqq5] at hkc5 hc5
        replace hxl5 : xs5.length ≤ 100000 := hxl5
        replace hkc5 : KC u5 xs5 Ts5 := hkc5
        replace hc5 : RdC w0 l5 c5 := hc5
        refine rgO H gs0 (rV rfl (does_fieldAddr rfl rfl fa_der6) <| rX [0, 1] (c := (DH.mk K false N SL.no [] SL.no (SL.mk A5 xs5.length cc5)).cs) ⟨rfl, rfl⟩ rfl rfl rfl (st_derS (u := (SL.mk A5 xs5.length cc5))) sv_derS <| rK [0, 0, 0, 0, 0, 0, 0, 1, 1, 1, 1, 0] [] [] <| rZ0 ?_)
        try clear H a W
        intro a W H
        refine hK13 _ _ ?_
        clear hK13
        refine sqR H gs0 fun Z_ z_ => rV rfl (does_load rfl rfl (k := 1) rfl Tryd.underlying27 rfl (info_der (DH.mk K false N SL.no [] SL.no (SL.mk A5 xs5.length cc5)))) <| rW [0, 0, 1] ⟨rfl, rfl⟩ rfl rfl rfl (info_der (DH.mk K false N SL.no [] SL.no (SL.mk A5 xs5.length cc5))) (size_der DH.no (DH.mk K false N SL.no [] SL.no (SL.mk A5 xs5.length cc5))) (DH.mk K false N SL.no [] SL.no (SL.mk A5 xs5.length cc5)).one <| rK [0] [] [] <| rN0 z_ ?_
        try clear H a W
        intro a W H
        refine wp_ret ?_
        repeat (first | (with_reducible refine then_ret ?_) | (with_reducible refine blk_ret ?_))
        refine end_cell (p := 4) rfl rfl (k := 2) rfl Tryd.underlying27 rfl (info_der _) H (fun hb => ?_)
        refine ⟨((DH.mk K false N SL.no [] SL.no (SL.mk A5 xs5.length cc5)), (t5 ++ u5), c5), rfl, ⟨?_, ?_⟩, H.kn.sub (List.Sublist.cons_cons _ (List.Sublist.cons _ (List.Sublist.cons _ (List.Sublist.refl _))))⟩
        · rw [readQ_kids hqq1 hqq2 (by rw [hK]; unfold isKids; omega), hqq5, hK, hN]
          exact dc_K (by omega) (by omega) (by omega) hkc5.len hod5 hkc5.at_
        · rw [readQ_kids hqq1 hqq2 (by rw [hK]; unfold isKids; omega), hqq5]
          exact hc5
      | false =>
        rw [hq3] at H
        have hq3p := of_decide_eq_false hq3
        refine wp_cond_false (H.ev rfl) ?_
        refine wp_skip ?_
        refine blk_normal ?_
        refine hK4 _ _ ?_
        clear hK4
        refine wp_seq_k (fun K15 hK15 => ?_)
        refine d2L [.v 26 _ [], .v 27 _ [], .v 28 _ []] 0 (by kernel_rfl) (by kernel_rfl) H gs0 ⟨oV rfl (does_load rfl rfl (k := 1) rfl Tryd.underlying27 rfl (info_der (DH.mk K false N SL.no [] SL.no SL.no))), oS rfl rfl, oS rfl rfl, trivial⟩ (rI0 ?_) (rI0 ?_)
        · try clear H a W
          intro a W H
          replace H : St 31 w0 a W [(28, .int .i64 z2), (27, .pointer (some ⟨g, 0, none⟩)), (26, .agg ((DH.mk K false N SL.no [] SL.no SL.no).cs)), (15, .bool false), (6, .int .i64 z2), (5, .pointer (some ⟨g2, 0, none⟩)), (4, .pointer (some ⟨g1, 0, none⟩)), (0, .pointer (some ⟨g, 0, none⟩)), (1, .int .i64 ((d + 1 : Nat) : Int))] ((g, 95, c2) :: (g2, 27, (DH.mk K false N SL.no [] SL.no SL.no).cs) :: (g1, 27, DH.no.cs) :: hh) := H
          refine pl_callE rfl ⟨_, Tryd.func58, by kernel_rfl⟩ rfl (fun K_ => bytes_R (hh := ([(g2, .ty 27, (DH.mk K false N SL.no [] SL.no SL.no).cs), (g1, .ty 27, DH.no.cs)] ++ hh)) z2 w0 _ hc2 K_) rfl rfl rfl rfl H ?_
          try clear H a W
          rintro ⟨v6, c6⟩ a W ⟨hv6, hc6⟩ H
          replace H : St 31 w0 a W [(29, v6), (28, .int .i64 z2), (27, .pointer (some ⟨g, 0, none⟩)), (26, .agg ((DH.mk K false N SL.no [] SL.no SL.no).cs)), (15, .bool false), (6, .int .i64 z2), (5, .pointer (some ⟨g2, 0, none⟩)), (4, .pointer (some ⟨g1, 0, none⟩)), (0, .pointer (some ⟨g, 0, none⟩)), (1, .int .i64 ((d + 1 : Nat) : Int))] ((g, 95, c6) :: (g2, 27, (DH.mk K false N SL.no [] SL.no SL.no).cs) :: (g1, 27, DH.no.cs) :: hh) := H
          obtain ⟨b6, l6, hqq6⟩ : ∃ b_ l_, takeQ l2 z2 = (b_, l_) := ⟨_, _, rfl⟩
          have hbl6 : b6.length ≤ 100000 := by have h_ := (takeQ_le l2 z2).2; rw [hqq6] at h_; exact Nat.le_trans (Nat.le_trans (Nat.le_add_right _ _) h_) (by omega)
          rw [hqq6] at hv6 hc6
          replace hv6 : BF b6 v6 w0 := hv6
          replace hc6 : RdC w0 l6 c6 := hc6
          refine pl_callE rfl ⟨_, Tryd.func57, by kernel_rfl⟩ rfl (fun K_ => filled_K K N (by omega) (by omega) hv6 (by omega) K_) rfl rfl rfl rfl H ?_
          try clear H a W
          rintro ⟨x7, t7⟩ a W hdc7 H
          replace H := H.perm' (List.perm_append_comm_assoc t7 [(g, .ty 95, c6), (g2, .ty 27, (DH.mk K false N SL.no [] SL.no SL.no).cs), (g1, .ty 27, DH.no.cs)] hh)
          replace H : St 31 w0 a W [(30, .agg (x7.cs)), (29, v6), (28, .int .i64 z2), (27, .pointer (some ⟨g, 0, none⟩)), (26, .agg ((DH.mk K false N SL.no [] SL.no SL.no).cs)), (15, .bool false), (6, .int .i64 z2), (5, .pointer (some ⟨g2, 0, none⟩)), (4, .pointer (some ⟨g1, 0, none⟩)), (0, .pointer (some ⟨g, 0, none⟩)), (1, .int .i64 ((d + 1 : Nat) : Int))] ((g, 95, c6) :: (g2, 27, (DH.mk K false N SL.no [] SL.no SL.no).cs) :: (g1, 27, DH.no.cs) :: (t7 ++ hh)) := H
          refine rgO H gs0 (rW [0, 0, 1] ⟨rfl, rfl⟩ rfl rfl rfl (info_der x7) (size_der DH.no x7) x7.one <| rK [0, 0, 0, 0, 0, 0, 0, 0, 1, 0, 0] [] [] <| rZ0 ?_)
          try clear H a W
          intro a W H
          refine hK15 _ _ ?_
          clear hK15
          refine wp_ret ?_
          repeat (first | (with_reducible refine then_ret ?_) | (with_reducible refine blk_ret ?_))
          refine end_cell (p := 4) rfl rfl (k := 2) rfl Tryd.underlying27 rfl (info_der _) H (fun hb => ?_)
          refine ⟨(x7, t7, c6), rfl, ⟨?_, ?_⟩, H.kn.sub (List.Sublist.cons_cons _ (List.Sublist.cons _ (List.Sublist.cons _ (List.Sublist.refl _))))⟩
          · rw [readQ_fill hqq1 hqq2 (by rw [hK]; unfold isKids; omega), hqq6, hK, hN]
            exact hdc7
          · rw [readQ_fill hqq1 hqq2 (by rw [hK]; unfold isKids; omega), hqq6]
            exact hc6
        · try clear H a W
          intro a W H
          replace H : St 31 w0 a W [(28, .int .i64 z2), (27, .pointer (some ⟨g, 0, none⟩)), (15, .bool false), (6, .int .i64 z2), (5, .pointer (some ⟨g2, 0, none⟩)), (4, .pointer (some ⟨g1, 0, none⟩)), (0, .pointer (some ⟨g, 0, none⟩)), (1, .int .i64 ((d + 1 : Nat) : Int))] ((g, 95, c2) :: (g2, 27, (DH.mk K false N SL.no [] SL.no SL.no).cs) :: (g1, 27, DH.no.cs) :: hh) := H
          refine pl_callE rfl ⟨_, Tryd.func58, by kernel_rfl⟩ rfl (fun K_ => bytes_R (hh := ([(g2, .ty 27, (DH.mk K false N SL.no [] SL.no SL.no).cs), (g1, .ty 27, DH.no.cs)] ++ hh)) z2 w0 _ hc2 K_) rfl rfl rfl rfl H ?_
          try clear H a W
          rintro ⟨v8, c8⟩ a W ⟨hv8, hc8⟩ H
          replace H : St 31 w0 a W [(29, v8), (28, .int .i64 z2), (27, .pointer (some ⟨g, 0, none⟩)), (15, .bool false), (6, .int .i64 z2), (5, .pointer (some ⟨g2, 0, none⟩)), (4, .pointer (some ⟨g1, 0, none⟩)), (0, .pointer (some ⟨g, 0, none⟩)), (1, .int .i64 ((d + 1 : Nat) : Int))] ((g, 95, c8) :: (g2, 27, (DH.mk K false N SL.no [] SL.no SL.no).cs) :: (g1, 27, DH.no.cs) :: hh) := H
          obtain ⟨b8, l8, hqq8⟩ : ∃ b_ l_, takeQ l2 z2 = (b_, l_) := ⟨_, _, rfl⟩
          have hbl8 : b8.length ≤ 100000 := by have h_ := (takeQ_le l2 z2).2; rw [hqq8] at h_; exact Nat.le_trans (Nat.le_trans (Nat.le_add_right _ _) h_) (by omega)
          rw [hqq8] at hv8 hc8
          replace hv8 : BF b8 v8 w0 := hv8
          replace hc8 : RdC w0 l8 c8 := hc8
          refine rgO H gs0 (rV rfl (does_load rfl rfl (k := 1) rfl Tryd.underlying27 rfl (info_der (DH.mk K false N SL.no [] SL.no SL.no))) <| rI0 ?_)
          try clear H a W
          intro a W H
          refine pl_callE rfl ⟨_, Tryd.func57, by kernel_rfl⟩ rfl (fun K_ => filled_K K N (by omega) (by omega) hv8 (by omega) K_) rfl rfl rfl rfl H ?_
          try clear H a W
          rintro ⟨x9, t9⟩ a W hdc9 H
          replace H := H.perm' (List.perm_append_comm_assoc t9 [(g, .ty 95, c8), (g2, .ty 27, (DH.mk K false N SL.no [] SL.no SL.no).cs), (g1, .ty 27, DH.no.cs)] hh)
          replace H : St 31 w0 a W [(30, .agg (x9.cs)), (26, .agg ((DH.mk K false N SL.no [] SL.no SL.no).cs)), (29, v8), (28, .int .i64 z2), (27, .pointer (some ⟨g, 0, none⟩)), (15, .bool false), (6, .int .i64 z2), (5, .pointer (some ⟨g2, 0, none⟩)), (4, .pointer (some ⟨g1, 0, none⟩)), (0, .pointer (some ⟨g, 0, none⟩)), (1, .int .i64 ((d + 1 : Nat) : Int))] ((g, 95, c8) :: (g2, 27, (DH.mk K false N SL.no [] SL.no SL.no).cs) :: (g1, 27, DH.no.cs) :: (t9 ++ hh)) := H
          refine rgO H gs0 (rW [0, 0, 1] ⟨rfl, rfl⟩ rfl rfl rfl (info_der x9) (size_der DH.no x9) x9.one <| rK [0, 0, 0, 0, 0, 0, 0, 0, 1, 0, 0] [] [] <| rZ0 ?_)
          try clear H a W
          intro a W H
          refine hK15 _ _ ?_
          clear hK15
          refine wp_ret ?_
          repeat (first | (with_reducible refine then_ret ?_) | (with_reducible refine blk_ret ?_))
          refine end_cell (p := 4) rfl rfl (k := 2) rfl Tryd.underlying27 rfl (info_der _) H (fun hb => ?_)
          refine ⟨(x9, t9, c8), rfl, ⟨?_, ?_⟩, H.kn.sub (List.Sublist.cons_cons _ (List.Sublist.cons _ (List.Sublist.cons _ (List.Sublist.refl _))))⟩
          · rw [readQ_fill hqq1 hqq2 (by rw [hK]; unfold isKids; omega), hqq8, hK, hN]
            exact hdc9
          · rw [readQ_fill hqq1 hqq2 (by rw [hK]; unfold isKids; omega), hqq8]
            exact hc8
theorem kdA_rdA : ∀ d, d ≤ 100 → KdA d ∧ RdA d
  | 0, _ => by
    have hk : KdA 0 := fun w0 w g c hh l n hl hn hpg hr K => kids_zero n hl hn w0 w hpg hr K
    exact ⟨hk, fun w0 w g c hh l hl hpg hr K => read_step13 hl 0 (by omega) hk w0 w hpg hr K⟩
  | d + 1, hd => by
    have hk : KdA (d + 1) := fun w0 w g c hh l n hl hn hpg hr K => kids_step n hl hn d (by omega) (kdA_rdA d (by omega)).2 w0 w hpg hr K
    exact ⟨hk, fun w0 w g c hh l hl hpg hr K => read_step13 hl (d + 1) hd hk w0 w hpg hr K⟩
end Go.Proofs.YtiafcgoiolbdhaaDoor
namespace Go.Proofs.YtiafcgoiolbdhaaDoor
set_option linter.unusedVariables false
set_option linter.unusedSimpArgs false
set_option maxRecDepth 100000
open Go Go.RowKit
/-- Nothing but its kind is there. -/
def sameZ (f : Bool) (n : Int) (t lb : List UInt8) (na nk : Nat) : Bool := !f && decide (n = 0) && decide (t = []) && decide (lb = []) && decide (na = 0) && decide (nk = 0)
def plainE (k : Int) (f : Bool) (n : Int) (t lb : List UInt8) (na nk : Nat) : Bool := decide (1 ≤ k ∧ k ≤ 10) && (decide (k = 1) || !f) && (decide (k = 2 ∨ k = 8) || decide (n = 0)) && (decide (k = 6 ∨ k = 10) || decide (t = [])) && (decide (k = 3 ∨ k = 4) || decide (lb = [])) && (decide (k = 5) || decide (na = 0)) && (decide (k = 7 ∨ k = 8 ∨ k = 9) || decide (nk = 0))
theorem own_plain (u8 : List UInt8 → Bool) {k n : Int} {f : Bool} {lb t : List UInt8} {la : List Nat} {ks : List DT} (hn : -9223372036854775808 ≤ n ∧ n < 9223372036854775808) : ownD u8 (.mk k f n lb t la ks) = (plainE k f n t lb la.length ks.length && (if k = 5 then arcsOk la else if k = 6 then u8 t else if k = 10 then timeOk t else if k = 8 then decide (0 ≤ n ∧ n ≤ 30) && decide (ks.length = 1) else if k = 9 then decide (ks.length = 1) else true)) := by
  have e0 : ∀ {α : Type} (l : List α), l.isEmpty = decide (l.length = 0) := fun l => by cases l <;> simp
  have e1 : ∀ l : List UInt8, l.isEmpty = decide (l = []) := fun l => by cases l <;> simp
  have e8 : (decide (n = 0) || (decide (0 ≤ n) && decide (n ≤ 30))) = decide (0 ≤ n ∧ n ≤ 30) := by
    rw [Bool.eq_iff_iff]
    simp only [Bool.or_eq_true, Bool.and_eq_true, decide_eq_true_eq]
    omega
  unfold ownD plainE
  dsimp only
  rw [decide_eq_true hn.1, decide_eq_true hn.2, e0 la, e1 t, e1 lb, e0 ks]
  rw [← e8]
  have hc : k = 1 ∨ k = 2 ∨ k = 3 ∨ k = 4 ∨ k = 5 ∨ k = 6 ∨ k = 7 ∨ k = 8 ∨ k = 9 ∨ k = 10 ∨ ¬ (1 ≤ k ∧ k ≤ 10) := by omega
  generalize decide (n = 0) = b1, decide (t = []) = b2, decide (lb = []) = b3, decide (la.length = 0) = b4, decide (ks.length = 0) = b5, arcsOk la = b6, u8 t = b7, timeOk t = b8, decide (ks.length = 1) = b9, decide (0 ≤ n) = b10, decide (n ≤ 30) = b11
  rcases hc with rfl | rfl | rfl | rfl | rfl | rfl | rfl | rfl | rfl | rfl | h
  · first | (simp; done) | (simp; cases f <;> cases b1 <;> cases b2 <;> cases b3 <;> cases b4 <;> cases b5 <;> rfl)
  · first | (simp; done) | (simp; cases f <;> cases b1 <;> cases b2 <;> cases b3 <;> cases b4 <;> cases b5 <;> rfl)
  · first | (simp; done) | (simp; cases f <;> cases b1 <;> cases b2 <;> cases b3 <;> cases b4 <;> cases b5 <;> rfl)
  · first | (simp; done) | (simp; cases f <;> cases b1 <;> cases b2 <;> cases b3 <;> cases b4 <;> cases b5 <;> rfl)
  · first | (simp; done) | (simp; cases f <;> cases b1 <;> cases b2 <;> cases b3 <;> cases b4 <;> cases b5 <;> cases b6 <;> rfl)
  · first | (simp; done) | (simp; cases f <;> cases b1 <;> cases b2 <;> cases b3 <;> cases b4 <;> cases b5 <;> cases b7 <;> rfl)
  · first | (simp; done) | (simp; cases f <;> cases b1 <;> cases b2 <;> cases b3 <;> cases b4 <;> cases b5 <;> rfl)
  · first | (simp; done) | (simp; cases f <;> cases b1 <;> cases b2 <;> cases b3 <;> cases b4 <;> cases b9 <;> cases b10 <;> cases b11 <;> rfl)
  · first | (simp; done) | (simp; cases f <;> cases b1 <;> cases b2 <;> cases b3 <;> cases b4 <;> cases b9 <;> rfl)
  · first | (simp; done) | (simp; cases f <;> cases b1 <;> cases b2 <;> cases b3 <;> cases b4 <;> cases b5 <;> cases b8 <;> rfl)
  · have h1 : (decide (1 ≤ k) && decide (k ≤ 10)) = false := by
      rw [← Bool.decide_and]
      exact decide_eq_false h
    rw [h1, decide_eq_false h]
    rfl
theorem plain_is {k n : Int} {f : Bool} {t lb : List UInt8} {na nk : Nat} :
    (k = 1 → sameZ false n t lb na nk = plainE k f n t lb na nk) ∧ (k = 2 → sameZ f 0 t lb na nk = plainE k f n t lb na nk) ∧ (k = 3 ∨ k = 4 → sameZ f n t [] na nk = plainE k f n t lb na nk) ∧ (k = 5 → sameZ f n t lb 0 nk = plainE k f n t lb na nk) ∧ (k = 6 ∨ k = 10 → sameZ f n [] lb na nk = plainE k f n t lb na nk) ∧ (k = 8 → sameZ f 0 t lb na 0 = plainE k f n t lb na nk) ∧ (k = 7 ∨ k = 9 → sameZ f n t lb na 0 = plainE k f n t lb na nk) := by
  unfold sameZ plainE
  generalize decide (n = 0) = b1, decide (t = []) = b2, decide (lb = []) = b3, decide (na = 0) = b4, decide (nk = 0) = b5
  refine ⟨?_, ?_, ?_, ?_, ?_, ?_, ?_⟩
  · rintro rfl
    first | (simp; done) | (simp; cases f <;> cases b1 <;> cases b2 <;> cases b3 <;> cases b4 <;> cases b5 <;> rfl)
  · rintro rfl
    first | (simp; done) | (simp; cases f <;> cases b1 <;> cases b2 <;> cases b3 <;> cases b4 <;> cases b5 <;> rfl)
  · rintro (rfl | rfl)
    all_goals first | (simp; done) | (simp; cases f <;> cases b1 <;> cases b2 <;> cases b3 <;> cases b4 <;> cases b5 <;> rfl)
  · rintro rfl
    first | (simp; done) | (simp; cases f <;> cases b1 <;> cases b2 <;> cases b3 <;> cases b4 <;> cases b5 <;> rfl)
  · rintro (rfl | rfl)
    all_goals first | (simp; done) | (simp; cases f <;> cases b1 <;> cases b2 <;> cases b3 <;> cases b4 <;> cases b5 <;> rfl)
  · rintro rfl
    first | (simp; done) | (simp; cases f <;> cases b1 <;> cases b2 <;> cases b3 <;> cases b4 <;> cases b5 <;> rfl)
  · rintro (rfl | rfl)
    all_goals first | (simp; done) | (simp; cases f <;> cases b1 <;> cases b2 <;> cases b3 <;> cases b4 <;> cases b5 <;> rfl)
def maxN : List Nat → Nat
  | [] => 0
  | x :: r => max x (maxN r)
theorem maxN_0 (x : Nat) : max (maxN []) x = x := Nat.zero_max x
theorem maxN_app (l : List Nat) (x : Nat) : maxN (l ++ [x]) = max (maxN l) x := by
  induction l with
  | nil => show max x 0 = max 0 x; omega
  | cons y r ih => show max y (maxN (r ++ [x])) = max (max y (maxN r)) x; rw [ih]; omega
theorem maxN_le (l : List Nat) (m : Nat) : maxN l ≤ m ↔ ∀ x ∈ l, x ≤ m := by
  induction l with
  | nil => simp [maxN]
  | cons y r ih =>
    have e : maxN (y :: r) = max y (maxN r) := rfl
    rw [e, List.forall_mem_cons, ← ih]
    omega
theorem max_take {l : List Nat} {k : Nat} (h : k < l.length) : maxN (l.take (k + 1)) = max (maxN (l.take k)) (l.getD k 0) := by
  rw [List.take_add_one, List.getElem?_eq_getElem h, Option.toList_some, maxN_app, List.getD_eq_getElem?_getD, List.getElem?_eq_getElem h]
  rfl
theorem arcs_max {l : List Nat} : arcsOk l = (decide (2 ≤ l.length) && decide (l.length ≤ 16) && decide (maxN l ≤ 2147483647) && (decide (l.getD 0 0 ≤ 2) && (decide (l.getD 0 0 = 2) || decide (l.getD 1 0 < 40)))) := by
  have e : l.all (fun x => decide (x < 2147483648)) = decide (maxN l ≤ 2147483647) := by
    rw [Bool.eq_iff_iff]
    simp only [List.all_eq_true, decide_eq_true_eq, maxN_le]
    exact ⟨fun h x hx => by have := h x hx; omega, fun h x hx => by have := h x hx; omega⟩
  unfold arcsOk
  rw [e]
  cases decide (2 ≤ l.length) <;> cases decide (l.length ≤ 16) <;> cases decide (maxN l ≤ 2147483647) <;> cases decide (l.getD 0 0 ≤ 2) <;> cases (decide (l.getD 0 0 = 2) || decide (l.getD 1 0 < 40)) <;> rfl
theorem does_maxU {P : Program} {n : Nat} {w0 : World} {e : Env} {h : Hep} {Q : Exit → Act → World → Prop} {o : Oper} {x y : Operand} {k m : Nat} {tys : Array TypeId} (ho : o.op = .call { callee := .builtin .max, args := #[x, y], argTypes := tys }) (hx : sev e x = some (.int .u64 (k : Int))) (hy : sev e y = some (.int .u64 (m : Int))) : Does P Q n w0 e h o (.int .u64 ((max k m : Nat) : Int)) := does_run fun a w H => by
  have e2 : (if k < m then (m : Int) else (k : Int)) = ((max k m : Nat) : Int) := by split <;> omega
  simp [execOp, ho, resolve, invoke, builtin, H.ev hx, H.ev hy, Builtin.max_, Builtin.max2, Result.andThen, e2]
theorem bd_eqlF {f b : Bool} (h : (!f) = b) (p q : Operand) (W : World) : (do eqGuard .eql 4 p q (.bool f) (.bool false); binOp .eql 4 (.bool f) (.bool false) : Sem Value).run Tryd.prog W = .ok (.bool b) W := by
  subst h
  cases f <;> kernel_rfl
theorem bd_neq8 {x y : Nat} {b : Bool} (h : decide (x ≠ y) = b) (p q : Operand) (W : World) : (do eqGuard .neq 5 p q (.int .u8 (x : Int)) (.int .u8 (y : Int)); binOp .neq 5 (.int .u8 (x : Int)) (.int .u8 (y : Int)) : Sem Value).run Tryd.prog W = .ok (.bool b) W := by
  have e : (!decide ((x : Int) = (y : Int))) = b := by
    rw [← h, ← decide_not]
    exact decide_eq_decide.2 (by omega)
  go_simp
  exact e
theorem ud_gtrU {x y : Nat} {b : Bool} (h : decide (y < x) = b) (p q : Operand) (W : World) : (do eqGuard .gtr 47 p q (.int .u64 (x : Int)) (.int .u64 (y : Int)); binOp .gtr 47 (.int .u64 (x : Int)) (.int .u64 (y : Int)) : Sem Value).run Tryd.prog W = .ok (.bool b) W := by
  have e : decide ((y : Int) < (x : Int)) = b := by
    rw [← h]
    exact decide_eq_decide.2 (by omega)
  go_simp
  try exact e
theorem ud_leqU {x y : Nat} {b : Bool} (h : decide (x ≤ y) = b) (p q : Operand) (W : World) : (do eqGuard .leq 47 p q (.int .u64 (x : Int)) (.int .u64 (y : Int)); binOp .leq 47 (.int .u64 (x : Int)) (.int .u64 (y : Int)) : Sem Value).run Tryd.prog W = .ok (.bool b) W := by
  have e : decide ((x : Int) ≤ (y : Int)) = b := by
    rw [← h]
    exact decide_eq_decide.2 (by omega)
  go_simp
  try exact e
theorem ud_lssU {x y : Nat} {b : Bool} (h : decide (x < y) = b) (p q : Operand) (W : World) : (do eqGuard .lss 47 p q (.int .u64 (x : Int)) (.int .u64 (y : Int)); binOp .lss 47 (.int .u64 (x : Int)) (.int .u64 (y : Int)) : Sem Value).run Tryd.prog W = .ok (.bool b) W := by
  have e : decide ((x : Int) < (y : Int)) = b := by
    rw [← h]
    exact decide_eq_decide.2 (by omega)
  go_simp
  try exact e
theorem ud_eqlU {x y : Nat} {b : Bool} (h : decide (x = y) = b) (p q : Operand) (W : World) : (do eqGuard .eql 47 p q (.int .u64 (x : Int)) (.int .u64 (y : Int)); binOp .eql 47 (.int .u64 (x : Int)) (.int .u64 (y : Int)) : Sem Value).run Tryd.prog W = .ok (.bool b) W := by
  have e : decide ((x : Int) = (y : Int)) = b := by
    rw [← h]
    exact decide_eq_decide.2 (by omega)
  go_simp
  try exact e
theorem i_cmp {x y : Int} {b : Bool} :
    (decide (x < y) = b → ∀ (p q : Operand) (W : World), (do eqGuard .lss 2 p q (.int .i64 x) (.int .i64 y); binOp .lss 2 (.int .i64 x) (.int .i64 y) : Sem Value).run Tryd.prog W = .ok (.bool b) W)
    ∧ (decide (y < x) = b → ∀ (p q : Operand) (W : World), (do eqGuard .gtr 2 p q (.int .i64 x) (.int .i64 y); binOp .gtr 2 (.int .i64 x) (.int .i64 y) : Sem Value).run Tryd.prog W = .ok (.bool b) W)
    ∧ (decide (x = y) = b → ∀ (p q : Operand) (W : World), (do eqGuard .eql 2 p q (.int .i64 x) (.int .i64 y); binOp .eql 2 (.int .i64 x) (.int .i64 y) : Sem Value).run Tryd.prog W = .ok (.bool b) W) := by
  refine ⟨fun h p q W => ?_, fun h p q W => ?_, fun h p q W => ?_⟩
  · go_simp
    try exact h
  · go_simp
    try exact h
  · go_simp
    try exact h
theorem z_cmp {x y : Int} {b : Bool} :
    (decide (x < y) = b → ∀ (p q : Operand) (W : World), (do eqGuard .lss 3 p q (.int .i64 x) (.int .i64 y); binOp .lss 3 (.int .i64 x) (.int .i64 y) : Sem Value).run Tryd.prog W = .ok (.bool b) W)
    ∧ (decide (y < x) = b → ∀ (p q : Operand) (W : World), (do eqGuard .gtr 3 p q (.int .i64 x) (.int .i64 y); binOp .gtr 3 (.int .i64 x) (.int .i64 y) : Sem Value).run Tryd.prog W = .ok (.bool b) W)
    ∧ (decide (x = y) = b → ∀ (p q : Operand) (W : World), (do eqGuard .eql 3 p q (.int .i64 x) (.int .i64 y); binOp .eql 3 (.int .i64 x) (.int .i64 y) : Sem Value).run Tryd.prog W = .ok (.bool b) W)
    ∧ (decide (x ≠ y) = b → ∀ (p q : Operand) (W : World), (do eqGuard .neq 3 p q (.int .i64 x) (.int .i64 y); binOp .neq 3 (.int .i64 x) (.int .i64 y) : Sem Value).run Tryd.prog W = .ok (.bool b) W) := by
  refine ⟨fun h p q W => ?_, fun h p q W => ?_, fun h p q W => ?_, fun h p q W => ?_⟩
  · go_simp
    try exact h
  · go_simp
    try exact h
  · go_simp
    try exact h
  · have h2 : (!decide (x = y)) = b := by rw [← h, decide_not]
    go_simp
    try exact h2
theorem r_cmp {x y : Int} {b : Bool} :
    (decide (x < y) = b → ∀ (p q : Operand) (W : World), (do eqGuard .lss 21 p q (.int .i32 x) (.int .i32 y); binOp .lss 21 (.int .i32 x) (.int .i32 y) : Sem Value).run Tryd.prog W = .ok (.bool b) W)
    ∧ (decide (y < x) = b → ∀ (p q : Operand) (W : World), (do eqGuard .gtr 21 p q (.int .i32 x) (.int .i32 y); binOp .gtr 21 (.int .i32 x) (.int .i32 y) : Sem Value).run Tryd.prog W = .ok (.bool b) W) := by
  refine ⟨fun h p q W => ?_, fun h p q W => ?_⟩
  · go_simp
    try exact h
  · go_simp
    try exact h
theorem kd_eql {x y : Int} {b : Bool} (h : decide (x = y) = b) (p q : Operand) (W : World) : (do eqGuard .eql 22 p q (.int .i64 x) (.int .i64 y); binOp .eql 22 (.int .i64 x) (.int .i64 y) : Sem Value).run Tryd.prog W = .ok (.bool b) W := by
  go_simp
  try exact h
attribute [local irreducible] bvs byteD rb sameZ plainE maxN arcsOk timeOk
set_option maxHeartbeats 4000000 in
theorem equalU_nil {Aa : Option Addr} {na ca : Nat} (w : World) : Calls Tryd.prog 52 #[.slice Aa na ca, .slice none 0 0] w (fun rr w' => rr = .returned (.bool (decide (na = 0))) ∧ Below w.heap.size w w') := by
  refine calls_st (vs := [.slice Aa na ca, .slice none 0 0]) 26 Tryd.func52 rfl Tryd.ntmps52 rfl (fun a W H => ?_)
  replace H : St 26 w a W [(0, .slice Aa na ca), (1, .slice none 0 0)] [] := H
  refine sqR H gs0 fun Z_ z_ => rS 1 rfl <| rN0 z_ ?_
  try clear H a W
  intro a W H
  refine wp_seq_k (fun K2 hK2 => ?_)
  refine sqR H gs0 fun Z_ z_ => rS 1 rfl <| rV rfl (does_len Tryd.underlying24 rfl rfl) <| rS 1 rfl <| rV rfl (does_len Tryd.underlying24 rfl rfl) <| rV rfl (does_binOp rfl rfl rfl (z_cmp.2.2.2 rfl _ _)) <| rK [1, 0, 0, 0, 0] [] [] <| rN0 z_ ?_
  try clear H a W
  intro a W H
  cases hq1 : decide (((na : Nat) : Int) ≠ ((0 : Nat) : Int)) with
  | true =>
    rw [hq1] at H
    have hq1p := of_decide_eq_true hq1
    refine wp_cond_true (H.ev rfl) ?_
    refine sqR H gs0 fun Z_ z_ => rK [1, 0] [] [] <| rS 1 rfl <| rK [1, 0] [] [] <| rN0 z_ ?_
    try clear H a W
    intro a W H
    refine wp_ret ?_
    repeat (first | (with_reducible refine then_ret ?_) | (with_reducible refine blk_ret ?_))
    refine end_tmp (p := 4) rfl rfl H (fun hb => ?_)
    exact ⟨by first | rw [decide_eq_true (p := na = 0) (by omega)] | rw [decide_eq_false (p := na = 0) (by omega)], hb⟩
  | false =>
    rw [hq1] at H
    have hq1p := of_decide_eq_false hq1
    refine wp_cond_false (H.ev rfl) ?_
    refine wp_skip ?_
    refine hK2 _ _ ?_
    clear hK2
    refine wp_seq_k (fun K5 hK5 => ?_)
    refine sqR H gs0 fun Z_ z_ => rS 1 rfl <| rV rfl (does_len Tryd.underlying24 rfl rfl) <| rS 1 rfl <| rK [1, 1, 0, 0] [] [] <| rN0 z_ ?_
    try clear H a W
    intro a W H
    refine wp_block ?_
    refine wp_rounds 0 (fun k a W => St 26 w a W [(13, .int .i64 0), (12, .int .i64 ((na : Nat) : Int)), (4, .bool false), (0, .slice Aa na ca), (1, .slice none 0 0)] []) (k0 := 0) H (by omega) ?_
    try clear H a W
    intro k a W hk H
    refine sqR H gs0 fun Z_ z_ => rV rfl (does_binOp rfl rfl rfl (z_cmp.1 (decide_eq_false (by omega)) _ _)) <| rK [1, 1, 0] [] [] <| rN0 z_ ?_
    try clear H a W
    intro a W H
    refine wp_seq_k (fun K8 hK8 => ?_)
    refine wp_cond_false (H.ev rfl) ?_
    refine wp_exit ?_
    repeat (first | (with_reducible refine then_exit ?_) | (with_reducible refine blk_pass (by decide) ?_))
    refine blk_exit ?_
    refine hK5 _ _ ?_
    clear hK5
    refine sqR H gs0 fun Z_ z_ => rK [1, 1, 0] [] [] <| rS 1 rfl <| rK [1, 0, 0, 0, 0] [] [] <| rN0 z_ ?_
    try clear H a W
    intro a W H
    refine wp_ret ?_
    repeat (first | (with_reducible refine then_ret ?_) | (with_reducible refine blk_ret ?_))
    refine end_tmp (p := 4) rfl rfl H (fun hb => ?_)
    exact ⟨by first | rw [decide_eq_true (p := na = 0) (by omega)] | rw [decide_eq_false (p := na = 0) (by omega)], hb⟩
set_option maxHeartbeats 4000000 in
theorem same_zero {k n : Int} {f : Bool} {t lb : List UInt8} {Ab Aa Ak : Option Addr} {nb cb na ca nk ck : Nat} (w : World) (hFb : BF lb (.slice Ab nb cb) w) : Calls Tryd.prog 35 #[.agg ((DH.mk k f n (SL.mk Ab nb cb) t (SL.mk Aa na ca) (SL.mk Ak nk ck)).cs), .agg ((DH.mk k false 0 SL.no [] SL.no SL.no).cs)] w (fun rr w' => rr = .returned (.bool (sameZ f n t lb na nk)) ∧ Below w.heap.size w w') := by
  refine calls_st (vs := [.agg ((DH.mk k f n (SL.mk Ab nb cb) t (SL.mk Aa na ca) (SL.mk Ak nk ck)).cs), .agg ((DH.mk k false 0 SL.no [] SL.no SL.no).cs)]) 54 Tryd.func35 rfl Tryd.ntmps35 rfl (fun a W H => ?_)
  replace H : St 54 w a W [(0, .agg ((DH.mk k f n (SL.mk Ab nb cb) t (SL.mk Aa na ca) (SL.mk Ak nk ck)).cs)), (1, .agg ((DH.mk k false 0 SL.no [] SL.no SL.no).cs))] [] := H
  refine sqR H gs0 fun Z_ z_ => rB rfl rfl rfl (bx_der (DH.mk k f n (SL.mk Ab nb cb) t (SL.mk Aa na ca) (SL.mk Ak nk ck))) fun g1 => rB rfl rfl rfl (bx_der (DH.mk k false 0 SL.no [] SL.no SL.no)) fun g2 => rS 1 rfl <| rK [1, 1, 1, 0, 0] [] [] <| rN0 z_ ?_
  try clear H a W
  intro a W H
  refine wp_seq_k (fun K2 hK2 => ?_)
  cases hq1 : !f with
  | true =>
    cases hq2 : decide (n = 0) with
    | true =>
      have hq2p := of_decide_eq_true hq2
      cases hq3 : decide (t = []) with
      | true =>
        have hq3p := of_decide_eq_true hq3
        cases hq4 : decide (lb = []) with
        | true =>
          have hq4p := of_decide_eq_true hq4
          cases hq5 : decide (na = 0) with
          | true =>
            have hq5p := of_decide_eq_true hq5
            refine rgP H gs0 (rV rfl (does_fieldAddr rfl rfl fa_der0) <| rV rfl (does_loadAt (v := .int .i64 k) rfl rfl (k := 1) rfl ld_derK) <| rV rfl (does_fieldAddr rfl rfl fa_der0) <| rV rfl (does_loadAt (v := .int .i64 k) rfl rfl (k := 0) rfl ld_derK) <| rV rfl (does_binOp rfl rfl rfl (kd_eql (decide_eq_true rfl) _ _)) <| rS 1 rfl <| rV rfl (does_fieldAddr rfl rfl fa_der1) <| rV rfl (does_loadAt (v := .bool f) rfl rfl (k := 1) rfl (ld_derFb rfl)) <| rV rfl (does_fieldAddr rfl rfl fa_der1) <| rV rfl (does_loadAt (v := .bool false) rfl rfl (k := 0) rfl (ld_derFb rfl)) <| rV rfl (does_binOp rfl rfl rfl (bd_eqlF hq1 _ _)) <| rS 2 rfl <| rV rfl (does_fieldAddr rfl rfl fa_der2) <| rV rfl (does_loadAt (v := .int .i64 n) rfl rfl (k := 1) rfl ld_derN) <| rV rfl (does_fieldAddr rfl rfl fa_der2) <| rV rfl (does_loadAt (v := .int .i64 0) rfl rfl (k := 0) rfl ld_derN) <| rV rfl (does_binOp rfl rfl rfl (i_cmp.2.2 hq2 _ _)) <| rS 2 rfl <| rV rfl (does_fieldAddr rfl rfl fa_der4) <| rV rfl (does_loadAt (v := .string (strB t)) rfl rfl (k := 1) rfl ld_derT) <| rV rfl (does_fieldAddr rfl rfl fa_der4) <| rV rfl (does_loadAt (v := .string (strB [])) rfl rfl (k := 0) rfl ld_derT) <| rV rfl (does_binOp rfl rfl rfl (sd_eql (l := t) (m := []) hq3 _ _)) <| rS 2 rfl <| rV rfl (does_fieldAddr rfl rfl fa_der3) <| rV rfl (does_loadAt (v := .slice Ab nb cb) rfl rfl (k := 1) rfl ld_derB) <| rV rfl (does_fieldAddr rfl rfl fa_der3) <| rV rfl (does_loadAt (v := .slice none 0 0) rfl rfl (k := 0) rfl ld_derB) <| rCV rfl rfl ⟨_, Tryd.func39, by kernel_rfl⟩ rfl (fun a W H _ => (by have h_ := equalB_any (bf_old hFb H) (BF.nil _); rw [hq4] at h_; exact h_)) <| rS 2 rfl <| rV rfl (does_fieldAddr rfl rfl fa_der5) <| rV rfl (does_loadAt (v := .slice Aa na ca) rfl rfl (k := 1) rfl ld_derA) <| rV rfl (does_fieldAddr rfl rfl fa_der5) <| rV rfl (does_loadAt (v := .slice none 0 0) rfl rfl (k := 0) rfl ld_derA) <| rCV rfl rfl ⟨_, Tryd.func52, by kernel_rfl⟩ rfl (fun a W H _ => (by have h_ := equalU_nil (Aa := Aa) (na := na) (ca := ca) W; rw [hq5] at h_; exact h_)) <| rS 2 rfl <| rV rfl (does_fieldAddr rfl rfl fa_der6) <| rV rfl (does_loadAt (v := .slice Ak nk ck) rfl rfl (k := 1) rfl ld_derS) <| rV rfl (does_len Tryd.underlying25 rfl rfl) <| rV rfl (does_fieldAddr rfl rfl fa_der6) <| rV rfl (does_loadAt (v := .slice none 0 0) rfl rfl (k := 0) rfl ld_derS) <| rV rfl (does_len Tryd.underlying25 rfl rfl) <| rV rfl (does_binOp rfl rfl rfl (z_cmp.2.2.1 rfl _ _)) <| rS 1 rfl <| rK [1, 1, 1, 1, 1, 1, 1, 1, 1, 1, 1, 1, 1, 1, 1, 1, 1, 1, 1, 1, 1, 1, 1, 1, 1, 1, 1, 1, 1, 1, 1, 1, 1, 1, 1, 1, 1, 1, 1, 1, 1, 1, 1, 1, 1, 1, 1, 1, 1, 0] [] [] <| rS 1 rfl <| rK [1, 0, 0, 0, 0, 0, 0, 0, 0, 0, 0, 0, 0, 0, 0, 0, 0, 0, 0, 0, 0, 0, 0, 0, 0, 0, 0, 0, 0, 0, 0, 0, 0, 0, 0, 0, 0, 0, 0, 0, 0, 0, 0, 0, 0, 0, 0, 0, 0, 0, 0, 0] [] [] <| rZ0 ?_)
            try clear H a W
            intro a W H
            refine hK2 _ _ ?_
            clear hK2
            refine wp_ret ?_
            repeat (first | (with_reducible refine then_ret ?_) | (with_reducible refine blk_ret ?_))
            refine end_tmp (p := 4) rfl rfl H (fun hb => ?_)
            refine ⟨?_, hb⟩
            unfold sameZ
            simp only [hq1, hq2, hq3, hq4, hq5, Bool.true_and, Bool.and_true, Bool.false_and, Bool.and_false]
            exact congrArg (fun b_ => Ending.returned (.bool b_)) (decide_eq_decide.2 (by omega))
          | false =>
            have hq5p := of_decide_eq_false hq5
            refine rgP H gs0 (rV rfl (does_fieldAddr rfl rfl fa_der0) <| rV rfl (does_loadAt (v := .int .i64 k) rfl rfl (k := 1) rfl ld_derK) <| rV rfl (does_fieldAddr rfl rfl fa_der0) <| rV rfl (does_loadAt (v := .int .i64 k) rfl rfl (k := 0) rfl ld_derK) <| rV rfl (does_binOp rfl rfl rfl (kd_eql (decide_eq_true rfl) _ _)) <| rS 1 rfl <| rV rfl (does_fieldAddr rfl rfl fa_der1) <| rV rfl (does_loadAt (v := .bool f) rfl rfl (k := 1) rfl (ld_derFb rfl)) <| rV rfl (does_fieldAddr rfl rfl fa_der1) <| rV rfl (does_loadAt (v := .bool false) rfl rfl (k := 0) rfl (ld_derFb rfl)) <| rV rfl (does_binOp rfl rfl rfl (bd_eqlF hq1 _ _)) <| rS 2 rfl <| rV rfl (does_fieldAddr rfl rfl fa_der2) <| rV rfl (does_loadAt (v := .int .i64 n) rfl rfl (k := 1) rfl ld_derN) <| rV rfl (does_fieldAddr rfl rfl fa_der2) <| rV rfl (does_loadAt (v := .int .i64 0) rfl rfl (k := 0) rfl ld_derN) <| rV rfl (does_binOp rfl rfl rfl (i_cmp.2.2 hq2 _ _)) <| rS 2 rfl <| rV rfl (does_fieldAddr rfl rfl fa_der4) <| rV rfl (does_loadAt (v := .string (strB t)) rfl rfl (k := 1) rfl ld_derT) <| rV rfl (does_fieldAddr rfl rfl fa_der4) <| rV rfl (does_loadAt (v := .string (strB [])) rfl rfl (k := 0) rfl ld_derT) <| rV rfl (does_binOp rfl rfl rfl (sd_eql (l := t) (m := []) hq3 _ _)) <| rS 2 rfl <| rV rfl (does_fieldAddr rfl rfl fa_der3) <| rV rfl (does_loadAt (v := .slice Ab nb cb) rfl rfl (k := 1) rfl ld_derB) <| rV rfl (does_fieldAddr rfl rfl fa_der3) <| rV rfl (does_loadAt (v := .slice none 0 0) rfl rfl (k := 0) rfl ld_derB) <| rCV rfl rfl ⟨_, Tryd.func39, by kernel_rfl⟩ rfl (fun a W H _ => (by have h_ := equalB_any (bf_old hFb H) (BF.nil _); rw [hq4] at h_; exact h_)) <| rS 2 rfl <| rV rfl (does_fieldAddr rfl rfl fa_der5) <| rV rfl (does_loadAt (v := .slice Aa na ca) rfl rfl (k := 1) rfl ld_derA) <| rV rfl (does_fieldAddr rfl rfl fa_der5) <| rV rfl (does_loadAt (v := .slice none 0 0) rfl rfl (k := 0) rfl ld_derA) <| rCV rfl rfl ⟨_, Tryd.func52, by kernel_rfl⟩ rfl (fun a W H _ => (by have h_ := equalU_nil (Aa := Aa) (na := na) (ca := ca) W; rw [hq5] at h_; exact h_)) <| rS 10 rfl <| rK [1, 1, 1, 1, 1, 1, 1, 1, 1, 1, 1, 1, 1, 1, 1, 1, 1, 1, 1, 1, 1, 1, 1, 1, 1, 1, 1, 1, 1, 1, 1, 1, 1, 1, 1, 1, 1, 1, 1, 1, 1, 1, 1, 1, 1, 1, 1, 1, 1, 0] [] [] <| rS 1 rfl <| rK [1, 0, 0, 0, 0, 0, 0, 0, 0, 0, 0, 0, 0, 0, 0, 0, 0, 0, 0, 0, 0, 0, 0, 0, 0, 0, 0, 0, 0, 0, 0, 0, 0, 0, 0, 0, 0, 0, 0, 0, 0, 0, 0, 0, 0, 0, 0, 0, 0, 0, 0, 0] [] [] <| rZ0 ?_)
            try clear H a W
            intro a W H
            refine hK2 _ _ ?_
            clear hK2
            refine wp_ret ?_
            repeat (first | (with_reducible refine then_ret ?_) | (with_reducible refine blk_ret ?_))
            refine end_tmp (p := 4) rfl rfl H (fun hb => ?_)
            refine ⟨?_, hb⟩
            unfold sameZ
            simp only [hq1, hq2, hq3, hq4, hq5, Bool.true_and, Bool.and_true, Bool.false_and, Bool.and_false]
        | false =>
          have hq4p := of_decide_eq_false hq4
          refine rgP H gs0 (rV rfl (does_fieldAddr rfl rfl fa_der0) <| rV rfl (does_loadAt (v := .int .i64 k) rfl rfl (k := 1) rfl ld_derK) <| rV rfl (does_fieldAddr rfl rfl fa_der0) <| rV rfl (does_loadAt (v := .int .i64 k) rfl rfl (k := 0) rfl ld_derK) <| rV rfl (does_binOp rfl rfl rfl (kd_eql (decide_eq_true rfl) _ _)) <| rS 1 rfl <| rV rfl (does_fieldAddr rfl rfl fa_der1) <| rV rfl (does_loadAt (v := .bool f) rfl rfl (k := 1) rfl (ld_derFb rfl)) <| rV rfl (does_fieldAddr rfl rfl fa_der1) <| rV rfl (does_loadAt (v := .bool false) rfl rfl (k := 0) rfl (ld_derFb rfl)) <| rV rfl (does_binOp rfl rfl rfl (bd_eqlF hq1 _ _)) <| rS 2 rfl <| rV rfl (does_fieldAddr rfl rfl fa_der2) <| rV rfl (does_loadAt (v := .int .i64 n) rfl rfl (k := 1) rfl ld_derN) <| rV rfl (does_fieldAddr rfl rfl fa_der2) <| rV rfl (does_loadAt (v := .int .i64 0) rfl rfl (k := 0) rfl ld_derN) <| rV rfl (does_binOp rfl rfl rfl (i_cmp.2.2 hq2 _ _)) <| rS 2 rfl <| rV rfl (does_fieldAddr rfl rfl fa_der4) <| rV rfl (does_loadAt (v := .string (strB t)) rfl rfl (k := 1) rfl ld_derT) <| rV rfl (does_fieldAddr rfl rfl fa_der4) <| rV rfl (does_loadAt (v := .string (strB [])) rfl rfl (k := 0) rfl ld_derT) <| rV rfl (does_binOp rfl rfl rfl (sd_eql (l := t) (m := []) hq3 _ _)) <| rS 2 rfl <| rV rfl (does_fieldAddr rfl rfl fa_der3) <| rV rfl (does_loadAt (v := .slice Ab nb cb) rfl rfl (k := 1) rfl ld_derB) <| rV rfl (does_fieldAddr rfl rfl fa_der3) <| rV rfl (does_loadAt (v := .slice none 0 0) rfl rfl (k := 0) rfl ld_derB) <| rCV rfl rfl ⟨_, Tryd.func39, by kernel_rfl⟩ rfl (fun a W H _ => (by have h_ := equalB_any (bf_old hFb H) (BF.nil _); rw [hq4] at h_; exact h_)) <| rS 17 rfl <| rK [1, 1, 1, 1, 1, 1, 1, 1, 1, 1, 1, 1, 1, 1, 1, 1, 1, 1, 1, 1, 1, 1, 1, 1, 1, 1, 1, 1, 1, 1, 1, 1, 1, 1, 1, 1, 1, 1, 1, 1, 1, 1, 1, 1, 1, 1, 1, 1, 1, 0] [] [] <| rS 1 rfl <| rK [1, 0, 0, 0, 0, 0, 0, 0, 0, 0, 0, 0, 0, 0, 0, 0, 0, 0, 0, 0, 0, 0, 0, 0, 0, 0, 0, 0, 0, 0, 0, 0, 0, 0, 0, 0, 0, 0, 0, 0, 0, 0, 0, 0, 0, 0, 0, 0, 0, 0, 0, 0] [] [] <| rZ0 ?_)
          try clear H a W
          intro a W H
          refine hK2 _ _ ?_
          clear hK2
          refine wp_ret ?_
          repeat (first | (with_reducible refine then_ret ?_) | (with_reducible refine blk_ret ?_))
          refine end_tmp (p := 4) rfl rfl H (fun hb => ?_)
          refine ⟨?_, hb⟩
          unfold sameZ
          simp only [hq1, hq2, hq3, hq4, Bool.true_and, Bool.and_true, Bool.false_and, Bool.and_false]
      | false =>
        have hq3p := of_decide_eq_false hq3
        refine rgP H gs0 (rV rfl (does_fieldAddr rfl rfl fa_der0) <| rV rfl (does_loadAt (v := .int .i64 k) rfl rfl (k := 1) rfl ld_derK) <| rV rfl (does_fieldAddr rfl rfl fa_der0) <| rV rfl (does_loadAt (v := .int .i64 k) rfl rfl (k := 0) rfl ld_derK) <| rV rfl (does_binOp rfl rfl rfl (kd_eql (decide_eq_true rfl) _ _)) <| rS 1 rfl <| rV rfl (does_fieldAddr rfl rfl fa_der1) <| rV rfl (does_loadAt (v := .bool f) rfl rfl (k := 1) rfl (ld_derFb rfl)) <| rV rfl (does_fieldAddr rfl rfl fa_der1) <| rV rfl (does_loadAt (v := .bool false) rfl rfl (k := 0) rfl (ld_derFb rfl)) <| rV rfl (does_binOp rfl rfl rfl (bd_eqlF hq1 _ _)) <| rS 2 rfl <| rV rfl (does_fieldAddr rfl rfl fa_der2) <| rV rfl (does_loadAt (v := .int .i64 n) rfl rfl (k := 1) rfl ld_derN) <| rV rfl (does_fieldAddr rfl rfl fa_der2) <| rV rfl (does_loadAt (v := .int .i64 0) rfl rfl (k := 0) rfl ld_derN) <| rV rfl (does_binOp rfl rfl rfl (i_cmp.2.2 hq2 _ _)) <| rS 2 rfl <| rV rfl (does_fieldAddr rfl rfl fa_der4) <| rV rfl (does_loadAt (v := .string (strB t)) rfl rfl (k := 1) rfl ld_derT) <| rV rfl (does_fieldAddr rfl rfl fa_der4) <| rV rfl (does_loadAt (v := .string (strB [])) rfl rfl (k := 0) rfl ld_derT) <| rV rfl (does_binOp rfl rfl rfl (sd_eql (l := t) (m := []) hq3 _ _)) <| rS 24 rfl <| rK [1, 1, 1, 1, 1, 1, 1, 1, 1, 1, 1, 1, 1, 1, 1, 1, 1, 1, 1, 1, 1, 1, 1, 1, 1, 1, 1, 1, 1, 1, 1, 1, 1, 1, 1, 1, 1, 1, 1, 1, 1, 1, 1, 1, 1, 1, 1, 1, 1, 0] [] [] <| rS 1 rfl <| rK [1, 0, 0, 0, 0, 0, 0, 0, 0, 0, 0, 0, 0, 0, 0, 0, 0, 0, 0, 0, 0, 0, 0, 0, 0, 0, 0, 0, 0, 0, 0, 0, 0, 0, 0, 0, 0, 0, 0, 0, 0, 0, 0, 0, 0, 0, 0, 0, 0, 0, 0, 0] [] [] <| rZ0 ?_)
        try clear H a W
        intro a W H
        refine hK2 _ _ ?_
        clear hK2
        refine wp_ret ?_
        repeat (first | (with_reducible refine then_ret ?_) | (with_reducible refine blk_ret ?_))
        refine end_tmp (p := 4) rfl rfl H (fun hb => ?_)
        refine ⟨?_, hb⟩
        unfold sameZ
        simp only [hq1, hq2, hq3, Bool.true_and, Bool.and_true, Bool.false_and, Bool.and_false]
    | false =>
      have hq2p := of_decide_eq_false hq2
      refine rgP H gs0 (rV rfl (does_fieldAddr rfl rfl fa_der0) <| rV rfl (does_loadAt (v := .int .i64 k) rfl rfl (k := 1) rfl ld_derK) <| rV rfl (does_fieldAddr rfl rfl fa_der0) <| rV rfl (does_loadAt (v := .int .i64 k) rfl rfl (k := 0) rfl ld_derK) <| rV rfl (does_binOp rfl rfl rfl (kd_eql (decide_eq_true rfl) _ _)) <| rS 1 rfl <| rV rfl (does_fieldAddr rfl rfl fa_der1) <| rV rfl (does_loadAt (v := .bool f) rfl rfl (k := 1) rfl (ld_derFb rfl)) <| rV rfl (does_fieldAddr rfl rfl fa_der1) <| rV rfl (does_loadAt (v := .bool false) rfl rfl (k := 0) rfl (ld_derFb rfl)) <| rV rfl (does_binOp rfl rfl rfl (bd_eqlF hq1 _ _)) <| rS 2 rfl <| rV rfl (does_fieldAddr rfl rfl fa_der2) <| rV rfl (does_loadAt (v := .int .i64 n) rfl rfl (k := 1) rfl ld_derN) <| rV rfl (does_fieldAddr rfl rfl fa_der2) <| rV rfl (does_loadAt (v := .int .i64 0) rfl rfl (k := 0) rfl ld_derN) <| rV rfl (does_binOp rfl rfl rfl (i_cmp.2.2 hq2 _ _)) <| rS 31 rfl <| rK [1, 1, 1, 1, 1, 1, 1, 1, 1, 1, 1, 1, 1, 1, 1, 1, 1, 1, 1, 1, 1, 1, 1, 1, 1, 1, 1, 1, 1, 1, 1, 1, 1, 1, 1, 1, 1, 1, 1, 1, 1, 1, 1, 1, 1, 1, 1, 1, 1, 0] [] [] <| rS 1 rfl <| rK [1, 0, 0, 0, 0, 0, 0, 0, 0, 0, 0, 0, 0, 0, 0, 0, 0, 0, 0, 0, 0, 0, 0, 0, 0, 0, 0, 0, 0, 0, 0, 0, 0, 0, 0, 0, 0, 0, 0, 0, 0, 0, 0, 0, 0, 0, 0, 0, 0, 0, 0, 0] [] [] <| rZ0 ?_)
      try clear H a W
      intro a W H
      refine hK2 _ _ ?_
      clear hK2
      refine wp_ret ?_
      repeat (first | (with_reducible refine then_ret ?_) | (with_reducible refine blk_ret ?_))
      refine end_tmp (p := 4) rfl rfl H (fun hb => ?_)
      refine ⟨?_, hb⟩
      unfold sameZ
      simp only [hq1, hq2, Bool.true_and, Bool.and_true, Bool.false_and, Bool.and_false]
  | false =>
    refine rgP H gs0 (rV rfl (does_fieldAddr rfl rfl fa_der0) <| rV rfl (does_loadAt (v := .int .i64 k) rfl rfl (k := 1) rfl ld_derK) <| rV rfl (does_fieldAddr rfl rfl fa_der0) <| rV rfl (does_loadAt (v := .int .i64 k) rfl rfl (k := 0) rfl ld_derK) <| rV rfl (does_binOp rfl rfl rfl (kd_eql (decide_eq_true rfl) _ _)) <| rS 1 rfl <| rV rfl (does_fieldAddr rfl rfl fa_der1) <| rV rfl (does_loadAt (v := .bool f) rfl rfl (k := 1) rfl (ld_derFb rfl)) <| rV rfl (does_fieldAddr rfl rfl fa_der1) <| rV rfl (does_loadAt (v := .bool false) rfl rfl (k := 0) rfl (ld_derFb rfl)) <| rV rfl (does_binOp rfl rfl rfl (bd_eqlF hq1 _ _)) <| rS 38 rfl <| rK [1, 1, 1, 1, 1, 1, 1, 1, 1, 1, 1, 1, 1, 1, 1, 1, 1, 1, 1, 1, 1, 1, 1, 1, 1, 1, 1, 1, 1, 1, 1, 1, 1, 1, 1, 1, 1, 1, 1, 1, 1, 1, 1, 1, 1, 1, 1, 1, 1, 0] [] [] <| rS 1 rfl <| rK [1, 0, 0, 0, 0, 0, 0, 0, 0, 0, 0, 0, 0, 0, 0, 0, 0, 0, 0, 0, 0, 0, 0, 0, 0, 0, 0, 0, 0, 0, 0, 0, 0, 0, 0, 0, 0, 0, 0, 0, 0, 0, 0, 0, 0, 0, 0, 0, 0, 0, 0, 0] [] [] <| rZ0 ?_)
    try clear H a W
    intro a W H
    refine hK2 _ _ ?_
    clear hK2
    refine wp_ret ?_
    repeat (first | (with_reducible refine then_ret ?_) | (with_reducible refine blk_ret ?_))
    refine end_tmp (p := 4) rfl rfl H (fun hb => ?_)
    refine ⟨?_, hb⟩
    unfold sameZ
    simp only [hq1, Bool.true_and, Bool.and_true, Bool.false_and, Bool.and_false]
set_option maxHeartbeats 4000000 in
theorem is_plain {k n : Int} {f : Bool} {t lb : List UInt8} {Ab Aa Ak : Option Addr} {nb cb na ca nk ck : Nat} (w : World) (hFb : BF lb (.slice Ab nb cb) w) : Calls Tryd.prog 69 #[.agg ((DH.mk k f n (SL.mk Ab nb cb) t (SL.mk Aa na ca) (SL.mk Ak nk ck)).cs)] w (fun rr w' => rr = .returned (.bool (plainE k f n t lb na nk)) ∧ Below w.heap.size w w') := by
  refine calls_st (vs := [.agg ((DH.mk k f n (SL.mk Ab nb cb) t (SL.mk Aa na ca) (SL.mk Ak nk ck)).cs)]) 34 Tryd.func69 rfl Tryd.ntmps69 rfl (fun a W H => ?_)
  replace H : St 34 w a W [(0, .agg ((DH.mk k f n (SL.mk Ab nb cb) t (SL.mk Aa na ca) (SL.mk Ak nk ck)).cs))] [] := H
  refine sqR H gs0 fun Z_ z_ => rB rfl rfl rfl (bx_der (DH.mk k f n (SL.mk Ab nb cb) t (SL.mk Aa na ca) (SL.mk Ak nk ck))) fun g1 => rS 1 rfl <| rK [1, 1, 0] [] [] <| rN0 z_ ?_
  try clear H a W
  intro a W H
  refine wp_seq_k (fun K2 hK2 => ?_)
  refine sqR H gs0 fun Z_ z_ => rV rfl (does_fieldAddr rfl rfl fa_der0) <| rV rfl (does_loadAt (v := .int .i64 k) rfl rfl (k := 0) rfl ld_derK) <| rK [1, 0] [] [] <| rN0 z_ ?_
  try clear H a W
  intro a W H
  refine wp_block ?_
  refine wp_seq_k (fun K4 hK4 => ?_)
  refine wp_block ?_
  refine wp_seq_k (fun K5 hK5 => ?_)
  refine wp_block ?_
  refine wp_seq_k (fun K6 hK6 => ?_)
  refine wp_block ?_
  refine wp_seq_k (fun K7 hK7 => ?_)
  refine wp_block ?_
  refine wp_seq_k (fun K8 hK8 => ?_)
  refine wp_block ?_
  refine wp_seq_k (fun K9 hK9 => ?_)
  refine wp_block ?_
  refine wp_seq_k (fun K10 hK10 => ?_)
  refine wp_block ?_
  refine wp_seq_k (fun K11 hK11 => ?_)
  refine wp_block ?_
  refine wp_seq_k (fun K12 hK12 => ?_)
  refine wp_seq_k (fun K13 hK13 => ?_)
  refine sqR H gs0 fun Z_ z_ => rV rfl (does_binOp rfl rfl rfl (kd_eql rfl _ _)) <| rS 1 rfl <| rK [1, 0] [] [] <| rN0 z_ ?_
  try clear H a W
  intro a W H
  cases hq1 : decide (k = 1) with
  | true =>
    rw [hq1] at H
    have hq1p := of_decide_eq_true hq1
    refine wp_cond_true (H.ev rfl) ?_
    refine wp_exit ?_
    repeat (first | (with_reducible refine then_exit ?_) | (with_reducible refine blk_pass (by decide) ?_))
    refine blk_exit ?_
    refine hK11 _ _ ?_
    clear hK11
    refine sqR H gs0 fun Z_ z_ => rV rfl (does_fieldAddr rfl rfl fa_der1) <| rX [1] (c := (DH.mk k false n (SL.mk Ab nb cb) t (SL.mk Aa na ca) (SL.mk Ak nk ck)).cs) ⟨rfl, rfl⟩ rfl rfl rfl (st_derF (u := false)) sv_derF <| rK [0, 0, 0] [] [] <| rN0 z_ ?_
    try clear H a W
    intro a W H
    refine wp_exit ?_
    repeat (first | (with_reducible refine then_exit ?_) | (with_reducible refine blk_pass (by decide) ?_))
    refine blk_exit ?_
    refine hK2 _ _ ?_
    clear hK2
    refine sqR H gs0 fun Z_ z_ => rV rfl (does_load rfl rfl (k := 0) rfl Tryd.underlying27 rfl (info_der (DH.mk k false n (SL.mk Ab nb cb) t (SL.mk Aa na ca) (SL.mk Ak nk ck)))) <| rV rfl (does_fieldAddr rfl rfl fa_der0) <| rV rfl (does_loadAt (v := .int .i64 k) rfl rfl (k := 0) rfl ld_derK) <| rV rfl (does_build rfl rfl (bd_derK k)) <| rCV rfl rfl ⟨_, Tryd.func35, by kernel_rfl⟩ rfl (fun a W H _ => (same_zero (nb := nb) _ ((bf_old hFb H)))) <| rK [1, 1, 1, 1, 1, 0] [] [] <| rS 1 rfl <| rK [1, 0, 0, 0, 0, 0, 0] [] [] <| rN0 z_ ?_
    try clear H a W
    intro a W H
    refine wp_ret ?_
    repeat (first | (with_reducible refine then_ret ?_) | (with_reducible refine blk_ret ?_))
    refine end_tmp (p := 2) rfl rfl H (fun hb => ?_)
    exact ⟨congrArg (fun b_ => Ending.returned (.bool b_)) ((plain_is (k := k) (f := f) (n := n) (t := t) (lb := lb) (na := na) (nk := nk)).1 (by omega)), hb⟩
  | false =>
    rw [hq1] at H
    have hq1p := of_decide_eq_false hq1
    refine wp_cond_false (H.ev rfl) ?_
    refine wp_skip ?_
    refine hK13 _ _ ?_
    clear hK13
    refine wp_seq_k (fun K17 hK17 => ?_)
    refine sqR H gs0 fun Z_ z_ => rV rfl (does_binOp rfl rfl rfl (kd_eql rfl _ _)) <| rS 1 rfl <| rK [1, 0, 0] [] [] <| rN0 z_ ?_
    try clear H a W
    intro a W H
    cases hq2 : decide (k = 2) with
    | true =>
      rw [hq2] at H
      have hq2p := of_decide_eq_true hq2
      refine wp_cond_true (H.ev rfl) ?_
      refine wp_exit ?_
      repeat (first | (with_reducible refine then_exit ?_) | (with_reducible refine blk_pass (by decide) ?_))
      refine blk_exit ?_
      refine hK10 _ _ ?_
      clear hK10
      refine sqR H gs0 fun Z_ z_ => rV rfl (does_fieldAddr rfl rfl fa_der2) <| rX [1] (c := (DH.mk k f 0 (SL.mk Ab nb cb) t (SL.mk Aa na ca) (SL.mk Ak nk ck)).cs) ⟨rfl, rfl⟩ rfl rfl rfl (st_derN (u := 0)) sv_derN <| rK [0, 0, 0] [] [] <| rN0 z_ ?_
      try clear H a W
      intro a W H
      refine wp_exit ?_
      repeat (first | (with_reducible refine then_exit ?_) | (with_reducible refine blk_pass (by decide) ?_))
      refine blk_exit ?_
      refine hK2 _ _ ?_
      clear hK2
      refine sqR H gs0 fun Z_ z_ => rV rfl (does_load rfl rfl (k := 0) rfl Tryd.underlying27 rfl (info_der (DH.mk k f 0 (SL.mk Ab nb cb) t (SL.mk Aa na ca) (SL.mk Ak nk ck)))) <| rV rfl (does_fieldAddr rfl rfl fa_der0) <| rV rfl (does_loadAt (v := .int .i64 k) rfl rfl (k := 0) rfl ld_derK) <| rV rfl (does_build rfl rfl (bd_derK k)) <| rCV rfl rfl ⟨_, Tryd.func35, by kernel_rfl⟩ rfl (fun a W H _ => (same_zero (nb := nb) _ ((bf_old hFb H)))) <| rK [1, 1, 1, 1, 1, 0] [] [] <| rS 1 rfl <| rK [1, 0, 0, 0, 0, 0, 0] [] [] <| rN0 z_ ?_
      try clear H a W
      intro a W H
      refine wp_ret ?_
      repeat (first | (with_reducible refine then_ret ?_) | (with_reducible refine blk_ret ?_))
      refine end_tmp (p := 2) rfl rfl H (fun hb => ?_)
      exact ⟨congrArg (fun b_ => Ending.returned (.bool b_)) ((plain_is (k := k) (f := f) (n := n) (t := t) (lb := lb) (na := na) (nk := nk)).2.1 (by omega)), hb⟩
    | false =>
      rw [hq2] at H
      have hq2p := of_decide_eq_false hq2
      refine wp_cond_false (H.ev rfl) ?_
      refine wp_skip ?_
      refine hK17 _ _ ?_
      clear hK17
      refine wp_seq_k (fun K21 hK21 => ?_)
      refine wp_seq_k (fun K22 hK22 => ?_)
      refine sqR H gs0 fun Z_ z_ => rV rfl (does_binOp rfl rfl rfl (kd_eql rfl _ _)) <| rS 1 rfl <| rK [1, 0, 0] [] [] <| rN0 z_ ?_
      try clear H a W
      intro a W H
      cases hq3 : decide (k = 3) with
      | true =>
        rw [hq3] at H
        have hq3p := of_decide_eq_true hq3
        refine wp_cond_true (H.ev rfl) ?_
        refine wp_skip ?_
        refine hK22 _ _ ?_
        clear hK22
        refine wp_cond_true (H.ev rfl) ?_
        refine wp_exit ?_
        repeat (first | (with_reducible refine then_exit ?_) | (with_reducible refine blk_pass (by decide) ?_))
        refine blk_exit ?_
        refine hK9 _ _ ?_
        clear hK9
        refine sqR H gs0 fun Z_ z_ => rV rfl (does_fieldAddr rfl rfl fa_der3) <| rX [1] (c := (DH.mk k f n (SL.mk none 0 0) t (SL.mk Aa na ca) (SL.mk Ak nk ck)).cs) ⟨rfl, rfl⟩ rfl rfl rfl (st_derB (u := (SL.mk none 0 0))) sv_derB <| rK [0, 0, 0] [] [] <| rN0 z_ ?_
        try clear H a W
        intro a W H
        refine wp_exit ?_
        repeat (first | (with_reducible refine then_exit ?_) | (with_reducible refine blk_pass (by decide) ?_))
        refine blk_exit ?_
        refine hK2 _ _ ?_
        clear hK2
        refine sqR H gs0 fun Z_ z_ => rV rfl (does_load rfl rfl (k := 0) rfl Tryd.underlying27 rfl (info_der (DH.mk k f n (SL.mk none 0 0) t (SL.mk Aa na ca) (SL.mk Ak nk ck)))) <| rV rfl (does_fieldAddr rfl rfl fa_der0) <| rV rfl (does_loadAt (v := .int .i64 k) rfl rfl (k := 0) rfl ld_derK) <| rV rfl (does_build rfl rfl (bd_derK k)) <| rCV rfl rfl ⟨_, Tryd.func35, by kernel_rfl⟩ rfl (fun a W H _ => (same_zero (nb := 0) _ (BF.nil _))) <| rK [1, 1, 1, 1, 1, 0] [] [] <| rS 1 rfl <| rK [1, 0, 0, 0, 0, 0, 0] [] [] <| rN0 z_ ?_
        try clear H a W
        intro a W H
        refine wp_ret ?_
        repeat (first | (with_reducible refine then_ret ?_) | (with_reducible refine blk_ret ?_))
        refine end_tmp (p := 2) rfl rfl H (fun hb => ?_)
        exact ⟨congrArg (fun b_ => Ending.returned (.bool b_)) ((plain_is (k := k) (f := f) (n := n) (t := t) (lb := lb) (na := na) (nk := nk)).2.2.1 (by omega)), hb⟩
      | false =>
        rw [hq3] at H
        have hq3p := of_decide_eq_false hq3
        refine wp_cond_false (H.ev rfl) ?_
        refine rgP H gs0 (rV rfl (does_binOp rfl rfl rfl (kd_eql rfl _ _)) <| rK [1, 0] [] [] <| rS 1 rfl <| rK [1, 0] [] [] <| rZ0 ?_)
        try clear H a W
        intro a W H
        refine hK22 _ _ ?_
        clear hK22
        cases hq4 : decide (k = 4) with
        | true =>
          rw [hq4] at H
          have hq4p := of_decide_eq_true hq4
          refine wp_cond_true (H.ev rfl) ?_
          refine wp_exit ?_
          repeat (first | (with_reducible refine then_exit ?_) | (with_reducible refine blk_pass (by decide) ?_))
          refine blk_exit ?_
          refine hK9 _ _ ?_
          clear hK9
          refine sqR H gs0 fun Z_ z_ => rV rfl (does_fieldAddr rfl rfl fa_der3) <| rX [1] (c := (DH.mk k f n (SL.mk none 0 0) t (SL.mk Aa na ca) (SL.mk Ak nk ck)).cs) ⟨rfl, rfl⟩ rfl rfl rfl (st_derB (u := (SL.mk none 0 0))) sv_derB <| rK [0, 0, 0] [] [] <| rN0 z_ ?_
          try clear H a W
          intro a W H
          refine wp_exit ?_
          repeat (first | (with_reducible refine then_exit ?_) | (with_reducible refine blk_pass (by decide) ?_))
          refine blk_exit ?_
          refine hK2 _ _ ?_
          clear hK2
          refine sqR H gs0 fun Z_ z_ => rV rfl (does_load rfl rfl (k := 0) rfl Tryd.underlying27 rfl (info_der (DH.mk k f n (SL.mk none 0 0) t (SL.mk Aa na ca) (SL.mk Ak nk ck)))) <| rV rfl (does_fieldAddr rfl rfl fa_der0) <| rV rfl (does_loadAt (v := .int .i64 k) rfl rfl (k := 0) rfl ld_derK) <| rV rfl (does_build rfl rfl (bd_derK k)) <| rCV rfl rfl ⟨_, Tryd.func35, by kernel_rfl⟩ rfl (fun a W H _ => (same_zero (nb := 0) _ (BF.nil _))) <| rK [1, 1, 1, 1, 1, 0] [] [] <| rS 1 rfl <| rK [1, 0, 0, 0, 0, 0, 0] [] [] <| rN0 z_ ?_
          try clear H a W
          intro a W H
          refine wp_ret ?_
          repeat (first | (with_reducible refine then_ret ?_) | (with_reducible refine blk_ret ?_))
          refine end_tmp (p := 2) rfl rfl H (fun hb => ?_)
          exact ⟨congrArg (fun b_ => Ending.returned (.bool b_)) ((plain_is (k := k) (f := f) (n := n) (t := t) (lb := lb) (na := na) (nk := nk)).2.2.1 (by omega)), hb⟩
        | false =>
          rw [hq4] at H
          have hq4p := of_decide_eq_false hq4
          refine wp_cond_false (H.ev rfl) ?_
          refine wp_skip ?_
          refine hK21 _ _ ?_
          clear hK21
          refine wp_seq_k (fun K28 hK28 => ?_)
          refine sqR H gs0 fun Z_ z_ => rV rfl (does_binOp rfl rfl rfl (kd_eql rfl _ _)) <| rS 1 rfl <| rK [1, 0, 0] [] [] <| rN0 z_ ?_
          try clear H a W
          intro a W H
          cases hq5 : decide (k = 5) with
          | true =>
            rw [hq5] at H
            have hq5p := of_decide_eq_true hq5
            refine wp_cond_true (H.ev rfl) ?_
            refine wp_exit ?_
            repeat (first | (with_reducible refine then_exit ?_) | (with_reducible refine blk_pass (by decide) ?_))
            refine blk_exit ?_
            refine hK8 _ _ ?_
            clear hK8
            refine sqR H gs0 fun Z_ z_ => rV rfl (does_fieldAddr rfl rfl fa_der5) <| rX [1] (c := (DH.mk k f n (SL.mk Ab nb cb) t (SL.mk none 0 0) (SL.mk Ak nk ck)).cs) ⟨rfl, rfl⟩ rfl rfl rfl (st_derA (u := (SL.mk none 0 0))) sv_derA <| rK [0, 0, 0] [] [] <| rN0 z_ ?_
            try clear H a W
            intro a W H
            refine wp_exit ?_
            repeat (first | (with_reducible refine then_exit ?_) | (with_reducible refine blk_pass (by decide) ?_))
            refine blk_exit ?_
            refine hK2 _ _ ?_
            clear hK2
            refine sqR H gs0 fun Z_ z_ => rV rfl (does_load rfl rfl (k := 0) rfl Tryd.underlying27 rfl (info_der (DH.mk k f n (SL.mk Ab nb cb) t (SL.mk none 0 0) (SL.mk Ak nk ck)))) <| rV rfl (does_fieldAddr rfl rfl fa_der0) <| rV rfl (does_loadAt (v := .int .i64 k) rfl rfl (k := 0) rfl ld_derK) <| rV rfl (does_build rfl rfl (bd_derK k)) <| rCV rfl rfl ⟨_, Tryd.func35, by kernel_rfl⟩ rfl (fun a W H _ => (same_zero (nb := nb) _ ((bf_old hFb H)))) <| rK [1, 1, 1, 1, 1, 0] [] [] <| rS 1 rfl <| rK [1, 0, 0, 0, 0, 0, 0] [] [] <| rN0 z_ ?_
            try clear H a W
            intro a W H
            refine wp_ret ?_
            repeat (first | (with_reducible refine then_ret ?_) | (with_reducible refine blk_ret ?_))
            refine end_tmp (p := 2) rfl rfl H (fun hb => ?_)
            exact ⟨congrArg (fun b_ => Ending.returned (.bool b_)) ((plain_is (k := k) (f := f) (n := n) (t := t) (lb := lb) (na := na) (nk := nk)).2.2.2.1 (by omega)), hb⟩
          | false =>
            rw [hq5] at H
            have hq5p := of_decide_eq_false hq5
            refine wp_cond_false (H.ev rfl) ?_
            refine wp_skip ?_
            refine hK28 _ _ ?_
            clear hK28
            refine wp_seq_k (fun K32 hK32 => ?_)
            refine wp_seq_k (fun K33 hK33 => ?_)
            refine sqR H gs0 fun Z_ z_ => rV rfl (does_binOp rfl rfl rfl (kd_eql rfl _ _)) <| rS 1 rfl <| rK [1, 0, 0] [] [] <| rN0 z_ ?_
            try clear H a W
            intro a W H
            cases hq6 : decide (k = 6) with
            | true =>
              rw [hq6] at H
              have hq6p := of_decide_eq_true hq6
              refine wp_cond_true (H.ev rfl) ?_
              refine wp_skip ?_
              refine hK33 _ _ ?_
              clear hK33
              refine wp_cond_true (H.ev rfl) ?_
              refine wp_exit ?_
              repeat (first | (with_reducible refine then_exit ?_) | (with_reducible refine blk_pass (by decide) ?_))
              refine blk_exit ?_
              refine hK7 _ _ ?_
              clear hK7
              refine sqR H gs0 fun Z_ z_ => rV rfl (does_fieldAddr rfl rfl fa_der4) <| rX [1] (c := (DH.mk k f n (SL.mk Ab nb cb) [] (SL.mk Aa na ca) (SL.mk Ak nk ck)).cs) ⟨rfl, rfl⟩ rfl rfl rfl (st_derT (u := [])) sv_derT <| rK [0, 0, 0] [] [] <| rN0 z_ ?_
              try clear H a W
              intro a W H
              refine wp_exit ?_
              repeat (first | (with_reducible refine then_exit ?_) | (with_reducible refine blk_pass (by decide) ?_))
              refine blk_exit ?_
              refine hK2 _ _ ?_
              clear hK2
              refine sqR H gs0 fun Z_ z_ => rV rfl (does_load rfl rfl (k := 0) rfl Tryd.underlying27 rfl (info_der (DH.mk k f n (SL.mk Ab nb cb) [] (SL.mk Aa na ca) (SL.mk Ak nk ck)))) <| rV rfl (does_fieldAddr rfl rfl fa_der0) <| rV rfl (does_loadAt (v := .int .i64 k) rfl rfl (k := 0) rfl ld_derK) <| rV rfl (does_build rfl rfl (bd_derK k)) <| rCV rfl rfl ⟨_, Tryd.func35, by kernel_rfl⟩ rfl (fun a W H _ => (same_zero (nb := nb) _ ((bf_old hFb H)))) <| rK [1, 1, 1, 1, 1, 0] [] [] <| rS 1 rfl <| rK [1, 0, 0, 0, 0, 0, 0] [] [] <| rN0 z_ ?_
              try clear H a W
              intro a W H
              refine wp_ret ?_
              repeat (first | (with_reducible refine then_ret ?_) | (with_reducible refine blk_ret ?_))
              refine end_tmp (p := 2) rfl rfl H (fun hb => ?_)
              exact ⟨congrArg (fun b_ => Ending.returned (.bool b_)) ((plain_is (k := k) (f := f) (n := n) (t := t) (lb := lb) (na := na) (nk := nk)).2.2.2.2.1 (by omega)), hb⟩
            | false =>
              rw [hq6] at H
              have hq6p := of_decide_eq_false hq6
              refine wp_cond_false (H.ev rfl) ?_
              refine rgP H gs0 (rV rfl (does_binOp rfl rfl rfl (kd_eql rfl _ _)) <| rK [1, 0] [] [] <| rS 1 rfl <| rK [1, 0] [] [] <| rZ0 ?_)
              try clear H a W
              intro a W H
              refine hK33 _ _ ?_
              clear hK33
              cases hq7 : decide (k = 10) with
              | true =>
                rw [hq7] at H
                have hq7p := of_decide_eq_true hq7
                refine wp_cond_true (H.ev rfl) ?_
                refine wp_exit ?_
                repeat (first | (with_reducible refine then_exit ?_) | (with_reducible refine blk_pass (by decide) ?_))
                refine blk_exit ?_
                refine hK7 _ _ ?_
                clear hK7
                refine sqR H gs0 fun Z_ z_ => rV rfl (does_fieldAddr rfl rfl fa_der4) <| rX [1] (c := (DH.mk k f n (SL.mk Ab nb cb) [] (SL.mk Aa na ca) (SL.mk Ak nk ck)).cs) ⟨rfl, rfl⟩ rfl rfl rfl (st_derT (u := [])) sv_derT <| rK [0, 0, 0] [] [] <| rN0 z_ ?_
                try clear H a W
                intro a W H
                refine wp_exit ?_
                repeat (first | (with_reducible refine then_exit ?_) | (with_reducible refine blk_pass (by decide) ?_))
                refine blk_exit ?_
                refine hK2 _ _ ?_
                clear hK2
                refine sqR H gs0 fun Z_ z_ => rV rfl (does_load rfl rfl (k := 0) rfl Tryd.underlying27 rfl (info_der (DH.mk k f n (SL.mk Ab nb cb) [] (SL.mk Aa na ca) (SL.mk Ak nk ck)))) <| rV rfl (does_fieldAddr rfl rfl fa_der0) <| rV rfl (does_loadAt (v := .int .i64 k) rfl rfl (k := 0) rfl ld_derK) <| rV rfl (does_build rfl rfl (bd_derK k)) <| rCV rfl rfl ⟨_, Tryd.func35, by kernel_rfl⟩ rfl (fun a W H _ => (same_zero (nb := nb) _ ((bf_old hFb H)))) <| rK [1, 1, 1, 1, 1, 0] [] [] <| rS 1 rfl <| rK [1, 0, 0, 0, 0, 0, 0] [] [] <| rN0 z_ ?_
                try clear H a W
                intro a W H
                refine wp_ret ?_
                repeat (first | (with_reducible refine then_ret ?_) | (with_reducible refine blk_ret ?_))
                refine end_tmp (p := 2) rfl rfl H (fun hb => ?_)
                exact ⟨congrArg (fun b_ => Ending.returned (.bool b_)) ((plain_is (k := k) (f := f) (n := n) (t := t) (lb := lb) (na := na) (nk := nk)).2.2.2.2.1 (by omega)), hb⟩
              | false =>
                rw [hq7] at H
                have hq7p := of_decide_eq_false hq7
                refine wp_cond_false (H.ev rfl) ?_
                refine wp_skip ?_
                refine hK32 _ _ ?_
                clear hK32
                refine wp_seq_k (fun K39 hK39 => ?_)
                refine sqR H gs0 fun Z_ z_ => rV rfl (does_binOp rfl rfl rfl (kd_eql rfl _ _)) <| rS 1 rfl <| rK [1, 0, 0] [] [] <| rN0 z_ ?_
                try clear H a W
                intro a W H
                cases hq8 : decide (k = 8) with
                | true =>
                  rw [hq8] at H
                  have hq8p := of_decide_eq_true hq8
                  refine wp_cond_true (H.ev rfl) ?_
                  refine wp_exit ?_
                  repeat (first | (with_reducible refine then_exit ?_) | (with_reducible refine blk_pass (by decide) ?_))
                  refine blk_exit ?_
                  refine hK6 _ _ ?_
                  clear hK6
                  refine rgP H gs0 (rV rfl (does_fieldAddr rfl rfl fa_der2) <| rX [1] (c := (DH.mk k f 0 (SL.mk Ab nb cb) t (SL.mk Aa na ca) (SL.mk Ak nk ck)).cs) ⟨rfl, rfl⟩ rfl rfl rfl (st_derN (u := 0)) sv_derN <| rK [0, 0, 0] [] [] <| rZ0 ?_)
                  try clear H a W
                  intro a W H
                  refine blk_normal ?_
                  refine hK5 _ _ ?_
                  clear hK5
                  refine sqR H gs0 fun Z_ z_ => rV rfl (does_fieldAddr rfl rfl fa_der6) <| rX [1] (c := (DH.mk k f 0 (SL.mk Ab nb cb) t (SL.mk Aa na ca) (SL.mk none 0 0)).cs) ⟨rfl, rfl⟩ rfl rfl rfl (st_derS (u := (SL.mk none 0 0))) sv_derS <| rK [0] [] [] <| rN0 z_ ?_
                  try clear H a W
                  intro a W H
                  refine wp_exit ?_
                  repeat (first | (with_reducible refine then_exit ?_) | (with_reducible refine blk_pass (by decide) ?_))
                  refine blk_exit ?_
                  refine hK2 _ _ ?_
                  clear hK2
                  refine sqR H gs0 fun Z_ z_ => rV rfl (does_load rfl rfl (k := 0) rfl Tryd.underlying27 rfl (info_der (DH.mk k f 0 (SL.mk Ab nb cb) t (SL.mk Aa na ca) (SL.mk none 0 0)))) <| rV rfl (does_fieldAddr rfl rfl fa_der0) <| rV rfl (does_loadAt (v := .int .i64 k) rfl rfl (k := 0) rfl ld_derK) <| rV rfl (does_build rfl rfl (bd_derK k)) <| rCV rfl rfl ⟨_, Tryd.func35, by kernel_rfl⟩ rfl (fun a W H _ => (same_zero (nb := nb) _ ((bf_old hFb H)))) <| rK [1, 1, 1, 1, 1, 0] [] [] <| rS 1 rfl <| rK [1, 0, 0, 0, 0, 0, 0] [] [] <| rN0 z_ ?_
                  try clear H a W
                  intro a W H
                  refine wp_ret ?_
                  repeat (first | (with_reducible refine then_ret ?_) | (with_reducible refine blk_ret ?_))
                  refine end_tmp (p := 2) rfl rfl H (fun hb => ?_)
                  exact ⟨congrArg (fun b_ => Ending.returned (.bool b_)) ((plain_is (k := k) (f := f) (n := n) (t := t) (lb := lb) (na := na) (nk := nk)).2.2.2.2.2.1 (by omega)), hb⟩
                | false =>
                  rw [hq8] at H
                  have hq8p := of_decide_eq_false hq8
                  refine wp_cond_false (H.ev rfl) ?_
                  refine wp_skip ?_
                  refine hK39 _ _ ?_
                  clear hK39
                  refine wp_seq_k (fun K43 hK43 => ?_)
                  refine sqR H gs0 fun Z_ z_ => rV rfl (does_binOp rfl rfl rfl (kd_eql rfl _ _)) <| rS 1 rfl <| rK [1, 0, 0] [] [] <| rN0 z_ ?_
                  try clear H a W
                  intro a W H
                  cases hq9 : decide (k = 7) with
                  | true =>
                    rw [hq9] at H
                    have hq9p := of_decide_eq_true hq9
                    refine wp_cond_true (H.ev rfl) ?_
                    refine wp_skip ?_
                    refine hK43 _ _ ?_
                    clear hK43
                    refine wp_cond_true (H.ev rfl) ?_
                    refine wp_exit ?_
                    repeat (first | (with_reducible refine then_exit ?_) | (with_reducible refine blk_pass (by decide) ?_))
                    refine blk_exit ?_
                    refine hK5 _ _ ?_
                    clear hK5
                    refine sqR H gs0 fun Z_ z_ => rV rfl (does_fieldAddr rfl rfl fa_der6) <| rX [1] (c := (DH.mk k f n (SL.mk Ab nb cb) t (SL.mk Aa na ca) (SL.mk none 0 0)).cs) ⟨rfl, rfl⟩ rfl rfl rfl (st_derS (u := (SL.mk none 0 0))) sv_derS <| rK [0, 0, 0] [] [] <| rN0 z_ ?_
                    try clear H a W
                    intro a W H
                    refine wp_exit ?_
                    repeat (first | (with_reducible refine then_exit ?_) | (with_reducible refine blk_pass (by decide) ?_))
                    refine blk_exit ?_
                    refine hK2 _ _ ?_
                    clear hK2
                    refine sqR H gs0 fun Z_ z_ => rV rfl (does_load rfl rfl (k := 0) rfl Tryd.underlying27 rfl (info_der (DH.mk k f n (SL.mk Ab nb cb) t (SL.mk Aa na ca) (SL.mk none 0 0)))) <| rV rfl (does_fieldAddr rfl rfl fa_der0) <| rV rfl (does_loadAt (v := .int .i64 k) rfl rfl (k := 0) rfl ld_derK) <| rV rfl (does_build rfl rfl (bd_derK k)) <| rCV rfl rfl ⟨_, Tryd.func35, by kernel_rfl⟩ rfl (fun a W H _ => (same_zero (nb := nb) _ ((bf_old hFb H)))) <| rK [1, 1, 1, 1, 1, 0] [] [] <| rS 1 rfl <| rK [1, 0, 0, 0, 0, 0, 0] [] [] <| rN0 z_ ?_
                    try clear H a W
                    intro a W H
                    refine wp_ret ?_
                    repeat (first | (with_reducible refine then_ret ?_) | (with_reducible refine blk_ret ?_))
                    refine end_tmp (p := 2) rfl rfl H (fun hb => ?_)
                    exact ⟨congrArg (fun b_ => Ending.returned (.bool b_)) ((plain_is (k := k) (f := f) (n := n) (t := t) (lb := lb) (na := na) (nk := nk)).2.2.2.2.2.2 (by omega)), hb⟩
                  | false =>
                    rw [hq9] at H
                    have hq9p := of_decide_eq_false hq9
                    refine wp_cond_false (H.ev rfl) ?_
                    refine rgP H gs0 (rV rfl (does_binOp rfl rfl rfl (kd_eql rfl _ _)) <| rK [1, 0] [] [] <| rS 1 rfl <| rK [1, 0, 0] [] [] <| rZ0 ?_)
                    try clear H a W
                    intro a W H
                    refine hK43 _ _ ?_
                    clear hK43
                    cases hq10 : decide (k = 9) with
                    | true =>
                      rw [hq10] at H
                      have hq10p := of_decide_eq_true hq10
                      refine wp_cond_true (H.ev rfl) ?_
                      refine wp_exit ?_
                      repeat (first | (with_reducible refine then_exit ?_) | (with_reducible refine blk_pass (by decide) ?_))
                      refine blk_exit ?_
                      refine hK5 _ _ ?_
                      clear hK5
                      refine sqR H gs0 fun Z_ z_ => rV rfl (does_fieldAddr rfl rfl fa_der6) <| rX [1] (c := (DH.mk k f n (SL.mk Ab nb cb) t (SL.mk Aa na ca) (SL.mk none 0 0)).cs) ⟨rfl, rfl⟩ rfl rfl rfl (st_derS (u := (SL.mk none 0 0))) sv_derS <| rK [0, 0] [] [] <| rN0 z_ ?_
                      try clear H a W
                      intro a W H
                      refine wp_exit ?_
                      repeat (first | (with_reducible refine then_exit ?_) | (with_reducible refine blk_pass (by decide) ?_))
                      refine blk_exit ?_
                      refine hK2 _ _ ?_
                      clear hK2
                      refine sqR H gs0 fun Z_ z_ => rV rfl (does_load rfl rfl (k := 0) rfl Tryd.underlying27 rfl (info_der (DH.mk k f n (SL.mk Ab nb cb) t (SL.mk Aa na ca) (SL.mk none 0 0)))) <| rV rfl (does_fieldAddr rfl rfl fa_der0) <| rV rfl (does_loadAt (v := .int .i64 k) rfl rfl (k := 0) rfl ld_derK) <| rV rfl (does_build rfl rfl (bd_derK k)) <| rCV rfl rfl ⟨_, Tryd.func35, by kernel_rfl⟩ rfl (fun a W H _ => (same_zero (nb := nb) _ ((bf_old hFb H)))) <| rK [1, 1, 1, 1, 1, 0] [] [] <| rS 1 rfl <| rK [1, 0, 0, 0, 0, 0, 0] [] [] <| rN0 z_ ?_
                      try clear H a W
                      intro a W H
                      refine wp_ret ?_
                      repeat (first | (with_reducible refine then_ret ?_) | (with_reducible refine blk_ret ?_))
                      refine end_tmp (p := 2) rfl rfl H (fun hb => ?_)
                      exact ⟨congrArg (fun b_ => Ending.returned (.bool b_)) ((plain_is (k := k) (f := f) (n := n) (t := t) (lb := lb) (na := na) (nk := nk)).2.2.2.2.2.2 (by omega)), hb⟩
                    | false =>
                      rw [hq10] at H
                      have hq10p := of_decide_eq_false hq10
                      refine wp_cond_false (H.ev rfl) ?_
                      refine wp_skip ?_
                      refine hK12 _ _ ?_
                      clear hK12
                      refine wp_exit ?_
                      repeat (first | (with_reducible refine then_exit ?_) | (with_reducible refine blk_pass (by decide) ?_))
                      refine blk_exit ?_
                      refine hK4 _ _ ?_
                      clear hK4
                      refine wp_seq_k (fun K49 hK49 => ?_)
                      refine sqR H gs0 fun Z_ z_ => rK [1, 0] [] [] <| rS 1 rfl <| rK [1, 0] [] [] <| rN0 z_ ?_
                      try clear H a W
                      intro a W H
                      refine wp_ret ?_
                      repeat (first | (with_reducible refine then_ret ?_) | (with_reducible refine blk_ret ?_))
                      refine end_tmp (p := 2) rfl rfl H (fun hb => ?_)
                      exact ⟨by unfold plainE; rw [decide_eq_false (p := 1 ≤ k ∧ k ≤ 10) (by omega)]; rfl, hb⟩
end Go.Proofs.YtiafcgoiolbdhaaDoor
namespace Go.Proofs.YtiafcgoiolbdhaaDoor
set_option linter.unusedVariables false
set_option linter.unusedSimpArgs false
set_option maxRecDepth 100000
open Go Go.RowKit
def ItF (B : Nat) (s : ByteArray) (pos : Nat) (v : Value) (w : World) : Prop := ∃ g, v = .pointer (some ⟨g, 0, none⟩) ∧ B ≤ g ∧ g < w.heap.size ∧ w.heap[g]? = some (.stringIter s pos)
instance {B : Nat} {s : ByteArray} {pos : Nat} {v : Value} : Lasts (ItF B s pos v) := ⟨fun w w' ⟨g, e, h1, h2, h3⟩ hb => ⟨g, e, h1, Nat.lt_of_lt_of_le h2 hb.size, (hb.block g h2).trans h3⟩⟩
theorem ite_128 {c : Prop} [Decidable c] {x y : Nat × Nat} (h1 : c → 128 ≤ x.1) (h2 : 128 ≤ y.1) : 128 ≤ (if c then x else y).1 := by
  by_cases h : c
  · rw [if_pos h]
    exact h1 h
  · rw [if_neg h]
    exact h2
theorem err_128 : 128 ≤ (Utf8.runeError, 1).1 := by show 128 ≤ 65533; decide
theorem dec_low {s : ByteArray} {i : Nat} : (Utf8.decode s i).1 < 128 ∧ (s.get! i).toNat = (Utf8.decode s i).1 ∧ (Utf8.decode s i).2 = 1 ∨ 128 ≤ (Utf8.decode s i).1 ∧ 128 ≤ (s.get! i).toNat := by
  by_cases h : (s.get! i).toNat < 128
  · have e : Utf8.decode s i = ((s.get! i).toNat, 1) := if_pos h
    rw [e]
    exact .inl ⟨h, rfl, rfl⟩
  · refine .inr ⟨?_, by omega⟩
    unfold Utf8.decode
    dsimp only
    refine ite_128 (fun h2 => absurd h2 h) (ite_128 (fun _ => ite_128 id err_128) (ite_128 (fun _ => ite_128 (fun h2 => ?_) err_128) (ite_128 (fun _ => ite_128 (fun h2 => ?_) err_128) err_128)))
    · rw [Bool.and_eq_true, decide_eq_true_eq] at h2
      exact Nat.le_trans (by decide) h2.1
    · rw [Bool.and_eq_true, decide_eq_true_eq] at h2
      exact Nat.le_trans (by decide) h2.1
theorem next_Y {P : Program} {a : Act} {x : Operand} {s : ByteArray} {pos g : Nat} {w : World} {o : Oper} (ho : o.op = .next x true) (hx : a.eval x = .pointer (some ⟨g, 0, none⟩)) (hi : w.heap[g]? = some (.stringIter s pos)) (hp : pos < s.size) : (execOp a.eval o).run P w = .ok (.value (.tuple #[.bool true, .int .i64 (pos : Int), .int .i32 (((Utf8.decode s pos).1 : Nat) : Int)])) { w with heap := w.heap.setIfInBounds g (.stringIter s (pos + (Utf8.decode s pos).2)) } := by
  unfold execOp
  simp only [ho, hx, Instr.next, getObj, setObj, Sem.run_bind, Sem.run, hi, Result.andThen, hp, if_true, goInt]
  try rfl
theorem next_N {P : Program} {a : Act} {x : Operand} {s : ByteArray} {pos g : Nat} {w : World} {o : Oper} (ho : o.op = .next x true) (hx : a.eval x = .pointer (some ⟨g, 0, none⟩)) (hi : w.heap[g]? = some (.stringIter s pos)) (hp : ¬ pos < s.size) : (execOp a.eval o).run P w = .ok (.value (.tuple #[.bool false])) w := by
  unfold execOp
  simp only [ho, hx, Instr.next, getObj, setObj, Sem.run_bind, Sem.run, hi, Result.andThen, hp, if_false, goInt]
  try rfl
theorem sl_str14 {t : List UInt8} (h : t.length = 15) (W : World) : (Instr.sliceAt 9 (.string (strB t)) none (some (.int .i64 14)) none).run Tryd.prog W = .ok (.string (strB (t.take 14))) W := by
  have hu : Tryd.prog.underlying 9 = some .string := by kernel_rfl
  have hs : (strB t).size = 15 := by rw [strB_size]; exact h
  have he : (strB t).extract 0 14 = strB (t.take 14) := by
    apply ByteArray.ext
    apply Array.ext'
    simp [strB, ByteArray.extract, ByteArray.copySlice]
    try rfl
  go_simp
  all_goals first | exact he | (simp [hs, he]) | skip
theorem str_at {t : List UInt8} {k : Nat} (h : k < t.length) : ((strB t).get! k) = t.getD k 0 := by
  show (t.toArray)[k]! = _
  rw [List.getElem!_toArray, List.getElem!_eq_getElem?_getD, List.getD_eq_getElem?_getD]
  rw [List.getElem?_eq_getElem h]
  rfl
theorem take_getD {t : List UInt8} {k : Nat} (h : k < 14) : (t.take 14).getD k 0 = t.getD k 0 := by
  rw [List.getD_eq_getElem?_getD, List.getElem?_take_of_lt h, ← List.getD_eq_getElem?_getD]
theorem time_of {t : List UInt8} {N : Nat} (h15 : t.length = 15) (h90 : (t.getD 14 0).toNat = 90) (hpos : ∀ i, i < N → 48 ≤ (t.getD i 0).toNat ∧ (t.getD i 0).toNat ≤ 57) (hend : N = 14 ∨ N < 14 ∧ ¬ (48 ≤ (t.getD N 0).toNat ∧ (t.getD N 0).toNat ≤ 57)) : timeOk t = decide (N = 14) := by
  have h90' : t.getD 14 0 = 90 := UInt8.toNat_inj.1 h90
  unfold timeOk
  rw [decide_eq_true h15, decide_eq_true h90', Bool.true_and, Bool.true_and]
  rcases hend with rfl | ⟨h1, h2⟩
  · rw [decide_eq_true rfl]
    refine List.all_eq_true.2 fun x hx => ?_
    obtain ⟨i, hi, rfl⟩ := List.getElem_of_mem hx
    rw [List.length_take] at hi
    have := hpos i (by omega)
    rw [List.getElem_take]
    rw [List.getD_eq_getElem?_getD, List.getElem?_eq_getElem (by omega), Option.getD_some] at this
    simp [this.1, this.2]
  · rw [decide_eq_false (by omega)]
    cases hall : (t.take 14).all (fun x => decide (48 ≤ x.toNat) && decide (x.toNat ≤ 57)) with
    | false => rfl
    | true =>
      refine absurd ?_ h2
      have hm : t.getD N 0 ∈ t.take 14 := by
        rw [← take_getD h1, List.getD_eq_getElem?_getD, List.getElem?_eq_getElem (by rw [List.length_take]; omega)]
        exact List.getElem_mem _
      have := List.all_eq_true.1 hall _ hm
      rw [Bool.and_eq_true, decide_eq_true_eq, decide_eq_true_eq] at this
      exact this
theorem time_no {t : List UInt8} (h : ¬ (t.length = 15 ∧ (t.getD 14 0).toNat = 90)) : timeOk t = false := by
  unfold timeOk
  by_cases h1 : t.length = 15
  · rw [decide_eq_false (p := t.getD 14 0 = 90) (fun e => h ⟨h1, by rw [e]; rfl⟩), Bool.and_false, Bool.false_and]
  · rw [decide_eq_false h1, Bool.false_and, Bool.false_and]
section
variable {P : Program} {n : Nat} {w0 w : World} {a : Act} {e : Env} {Q : Exit → Act → World → Prop} {ops : Array Oper} {rest : List Oper} {o : Oper}
theorem pl_rangeS {d : Nat} {T : TypeId} {x : Operand} {s : ByteArray} (ho : o.op = .range T x) (hx : sev e x = some (.string s)) (hT : P.underlying T = some .string) (hg : o.guard = none) (hdst : o.dst = some d) (hl : Nat.blt d n = true) (hf : e.all (fun p => !Nat.beq p.1 d) = true) (H : St n w0 a w e [])
    (next : ∀ v a w, ItF w0.heap.size s 0 v w → St n w0 a w ((d, v) :: e) [] → wpList P ops Q rest a w) : wpList P ops Q (o :: rest) a w :=
  wpList_plain hg fun K hK => by
    have e1 : (execOp a.eval o).run P w = .ok (.value (.pointer (some ⟨w.heap.size, 0, none⟩))) (w.alloc (.stringIter s 0)) := by
      simp [execOp, ho, H.ev hx, Instr.range, run_underlying hT, Result.andThen]
      try rfl
    unfold Oper.wp
    rw [e1]
    have hA := MapKept.heap_alloc w (.stringIter s 0)
    have hbel : Below w.heap.size w (w.alloc (.stringIter s 0)) := (Below.refl _ _).alloc (Nat.le_refl _) _
    refine hK _ _ (next _ _ _ ⟨w.heap.size, rfl, H.below.size, by show _ < (w.heap.push _).size; simp, hA.1⟩ ?_)
    rw [hdst]
    exact (H.call hbel).put _ hl hf
theorem St.iter {s : ByteArray} {pos pos' g : Nat} (H : St n w0 a w e []) (hg : w0.heap.size ≤ g) (hi : w.heap[g]? = some (.stringIter s pos)) : St n w0 a { w with heap := w.heap.setIfInBounds g (.stringIter s pos') } e [] ∧ ({ w with heap := w.heap.setIfInBounds g (.stringIter s pos') } : World).heap[g]? = some (.stringIter s pos') := by
  have hlt : g < w.heap.size := (Array.getElem?_eq_some_iff.1 hi).1
  have hgrow : w.grownBy { w with heap := w.heap.setIfInBounds g (.stringIter s pos') } (some g) := ⟨rfl, rfl, rfl, by simp, fun j _ hj => by
    have hne : g ≠ j := fun e => hj (by rw [e])
    show (w.heap.setIfInBounds g _)[j]? = _
    rw [Array.getElem?_setIfInBounds_ne hne]⟩
  refine ⟨⟨H.size, H.defers, H.env, H.below.grown hgrow H.below.size (fun j hj => by injection hj with hj; rw [← hj]; exact hg), (fun p hp => by cases hp), (fun p hp => by cases hp), List.Pairwise.nil⟩, ?_⟩
  show (w.heap.setIfInBounds g _)[g]? = _
  rw [Array.getElem?_setIfInBounds_self_of_lt hlt]
theorem pl_nextY {d : Nat} {x : Operand} {s : ByteArray} {pos : Nat} {v : Value} (ho : o.op = .next x true) (hx : sev e x = some v) (hv : ItF w0.heap.size s pos v w) (hp : pos < s.size) (hg : o.guard = none) (hdst : o.dst = some d) (hl : Nat.blt d n = true) (hf : e.all (fun p => !Nat.beq p.1 d) = true) (H : St n w0 a w e [])
    (next : ∀ a w, ItF w0.heap.size s (pos + (Utf8.decode s pos).2) v w → St n w0 a w ((d, .tuple #[.bool true, .int .i64 (pos : Int), .int .i32 (((Utf8.decode s pos).1 : Nat) : Int)]) :: e) [] → wpList P ops Q rest a w) : wpList P ops Q (o :: rest) a w :=
  wpList_plain hg fun K hK => by
    obtain ⟨g, rfl, hB, hlt, hi⟩ := hv
    obtain ⟨H2, h2⟩ := H.iter (pos' := pos + (Utf8.decode s pos).2) hB hi
    have e1 := next_Y (P := P) ho (H.ev hx) hi hp
    unfold Oper.wp
    rw [e1]
    refine hK _ _ (next _ _ ⟨g, rfl, hB, by simpa using hlt, h2⟩ ?_)
    rw [hdst]
    exact H2.put _ hl hf
theorem pl_nextN {d : Nat} {x : Operand} {s : ByteArray} {pos : Nat} {v : Value} (ho : o.op = .next x true) (hx : sev e x = some v) (hv : ItF w0.heap.size s pos v w) (hp : ¬ pos < s.size) (hg : o.guard = none) (hdst : o.dst = some d) (hl : Nat.blt d n = true) (hf : e.all (fun p => !Nat.beq p.1 d) = true) (H : St n w0 a w e [])
    (next : ∀ a w, St n w0 a w ((d, .tuple #[.bool false]) :: e) [] → wpList P ops Q rest a w) : wpList P ops Q (o :: rest) a w :=
  wpList_plain hg fun K hK => by
    obtain ⟨g, rfl, hB, hlt, hi⟩ := hv
    have e1 := next_N (P := P) ho (H.ev hx) hi hp
    unfold Oper.wp
    rw [e1]
    refine hK _ _ (next _ _ ?_)
    rw [hdst]
    exact H.put _ hl hf
end
attribute [local irreducible] bvs byteD rb sameZ plainE maxN arcsOk timeOk
set_option maxHeartbeats 4000000 in
theorem maxU_any {Aa : Option Addr} {na ca gx ox : Nat} {la : List Nat} (w : World) (h1 : 1 ≤ na) (hna : na < 9223372036854775808) (hla : la.length = na) (hax : 0 < na → Aa = some ⟨gx, ox, none⟩ ∧ gx < w.heap.size ∧ ∀ i, i < na → w.cell? ⟨gx, ox + i, none⟩ = some (.int .u64 ((la.getD i 0 : Nat) : Int))) : Calls Tryd.prog 81 #[.slice Aa na ca] w (fun rr w' => rr = .returned (.int .u64 ((maxN la : Nat) : Int)) ∧ Below w.heap.size w w') := by
  refine calls_st (vs := [.slice Aa na ca]) 25 Tryd.func81 rfl Tryd.ntmps81 rfl (fun a W H => ?_)
  replace H : St 25 w a W [(0, .slice Aa na ca)] [] := H
  refine sqR H gs0 fun Z_ z_ => rS 1 rfl <| rN0 z_ ?_
  try clear H a W
  intro a W H
  refine wp_seq_k (fun K2 hK2 => ?_)
  refine sqR H gs0 fun Z_ z_ => rS 1 rfl <| rV rfl (does_len Tryd.underlying24 rfl rfl) <| rV rfl (does_binOp rfl rfl rfl (z_cmp.1 (decide_eq_false (by omega)) _ _)) <| rK [1, 0, 0] [] [] <| rN0 z_ ?_
  try clear H a W
  intro a W H
  refine wp_cond_false (H.ev rfl) ?_
  refine wp_skip ?_
  refine hK2 _ _ ?_
  clear hK2
  refine sqR H gs0 fun Z_ z_ => rS 1 rfl <| rV rfl (does_indexAddr rfl rfl rfl (ia_u64D (j := 0) (hax (by omega)).1 (by omega))) <| rV rfl (does_loadCell (v := .int .u64 ((la.getD 0 0 : Nat) : Int)) rfl rfl ((hax (by omega)).2.2 0 (by omega)) (hax (by omega)).2.1 ld_cellD) <| rS 1 rfl <| rK [1, 0, 0, 0, 0] [] [] <| rN0 z_ ?_
  try clear H a W
  intro a W H
  refine wp_seq_k (fun K5 hK5 => ?_)
  refine sqR H gs0 fun Z_ z_ => rS 1 rfl <| rN0 z_ ?_
  try clear H a W
  intro a W H
  refine wp_block ?_
  rw [show (Value.int .u64 ((la.getD 0 0 : Nat) : Int)) = .int .u64 ((maxN (la.take (0 + 1)) : Nat) : Int) by rw [max_take (by omega), List.take_zero, maxN_0]] at H
  replace H : St 25 w a W [(4, .int .i64 ((0 + 1 : Nat) : Int)), (3, .int .u64 ((maxN (la.take (0 + 1)) : Nat) : Int)), (2, .int .u64 0), (0, .slice Aa na ca)] [] := H.pick [0, 1, 2, 3] [] rfl
  refine wp_rounds (na - 1) (fun k a W => St 25 w a W [(4, .int .i64 ((k + 1 : Nat) : Int)), (3, .int .u64 ((maxN (la.take (k + 1)) : Nat) : Int)), (2, .int .u64 0), (0, .slice Aa na ca)] []) (k0 := 0) H (by omega) ?_
  try clear H a W
  intro k a W hk H
  by_cases hk2 : k < (na - 1)
  · refine wp_seq_k (fun K7 hK7 => ?_)
    refine sqR H gs0 fun Z_ z_ => rS 2 rfl <| rV rfl (does_len Tryd.underlying24 rfl rfl) <| rV rfl (does_binOp rfl rfl rfl (z_cmp.1 (decide_eq_true (by omega)) _ _)) <| rN0 z_ ?_
    try clear H a W
    intro a W H
    refine wp_cond_true (H.ev rfl) ?_
    refine wp_skip ?_
    refine hK7 _ _ ?_
    clear hK7
    refine wp_seq_k (fun K9 hK9 => ?_)
    refine wp_block ?_
    refine rgP H gs0 (rS 3 rfl <| rV rfl (does_indexAddr rfl rfl rfl (ia_u64D (j := k + 1) (hax (by omega)).1 (by omega))) <| rV rfl (does_loadCell (v := .int .u64 ((la.getD (k + 1) 0 : Nat) : Int)) rfl rfl ((hax (by omega)).2.2 (k + 1) (by omega)) (hax (by omega)).2.1 ld_cellD) <| rV rfl (does_maxU (k := maxN (la.take (k + 1))) (m := la.getD (k + 1) 0) rfl rfl rfl) <| rK [1, 1, 1, 1, 1, 1, 1, 1, 1, 1, 1, 0] [] [] <| rS 1 rfl <| rZ0 ?_)
    try clear H a W
    intro a W H
    refine blk_normal ?_
    refine hK9 _ _ ?_
    clear hK9
    refine rgP H gs0 (rS 1 rfl <| rV rfl (does_binOp rfl rfl rfl (zd_add_int (k := ((k + 1 : Nat) : Int)) (m := 1) (c := ((k + 1 + 1 : Nat) : Int)) (by omega) (by omega) _ _)) <| rK [1, 1, 1, 1, 1, 1, 1, 1, 1, 1, 1, 1, 1, 0] [] [] <| rS 1 rfl <| rZ0 ?_)
    try clear H a W
    intro a W H
    refine ⟨k + 1, by omega, by omega, ?_⟩
    show St 25 w a W [(4, .int .i64 ((k + 1 + 1 : Nat) : Int)), (3, .int .u64 ((maxN (la.take (k + 1 + 1)) : Nat) : Int)), (2, .int .u64 0), (0, .slice Aa na ca)] []
    rw [max_take (by omega)]
    exact H.pick [0, 3, 14, 15] [] rfl
  · obtain rfl : (na - 1) = k := by omega
    refine wp_seq_k (fun K10 hK10 => ?_)
    refine sqR H gs0 fun Z_ z_ => rS 2 rfl <| rV rfl (does_len Tryd.underlying24 rfl rfl) <| rV rfl (does_binOp rfl rfl rfl (z_cmp.1 (decide_eq_false (by omega)) _ _)) <| rK [1, 0, 0, 0] [] [] <| rN0 z_ ?_
    try clear H a W
    intro a W H
    refine wp_cond_false (H.ev rfl) ?_
    refine wp_exit ?_
    repeat (first | (with_reducible refine then_exit ?_) | (with_reducible refine blk_pass (by decide) ?_))
    refine blk_exit ?_
    refine hK5 _ _ ?_
    clear hK5
    refine sqR H gs0 fun Z_ z_ => rS 1 rfl <| rK [1, 1, 1, 1, 0] [] [] <| rS 1 rfl <| rK [1, 0, 0, 0, 0, 0] [] [] <| rN0 z_ ?_
    try clear H a W
    intro a W H
    refine wp_ret ?_
    repeat (first | (with_reducible refine then_ret ?_) | (with_reducible refine blk_ret ?_))
    refine end_tmp (p := 2) rfl rfl H (fun hb => ?_)
    refine ⟨?_, hb⟩
    rw [show na - 1 + 1 = la.length by omega, List.take_length]
set_option maxHeartbeats 4000000 in
theorem may_oid {Aa : Option Addr} {na ca gx ox : Nat} {la : List Nat} (w : World) (hna : na < 9223372036854775808) (hla : la.length = na) (hax : 0 < na → Aa = some ⟨gx, ox, none⟩ ∧ gx < w.heap.size ∧ ∀ i, i < na → w.cell? ⟨gx, ox + i, none⟩ = some (.int .u64 ((la.getD i 0 : Nat) : Int))) : Calls Tryd.prog 70 #[.slice Aa na ca] w (fun rr w' => rr = .returned (.bool (arcsOk la)) ∧ Below w.heap.size w w') := by
  refine calls_st (vs := [.slice Aa na ca]) 32 Tryd.func70 rfl Tryd.ntmps70 rfl (fun a W H => ?_)
  replace H : St 32 w a W [(0, .slice Aa na ca)] [] := H
  refine sqR H gs0 fun Z_ z_ => rS 1 rfl <| rN0 z_ ?_
  try clear H a W
  intro a W H
  refine wp_seq_k (fun K2 hK2 => ?_)
  refine wp_seq_k (fun K3 hK3 => ?_)
  cases hq1 : decide (((na : Nat) : Int) < 2) with
  | true =>
    have hq1p := of_decide_eq_true hq1
    refine rgP H gs0 (rS 1 rfl <| rV rfl (does_len Tryd.underlying24 rfl rfl) <| rV rfl (does_binOp rfl rfl rfl (z_cmp.1 hq1 _ _)) <| rS 10 rfl <| rK [1, 0, 0, 0, 0, 0, 0, 0, 0, 0, 0, 0, 0] [] [] <| rZ0 ?_)
    try clear H a W
    intro a W H
    refine hK3 _ _ ?_
    clear hK3
    refine wp_cond_true (H.ev rfl) ?_
    refine sqR H gs0 fun Z_ z_ => rK [1, 0] [] [] <| rS 1 rfl <| rK [1, 0] [] [] <| rN0 z_ ?_
    try clear H a W
    intro a W H
    refine wp_ret ?_
    repeat (first | (with_reducible refine then_ret ?_) | (with_reducible refine blk_ret ?_))
    refine end_tmp (p := 2) rfl rfl H (fun hb => ?_)
    refine ⟨?_, hb⟩
    rw [arcs_max, hla]
    rw [decide_eq_false (p := 2 ≤ na) (by omega)]
    try simp only [Bool.true_and, Bool.and_true, Bool.false_and, Bool.and_false, Bool.true_or, Bool.false_or]
  | false =>
    have hq1p := of_decide_eq_false hq1
    cases hq2 : decide (16 < ((na : Nat) : Int)) with
    | true =>
      have hq2p := of_decide_eq_true hq2
      refine rgP H gs0 (rS 1 rfl <| rV rfl (does_len Tryd.underlying24 rfl rfl) <| rV rfl (does_binOp rfl rfl rfl (z_cmp.1 hq1 _ _)) <| rS 2 rfl <| rV rfl (does_len Tryd.underlying24 rfl rfl) <| rV rfl (does_binOp rfl rfl rfl (z_cmp.2.1 hq2 _ _)) <| rS 6 rfl <| rK [1, 0, 0, 0, 0, 0, 0, 0, 0, 0, 0, 0, 0] [] [] <| rZ0 ?_)
      try clear H a W
      intro a W H
      refine hK3 _ _ ?_
      clear hK3
      refine wp_cond_true (H.ev rfl) ?_
      refine sqR H gs0 fun Z_ z_ => rK [1, 0] [] [] <| rS 1 rfl <| rK [1, 0] [] [] <| rN0 z_ ?_
      try clear H a W
      intro a W H
      refine wp_ret ?_
      repeat (first | (with_reducible refine then_ret ?_) | (with_reducible refine blk_ret ?_))
      refine end_tmp (p := 2) rfl rfl H (fun hb => ?_)
      refine ⟨?_, hb⟩
      rw [arcs_max, hla]
      rw [decide_eq_true (p := 2 ≤ na) (by omega), decide_eq_false (p := na ≤ 16) (by omega)]
      try simp only [Bool.true_and, Bool.and_true, Bool.false_and, Bool.and_false, Bool.true_or, Bool.false_or]
    | false =>
      have hq2p := of_decide_eq_false hq2
      refine rgP H gs0 (rS 1 rfl <| rV rfl (does_len Tryd.underlying24 rfl rfl) <| rV rfl (does_binOp rfl rfl rfl (z_cmp.1 hq1 _ _)) <| rS 2 rfl <| rV rfl (does_len Tryd.underlying24 rfl rfl) <| rV rfl (does_binOp rfl rfl rfl (z_cmp.2.1 hq2 _ _)) <| rS 3 rfl <| rCV rfl rfl ⟨_, Tryd.func81, by kernel_rfl⟩ rfl (fun a W H _ => (maxU_any _ (by omega) hna hla (fun h0 => ⟨(hax h0).1, Nat.lt_of_lt_of_le (hax h0).2.1 H.below.size, fun i hi => (H.below.cell (p := ⟨gx, ox + i, none⟩) (hax h0).2.1).trans ((hax h0).2.2 i hi)⟩))) <| rV rfl (does_binOp rfl rfl rfl (ud_gtrU rfl _ _)) <| rS 1 rfl <| rK [1, 0, 0, 0, 0, 0, 0, 0, 0, 0, 0, 0, 0] [] [] <| rZ0 ?_)
      try clear H a W
      intro a W H
      refine hK3 _ _ ?_
      clear hK3
      cases hq3 : decide (2147483647 < maxN la) with
      | true =>
        rw [hq3] at H
        have hq3p := of_decide_eq_true hq3
        refine wp_cond_true (H.ev rfl) ?_
        refine sqR H gs0 fun Z_ z_ => rK [1, 0] [] [] <| rS 1 rfl <| rK [1, 0] [] [] <| rN0 z_ ?_
        try clear H a W
        intro a W H
        refine wp_ret ?_
        repeat (first | (with_reducible refine then_ret ?_) | (with_reducible refine blk_ret ?_))
        refine end_tmp (p := 2) rfl rfl H (fun hb => ?_)
        refine ⟨?_, hb⟩
        rw [arcs_max, hla]
        rw [decide_eq_true (p := 2 ≤ na) (by omega), decide_eq_true (p := na ≤ 16) (by omega), decide_eq_false (p := maxN la ≤ 2147483647) (by omega)]
        try simp only [Bool.true_and, Bool.and_true, Bool.false_and, Bool.and_false, Bool.true_or, Bool.false_or]
      | false =>
        rw [hq3] at H
        have hq3p := of_decide_eq_false hq3
        refine wp_cond_false (H.ev rfl) ?_
        refine wp_skip ?_
        refine hK2 _ _ ?_
        clear hK2
        refine wp_seq_k (fun K7 hK7 => ?_)
        cases hq4 : decide (la.getD 0 0 ≤ 2) with
        | true =>
          have hq4p := of_decide_eq_true hq4
          cases hq5 : decide (la.getD 0 0 = 2) with
          | true =>
            have hq5p := of_decide_eq_true hq5
            refine rgP H gs0 (rS 1 rfl <| rV rfl (does_indexAddr rfl rfl rfl (ia_u64D (j := 0) (hax (by omega)).1 (by omega))) <| rV rfl (does_loadCell (v := .int .u64 ((la.getD 0 0 : Nat) : Int)) rfl rfl ((hax (by omega)).2.2 0 (by omega)) (hax (by omega)).2.1 ld_cellD) <| rV rfl (does_binOp rfl rfl rfl (ud_leqU hq4 _ _)) <| rS 2 rfl <| rV rfl (does_indexAddr rfl rfl rfl (ia_u64D (j := 0) (hax (by omega)).1 (by omega))) <| rV rfl (does_loadCell (v := .int .u64 ((la.getD 0 0 : Nat) : Int)) rfl rfl ((hax (by omega)).2.2 0 (by omega)) (hax (by omega)).2.1 ld_cellD) <| rV rfl (does_binOp rfl rfl rfl (ud_eqlU hq5 _ _)) <| rS 7 rfl <| rK [1, 1, 1, 1, 1, 1, 1, 1, 1, 1, 1, 1, 1, 1, 1, 1, 1, 0] [] [] <| rS 1 rfl <| rK [1, 0, 0, 0, 0, 0, 0, 0, 0, 0, 0, 0, 0, 0, 0, 0, 0, 0, 0] [] [] <| rZ0 ?_)
            try clear H a W
            intro a W H
            refine hK7 _ _ ?_
            clear hK7
            refine wp_ret ?_
            repeat (first | (with_reducible refine then_ret ?_) | (with_reducible refine blk_ret ?_))
            refine end_tmp (p := 2) rfl rfl H (fun hb => ?_)
            refine ⟨?_, hb⟩
            rw [arcs_max, hla]
            rw [decide_eq_true (p := 2 ≤ na) (by omega), decide_eq_true (p := na ≤ 16) (by omega), decide_eq_true (p := maxN la ≤ 2147483647) (by omega), decide_eq_true (p := la.getD 0 0 ≤ 2) (by omega), decide_eq_true (p := la.getD 0 0 = 2) (by omega)]
            try simp only [Bool.true_and, Bool.and_true, Bool.false_and, Bool.and_false, Bool.true_or, Bool.false_or]
          | false =>
            have hq5p := of_decide_eq_false hq5
            refine rgP H gs0 (rS 1 rfl <| rV rfl (does_indexAddr rfl rfl rfl (ia_u64D (j := 0) (hax (by omega)).1 (by omega))) <| rV rfl (does_loadCell (v := .int .u64 ((la.getD 0 0 : Nat) : Int)) rfl rfl ((hax (by omega)).2.2 0 (by omega)) (hax (by omega)).2.1 ld_cellD) <| rV rfl (does_binOp rfl rfl rfl (ud_leqU hq4 _ _)) <| rS 2 rfl <| rV rfl (does_indexAddr rfl rfl rfl (ia_u64D (j := 0) (hax (by omega)).1 (by omega))) <| rV rfl (does_loadCell (v := .int .u64 ((la.getD 0 0 : Nat) : Int)) rfl rfl ((hax (by omega)).2.2 0 (by omega)) (hax (by omega)).2.1 ld_cellD) <| rV rfl (does_binOp rfl rfl rfl (ud_eqlU hq5 _ _)) <| rS 2 rfl <| rV rfl (does_indexAddr rfl rfl rfl (ia_u64D (j := 1) (hax (by omega)).1 (by omega))) <| rV rfl (does_loadCell (v := .int .u64 ((la.getD 1 0 : Nat) : Int)) rfl rfl ((hax (by omega)).2.2 1 (by omega)) (hax (by omega)).2.1 ld_cellD) <| rV rfl (does_binOp rfl rfl rfl (ud_lssU rfl _ _)) <| rS 2 rfl <| rK [1, 1, 1, 1, 1, 1, 1, 1, 1, 1, 1, 1, 1, 1, 1, 1, 1, 0] [] [] <| rS 1 rfl <| rK [1, 0, 0, 0, 0, 0, 0, 0, 0, 0, 0, 0, 0, 0, 0, 0, 0, 0, 0] [] [] <| rZ0 ?_)
            try clear H a W
            intro a W H
            refine hK7 _ _ ?_
            clear hK7
            refine wp_ret ?_
            repeat (first | (with_reducible refine then_ret ?_) | (with_reducible refine blk_ret ?_))
            refine end_tmp (p := 2) rfl rfl H (fun hb => ?_)
            refine ⟨?_, hb⟩
            rw [arcs_max, hla]
            rw [decide_eq_true (p := 2 ≤ na) (by omega), decide_eq_true (p := na ≤ 16) (by omega), decide_eq_true (p := maxN la ≤ 2147483647) (by omega), decide_eq_true (p := la.getD 0 0 ≤ 2) (by omega), decide_eq_false (p := la.getD 0 0 = 2) (by omega)]
            try simp only [Bool.true_and, Bool.and_true, Bool.false_and, Bool.and_false, Bool.true_or, Bool.false_or]
        | false =>
          have hq4p := of_decide_eq_false hq4
          refine rgP H gs0 (rS 1 rfl <| rV rfl (does_indexAddr rfl rfl rfl (ia_u64D (j := 0) (hax (by omega)).1 (by omega))) <| rV rfl (does_loadCell (v := .int .u64 ((la.getD 0 0 : Nat) : Int)) rfl rfl ((hax (by omega)).2.2 0 (by omega)) (hax (by omega)).2.1 ld_cellD) <| rV rfl (does_binOp rfl rfl rfl (ud_leqU hq4 _ _)) <| rS 12 rfl <| rK [1, 1, 1, 1, 1, 1, 1, 1, 1, 1, 1, 1, 1, 1, 1, 1, 1, 0] [] [] <| rS 1 rfl <| rK [1, 0, 0, 0, 0, 0, 0, 0, 0, 0, 0, 0, 0, 0, 0, 0, 0, 0, 0] [] [] <| rZ0 ?_)
          try clear H a W
          intro a W H
          refine hK7 _ _ ?_
          clear hK7
          refine wp_ret ?_
          repeat (first | (with_reducible refine then_ret ?_) | (with_reducible refine blk_ret ?_))
          refine end_tmp (p := 2) rfl rfl H (fun hb => ?_)
          refine ⟨?_, hb⟩
          rw [arcs_max, hla]
          rw [decide_eq_true (p := 2 ≤ na) (by omega), decide_eq_true (p := na ≤ 16) (by omega), decide_eq_true (p := maxN la ≤ 2147483647) (by omega), decide_eq_false (p := la.getD 0 0 ≤ 2) (by omega)]
          try simp only [Bool.true_and, Bool.and_true, Bool.false_and, Bool.and_false, Bool.true_or, Bool.false_or]
set_option maxHeartbeats 4000000 in
theorem is_time {t : List UInt8} (w : World) (ht : t.length < 9223372036854775808) : Calls Tryd.prog 71 #[.string (strB t)] w (fun rr w' => rr = .returned (.bool (timeOk t)) ∧ Below w.heap.size w w') := by
  refine calls_st (vs := [.string (strB t)]) 25 Tryd.func71 rfl Tryd.ntmps71 rfl (fun a W H => ?_)
  replace H : St 25 w a W [(0, .string (strB t))] [] := H
  refine sqR H gs0 fun Z_ z_ => rS 1 rfl <| rN0 z_ ?_
  try clear H a W
  intro a W H
  refine wp_seq_k (fun K2 hK2 => ?_)
  refine wp_seq_k (fun K3 hK3 => ?_)
  cases hq1 : decide (((t.length : Nat) : Int) ≠ 15) with
  | true =>
    have hq1p := of_decide_eq_true hq1
    refine rgP H gs0 (rS 1 rfl <| rV rfl (does_lenT Tryd.underlying9 rfl rfl) <| rV rfl (does_binOp rfl rfl rfl (z_cmp.2.2.2 hq1 _ _)) <| rS 5 rfl <| rK [1, 0, 0, 0, 0, 0, 0, 0] [] [] <| rZ0 ?_)
    try clear H a W
    intro a W H
    refine hK3 _ _ ?_
    clear hK3
    refine wp_cond_true (H.ev rfl) ?_
    refine sqR H gs0 fun Z_ z_ => rK [1, 0] [] [] <| rS 1 rfl <| rK [1, 0] [] [] <| rN0 z_ ?_
    try clear H a W
    intro a W H
    refine wp_ret ?_
    repeat (first | (with_reducible refine then_ret ?_) | (with_reducible refine blk_ret ?_))
    refine end_tmp (p := 2) rfl rfl H (fun hb => ?_)
    exact ⟨by rw [time_no (by omega)], hb⟩
  | false =>
    have hq1p := of_decide_eq_false hq1
    refine rgP H gs0 (rS 1 rfl <| rV rfl (does_lenT Tryd.underlying9 rfl rfl) <| rV rfl (does_binOp rfl rfl rfl (z_cmp.2.2.2 hq1 _ _)) <| rS 2 rfl <| rV rfl (does_index rfl rfl rfl (ix_str (l := t) (j := 14) (by omega))) <| rV rfl (does_binOp rfl rfl rfl (bd_neq8 rfl _ _)) <| rS 1 rfl <| rK [1, 0, 0, 0, 0, 0, 0, 0] [] [] <| rZ0 ?_)
    try clear H a W
    intro a W H
    refine hK3 _ _ ?_
    clear hK3
    cases hq2 : decide ((t.getD 14 0).toNat ≠ 90) with
    | true =>
      rw [hq2] at H
      have hq2p := of_decide_eq_true hq2
      refine wp_cond_true (H.ev rfl) ?_
      refine sqR H gs0 fun Z_ z_ => rK [1, 0] [] [] <| rS 1 rfl <| rK [1, 0] [] [] <| rN0 z_ ?_
      try clear H a W
      intro a W H
      refine wp_ret ?_
      repeat (first | (with_reducible refine then_ret ?_) | (with_reducible refine blk_ret ?_))
      refine end_tmp (p := 2) rfl rfl H (fun hb => ?_)
      exact ⟨by rw [time_no (by omega)], hb⟩
    | false =>
      rw [hq2] at H
      have hq2p := of_decide_eq_false hq2
      refine wp_cond_false (H.ev rfl) ?_
      refine wp_skip ?_
      refine hK2 _ _ ?_
      clear hK2
      refine wp_seq_k (fun K6 hK6 => ?_)
      refine wp_seq_k (fun K7 hK7 => ?_)
      refine rgP H gs0 (rS 1 rfl <| rV rfl (does_slice rfl rfl (vl := none) (vh := some (.int .i64 14)) rfl rfl (sl_str14 (by omega))) <| rI0 ?_)
      try clear H a W
      intro a W H
      refine pl_rangeS rfl rfl Tryd.underlying9 rfl rfl rfl rfl H ?_
      try clear H a W
      intro vi a W hit H
      replace H : St 25 w a W [(15, vi), (14, .string (strB (t.take 14))), (13, .string (strB t)), (12, .bool false), (2, .bool false), (0, .string (strB t))] [] := H
      refine rgO H (gsC hit gs0) (rK [1, 0, 0, 0, 1, 0] [] [] <| rZ ?_)
      try clear hit H a W
      rintro a W H ⟨hit, -⟩
      refine hK7 _ _ ?_
      clear hK7
      obtain ⟨N, hN, hpos, hend⟩ := rounds_at (fun i => 48 ≤ (t.getD i 0).toNat ∧ (t.getD i 0).toNat ≤ 57) 14
      refine wp_block ?_
      replace H : St 25 w a W [(15, vi), (2, .bool false)] [] := H.pick [0, 1] [] rfl
      refine wp_rounds N (fun k a W => ∃ vo, ItF w.heap.size (strB (t.take 14)) k vo W ∧ St 25 w a W [(15, vo), (2, .bool false)] []) (k0 := 0) (show ∃ vo, ItF w.heap.size (strB (t.take 14)) 0 vo W ∧ St 25 w a W [(15, vo), (2, .bool false)] [] from ⟨_, hit, H⟩) (by omega) ?_
      try clear H a W
      intro k a W hk H_
      obtain ⟨vo, hout, H⟩ := H_
      by_cases hk2 : k < N
      · have hp_ := hpos k hk2
        refine wp_seq_k (fun K8 hK8 => ?_)
        refine rg_plain ?_
        refine pl_nextY rfl rfl hout (by rw [strB_size, List.length_take]; omega) rfl rfl rfl rfl H ?_
        try clear H a W
        intro a W hit H
        have hd_ := dec_low (s := (strB (t.take 14))) (i := k)
        rw [str_at (by rw [List.length_take]; omega), take_getD (by omega)] at hd_
        obtain ⟨dc, hdc⟩ : ∃ x, (Utf8.decode (strB (t.take 14)) k).1 = x := ⟨_, rfl⟩
        obtain ⟨dw, hdw⟩ : ∃ x, (Utf8.decode (strB (t.take 14)) k).2 = x := ⟨_, rfl⟩
        rw [hdc] at H hd_
        rw [hdw] at hit hd_
        replace H : St 25 w a W [(16, .tuple #[.bool true, .int .i64 ((k : Nat) : Int), .int .i32 ((dc : Nat) : Int)]), (15, vo), (2, .bool false)] [] := H
        refine rgO H (gsC hit gs0) (rS 1 rfl <| rZ ?_)
        try clear hit H a W
        rintro a W H ⟨hit, -⟩
        refine hK8 _ _ ?_
        clear hK8
        refine cdT H rfl ?_
        refine wp_block ?_
        refine sqR H (gsC hit gs0) fun Z_ z_ => rS 2 rfl <| rN z_ ?_
        try clear hit H a W
        rintro a W H ⟨hit, -⟩
        refine sqR H (gsC hit gs0) fun Z_ z_ => rS 1 rfl <| rV rfl (does_binOp rfl rfl rfl (r_cmp.1 (decide_eq_false (by omega)) _ _)) <| rS 2 rfl <| rV rfl (does_binOp rfl rfl rfl (r_cmp.2 (decide_eq_false (by omega)) _ _)) <| rS 1 rfl <| rN z_ ?_
        try clear hit H a W
        rintro a W H ⟨hit, -⟩
        refine wp_cond_false (H.ev rfl) ?_
        refine wp_skip ?_
        refine blk_normal ?_
        obtain rfl : dw = 1 := by omega
        refine ⟨k + 1, by omega, by omega, ?_⟩
        show ∃ vo, ItF w.heap.size (strB (t.take 14)) (k + 1) vo W ∧ St 25 w a W [(15, vo), (2, .bool false)] []
        refine ⟨_, hit, ?_⟩
        exact H.pick [10, 11] [] rfl
      · obtain rfl : N = k := by omega
        rcases hend with hend | hend
        · refine wp_seq_k (fun K11 hK11 => ?_)
          refine rg_plain ?_
          refine pl_nextN rfl rfl hout (by rw [strB_size, List.length_take]; omega) rfl rfl rfl rfl H ?_
          try clear H a W
          intro a W H
          replace H : St 25 w a W [(16, .tuple #[.bool false]), (15, vo), (2, .bool false)] [] := H
          refine rgO H gs0 (rS 1 rfl <| rK [1, 1, 0] [] [] <| rZ0 ?_)
          try clear H a W
          intro a W H
          refine hK11 _ _ ?_
          clear hK11
          refine wp_seq_k (fun K12 hK12 => ?_)
          refine wp_cond_false (H.ev rfl) ?_
          refine wp_exit ?_
          repeat (first | (with_reducible refine then_exit ?_) | (with_reducible refine blk_pass (by decide) ?_))
          refine blk_exit ?_
          refine hK6 _ _ ?_
          clear hK6
          refine sqR H gs0 fun Z_ z_ => rK [1, 1, 0] [] [] <| rS 1 rfl <| rK [1, 0, 0] [] [] <| rN0 z_ ?_
          try clear H a W
          intro a W H
          refine wp_ret ?_
          repeat (first | (with_reducible refine then_ret ?_) | (with_reducible refine blk_ret ?_))
          refine end_tmp (p := 2) rfl rfl H (fun hb => ?_)
          exact ⟨by rw [time_of (N := N) (by omega) (by omega) hpos (.inl hend), decide_eq_true hend], hb⟩
        · refine wp_seq_k (fun K14 hK14 => ?_)
          refine rg_plain ?_
          refine pl_nextY rfl rfl hout (by rw [strB_size, List.length_take]; omega) rfl rfl rfl rfl H ?_
          try clear H a W
          intro a W hit H
          have hd_ := dec_low (s := (strB (t.take 14))) (i := N)
          rw [str_at (by rw [List.length_take]; omega), take_getD (by omega)] at hd_
          obtain ⟨dc, hdc⟩ : ∃ x, (Utf8.decode (strB (t.take 14)) N).1 = x := ⟨_, rfl⟩
          obtain ⟨dw, hdw⟩ : ∃ x, (Utf8.decode (strB (t.take 14)) N).2 = x := ⟨_, rfl⟩
          rw [hdc] at H hd_
          rw [hdw] at hit hd_
          replace H : St 25 w a W [(16, .tuple #[.bool true, .int .i64 ((N : Nat) : Int), .int .i32 ((dc : Nat) : Int)]), (15, vo), (2, .bool false)] [] := H
          refine rgO H (gsC hit gs0) (rS 1 rfl <| rK [1, 1, 0] [] [0] <| rZ0 ?_)
          try clear hit H a W
          intro a W H
          refine hK14 _ _ ?_
          clear hK14
          refine cdT H rfl ?_
          refine wp_block ?_
          refine sqR H gs0 fun Z_ z_ => rS 2 rfl <| rK [1, 0, 0, 0] [] [] <| rN0 z_ ?_
          try clear H a W
          intro a W H
          refine wp_seq_k (fun K16 hK16 => ?_)
          cases hq3 : decide (((dc : Nat) : Int) < 48) with
          | true =>
            have hq3p := of_decide_eq_true hq3
            refine rgP H gs0 (rS 1 rfl <| rV rfl (does_binOp rfl rfl rfl (r_cmp.1 hq3 _ _)) <| rS 4 rfl <| rK [1, 0, 0, 0, 0, 0, 0] [] [] <| rZ0 ?_)
            try clear H a W
            intro a W H
            refine hK16 _ _ ?_
            clear hK16
            refine wp_cond_true (H.ev rfl) ?_
            refine sqR H gs0 fun Z_ z_ => rK [1, 0] [] [] <| rS 1 rfl <| rK [1, 0] [] [] <| rN0 z_ ?_
            try clear H a W
            intro a W H
            refine wp_ret ?_
            repeat (first | (with_reducible refine then_ret ?_) | (with_reducible refine blk_ret ?_))
            refine end_tmp (p := 2) rfl rfl H (fun hb => ?_)
            exact ⟨by rw [time_of (N := N) (by omega) (by omega) hpos (.inr hend), decide_eq_false (by omega)], hb⟩
          | false =>
            have hq3p := of_decide_eq_false hq3
            refine rgP H gs0 (rS 1 rfl <| rV rfl (does_binOp rfl rfl rfl (r_cmp.1 hq3 _ _)) <| rS 2 rfl <| rV rfl (does_binOp rfl rfl rfl (r_cmp.2 (decide_eq_true (by omega)) _ _)) <| rS 1 rfl <| rK [1, 0, 0, 0, 0, 0, 0] [] [] <| rZ0 ?_)
            try clear H a W
            intro a W H
            refine hK16 _ _ ?_
            clear hK16
            refine wp_cond_true (H.ev rfl) ?_
            refine sqR H gs0 fun Z_ z_ => rK [1, 0] [] [] <| rS 1 rfl <| rK [1, 0] [] [] <| rN0 z_ ?_
            try clear H a W
            intro a W H
            refine wp_ret ?_
            repeat (first | (with_reducible refine then_ret ?_) | (with_reducible refine blk_ret ?_))
            refine end_tmp (p := 2) rfl rfl H (fun hb => ?_)
            exact ⟨by rw [time_of (N := N) (by omega) (by omega) hpos (.inr hend), decide_eq_false (by omega)], hb⟩
set_option maxHeartbeats 4000000 in
theorem may_alone {k n : Int} {f : Bool} {t lb : List UInt8} {la : List Nat} {ks : List DT} {Ab Aa Ak : Option Addr} {nb cb na ca nk ck gx ox : Nat} (u8 : List UInt8 → Bool) (w : World) (hu8 : UV u8 w) (hn : -9223372036854775808 ≤ n ∧ n < 9223372036854775808) (ht : t.length < 9223372036854775808) (hFb : BF lb (.slice Ab nb cb) w) (hna : na < 9223372036854775808) (hlk : ks.length = nk) (hla : la.length = na) (hax : 0 < na → Aa = some ⟨gx, ox, none⟩ ∧ gx < w.heap.size ∧ ∀ i, i < na → w.cell? ⟨gx, ox + i, none⟩ = some (.int .u64 ((la.getD i 0 : Nat) : Int))) : Calls Tryd.prog 50 #[.agg ((DH.mk k f n (SL.mk Ab nb cb) t (SL.mk Aa na ca) (SL.mk Ak nk ck)).cs)] w (fun rr w' => rr = .returned (.bool (ownD u8 (.mk k f n lb t la ks))) ∧ Below w.heap.size w w') := by
  refine calls_st (vs := [.agg ((DH.mk k f n (SL.mk Ab nb cb) t (SL.mk Aa na ca) (SL.mk Ak nk ck)).cs)]) 39 Tryd.func50 rfl Tryd.ntmps50 rfl (fun a W H => ?_)
  replace H : St 39 w a W [(0, .agg ((DH.mk k f n (SL.mk Ab nb cb) t (SL.mk Aa na ca) (SL.mk Ak nk ck)).cs))] [] := H
  refine sqR H gs0 fun Z_ z_ => rB rfl rfl rfl (bx_der (DH.mk k f n (SL.mk Ab nb cb) t (SL.mk Aa na ca) (SL.mk Ak nk ck))) fun g1 => rS 1 rfl <| rK [1, 1, 0] [] [] <| rN0 z_ ?_
  try clear H a W
  intro a W H
  refine wp_seq_k (fun K2 hK2 => ?_)
  refine wp_seq_k (fun K3 hK3 => ?_)
  cases hq1 : plainE k f n t lb na nk with
  | true =>
    refine rgP H gs0 (rV rfl (does_load rfl rfl (k := 0) rfl Tryd.underlying27 rfl (info_der (DH.mk k f n (SL.mk Ab nb cb) t (SL.mk Aa na ca) (SL.mk Ak nk ck)))) <| rCV rfl rfl ⟨_, Tryd.func69, by kernel_rfl⟩ rfl (fun a W H _ => (by have h_ := is_plain (k := k) (n := n) (f := f) (t := t) (lb := lb) (Ab := Ab) (Aa := Aa) (Ak := Ak) (nb := nb) (cb := cb) (na := na) (ca := ca) (nk := nk) (ck := ck) W (bf_old hFb H); rw [hq1] at h_; exact h_)) <| rS 1 rfl <| rK [1, 0, 0] [] [] <| rZ0 ?_)
    try clear H a W
    intro a W H
    refine hK3 _ _ ?_
    clear hK3
    refine wp_cond_false (H.ev rfl) ?_
    refine wp_skip ?_
    refine hK2 _ _ ?_
    clear hK2
    refine wp_seq_k (fun K4 hK4 => ?_)
    refine sqR H gs0 fun Z_ z_ => rV rfl (does_fieldAddr rfl rfl fa_der0) <| rV rfl (does_loadAt (v := .int .i64 k) rfl rfl (k := 0) rfl ld_derK) <| rK [1, 0, 0] [] [] <| rN0 z_ ?_
    try clear H a W
    intro a W H
    refine wp_block ?_
    refine wp_seq_k (fun K6 hK6 => ?_)
    refine wp_block ?_
    refine wp_seq_k (fun K7 hK7 => ?_)
    refine wp_block ?_
    refine wp_seq_k (fun K8 hK8 => ?_)
    refine wp_block ?_
    refine wp_seq_k (fun K9 hK9 => ?_)
    refine wp_block ?_
    refine wp_seq_k (fun K10 hK10 => ?_)
    refine wp_block ?_
    refine wp_seq_k (fun K11 hK11 => ?_)
    refine wp_seq_k (fun K12 hK12 => ?_)
    refine sqR H gs0 fun Z_ z_ => rV rfl (does_binOp rfl rfl rfl (kd_eql rfl _ _)) <| rS 1 rfl <| rK [1, 0] [] [] <| rN0 z_ ?_
    try clear H a W
    intro a W H
    cases hq2 : decide (k = 5) with
    | true =>
      rw [hq2] at H
      have hq2p := of_decide_eq_true hq2
      refine wp_cond_true (H.ev rfl) ?_
      refine wp_exit ?_
      repeat (first | (with_reducible refine then_exit ?_) | (with_reducible refine blk_pass (by decide) ?_))
      refine blk_exit ?_
      refine hK10 _ _ ?_
      clear hK10
      refine wp_seq_k (fun K14 hK14 => ?_)
      refine sqR H gs0 fun Z_ z_ => rV rfl (does_fieldAddr rfl rfl fa_der5) <| rV rfl (does_loadAt (v := .slice Aa na ca) rfl rfl (k := 0) rfl ld_derA) <| rCV rfl rfl ⟨_, Tryd.func70, by kernel_rfl⟩ rfl (fun a W H _ => (may_oid _ hna hla (fun h0 => ⟨(hax h0).1, Nat.lt_of_lt_of_le (hax h0).2.1 H.below.size, fun i hi => (H.below.cell (p := ⟨gx, ox + i, none⟩) (hax h0).2.1).trans ((hax h0).2.2 i hi)⟩))) <| rK [1, 1, 1, 1, 1, 0] [] [] <| rS 1 rfl <| rK [1, 0, 0, 0, 0, 0] [] [] <| rN0 z_ ?_
      try clear H a W
      intro a W H
      refine wp_ret ?_
      repeat (first | (with_reducible refine then_ret ?_) | (with_reducible refine blk_ret ?_))
      refine end_tmp (p := 2) rfl rfl H (fun hb => ?_)
      refine ⟨?_, hb⟩
      rw [own_plain u8 hn, hla, hlk, hq1, Bool.true_and, if_pos (by omega)]
    | false =>
      rw [hq2] at H
      have hq2p := of_decide_eq_false hq2
      refine wp_cond_false (H.ev rfl) ?_
      refine wp_skip ?_
      refine hK12 _ _ ?_
      clear hK12
      refine wp_seq_k (fun K16 hK16 => ?_)
      refine sqR H gs0 fun Z_ z_ => rV rfl (does_binOp rfl rfl rfl (kd_eql rfl _ _)) <| rS 1 rfl <| rK [1, 0, 0] [] [] <| rN0 z_ ?_
      try clear H a W
      intro a W H
      cases hq3 : decide (k = 6) with
      | true =>
        rw [hq3] at H
        have hq3p := of_decide_eq_true hq3
        refine wp_cond_true (H.ev rfl) ?_
        refine wp_exit ?_
        repeat (first | (with_reducible refine then_exit ?_) | (with_reducible refine blk_pass (by decide) ?_))
        refine blk_exit ?_
        refine hK9 _ _ ?_
        clear hK9
        refine wp_seq_k (fun K18 hK18 => ?_)
        refine sqR H gs0 fun Z_ z_ => rV rfl (does_fieldAddr rfl rfl fa_der4) <| rV rfl (does_loadAt (v := .string (strB t)) rfl rfl (k := 0) rfl ld_derT) <| rCV rfl rfl ⟨_, Tryd.func51, by kernel_rfl⟩ rfl (fun a W H _ => (hu8 _ H.below t ht)) <| rK [1, 1, 1, 1, 1, 0] [] [] <| rS 1 rfl <| rK [1, 0, 0, 0, 0, 0] [] [] <| rN0 z_ ?_
        try clear H a W
        intro a W H
        refine wp_ret ?_
        repeat (first | (with_reducible refine then_ret ?_) | (with_reducible refine blk_ret ?_))
        refine end_tmp (p := 2) rfl rfl H (fun hb => ?_)
        refine ⟨?_, hb⟩
        rw [own_plain u8 hn, hla, hlk, hq1, Bool.true_and, if_neg (by omega), if_pos (by omega)]
      | false =>
        rw [hq3] at H
        have hq3p := of_decide_eq_false hq3
        refine wp_cond_false (H.ev rfl) ?_
        refine wp_skip ?_
        refine hK16 _ _ ?_
        clear hK16
        refine wp_seq_k (fun K20 hK20 => ?_)
        refine sqR H gs0 fun Z_ z_ => rV rfl (does_binOp rfl rfl rfl (kd_eql rfl _ _)) <| rS 1 rfl <| rK [1, 0, 0] [] [] <| rN0 z_ ?_
        try clear H a W
        intro a W H
        cases hq4 : decide (k = 10) with
        | true =>
          rw [hq4] at H
          have hq4p := of_decide_eq_true hq4
          refine wp_cond_true (H.ev rfl) ?_
          refine wp_exit ?_
          repeat (first | (with_reducible refine then_exit ?_) | (with_reducible refine blk_pass (by decide) ?_))
          refine blk_exit ?_
          refine hK8 _ _ ?_
          clear hK8
          refine wp_seq_k (fun K22 hK22 => ?_)
          refine sqR H gs0 fun Z_ z_ => rV rfl (does_fieldAddr rfl rfl fa_der4) <| rV rfl (does_loadAt (v := .string (strB t)) rfl rfl (k := 0) rfl ld_derT) <| rCV rfl rfl ⟨_, Tryd.func71, by kernel_rfl⟩ rfl (fun a W H _ => (is_time _ ht)) <| rK [1, 1, 1, 1, 1, 0] [] [] <| rS 1 rfl <| rK [1, 0, 0, 0, 0, 0] [] [] <| rN0 z_ ?_
          try clear H a W
          intro a W H
          refine wp_ret ?_
          repeat (first | (with_reducible refine then_ret ?_) | (with_reducible refine blk_ret ?_))
          refine end_tmp (p := 2) rfl rfl H (fun hb => ?_)
          refine ⟨?_, hb⟩
          rw [own_plain u8 hn, hla, hlk, hq1, Bool.true_and, if_neg (by omega), if_neg (by omega), if_pos (by omega)]
        | false =>
          rw [hq4] at H
          have hq4p := of_decide_eq_false hq4
          refine wp_cond_false (H.ev rfl) ?_
          refine wp_skip ?_
          refine hK20 _ _ ?_
          clear hK20
          refine wp_seq_k (fun K24 hK24 => ?_)
          refine sqR H gs0 fun Z_ z_ => rV rfl (does_binOp rfl rfl rfl (kd_eql rfl _ _)) <| rS 1 rfl <| rK [1, 0, 0] [] [] <| rN0 z_ ?_
          try clear H a W
          intro a W H
          cases hq5 : decide (k = 8) with
          | true =>
            rw [hq5] at H
            have hq5p := of_decide_eq_true hq5
            refine wp_cond_true (H.ev rfl) ?_
            refine wp_exit ?_
            repeat (first | (with_reducible refine then_exit ?_) | (with_reducible refine blk_pass (by decide) ?_))
            refine blk_exit ?_
            refine hK7 _ _ ?_
            clear hK7
            refine wp_seq_k (fun K26 hK26 => ?_)
            cases hq6 : decide (n < 0) with
            | true =>
              have hq6p := of_decide_eq_true hq6
              refine rgP H gs0 (rV rfl (does_fieldAddr rfl rfl fa_der2) <| rV rfl (does_loadAt (v := .int .i64 n) rfl rfl (k := 0) rfl ld_derN) <| rV rfl (does_binOp rfl rfl rfl (i_cmp.1 hq6 _ _)) <| rS 5 rfl <| rK [1, 0, 0, 0, 0, 0, 0, 0, 0, 0] [] [] <| rZ0 ?_)
              try clear H a W
              intro a W H
              refine hK26 _ _ ?_
              clear hK26
              refine wp_cond_true (H.ev rfl) ?_
              refine sqR H gs0 fun Z_ z_ => rK [1, 0] [] [] <| rS 1 rfl <| rK [1, 0] [] [] <| rN0 z_ ?_
              try clear H a W
              intro a W H
              refine wp_ret ?_
              repeat (first | (with_reducible refine then_ret ?_) | (with_reducible refine blk_ret ?_))
              refine end_tmp (p := 2) rfl rfl H (fun hb => ?_)
              refine ⟨?_, hb⟩
              rw [own_plain u8 hn, hla, hlk, hq1, Bool.true_and, if_neg (by omega), if_neg (by omega), if_neg (by omega), if_pos (by omega)]
              rw [decide_eq_false (p := 0 ≤ n ∧ n ≤ 30) (by omega), Bool.false_and]
            | false =>
              have hq6p := of_decide_eq_false hq6
              refine rgP H gs0 (rV rfl (does_fieldAddr rfl rfl fa_der2) <| rV rfl (does_loadAt (v := .int .i64 n) rfl rfl (k := 0) rfl ld_derN) <| rV rfl (does_binOp rfl rfl rfl (i_cmp.1 hq6 _ _)) <| rS 1 rfl <| rV rfl (does_fieldAddr rfl rfl fa_der2) <| rV rfl (does_loadAt (v := .int .i64 n) rfl rfl (k := 0) rfl ld_derN) <| rV rfl (does_binOp rfl rfl rfl (i_cmp.2.1 rfl _ _)) <| rS 1 rfl <| rK [1, 0, 0, 0, 0, 0, 0, 0, 0, 0] [] [] <| rZ0 ?_)
              try clear H a W
              intro a W H
              refine hK26 _ _ ?_
              clear hK26
              cases hq7 : decide (30 < n) with
              | true =>
                rw [hq7] at H
                have hq7p := of_decide_eq_true hq7
                refine wp_cond_true (H.ev rfl) ?_
                refine sqR H gs0 fun Z_ z_ => rK [1, 0] [] [] <| rS 1 rfl <| rK [1, 0] [] [] <| rN0 z_ ?_
                try clear H a W
                intro a W H
                refine wp_ret ?_
                repeat (first | (with_reducible refine then_ret ?_) | (with_reducible refine blk_ret ?_))
                refine end_tmp (p := 2) rfl rfl H (fun hb => ?_)
                refine ⟨?_, hb⟩
                rw [own_plain u8 hn, hla, hlk, hq1, Bool.true_and, if_neg (by omega), if_neg (by omega), if_neg (by omega), if_pos (by omega)]
                rw [decide_eq_false (p := 0 ≤ n ∧ n ≤ 30) (by omega), Bool.false_and]
              | false =>
                rw [hq7] at H
                have hq7p := of_decide_eq_false hq7
                refine wp_cond_false (H.ev rfl) ?_
                refine wp_skip ?_
                refine blk_normal ?_
                refine hK6 _ _ ?_
                clear hK6
                refine wp_seq_k (fun K29 hK29 => ?_)
                refine sqR H gs0 fun Z_ z_ => rV rfl (does_fieldAddr rfl rfl fa_der6) <| rV rfl (does_loadAt (v := .slice Ak nk ck) rfl rfl (k := 0) rfl ld_derS) <| rV rfl (does_len Tryd.underlying25 rfl rfl) <| rV rfl (does_binOp rfl rfl rfl (z_cmp.2.2.1 rfl _ _)) <| rK [1, 1, 1, 1, 1, 0] [] [] <| rS 1 rfl <| rK [1, 0, 0, 0, 0, 0, 0] [] [] <| rN0 z_ ?_
                try clear H a W
                intro a W H
                refine wp_ret ?_
                repeat (first | (with_reducible refine then_ret ?_) | (with_reducible refine blk_ret ?_))
                refine end_tmp (p := 2) rfl rfl H (fun hb => ?_)
                refine ⟨?_, hb⟩
                rw [own_plain u8 hn, hla, hlk, hq1, Bool.true_and, if_neg (by omega), if_neg (by omega), if_neg (by omega), if_pos (by omega)]
                rw [decide_eq_true (p := 0 ≤ n ∧ n ≤ 30) (by omega), Bool.true_and]
                exact congrArg (fun b_ => Ending.returned (.bool b_)) (decide_eq_decide.2 (by omega))
          | false =>
            rw [hq5] at H
            have hq5p := of_decide_eq_false hq5
            refine wp_cond_false (H.ev rfl) ?_
            refine wp_skip ?_
            refine hK24 _ _ ?_
            clear hK24
            refine sqR H gs0 fun Z_ z_ => rV rfl (does_binOp rfl rfl rfl (kd_eql rfl _ _)) <| rS 1 rfl <| rK [1, 0, 0, 0] [] [] <| rN0 z_ ?_
            try clear H a W
            intro a W H
            cases hq8 : decide (k = 9) with
            | true =>
              rw [hq8] at H
              have hq8p := of_decide_eq_true hq8
              refine wp_cond_true (H.ev rfl) ?_
              refine wp_exit ?_
              repeat (first | (with_reducible refine then_exit ?_) | (with_reducible refine blk_pass (by decide) ?_))
              refine blk_exit ?_
              refine hK6 _ _ ?_
              clear hK6
              refine wp_seq_k (fun K32 hK32 => ?_)
              refine sqR H gs0 fun Z_ z_ => rV rfl (does_fieldAddr rfl rfl fa_der6) <| rV rfl (does_loadAt (v := .slice Ak nk ck) rfl rfl (k := 0) rfl ld_derS) <| rV rfl (does_len Tryd.underlying25 rfl rfl) <| rV rfl (does_binOp rfl rfl rfl (z_cmp.2.2.1 rfl _ _)) <| rK [1, 1, 1, 1, 1, 0] [] [] <| rS 1 rfl <| rK [1, 0, 0, 0, 0, 0, 0] [] [] <| rN0 z_ ?_
              try clear H a W
              intro a W H
              refine wp_ret ?_
              repeat (first | (with_reducible refine then_ret ?_) | (with_reducible refine blk_ret ?_))
              refine end_tmp (p := 2) rfl rfl H (fun hb => ?_)
              refine ⟨?_, hb⟩
              rw [own_plain u8 hn, hla, hlk, hq1, Bool.true_and, if_neg (by omega), if_neg (by omega), if_neg (by omega), if_neg (by omega), if_pos (by omega)]
              exact congrArg (fun b_ => Ending.returned (.bool b_)) (decide_eq_decide.2 (by omega))
            | false =>
              rw [hq8] at H
              have hq8p := of_decide_eq_false hq8
              refine wp_cond_false (H.ev rfl) ?_
              refine wp_skip ?_
              refine hK11 _ _ ?_
              clear hK11
              refine wp_exit ?_
              repeat (first | (with_reducible refine then_exit ?_) | (with_reducible refine blk_pass (by decide) ?_))
              refine blk_exit ?_
              refine hK4 _ _ ?_
              clear hK4
              refine sqR H gs0 fun Z_ z_ => rK [1, 0] [] [] <| rS 1 rfl <| rK [1, 0, 0] [] [] <| rN0 z_ ?_
              try clear H a W
              intro a W H
              refine wp_ret ?_
              repeat (first | (with_reducible refine then_ret ?_) | (with_reducible refine blk_ret ?_))
              refine end_tmp (p := 2) rfl rfl H (fun hb => ?_)
              refine ⟨?_, hb⟩
              rw [own_plain u8 hn, hla, hlk, hq1, Bool.true_and, if_neg (by omega), if_neg (by omega), if_neg (by omega), if_neg (by omega), if_neg (by omega)]
  | false =>
    refine rgP H gs0 (rV rfl (does_load rfl rfl (k := 0) rfl Tryd.underlying27 rfl (info_der (DH.mk k f n (SL.mk Ab nb cb) t (SL.mk Aa na ca) (SL.mk Ak nk ck)))) <| rCV rfl rfl ⟨_, Tryd.func69, by kernel_rfl⟩ rfl (fun a W H _ => (by have h_ := is_plain (k := k) (n := n) (f := f) (t := t) (lb := lb) (Ab := Ab) (Aa := Aa) (Ak := Ak) (nb := nb) (cb := cb) (na := na) (ca := ca) (nk := nk) (ck := ck) W (bf_old hFb H); rw [hq1] at h_; exact h_)) <| rS 1 rfl <| rK [1, 0, 0] [] [] <| rZ0 ?_)
    try clear H a W
    intro a W H
    refine hK3 _ _ ?_
    clear hK3
    refine wp_cond_true (H.ev rfl) ?_
    refine sqR H gs0 fun Z_ z_ => rK [1, 0] [] [] <| rS 1 rfl <| rK [1, 0] [] [] <| rN0 z_ ?_
    try clear H a W
    intro a W H
    refine wp_ret ?_
    repeat (first | (with_reducible refine then_ret ?_) | (with_reducible refine blk_ret ?_))
    refine end_tmp (p := 2) rfl rfl H (fun hb => ?_)
    refine ⟨?_, hb⟩
    rw [own_plain u8 hn, hla, hlk, hq1, Bool.false_and]
end Go.Proofs.YtiafcgoiolbdhaaDoor
namespace Go.Proofs.YtiafcgoiolbdhaaDoor
set_option linter.unusedVariables false
set_option linter.unusedSimpArgs false
set_option maxRecDepth 100000
open Go Go.RowKit
/-- Entries: the key, the value, when it was born. -/
abbrev EntI := Int × Value × Nat
def entI (x : EntI) : MapEntry := { key := .int .i64 x.1, val := x.2.1, born := x.2.2 }
def entsI (l : List EntI) : Array MapEntry := (l.map entI).toArray
section
variable {P : Program} {w : World} {mt kt et : TypeId} {b c : Nat} {l : List EntI}
end
section
variable {P : Program} {n : Nat} {w0 w w' : World} {a : Act} {e : Env} {h : Hep} {Q : Exit → Act → World → Prop} {ops : Array Oper} {rest : List Oper} {o : Oper}
/-- A block becomes another one. -/
theorem St.writeT (H : St n w0 a w e h) {k g : Nat} {t s : Tid} {cs c : Array Value} (hk : h[k]? = some (g, t, cs)) (hs : Blk w' g s c) (hb : Below w0.heap.size w0 w') (ho : ∀ (b : Nat) (t' : Tid) (d : Array Value), b ≠ g → Blk w b t' d → Blk w' b t' d) :
    St n w0 a w' e (h.set k (g, s, c)) := by
  refine ⟨H.size, H.defers, H.env, hb, fun p hp => ?_, fun p hp => ?_, pw_of fun i j x y hl hx hy => ?_⟩
  · rcases setAt_mem hp with rfl | ⟨j, hj, hp⟩
    · exact hs
    · exact ho _ _ _ (pw_ne H.apart hj hp hk) (H.heap p (List.mem_iff_getElem?.2 ⟨j, hp⟩))
  · rcases setAt_mem hp with rfl | ⟨j, hj, hp⟩
    · exact H.own (g, t, cs) (List.mem_iff_getElem?.2 ⟨k, hk⟩)
    · exact H.own p (List.mem_iff_getElem?.2 ⟨j, hp⟩)
  · have fst : ∀ (m : Nat) (z : Nat × Tid × Array Value), (h.set k (g, s, c))[m]? = some z → ∃ u : Nat × Tid × Array Value, h[m]? = some u ∧ u.1 = z.1 := by
      intro m z hz
      by_cases e1 : m = k
      · subst e1
        have hl : m < h.length := (List.getElem?_eq_some_iff.1 hk).1
        rw [List.getElem?_set_self hl] at hz
        exact ⟨_, hk, by rw [← Option.some.inj hz]⟩
      · rw [List.getElem?_set_ne (Ne.symm e1)] at hz
        exact ⟨_, hz, rfl⟩
    obtain ⟨u, hu, eu⟩ := fst i x hx
    obtain ⟨v, hv, ev⟩ := fst j y hy
    rw [← eu, ← ev]
    exact pw_ne H.apart (by omega) hu hv
/-- A new map. -/
theorem pl_makeMap {d : Nat} {mt : TypeId} (ho : o.op = .makeMap mt none) (hg : o.guard = none) (hdst : o.dst = some d) (hl : Nat.blt d n = true) (hf : e.all (fun p => !Nat.beq p.1 d) = true) (H : St n w0 a w e h)
    (next : ∀ (b : Nat) a w, St n w0 a w ((d, .map (some b)) :: e) ((b, .map (entsI []) 0, #[]) :: h) → wpList P ops Q rest a w) : wpList P ops Q (o :: rest) a w :=
  wpList_plain hg fun K hK => by
    have e1 : (execOp a.eval o).run P w = .ok (.value (.map (some w.heap.size))) (w.alloc (.map #[] 0)) := by
      simp [execOp, ho, Instr.makeMap, Result.andThen]
    unfold Oper.wp
    rw [e1]
    refine hK _ _ (next w.heap.size _ _ ?_)
    rw [hdst]
    have hA := MapKept.heap_alloc w (.map #[] 0)
    have hbel : Below w.heap.size w (w.alloc (.map #[] 0)) := (Below.refl _ _).alloc (Nat.le_refl _) _
    have H' := H.news (t := [(w.heap.size, .map (entsI []) 0, #[])]) hbel ⟨fun p hp => by rw [List.mem_singleton.1 hp]; exact ⟨rfl, hA.1⟩, fun p hp => by rw [List.mem_singleton.1 hp]; exact Nat.le_refl _, List.pairwise_singleton _ _⟩
    exact (H'.perm' List.perm_append_comm).put _ hl hf
end
end Go.Proofs.YtiafcgoiolbdhaaDoor
namespace Go.Proofs.YtiafcgoiolbdhaaDoor
set_option linter.unusedVariables false
set_option linter.unusedSimpArgs false
set_option maxRecDepth 100000
open Go Go.RowKit
/-- Where a list stands, and how long it is. -/
abbrev Key := Option (Nat × Nat) × Nat
def keyP (κ : Key) : Option Addr := κ.1.map fun p => ⟨p.1, p.2, none⟩
def keyC (κ : Key) : Array Value := #[.pointer (keyP κ), .int .i64 (κ.2 : Int)]
def keyV (κ : Key) : Value := .agg (keyC κ)
/-- It stands in a plain row. -/
def okK (w : World) (κ : Key) : Prop := ∀ p, κ.1 = some p → Plain w p.1
theorem okK.below {w w' : World} {κ : Key} (h : okK w κ) (hb : Below w.heap.size w w') : okK w' κ := fun p hp => (h p hp).below (h p hp).lt hb
set_option maxHeartbeats 4000000 in
theorem run_eqK {w : World} {κ κ' : Key} (h : okK w κ) (h' : okK w κ') : (Op.equal 69 (keyV κ) (keyV κ')).run Tryd.prog w = .ok (decide (κ = κ')) w := by
  have ht : Tryd.prog.underlying 69 = some (.struct (Tryd.prog.fieldsOf 69)) := by kernel_rfl
  have hp : Tryd.prog.stoodInHeld 69 = false := by kernel_rfl
  have hup : Tryd.prog.underlying 67 = some (.pointer 27) := by kernel_rfl
  have hui : Tryd.prog.underlying 3 = some (.int .i64) := by kernel_rfl
  have hptr : ∀ d, (Op.equalIn (d + 1) 67 (.pointer (keyP κ)) (.pointer (keyP κ'))).run Tryd.prog w = .ok (decide (κ.1 = κ'.1)) w := fun d => by
    obtain ⟨A, n⟩ := κ
    obtain ⟨B, m⟩ := κ'
    unfold keyP
    cases A with
    | none =>
      cases B with
      | none => simp [Op.equalIn, run_underlying hup]
      | some q => simp [Op.equalIn, run_underlying hup]
    | some p =>
      cases B with
      | none => simp [Op.equalIn, run_underlying hup]
      | some q =>
        obtain ⟨ca, ta, ha⟩ := h p rfl
        obtain ⟨cb, tb, hb⟩ := h' q rfl
        have hsz : (sizeOf 27).run Tryd.prog w = .ok 7 w := by
          have hi : (Tryd.prog.info? 27).map (·.size) = some 7 := by kernel_rfl
          cases hq : Tryd.prog.info? 27 with
          | none => rw [hq] at hi; cases hi
          | some i =>
            rw [hq] at hi
            injection hi with hi
            simp [sizeOf, typeInfo, hq, hi]
        have hs : (sameAddr ⟨p.1, p.2, none⟩ ⟨q.1, q.2, none⟩).run Tryd.prog w = .ok (decide ((some p : Option (Nat × Nat)) = some q)) w := by
          by_cases e : p = q
          · subst e
            rw [decide_eq_true rfl]
            exact run_sameAddr_same w _
          · rw [decide_eq_false (fun e2 => e (Option.some.inj e2))]
            refine run_sameAddr_other w (a := ⟨p.1, p.2, none⟩) (b := ⟨q.1, q.2, none⟩) (fun e2 => e ?_) ha hb
            injection e2 with e2 e3
            exact Prod.ext e2 e3
        simp only [Option.map_some, Op.equalIn, Sem.run_bind, run_underlying hup, Result.andThen_ok, hsz]
        simp only [ne_eq, Nat.reduceEqDiff, not_false_eq_true, if_true]
        exact hs
  have hint : (Op.equalIn 9999 3 (.int .i64 (κ.2 : Int)) (.int .i64 (κ'.2 : Int))).run Tryd.prog w = .ok (decide (κ.2 = κ'.2)) w := by
    rw [run_equalIn_int w 9998 3 .i64 .i64 _ _ hui]
    congr 1
    rw [Bool.eq_iff_iff, beq_iff_eq, decide_eq_true_eq]
    omega
  have hfs : (Tryd.prog.fieldsOf 69).toList.map (fun f => (f.name, f.type, f.offset)) = [("first", 67, 0), ("n", 3, 1)] := by kernel_rfl
  unfold keyV Op.equal
  rw [show Op.maxDepth = 9999 + 1 from rfl, run_equalIn_struct w 9999 69 (keyC κ) (keyC κ') ht hp]
  generalize (Tryd.prog.fieldsOf 69).toList = fs at hfs
  rcases fs with _ | ⟨f1, _ | ⟨f2, _ | ⟨f3, r⟩⟩⟩
  · simp at hfs
  · simp at hfs
  · simp only [List.map_cons, List.map_nil, List.cons.injEq, Prod.mk.injEq, and_true] at hfs
    obtain ⟨⟨e1, e2, e3⟩, e4, e5, e6⟩ := hfs
    have hag1 : ∀ cs : Array Value, ∀ v, cs[0]? = some v → (part 67 cs 0).run Tryd.prog w = .ok v w := fun cs v hv => by
      have ha : (isAgg 67).run Tryd.prog w = .ok false w := by
        simp [isAgg, run_underlying hup]
      simp [part, ha, hv]
    have hag2 : ∀ cs : Array Value, ∀ v, cs[1]? = some v → (part 3 cs 1).run Tryd.prog w = .ok v w := fun cs v hv => by
      have ha : (isAgg 3).run Tryd.prog w = .ok false w := by
        simp [isAgg, run_underlying hui]
      simp [part, ha, hv]
    simp only [Op.eqFields, e1, e2, e3, e4, e5, e6, Sem.run_ite, Sem.run_bind]
    rw [hag1 (keyC κ) (.pointer (keyP κ)) rfl]
    simp only [Result.andThen_ok]
    rw [hag1 (keyC κ') (.pointer (keyP κ')) rfl]
    simp only [Result.andThen_ok]
    rw [hptr 9998]
    simp only [Result.andThen_ok]
    by_cases h1 : κ.1 = κ'.1
    · simp only [decide_eq_true h1]
      rw [hag2 (keyC κ) (.int .i64 (κ.2 : Int)) rfl]
      simp only [Result.andThen_ok]
      rw [hag2 (keyC κ') (.int .i64 (κ'.2 : Int)) rfl]
      simp only [Result.andThen_ok]
      rw [hint]
      by_cases h2 : κ.2 = κ'.2
      · have e : κ = κ' := Prod.ext h1 h2
        simp [h2, e]
      · have e : ¬ κ = κ' := fun e => h2 (by rw [e])
        simp [h2, e]
    · have e : ¬ κ = κ' := fun e => h1 (by rw [e])
      simp [h1, e]
  · simp at hfs
/-- A key, and how often it was met. -/
abbrev EntK := Key × Nat
def entK (i : Nat) (x : EntK) : MapEntry := { key := keyV x.1, val := .int .i64 (x.2 : Int), born := i }
def entsFrom : Nat → List EntK → List MapEntry
  | _, [] => []
  | i, x :: r => entK i x :: entsFrom (i + 1) r
def entsK (E : List EntK) : Array MapEntry := (entsFrom 0 E).toArray
def findK (κ : Key) : List EntK → Nat → Option (Nat × Nat)
  | [], _ => none
  | x :: r, i => if κ = x.1 then some (i, x.2) else findK κ r (i + 1)
def cntK (κ : Key) (E : List EntK) : Nat := match findK κ E 0 with | some p => p.2 | none => 0
def posK (κ : Key) (E : List EntK) : Nat := match findK κ E 0 with | some p => p.1 | none => E.length
def touchK (κ : Key) (E : List EntK) : List EntK := match findK κ E 0 with | some _ => E | none => E ++ [(κ, 0)]
def bumpK (κ : Key) (E : List EntK) : List EntK := (touchK κ E).set (posK κ E) (κ, cntK κ E + 1)
theorem run_findK {w : World} {κ : Key} (h : okK w κ) : ∀ (E : List EntK) (j i : Nat), (∀ x ∈ E, okK w x.1) → (Instr.findAsking 69 (keyV κ) (entsFrom j E) i).run Tryd.prog w = .ok ((findK κ E i).map fun p => (p.1, .int .i64 (p.2 : Int))) w
  | [], j, i, _ => rfl
  | x :: r, j, i, hE => by
    have hx := run_eqK h (hE x List.mem_cons_self)
    have hr := run_findK h r (j + 1) (i + 1) fun y hy => hE y (List.mem_cons_of_mem _ hy)
    unfold entsFrom Instr.findAsking findK
    simp only [Sem.run_bind]
    rw [show (entK j x).key = keyV x.1 from rfl, hx]
    simp only [Result.andThen_ok]
    by_cases e : κ = x.1
    · rw [if_pos e, decide_eq_true e]
      simp [entK]
    · rw [if_neg e, decide_eq_false e]
      simpa using hr
theorem findK_at {κ : Key} : ∀ {E : List EntK} {i : Nat} {p : Nat × Nat}, findK κ E i = some p → i ≤ p.1 ∧ E[p.1 - i]? = some (κ, p.2)
  | [], i, p, h => by cases h
  | x :: r, i, p, h => by
    unfold findK at h
    split at h
    · rename_i e
      injection h with h
      subst h
      subst e
      simp
    · obtain ⟨h1, h2⟩ := findK_at h
      refine ⟨by omega, ?_⟩
      rw [show p.1 - i = p.1 - (i + 1) + 1 by omega, List.getElem?_cons_succ]
      exact h2
theorem findK_none {κ : Key} : ∀ {E : List EntK} {i : Nat}, findK κ E i = none → ∀ x ∈ E, x.1 ≠ κ
  | [], i, h => fun x hx => by cases hx
  | y :: r, i, h => fun x hx => by
    unfold findK at h
    split at h
    · cases h
    · rename_i e
      rcases List.mem_cons.1 hx with rfl | hx
      · exact fun e2 => e e2.symm
      · exact findK_none h x hx
theorem findK_app {κ : Key} {c : Nat} : ∀ {E : List EntK} {i : Nat}, findK κ E i = none → findK κ (E ++ [(κ, c)]) i = some (i + E.length, c)
  | [], i, h => by simp [findK]
  | y :: r, i, h => by
    unfold findK at h
    split at h
    · cases h
    · rename_i e
      rw [List.cons_append, findK, if_neg e, findK_app h]
      simp
      omega
theorem entsFrom_app : ∀ (E F : List EntK) (i : Nat), entsFrom i (E ++ F) = entsFrom i E ++ entsFrom (i + E.length) F
  | [], F, i => by simp [entsFrom]
  | x :: r, F, i => by
    rw [List.cons_append, entsFrom, entsFrom, entsFrom_app r F (i + 1), List.cons_append]
    congr 3
    simp
    omega
theorem entsFrom_len : ∀ (E : List EntK) (i : Nat), (entsFrom i E).length = E.length
  | [], _ => rfl
  | x :: r, i => by rw [entsFrom, List.length_cons, List.length_cons, entsFrom_len r]
theorem entsFrom_get : ∀ (E : List EntK) (i k : Nat), (entsFrom i E)[k]? = E[k]?.map (entK (i + k))
  | [], i, k => by simp [entsFrom]
  | x :: r, i, 0 => by simp [entsFrom]
  | x :: r, i, k + 1 => by
    rw [entsFrom, List.getElem?_cons_succ, List.getElem?_cons_succ, entsFrom_get r (i + 1) k]
    congr 2
    omega
theorem entsFrom_set : ∀ (E : List EntK) (i k : Nat) (x : EntK), entsFrom i (E.set k x) = (entsFrom i E).set k (entK (i + k) x)
  | [], i, k, x => by simp [entsFrom]
  | y :: r, i, 0, x => by simp [entsFrom]
  | y :: r, i, k + 1, x => by
    rw [List.set_cons_succ, entsFrom, entsFrom, List.set_cons_succ, entsFrom_set r (i + 1) k x]
    congr 3
    omega
theorem born_at : ∀ (E : List EntK) (i k : Nat), k < E.length → (entsFrom i E).findIdx? (fun e => ((e.born : Nat) : Int) == ((i + k : Nat) : Int)) = some k
  | [], i, k, h => absurd h (Nat.not_lt_zero _)
  | x :: r, i, 0, h => by
    rw [entsFrom, List.findIdx?_cons]
    simp [entK]
  | x :: r, i, k + 1, h => by
    have ih := born_at r (i + 1) k (by simpa using h)
    rw [entsFrom, List.findIdx?_cons]
    have e : ((((entK i x).born : Nat) : Int) == ((i + (k + 1) : Nat) : Int)) = false := by
      rw [show (entK i x).born = i from rfl]
      simp only [beq_eq_false_iff_ne, ne_eq, Int.natCast_inj]
      omega
    rw [show ((((entK i x).born : Nat) : Int) == ((i + (k + 1) : Nat) : Int)) = false from e]
    rw [show i + (k + 1) = i + 1 + k by omega, ih]
    rfl
theorem posK_touch {κ : Key} {E : List EntK} : posK κ E < (touchK κ E).length ∧ (touchK κ E)[posK κ E]? = some (κ, cntK κ E) := by
  unfold posK touchK cntK
  cases h : findK κ E 0 with
  | none => simp
  | some p =>
    obtain ⟨h1, h2⟩ := findK_at h
    rw [Nat.sub_zero] at h2
    exact ⟨(List.getElem?_eq_some_iff.1 h2).1, h2⟩
theorem cnt_touch (κ : Key) (E : List EntK) : cntK κ (touchK κ E) = cntK κ E := by
  unfold touchK
  cases h : findK κ E 0 with
  | none =>
    unfold cntK
    dsimp only
    rw [findK_app h, h]
  | some p => rfl
theorem touch_mem {κ : Key} {E : List EntK} : ∀ x ∈ touchK κ E, x ∈ E ∨ x.1 = κ := by
  unfold touchK
  cases findK κ E 0 with
  | none =>
    intro x hx
    rcases List.mem_append.1 hx with h | h
    · exact .inl h
    · exact .inr (by rw [List.mem_singleton.1 h])
  | some p => exact fun x hx => .inl hx
theorem bump_mem {κ : Key} {E : List EntK} : ∀ x ∈ bumpK κ E, x ∈ E ∨ x = (κ, cntK κ E + 1) ∨ x.1 = κ := by
  intro x hx
  rcases List.mem_or_eq_of_mem_set hx with h | h
  · rcases touch_mem x h with h | h
    · exact .inl h
    · exact .inr (.inr h)
  · exact .inr (.inl h)
theorem same_key (κ : Key) : Instr.sameBits 10000 (keyV κ) (keyV κ) = true := by
  unfold keyV keyC Instr.sameBits
  simp [Instr.sameBits]
section
variable {w : World} {b : Nat} {κ : Key} {E : List EntK}
theorem key_runs (h : okK w κ) (hE : ∀ x ∈ E, okK w x.1) : (∀ e m, (Instr.checkKey e (m + 2) 69 (keyV κ)).run Tryd.prog w = .ok () w) ∧ (Instr.findKey 69 (keyV κ) (entsFrom 0 E)).run Tryd.prog w = .ok ((findK κ E 0).map fun p => (p.1, .int .i64 (p.2 : Int))) w := by
  have ht : Tryd.prog.underlying 69 = some (.struct (Tryd.prog.fieldsOf 69)) := by kernel_rfl
  refine ⟨fun e m => ?_, ?_⟩
  · have hup : Tryd.prog.underlying 67 = some (.pointer 27) := by kernel_rfl
    have hui : Tryd.prog.underlying 3 = some (.int .i64) := by kernel_rfl
    have hfs : (Tryd.prog.fieldsOf 69).toList.map (fun f => (f.name, f.type, f.offset)) = [("first", 67, 0), ("n", 3, 1)] := by kernel_rfl
    unfold keyV Instr.checkKey
    simp only [Sem.run_bind, run_underlying ht, Result.andThen_ok]
    rw [← Array.forIn_toList]
    generalize (Tryd.prog.fieldsOf 69).toList = fs at hfs
    rcases fs with _ | ⟨f1, _ | ⟨f2, _ | ⟨f3, r⟩⟩⟩
    · simp at hfs
    · simp at hfs
    · simp only [List.map_cons, List.map_nil, List.cons.injEq, Prod.mk.injEq, and_true] at hfs
      obtain ⟨⟨e1, e2, e3⟩, e4, e5, e6⟩ := hfs
      have hag1 : (part 67 (keyC κ) 0).run Tryd.prog w = .ok (.pointer (keyP κ)) w := by
        have ha : (isAgg 67).run Tryd.prog w = .ok false w := by simp [isAgg, run_underlying hup]
        simp [part, ha, keyC]
      have hag2 : (part 3 (keyC κ) 1).run Tryd.prog w = .ok (.int .i64 (κ.2 : Int)) w := by
        have ha : (isAgg 3).run Tryd.prog w = .ok false w := by simp [isAgg, run_underlying hui]
        simp [part, ha, keyC]
      have hc1 : (Instr.checkKey e (m + 1) 67 (.pointer (keyP κ))).run Tryd.prog w = .ok () w := by
        simp [Instr.checkKey, run_underlying hup]
      have hc2 : (Instr.checkKey e (m + 1) 3 (.int .i64 (κ.2 : Int))).run Tryd.prog w = .ok () w := by
        simp [Instr.checkKey, run_underlying hui]
      simp [e1, e2, e3, e4, e5, e6, hag1, hag2, hc1, hc2]
    · simp at hfs
  · rw [run_findKey_eq w (by kernel_rfl)]
    exact run_findK h E 0 0 hE
theorem run_lookK (hb : Blk w b (.map (entsK E) E.length) #[]) (h : okK w κ) (hE : ∀ x ∈ E, okK w x.1) : (Instr.lookup 85 (.map (some b)) (keyV κ) false).run Tryd.prog w = .ok (.int .i64 ((cntK κ E : Nat) : Int)) w := by
  have hm : Tryd.prog.underlying 85 = some (.map 69 3) := by kernel_rfl
  obtain ⟨hc, hf⟩ := key_runs h hE
  unfold Instr.lookup
  simp only [Sem.run_bind, run_underlying hm, Result.andThen_ok, MapKept.run_getObj_map hb.2, Sem.run_pure]
  rw [hc _ 9998]
  simp only [Result.andThen_ok]
  rw [show (entsK E).toList = entsFrom 0 E from rfl, hf]
  unfold cntK
  cases findK κ E 0 with
  | none =>
    have hz : (zeroValue 3).run Tryd.prog w = .ok (.int .i64 0) w := by kernel_rfl
    simp [hz, Result.andThen]
  | some p => simp [Result.andThen]
theorem run_entryK (hb : Blk w b (.map (entsK E) E.length) #[]) (h : okK w κ) (hE : ∀ x ∈ E, okK w x.1) :
    (Instr.mapEntry 85 (.map (some b)) (keyV κ)).run Tryd.prog w = .ok (.tuple #[.int .i64 ((cntK κ E : Nat) : Int), .int .i64 ((posK κ E : Nat) : Int)]) { w with heap := w.heap.setIfInBounds b (.map (entsK (touchK κ E)) (touchK κ E).length) } := by
  have hm : Tryd.prog.underlying 85 = some (.map 69 3) := by kernel_rfl
  obtain ⟨hc, hf⟩ := key_runs h hE
  unfold Instr.mapEntry
  simp only [Sem.run_bind, run_underlying hm, Result.andThen_ok, MapKept.run_getObj_map hb.2]
  rw [hc _ 9998]
  simp only [Result.andThen_ok]
  rw [show (entsK E).toList = entsFrom 0 E from rfl, hf]
  unfold cntK posK touchK
  cases hq : findK κ E 0 with
  | none =>
    have hz : (zeroValue 3).run Tryd.prog w = .ok (.int .i64 0) w := by kernel_rfl
    have e : (entsK E).push { key := keyV κ, val := .int .i64 0, born := E.length } = entsK (E ++ [(κ, 0)]) := by
      apply Array.toList_inj.1
      rw [Array.toList_push]
      show entsFrom 0 E ++ [_] = entsFrom 0 (E ++ [(κ, 0)])
      rw [entsFrom_app]
      simp [entsFrom, entK]
    simp only [Option.map_none, Result.andThen_ok, Sem.run_bind, hz, e, MapKept.run_setObj_map _ hb.2, Sem.run_pure, goInt, List.length_append, List.length_singleton]
    rfl
  | some p =>
    obtain ⟨_, h2⟩ := findK_at hq
    rw [Nat.sub_zero] at h2
    have h3 : (entsK E)[p.1]? = some (entK p.1 (κ, p.2)) := by
      show (entsFrom 0 E).toArray[p.1]? = _
      rw [List.getElem?_toArray, entsFrom_get, h2, Nat.zero_add]
      rfl
    have hk : (Instr.keyThatStays (keyV κ) (keyV κ)).run Tryd.prog w = .ok (keyV κ) w := by
      unfold Instr.keyThatStays
      rw [if_pos (same_key κ)]
      rfl
    have e : (entsK E).modify p.1 (fun e => { e with key := keyV κ }) = entsK E := by
      apply Array.toList_inj.1
      rw [Array.toList_modify]
      refine List.ext_getElem? fun k => ?_
      rw [List.getElem?_modify]
      by_cases hk : p.1 = k
      · subst hk
        have : (entsK E).toList[p.1]? = some (entK p.1 (κ, p.2)) := by rw [Array.getElem?_toList]; exact h3
        rw [this]
        simp [entK]
      · simp [hk]
    simp only [Option.map_some, Result.andThen_ok, Sem.run_bind, h3, Option.getD_some, show (entK p.1 (κ, p.2)).key = keyV κ from rfl, hk, e, MapKept.run_setObj_map _ hb.2, Sem.run_pure, goInt, show (entK p.1 (κ, p.2)).born = p.1 from rfl]
theorem run_storeK {w2 : World} (hb : Blk w2 b (.map (entsK (touchK κ E)) (touchK κ E).length) #[]) :
    (Instr.entryStore 85 (.map (some b)) (.int .i64 ((posK κ E : Nat) : Int)) (.int .i64 ((cntK κ E + 1 : Nat) : Int))).run Tryd.prog w2 = .ok () { w2 with heap := w2.heap.setIfInBounds b (.map (entsK (bumpK κ E)) (bumpK κ E).length) } := by
  obtain ⟨h1, h2⟩ := posK_touch (κ := κ) (E := E)
  have hidx : (entsK (touchK κ E)).findIdx? (fun e => ((e.born : Nat) : Int) == ((posK κ E : Nat) : Int)) = some (posK κ E) := by
    have := born_at (touchK κ E) 0 (posK κ E) h1
    rw [Nat.zero_add] at this
    simpa [entsK] using this
  have e : (entsK (touchK κ E)).modify (posK κ E) (fun e => { e with val := .int .i64 ((cntK κ E + 1 : Nat) : Int) }) = entsK (bumpK κ E) := by
    apply Array.toList_inj.1
    rw [Array.toList_modify]
    show (entsFrom 0 (touchK κ E)).modify _ _ = entsFrom 0 (bumpK κ E)
    unfold bumpK
    rw [entsFrom_set]
    refine List.ext_getElem? fun k => ?_
    rw [List.getElem?_modify]
    by_cases hk : posK κ E = k
    · subst hk
      rw [List.getElem?_set_self (by rw [entsFrom_len]; exact h1), entsFrom_get, h2]
      simp [entK]
    · rw [List.getElem?_set_ne hk]
      simp [hk]
  unfold Instr.entryStore
  simp only [Sem.run_bind, MapKept.run_getObj_map hb.2, Result.andThen_ok, asInt, asIntOf, Sem.run_pure]
  simp only [hidx, e, MapKept.run_setObj_map _ hb.2]
  simp [bumpK]
end
end Go.Proofs.YtiafcgoiolbdhaaDoor
namespace Go.Proofs.YtiafcgoiolbdhaaDoor
set_option linter.unusedVariables false
set_option linter.unusedSimpArgs false
set_option maxRecDepth 100000
open Go Go.RowKit
def ops12 : Array Oper := #[{ dst := some 30, op := Go.Op.move (Go.Operand.tmp 5), type := 85, pos := "values.go:64", after := #[], guard := none }, { dst := some 31, op := Go.Op.load 69 (Go.Operand.tmp 10), type := 69, pos := "values.go:64", after := #[], guard := none }, { dst := some 32, op := Go.Op.lookup 85 (Go.Operand.tmp 30) (Go.Operand.tmp 31) false, type := 3, pos := "values.go:64", after := #[{ on := 0, ground := Go.Ground.data }, { on := 1, ground := Go.Ground.data }], guard := none }, { dst := some 33, op := Go.Op.binOp Go.BinOp.add 3 (Go.Operand.tmp 32) (Go.Operand.const (Go.Value.int Go.IntKind.i64 1)) 3, type := 3, pos := "values.go:64", after := #[{ on := 2, ground := Go.Ground.data }], guard := none }, { dst := some 34, op := Go.Op.mapEntry 85 (Go.Operand.tmp 30) (Go.Operand.tmp 31), type := 0, pos := "values.go:64", after := #[{ on := 0, ground := Go.Ground.data }, { on := 1, ground := Go.Ground.data }, { on := 0, ground := Go.Ground.phase }, { on := 1, ground := Go.Ground.phase }, { on := 2, ground := Go.Ground.textOnly Go.Departure.mapOpAssignEntry }, { on := 3, ground := Go.Ground.textOnly Go.Departure.mapOpAssignEntry }], guard := none }, { dst := some 35, op := Go.Op.extract (Go.Operand.tmp 34) 1, type := 3, pos := "values.go:64", after := #[{ on := 4, ground := Go.Ground.data }], guard := none }, { dst := none, op := Go.Op.entryStore 85 (Go.Operand.tmp 30) (Go.Operand.tmp 35) (Go.Operand.tmp 33), type := 0, pos := "values.go:64", after := #[{ on := 0, ground := Go.Ground.data }, { on := 5, ground := Go.Ground.data }, { on := 3, ground := Go.Ground.data }, { on := 4, ground := Go.Ground.chain }, { on := 0, ground := Go.Ground.phase }, { on := 1, ground := Go.Ground.phase }, { on := 2, ground := Go.Ground.phase }, { on := 3, ground := Go.Ground.phase }, { on := 4, ground := Go.Ground.phase }, { on := 5, ground := Go.Ground.phase }], guard := none }]
theorem zd_addI {k m c : Int} (hc : k + m = c) (h : -9223372036854775808 ≤ c ∧ c < 9223372036854775808) (p q : Operand) (W : World) : (do eqGuard .add 3 p q (.int .i64 k) (.int .i64 m); binOp .add 3 (.int .i64 k) (.int .i64 m) : Sem Value).run Tryd.prog W = .ok (.int .i64 c) W := by
  subst hc
  have e : IntKind.i64.wrap (k + m) = k + m := IntWalk.i64_in _ (by omega)
  go_simp
theorem info_list (κ : Key) : (Tryd.prog.info? 69).map (·.size) = some (keyC κ).size := by
  rw [show (keyC κ).size = 2 from rfl]
  kernel_rfl
section
variable {P : Program} {n : Nat} {w0 w : World} {a : Act} {e e' : Env} {h : Hep} {Q : Exit → Act → World → Prop} {ops : Array Oper} {o : Oper}
/-- What an operation comes to, wherever in a region. -/
theorem does_any {v : Value} {d : Nat} {K K' : Act → World → Prop} (hy : Does P Q n w0 e h o v) (hg : o.guard = none) (hdst : o.dst = some d) (hl : Nat.blt d n = true) (hf : e.all (fun p => !Nat.beq p.1 d) = true) (H : St n w0 a w e h) (hK : ∀ a w, K a w → K' a w) (next : ∀ a w, St n w0 a w ((d, v) :: e) h → K a w) :
    if Region.wanted o (yielded ops a.tmps) = true then Oper.wp P o a w K' Q else K' (a.put o.dst undef) w := by
  rw [if_pos (wanted_none (ops := ops) hg a w H)]
  refine Oper.wp_mono (fun a' w' ⟨e1, hb⟩ => ?_) (hy a w H)
  subst e1
  rw [hdst]
  exact hK _ _ (next _ _ ((H.call hb).put _ hl hf))
theorem run_any {v : Value} {w' : World} {K K' : Act → World → Prop} (hy : (execOp a.eval o).run P w = .ok (.value v) w') (hg : o.guard = none) (hw : Region.wanted o (yielded ops a.tmps) = true) (hK : ∀ a w, K a w → K' a w) (next : K (a.put o.dst v) w') :
    if Region.wanted o (yielded ops a.tmps) = true then Oper.wp P o a w K' Q else K' (a.put o.dst undef) w := by
  rw [if_pos hw]
  unfold Oper.wp
  rw [hy]
  exact hK _ _ next
theorem skip_any {w' : World} {K K' : Act → World → Prop} (hy : (execOp a.eval o).run P w = .ok .skip w') (hw : Region.wanted o (yielded ops a.tmps) = true) (hK : ∀ a w, K a w → K' a w) (next : K (a.put o.dst undef) w') :
    if Region.wanted o (yielded ops a.tmps) = true then Oper.wp P o a w K' Q else K' (a.put o.dst undef) w := by
  rw [if_pos hw]
  unfold Oper.wp
  rw [hy]
  exact hK _ _ next
/-- A told map becomes another one. -/
theorem St.mapT {b : Nat} {es es' : Array MapEntry} {c c' : Nat} (H : St n w0 a w e ((b, .map es c, #[]) :: h)) : St n w0 a { w with heap := w.heap.setIfInBounds b (.map es' c') } e ((b, .map es' c', #[]) :: h) := by
  have hmem : (b, Tid.map es c, (#[] : Array Value)) ∈ (b, Tid.map es c, (#[] : Array Value)) :: h := List.mem_cons_self
  have hb : Blk w b (.map es c) #[] := H.heap _ hmem
  have hown : w0.heap.size ≤ b := H.own _ hmem
  have hset := MapKept.heap_set (o' := Obj.map es' c') hb.2
  have hgrow : w.grownBy { w with heap := w.heap.setIfInBounds b (.map es' c') } (some b) := ⟨rfl, rfl, rfl, by simp, fun j _ hj => hset.2 j (fun e => hj (by rw [e]))⟩
  exact H.writeT (k := 0) rfl ⟨rfl, hset.1⟩ (H.below.grown hgrow H.below.size (fun j hj => by injection hj with hj; rw [← hj]; exact hown)) (fun b' t' d hne hB => hB.as (hset.2 b' hne))
end
section
variable {w0 w : World} {a : Act} {e : Env} {h : Hep} {Q : Exit → Act → World → Prop} {b gl : Nat} {κ : Key} {E : List EntK}
set_option maxHeartbeats 4000000 in
theorem reg12 (H : St 53 w0 a w e ((b, .map (entsK E) E.length, #[]) :: (gl, .ty 69, keyC κ) :: h)) (h5 : sev e (.tmp 5) = some (.map (some b))) (h10 : sev e (.tmp 10) = some (.pointer (some ⟨gl, 0, none⟩))) (hfr : ∀ d, 30 ≤ d → d ≤ 35 → e.all (fun p => !Nat.beq p.1 d) = true) (hc : cntK κ E < 1000000000) (hκ : okK w0 κ) (hE : ∀ x ∈ E, okK w0 x.1)
    (next : ∀ a w, St 53 w0 a w e ((b, .map (entsK (bumpK κ E)) (bumpK κ E).length, #[]) :: (gl, .ty 69, keyC κ) :: h) → Q .normal a w) : (Code.region 12 ops12 true).wp Tryd.prog Q a w := by
  have hf1 : ∀ d, 30 ≤ d → d ≤ 35 → e.all (fun p => !Nat.beq p.1 d) = true := hfr
  have hT : ∀ x ∈ touchK κ E, okK w0 x.1 := fun x hx => by
    rcases touch_mem x hx with h | h
    · exact hE x h
    · rw [h]; exact hκ
  have s22 : ∀ a w, St 53 w0 a w ([(35, .int .i64 ((posK κ E : Nat) : Int)), (34, .tuple #[.int .i64 ((cntK κ E : Nat) : Int), .int .i64 ((posK κ E : Nat) : Int)])] ++ ([(33, .int .i64 ((cntK κ E + 1 : Nat) : Int)), (32, .int .i64 ((cntK κ E : Nat) : Int))] ++ ((31, keyV κ) :: (30, .map (some b)) :: e))) ((b, .map (entsK (touchK κ E)) (touchK κ E).length, #[]) :: (gl, .ty 69, keyC κ) :: h) → wpAny Tryd.prog .any ops12 Q 1 #[true, true, true, true, true, true, false] a w := fun a w H => by
    refine wpAny_ready (rs := [6]) (by kernel_rfl) (by simp) (AllReady.cons (o := ops12[6]) rfl (fun K' hK => ?_) AllReady.nil)
    have hb : Blk w b (.map (entsK (touchK κ E)) (touchK κ E).length) #[] := H.heap _ List.mem_cons_self
    have e1 : (execOp a.eval ops12[6]).run Tryd.prog w = .ok .skip { w with heap := w.heap.setIfInBounds b (.map (entsK (bumpK κ E)) (bumpK κ E).length) } := by
      have x1 : a.eval (.tmp 30) = .map (some b) := H.ev rfl
      have x2 : a.eval (.tmp 35) = .int .i64 ((posK κ E : Nat) : Int) := H.ev rfl
      have x3 : a.eval (.tmp 33) = .int .i64 ((cntK κ E + 1 : Nat) : Int) := H.ev rfl
      have hs := run_storeK hb
      generalize cntK κ E + 1 = m at hs x3
      simp only [ops12, execOp, List.getElem_toArray, List.getElem_cons_succ, List.getElem_cons_zero, x1, x2, x3]
      simp [hs, Result.andThen]
    refine skip_any (w' := { w with heap := w.heap.setIfInBounds b (.map (entsK (bumpK κ E)) (bumpK κ E).length) }) e1 (wanted_none (ops := ops12) rfl a w H) hK (wpAny_done (by kernel_rfl) (next _ _ ?_) _)
    exact (St.mapT (es' := entsK (bumpK κ E)) (c' := (bumpK κ E).length) H).sub (fun p hp => List.mem_append.2 (.inr (List.mem_append.2 (.inr (List.mem_cons_of_mem _ (List.mem_cons_of_mem _ hp)))))) (fun _ h => h) (St.mapT (es' := entsK (bumpK κ E)) (c' := (bumpK κ E).length) H).apart
  have s21 : ∀ a w, St 53 w0 a w ([(34, .tuple #[.int .i64 ((cntK κ E : Nat) : Int), .int .i64 ((posK κ E : Nat) : Int)])] ++ ([(33, .int .i64 ((cntK κ E + 1 : Nat) : Int)), (32, .int .i64 ((cntK κ E : Nat) : Int))] ++ ((31, keyV κ) :: (30, .map (some b)) :: e))) ((b, .map (entsK (touchK κ E)) (touchK κ E).length, #[]) :: (gl, .ty 69, keyC κ) :: h) → wpAny Tryd.prog .any ops12 Q 2 #[true, true, true, true, true, false, false] a w := fun a w H => by
    refine wpAny_ready (rs := [5]) (by kernel_rfl) (by simp) (AllReady.cons (o := ops12[5]) rfl (fun K' hK => ?_) AllReady.nil)
    all_goals have hb : Blk w b (.map (entsK (touchK κ E)) (touchK κ E).length) #[] := H.heap _ List.mem_cons_self
    · refine does_any (d := 35) (does_run (v := .int .i64 ((posK κ E : Nat) : Int)) fun a w H => by
        have x1 : a.eval (.tmp 34) = .tuple #[.int .i64 ((cntK κ E : Nat) : Int), .int .i64 ((posK κ E : Nat) : Int)] := H.ev rfl
        simp only [ops12, execOp, List.getElem_toArray, List.getElem_cons_succ, List.getElem_cons_zero, x1]
        simp [Instr.extract, Result.andThen]) rfl rfl rfl (by simp [List.all_append, hf1 35 (by decide) (by decide)] <;> decide) H hK (fun a w H2 => ?_)
      exact s22 a w H2
  have s12 : ∀ a w, St 53 w0 a w ([(35, .int .i64 ((posK κ E : Nat) : Int)), (34, .tuple #[.int .i64 ((cntK κ E : Nat) : Int), .int .i64 ((posK κ E : Nat) : Int)])] ++ ([(32, .int .i64 ((cntK κ E : Nat) : Int))] ++ ((31, keyV κ) :: (30, .map (some b)) :: e))) ((b, .map (entsK (touchK κ E)) (touchK κ E).length, #[]) :: (gl, .ty 69, keyC κ) :: h) → wpAny Tryd.prog .any ops12 Q 2 #[true, true, true, false, true, true, false] a w := fun a w H => by
    refine wpAny_ready (rs := [3]) (by kernel_rfl) (by simp) (AllReady.cons (o := ops12[3]) rfl (fun K' hK => ?_) AllReady.nil)
    all_goals have hb : Blk w b (.map (entsK (touchK κ E)) (touchK κ E).length) #[] := H.heap _ List.mem_cons_self
    · refine does_any (d := 33) (does_binOp (v := .int .i64 ((cntK κ E + 1 : Nat) : Int)) rfl rfl rfl (zd_addI (by omega) (by omega) _ _)) rfl rfl rfl (by simp [List.all_append, hf1 33 (by decide) (by decide)] <;> decide) H hK (fun a w H2 => ?_)
      exact s22 a w (H2.sub (fun p hp => List.perm_middle.mem_iff.1 hp) (fun _ h => h) H2.apart)
  have s11 : ∀ a w, St 53 w0 a w ([(34, .tuple #[.int .i64 ((cntK κ E : Nat) : Int), .int .i64 ((posK κ E : Nat) : Int)])] ++ ([(32, .int .i64 ((cntK κ E : Nat) : Int))] ++ ((31, keyV κ) :: (30, .map (some b)) :: e))) ((b, .map (entsK (touchK κ E)) (touchK κ E).length, #[]) :: (gl, .ty 69, keyC κ) :: h) → wpAny Tryd.prog .any ops12 Q 3 #[true, true, true, false, true, false, false] a w := fun a w H => by
    refine wpAny_ready (rs := [3, 5]) (by kernel_rfl) (by simp) (AllReady.cons (o := ops12[3]) rfl (fun K' hK => ?_) (AllReady.cons (o := ops12[5]) rfl (fun K' hK => ?_) AllReady.nil))
    all_goals have hb : Blk w b (.map (entsK (touchK κ E)) (touchK κ E).length) #[] := H.heap _ List.mem_cons_self
    · refine does_any (d := 33) (does_binOp (v := .int .i64 ((cntK κ E + 1 : Nat) : Int)) rfl rfl rfl (zd_addI (by omega) (by omega) _ _)) rfl rfl rfl (by simp [List.all_append, hf1 33 (by decide) (by decide)] <;> decide) H hK (fun a w H2 => ?_)
      exact s21 a w (H2.sub (fun p hp => List.perm_middle.mem_iff.1 hp) (fun _ h => h) H2.apart)
    · refine does_any (d := 35) (does_run (v := .int .i64 ((posK κ E : Nat) : Int)) fun a w H => by
        have x1 : a.eval (.tmp 34) = .tuple #[.int .i64 ((cntK κ E : Nat) : Int), .int .i64 ((posK κ E : Nat) : Int)] := H.ev rfl
        simp only [ops12, execOp, List.getElem_toArray, List.getElem_cons_succ, List.getElem_cons_zero, x1]
        simp [Instr.extract, Result.andThen]) rfl rfl rfl (by simp [List.all_append, hf1 35 (by decide) (by decide)] <;> decide) H hK (fun a w H2 => ?_)
      exact s12 a w H2
  have s20 : ∀ a w, St 53 w0 a w (([] : Env) ++ ([(33, .int .i64 ((cntK κ E + 1 : Nat) : Int)), (32, .int .i64 ((cntK κ E : Nat) : Int))] ++ ((31, keyV κ) :: (30, .map (some b)) :: e))) ((b, .map (entsK E) E.length, #[]) :: (gl, .ty 69, keyC κ) :: h) → wpAny Tryd.prog .any ops12 Q 3 #[true, true, true, true, false, false, false] a w := fun a w H => by
    refine wpAny_ready (rs := [4]) (by kernel_rfl) (by simp) (AllReady.cons (o := ops12[4]) rfl (fun K' hK => ?_) AllReady.nil)
    all_goals have hb : Blk w b (.map (entsK E) E.length) #[] := H.heap _ List.mem_cons_self
    · have e1 : (execOp a.eval ops12[4]).run Tryd.prog w = .ok (.value (.tuple #[.int .i64 ((cntK κ E : Nat) : Int), .int .i64 ((posK κ E : Nat) : Int)])) { w with heap := w.heap.setIfInBounds b (.map (entsK (touchK κ E)) (touchK κ E).length) } := by
        have x1 : a.eval (.tmp 30) = .map (some b) := H.ev rfl
        have x2 : a.eval (.tmp 31) = keyV κ := H.ev rfl
        have hl := run_entryK hb (hκ.below H.below) (fun x hx => (hE x hx).below H.below)
        simp only [ops12, execOp, List.getElem_toArray, List.getElem_cons_succ, List.getElem_cons_zero, x1, x2]
        simp [hl, Result.andThen]
      refine run_any e1 rfl (wanted_none (ops := ops12) rfl a w H) hK (s21 _ _ ?_)
      exact (St.mapT (es' := entsK (touchK κ E)) (c' := (touchK κ E).length) H).put (d := 34) _ rfl (by simp [List.all_append, hf1 34 (by decide) (by decide)] <;> decide)
  have s02 : ∀ a w, St 53 w0 a w ([(35, .int .i64 ((posK κ E : Nat) : Int)), (34, .tuple #[.int .i64 ((cntK κ E : Nat) : Int), .int .i64 ((posK κ E : Nat) : Int)])] ++ (([] : Env) ++ ((31, keyV κ) :: (30, .map (some b)) :: e))) ((b, .map (entsK (touchK κ E)) (touchK κ E).length, #[]) :: (gl, .ty 69, keyC κ) :: h) → wpAny Tryd.prog .any ops12 Q 3 #[true, true, false, false, true, true, false] a w := fun a w H => by
    refine wpAny_ready (rs := [2]) (by kernel_rfl) (by simp) (AllReady.cons (o := ops12[2]) rfl (fun K' hK => ?_) AllReady.nil)
    all_goals have hb : Blk w b (.map (entsK (touchK κ E)) (touchK κ E).length) #[] := H.heap _ List.mem_cons_self
    · refine does_any (d := 32) (does_run (v := .int .i64 ((cntK κ E : Nat) : Int)) fun a w H => by
        have hb : Blk w b (.map (entsK (touchK κ E)) (touchK κ E).length) #[] := H.heap _ List.mem_cons_self
        have x1 : a.eval (.tmp 30) = .map (some b) := H.ev rfl
        have x2 : a.eval (.tmp 31) = keyV κ := H.ev rfl
        have hl : (Instr.lookup 85 (.map (some b)) (keyV κ) false).run Tryd.prog w = .ok (.int .i64 ((cntK κ E : Nat) : Int)) w := (by have h_ := run_lookK hb (hκ.below H.below) (fun x hx => (hT x hx).below H.below); rw [cnt_touch] at h_; exact h_)
        simp only [ops12, execOp, List.getElem_toArray, List.getElem_cons_succ, List.getElem_cons_zero, x1, x2]
        simp [hl, Result.andThen]) rfl rfl rfl (by simp [List.all_append, hf1 32 (by decide) (by decide)] <;> decide) H hK (fun a w H2 => ?_)
      exact s12 a w (H2.sub (fun p hp => List.perm_middle.mem_iff.1 hp) (fun _ h => h) H2.apart)
  have s10 : ∀ a w, St 53 w0 a w (([] : Env) ++ ([(32, .int .i64 ((cntK κ E : Nat) : Int))] ++ ((31, keyV κ) :: (30, .map (some b)) :: e))) ((b, .map (entsK E) E.length, #[]) :: (gl, .ty 69, keyC κ) :: h) → wpAny Tryd.prog .any ops12 Q 4 #[true, true, true, false, false, false, false] a w := fun a w H => by
    refine wpAny_ready (rs := [3, 4]) (by kernel_rfl) (by simp) (AllReady.cons (o := ops12[3]) rfl (fun K' hK => ?_) (AllReady.cons (o := ops12[4]) rfl (fun K' hK => ?_) AllReady.nil))
    all_goals have hb : Blk w b (.map (entsK E) E.length) #[] := H.heap _ List.mem_cons_self
    · refine does_any (d := 33) (does_binOp (v := .int .i64 ((cntK κ E + 1 : Nat) : Int)) rfl rfl rfl (zd_addI (by omega) (by omega) _ _)) rfl rfl rfl (by simp [List.all_append, hf1 33 (by decide) (by decide)] <;> decide) H hK (fun a w H2 => ?_)
      exact s20 a w (H2)
    · have e1 : (execOp a.eval ops12[4]).run Tryd.prog w = .ok (.value (.tuple #[.int .i64 ((cntK κ E : Nat) : Int), .int .i64 ((posK κ E : Nat) : Int)])) { w with heap := w.heap.setIfInBounds b (.map (entsK (touchK κ E)) (touchK κ E).length) } := by
        have x1 : a.eval (.tmp 30) = .map (some b) := H.ev rfl
        have x2 : a.eval (.tmp 31) = keyV κ := H.ev rfl
        have hl := run_entryK hb (hκ.below H.below) (fun x hx => (hE x hx).below H.below)
        simp only [ops12, execOp, List.getElem_toArray, List.getElem_cons_succ, List.getElem_cons_zero, x1, x2]
        simp [hl, Result.andThen]
      refine run_any e1 rfl (wanted_none (ops := ops12) rfl a w H) hK (s11 _ _ ?_)
      exact (St.mapT (es' := entsK (touchK κ E)) (c' := (touchK κ E).length) H).put (d := 34) _ rfl (by simp [List.all_append, hf1 34 (by decide) (by decide)] <;> decide)
  have s01 : ∀ a w, St 53 w0 a w ([(34, .tuple #[.int .i64 ((cntK κ E : Nat) : Int), .int .i64 ((posK κ E : Nat) : Int)])] ++ (([] : Env) ++ ((31, keyV κ) :: (30, .map (some b)) :: e))) ((b, .map (entsK (touchK κ E)) (touchK κ E).length, #[]) :: (gl, .ty 69, keyC κ) :: h) → wpAny Tryd.prog .any ops12 Q 4 #[true, true, false, false, true, false, false] a w := fun a w H => by
    refine wpAny_ready (rs := [2, 5]) (by kernel_rfl) (by simp) (AllReady.cons (o := ops12[2]) rfl (fun K' hK => ?_) (AllReady.cons (o := ops12[5]) rfl (fun K' hK => ?_) AllReady.nil))
    all_goals have hb : Blk w b (.map (entsK (touchK κ E)) (touchK κ E).length) #[] := H.heap _ List.mem_cons_self
    · refine does_any (d := 32) (does_run (v := .int .i64 ((cntK κ E : Nat) : Int)) fun a w H => by
        have hb : Blk w b (.map (entsK (touchK κ E)) (touchK κ E).length) #[] := H.heap _ List.mem_cons_self
        have x1 : a.eval (.tmp 30) = .map (some b) := H.ev rfl
        have x2 : a.eval (.tmp 31) = keyV κ := H.ev rfl
        have hl : (Instr.lookup 85 (.map (some b)) (keyV κ) false).run Tryd.prog w = .ok (.int .i64 ((cntK κ E : Nat) : Int)) w := (by have h_ := run_lookK hb (hκ.below H.below) (fun x hx => (hT x hx).below H.below); rw [cnt_touch] at h_; exact h_)
        simp only [ops12, execOp, List.getElem_toArray, List.getElem_cons_succ, List.getElem_cons_zero, x1, x2]
        simp [hl, Result.andThen]) rfl rfl rfl (by simp [List.all_append, hf1 32 (by decide) (by decide)] <;> decide) H hK (fun a w H2 => ?_)
      exact s11 a w (H2.sub (fun p hp => List.perm_middle.mem_iff.1 hp) (fun _ h => h) H2.apart)
    · refine does_any (d := 35) (does_run (v := .int .i64 ((posK κ E : Nat) : Int)) fun a w H => by
        have x1 : a.eval (.tmp 34) = .tuple #[.int .i64 ((cntK κ E : Nat) : Int), .int .i64 ((posK κ E : Nat) : Int)] := H.ev rfl
        simp only [ops12, execOp, List.getElem_toArray, List.getElem_cons_succ, List.getElem_cons_zero, x1]
        simp [Instr.extract, Result.andThen]) rfl rfl rfl (by simp [List.all_append, hf1 35 (by decide) (by decide)] <;> decide) H hK (fun a w H2 => ?_)
      exact s02 a w H2
  have s00 : ∀ a w, St 53 w0 a w (([] : Env) ++ (([] : Env) ++ ((31, keyV κ) :: (30, .map (some b)) :: e))) ((b, .map (entsK E) E.length, #[]) :: (gl, .ty 69, keyC κ) :: h) → wpAny Tryd.prog .any ops12 Q 5 #[true, true, false, false, false, false, false] a w := fun a w H => by
    refine wpAny_ready (rs := [2, 4]) (by kernel_rfl) (by simp) (AllReady.cons (o := ops12[2]) rfl (fun K' hK => ?_) (AllReady.cons (o := ops12[4]) rfl (fun K' hK => ?_) AllReady.nil))
    all_goals have hb : Blk w b (.map (entsK E) E.length) #[] := H.heap _ List.mem_cons_self
    · refine does_any (d := 32) (does_run (v := .int .i64 ((cntK κ E : Nat) : Int)) fun a w H => by
        have hb : Blk w b (.map (entsK E) E.length) #[] := H.heap _ List.mem_cons_self
        have x1 : a.eval (.tmp 30) = .map (some b) := H.ev rfl
        have x2 : a.eval (.tmp 31) = keyV κ := H.ev rfl
        have hl : (Instr.lookup 85 (.map (some b)) (keyV κ) false).run Tryd.prog w = .ok (.int .i64 ((cntK κ E : Nat) : Int)) w := run_lookK hb (hκ.below H.below) (fun x hx => (hE x hx).below H.below)
        simp only [ops12, execOp, List.getElem_toArray, List.getElem_cons_succ, List.getElem_cons_zero, x1, x2]
        simp [hl, Result.andThen]) rfl rfl rfl (by simp [List.all_append, hf1 32 (by decide) (by decide)] <;> decide) H hK (fun a w H2 => ?_)
      exact s10 a w (H2)
    · have e1 : (execOp a.eval ops12[4]).run Tryd.prog w = .ok (.value (.tuple #[.int .i64 ((cntK κ E : Nat) : Int), .int .i64 ((posK κ E : Nat) : Int)])) { w with heap := w.heap.setIfInBounds b (.map (entsK (touchK κ E)) (touchK κ E).length) } := by
        have x1 : a.eval (.tmp 30) = .map (some b) := H.ev rfl
        have x2 : a.eval (.tmp 31) = keyV κ := H.ev rfl
        have hl := run_entryK hb (hκ.below H.below) (fun x hx => (hE x hx).below H.below)
        simp only [ops12, execOp, List.getElem_toArray, List.getElem_cons_succ, List.getElem_cons_zero, x1, x2]
        simp [hl, Result.andThen]
      refine run_any e1 rfl (wanted_none (ops := ops12) rfl a w H) hK (s01 _ _ ?_)
      exact (St.mapT (es' := entsK (touchK κ E)) (c' := (touchK κ E).length) H).put (d := 34) _ rfl (by simp [List.all_append, hf1 34 (by decide) (by decide)] <;> decide)
  have t10 : ∀ a w, St 53 w0 a w ((30, .map (some b)) :: e) ((b, .map (entsK E) E.length, #[]) :: (gl, .ty 69, keyC κ) :: h) → wpAny Tryd.prog .any ops12 Q 6 #[true, false, false, false, false, false, false] a w := fun a w H => by
    refine wpAny_ready (rs := [1]) (by kernel_rfl) (by simp) (AllReady.cons (o := ops12[1]) rfl (fun K' hK => ?_) AllReady.nil)
    exact does_any (d := 31) (does_load (t := 69) (d := (Tryd.prog.underlying 69).getD default) rfl (show sev ((30, .map (some b)) :: e) (.tmp 10) = some (.pointer (some ⟨gl, 0, none⟩)) from h10) (k := 1) rfl (by kernel_rfl) (by kernel_rfl) (info_list κ)) rfl rfl rfl (by simp [hf1 31 (by decide) (by decide)] <;> decide) H hK (fun a w H2 => s00 a w H2)
  have t01 : ∀ a w, St 53 w0 a w ((31, keyV κ) :: e) ((b, .map (entsK E) E.length, #[]) :: (gl, .ty 69, keyC κ) :: h) → wpAny Tryd.prog .any ops12 Q 6 #[false, true, false, false, false, false, false] a w := fun a w H => by
    refine wpAny_ready (rs := [0]) (by kernel_rfl) (by simp) (AllReady.cons (o := ops12[0]) rfl (fun K' hK => ?_) AllReady.nil)
    exact does_any (d := 30) (runs_move (x := .tmp 5) rfl (show sev ((31, keyV κ) :: e) (.tmp 5) = some (.map (some b)) from h5)).does rfl rfl rfl (by simp [hf1 30 (by decide) (by decide)] <;> decide) H hK (fun a w H2 => s00 a w (H2.sub (fun p hp => (List.Perm.swap _ _ _).mem_iff.1 hp) (fun _ h => h) H2.apart))
  refine wp_region_any (by kernel_rfl) ?_
  have H1 := H.drew
  refine wpAny_ready (fuel := 6) (rs := [0, 1]) (by kernel_rfl) (by simp) (AllReady.cons (o := ops12[0]) rfl (fun K' hK => ?_) (AllReady.cons (o := ops12[1]) rfl (fun K' hK => ?_) AllReady.nil))
  · exact does_any (d := 30) (runs_move rfl h5).does rfl rfl rfl (hf1 30 (by decide) (by decide)) H1 hK (fun a w H2 => t10 a w H2)
  · exact does_any (d := 31) (does_load (t := 69) (d := (Tryd.prog.underlying 69).getD default) rfl h10 (k := 1) rfl (by kernel_rfl) (by kernel_rfl) (info_list κ)) rfl rfl rfl (hf1 31 (by decide) (by decide)) H1 hK (fun a w H2 => t01 a w H2)
end
end Go.Proofs.YtiafcgoiolbdhaaDoor
namespace Go.Proofs.YtiafcgoiolbdhaaDoor
set_option linter.unusedVariables false
set_option linter.unusedSimpArgs false
set_option maxRecDepth 100000
open Go Go.RowKit
def nodesD : DT → Nat
  | .mk _ _ _ _ _ _ ks => 1 + (ks.map nodesD).sum
def nodesL (Ts : List DT) : Nat := (Ts.map nodesD).sum
theorem nodes_eq (T : DT) : nodesD T = 1 + nodesL (kidsOf T) := by
  cases T with
  | mk k f n b t a ks =>
    rw [nodesD]
    rfl
theorem nodesL_nil : nodesL [] = 0 := rfl
theorem nodesL_app (a b : List DT) : nodesL (a ++ b) = nodesL a + nodesL b := by
  unfold nodesL
  rw [List.map_append, List.sum_append]
theorem nodesL_one (T : DT) : nodesL [T] = nodesD T := by
  unfold nodesL
  simp
theorem nodesL_len (Ts : List DT) : Ts.length ≤ nodesL Ts := by
  induction Ts with
  | nil => exact Nat.le_refl _
  | cons T r ih =>
    have h := nodes_eq T
    have e : nodesL (T :: r) = nodesD T + nodesL r := rfl
    rw [e, List.length_cons]
    omega
theorem BS.det {w : World} {B B' n c c' : Nat} {A : Option Addr} {l m : List UInt8} (h : BS w B A n c l) (h' : BS w B' A n c' m) : l = m := by
  refine List.ext_getElem (by rw [h.len, h'.len]) fun i h1 h2 => ?_
  have hn : 0 < n := by rw [← h.len]; omega
  obtain ⟨g, o, e, _, hc⟩ := h.at_ hn
  obtain ⟨g', o', e', _, hc'⟩ := h'.at_ hn
  rw [e] at e'
  injection e' with e'
  injection e' with e1 e2
  subst e1 e2
  have x1 := hc i _ (List.getElem?_eq_getElem h1)
  have x2 := hc' i _ (List.getElem?_eq_getElem h2)
  rw [x1] at x2
  injection x2 with x2
  injection x2 with _ x2
  exact UInt8.toNat_inj.1 (by omega)
theorem NS.det {w : World} {B B' n c c' : Nat} {A : Option Addr} {l m : List Nat} (h : NS w B A n c l) (h' : NS w B' A n c' m) : l = m := by
  refine List.ext_getElem (by rw [h.len, h'.len]) fun i h1 h2 => ?_
  have hn : 0 < n := by rw [← h.len]; omega
  obtain ⟨g, o, e, _, hc⟩ := h.at_ hn
  obtain ⟨g', o', e', _, hc'⟩ := h'.at_ hn
  rw [e] at e'
  injection e' with e'
  injection e' with e1 e2
  subst e1 e2
  have x1 := hc i _ (List.getElem?_eq_getElem h1)
  have x2 := hc' i _ (List.getElem?_eq_getElem h2)
  rw [x1] at x2
  injection x2 with x2
  injection x2 with _ x2
  omega
theorem strB_inj {l m : List UInt8} (h : strB l = strB m) : l = m := by
  have := congrArg ByteArray.toList h
  rwa [strB_toList, strB_toList] at this
theorem DH.inj {x y : DH} (h : ∀ (j : Nat) (v : Value), x.cs[j]? = some v → y.cs[j]? = some v) : x = y := by
  have g : ∀ (j : Nat) (v u : Value), x.cs[j]? = some v → y.cs[j]? = some u → v = u := fun j v u hv hu => by
    have := h j v hv
    rw [hu] at this
    injection this with this
    exact this.symm
  have e0 := g 0 _ _ rfl rfl
  have e1 := g 1 _ _ rfl rfl
  have e2 := g 2 _ _ rfl rfl
  have e3 := g 3 _ _ rfl rfl
  have e4 := g 4 _ _ rfl rfl
  have e5 := g 5 _ _ rfl rfl
  have e6 := g 6 _ _ rfl rfl
  obtain ⟨xk, xf, xn, ⟨x1, x2, x3⟩, xt, ⟨x4, x5, x6⟩, ⟨x7, x8, x9⟩⟩ := x
  obtain ⟨yk, yf, yn, ⟨y1, y2, y3⟩, yt, ⟨y4, y5, y6⟩, ⟨y7, y8, y9⟩⟩ := y
  injection e0 with _ e0
  injection e1 with e1
  injection e2 with _ e2
  injection e3 with a1 a2 a3
  injection e4 with e4
  injection e5 with b1 b2 b3
  injection e6 with c1 c2 c3
  replace e4 : xt = yt := strB_inj e4
  dsimp only at e0 e1 e2 a1 a2 a3 b1 b2 b3 c1 c2 c3
  subst e0 e1 e2 a1 a2 a3 e4 b1 b2 b3 c1 c2 c3
  rfl
theorem DY.det {w : World} {T : DT} {x : DH} (h : DY w T x) : ∀ {U : DT}, DY w U x → T = U := by
  induction h with
  | @mk x b a ks sub h1 h2 h3 h4 h5 h6 h7 h8 h9 ih =>
    intro U hU
    cases hU with
    | @mk _ b' a' ks' sub' g1 g2 g3 g4 g5 g6 g7 g8 g9 =>
      obtain rfl := h4.det g4
      obtain rfl := h5.det g5
      congr 1
      refine List.ext_getElem (by rw [h6, g6]) fun i hi hi' => ?_
      have hn : 0 < x.ks.n := by omega
      have hin : i < x.ks.n := by omega
      obtain ⟨g, o, e, _, hc⟩ := h8 hn
      obtain ⟨g', o', e', _, hc'⟩ := g8 hn
      rw [e] at e'
      injection e' with e'
      injection e' with e1 e2
      subst e1 e2
      have hs : sub i = sub' i := DH.inj fun j v hv => by
        have hj : j < 7 := by
          have := (Array.getElem?_eq_some_iff.1 hv).1
          rwa [DH.size] at this
        have x1 := hc i hin j v hv
        have hu : (sub' i).cs[j]? = some ((sub' i).cs[j]'(by rw [DH.size]; exact hj)) := Array.getElem?_eq_getElem _
        have x2 := hc' i hin j _ hu
        rw [x1] at x2
        rw [hu]
        exact x2.symm
      have hT := List.getElem?_eq_getElem hi
      have hT' := List.getElem?_eq_getElem hi'
      exact ih i _ hT (by rw [hs]; exact g9 i _ hT')
/-- A list of values, as a world holds it: kids in a plain row. -/
structure LV (w : World) (x : SL) (Ts : List DT) : Prop where
  len : Ts.length = x.n
  cap : x.n ≤ x.c
  max : x.n < 9223372036854775808
  at_ : ∃ sub : Nat → DH, (0 < x.n → ∃ g o, x.A = some ⟨g, o, none⟩ ∧ Plain w g ∧ ∀ i, i < x.n → ∀ (j : Nat) (v : Value), (sub i).cs[j]? = some v → w.cell? ⟨g, o + i * 7 + j, none⟩ = some v) ∧ ∀ (i : Nat) (T : DT), Ts[i]? = some T → DY w T (sub i)
theorem DY.lv {w : World} {T : DT} {x : DH} (h : DY w T x) : LV w x.ks (kidsOf T) := by
  cases h with
  | mk sub h1 h2 h3 h4 h5 h6 h7 h8 h9 => exact ⟨h6, h7, h3.2.2.2, sub, h8, h9⟩
theorem LV.lasts {w w' : World} {x : SL} {Ts : List DT} (h : LV w x Ts) (hb : Below w.heap.size w w') : LV w' x Ts := by
  obtain ⟨sub, h1, h2⟩ := h.at_
  refine ⟨h.len, h.cap, h.max, sub, fun hn => ?_, fun i T hT => (h2 i T hT).lasts hb⟩
  obtain ⟨g, o, e, hg, hc⟩ := h1 hn
  exact ⟨g, o, e, hg.below hg.lt hb, fun i hi j v hv => (hb.cell (p := ⟨g, o + i * 7 + j, none⟩) hg.lt).trans (hc i hi j v hv)⟩
def keyOf (x : SL) : Key := (if x.n = 0 then none else x.A.map fun a => (a.block, a.off), x.n)
theorem LV.okK {w : World} {x : SL} {Ts : List DT} (h : LV w x Ts) : okK w (keyOf x) := fun p hp => by
  unfold keyOf at hp
  dsimp only at hp
  split at hp
  · cases hp
  · rename_i hn
    obtain ⟨sub, h1, _⟩ := h.at_
    obtain ⟨g, o, e, hg, _⟩ := h1 (by omega)
    rw [e] at hp
    injection hp with hp
    subst hp
    exact hg
theorem LV.det {w : World} {x y : SL} {Ts Us : List DT} (h : LV w x Ts) (h' : LV w y Us) (hk : keyOf x = keyOf y) : Ts = Us := by
  have hn : x.n = y.n := congrArg Prod.snd hk
  refine List.ext_getElem (by rw [h.len, h'.len, hn]) fun i hi hi' => ?_
  have h0 : 0 < x.n := by rw [← h.len]; omega
  have hin : i < x.n := by rw [← h.len]; exact hi
  obtain ⟨sub, h1, h2⟩ := h.at_
  obtain ⟨sub', h1', h2'⟩ := h'.at_
  obtain ⟨g, o, e, _, hc⟩ := h1 h0
  obtain ⟨g', o', e', _, hc'⟩ := h1' (by omega)
  have hA := congrArg Prod.fst hk
  unfold keyOf at hA
  dsimp only at hA
  rw [if_neg (by omega), if_neg (by omega), e, e'] at hA
  injection hA with hA
  injection hA with e1 e2
  dsimp only at e1 e2
  subst e1 e2
  have hs : sub i = sub' i := DH.inj fun j v hv => by
    have hj : j < 7 := by
      have := (Array.getElem?_eq_some_iff.1 hv).1
      rwa [DH.size] at this
    have x1 := hc i hin j v hv
    have hu : (sub' i).cs[j]? = some ((sub' i).cs[j]'(by rw [DH.size]; exact hj)) := Array.getElem?_eq_getElem _
    have x2 := hc' i (by omega) j _ hu
    rw [x1] at x2
    rw [hu]
    exact x2.symm
  exact (h2 i _ (List.getElem?_eq_getElem hi)).det (by rw [hs]; exact h2' i _ (List.getElem?_eq_getElem hi'))
theorem find_set {κ κ' : Key} {c : Nat} : ∀ {E : List EntK} {i : Nat}, (∃ x, E[i]? = some x ∧ x.1 = κ) → (∀ k, k < i → ∀ x, E[k]? = some x → x.1 ≠ κ) → ∀ s, (findK κ' (E.set i (κ, c)) s).map (·.2) = if κ' = κ then some c else (findK κ' E s).map (·.2)
  | [], i, h, _, s => by
    obtain ⟨x, h, _⟩ := h
    simp at h
  | y :: r, 0, h, _, s => by
    obtain ⟨x, h, hx⟩ := h
    simp at h
    subst h
    rw [List.set_cons_zero, findK, findK]
    dsimp only
    rw [hx]
    by_cases e : κ' = κ
    · rw [if_pos e, if_pos e]
      rfl
    · rw [if_neg e, if_neg e, if_neg e]
  | y :: r, i + 1, h, hn, s => by
    have ih := find_set (κ' := κ') (c := c) (E := r) (i := i) (by simpa using h) (fun k hk x hx => hn (k + 1) (by omega) x (by simpa using hx)) (s + 1)
    have hy := hn 0 (by omega) y rfl
    rw [List.set_cons_succ, findK, findK]
    by_cases e : κ' = y.1
    · rw [if_pos e, if_pos e, if_neg (fun e2 => hy (by rw [← e, e2]))]
    · rw [if_neg e, if_neg e]
      exact ih
theorem cnt_map (κ : Key) (E : List EntK) : cntK κ E = ((findK κ E 0).map (·.2)).getD 0 := by
  unfold cntK
  cases findK κ E 0 <;> rfl
theorem find_app_other {κ κ' : Key} {c : Nat} (h : κ' ≠ κ) : ∀ (E : List EntK) (s : Nat), (findK κ' (E ++ [(κ, c)]) s).map (·.2) = (findK κ' E s).map (·.2)
  | [], s => by
    simp [findK, h]
  | y :: r, s => by
    rw [List.cons_append, findK, findK]
    split
    · rfl
    · exact find_app_other h r (s + 1)
theorem findK_first {κ : Key} : ∀ {E : List EntK} {s : Nat} {p : Nat × Nat}, findK κ E s = some p → ∀ k, k < p.1 - s → ∀ x, E[k]? = some x → x.1 ≠ κ
  | [], s, p, h => by cases h
  | y :: r, s, p, h => by
    unfold findK at h
    split at h
    · injection h with h
      subst h
      intro k hk
      dsimp only at hk
      omega
    · rename_i e
      have hp := (findK_at h).1
      intro k hk x hx
      cases k with
      | zero =>
        injection hx with hx
        subst hx
        exact fun e2 => e e2.symm
      | succ k => exact findK_first h k (by omega) x hx
theorem cnt_bump (κ κ' : Key) (E : List EntK) : cntK κ' (bumpK κ E) = if κ' = κ then cntK κ E + 1 else cntK κ' E := by
  obtain ⟨h1, h2⟩ := posK_touch (κ := κ) (E := E)
  have hfirst : ∀ k, k < posK κ E → ∀ x, (touchK κ E)[k]? = some x → x.1 ≠ κ := by
    unfold posK touchK
    cases h : findK κ E 0 with
    | none =>
      intro k hk x hx
      dsimp only at hk hx
      rw [List.getElem?_append_left hk] at hx
      exact findK_none h x (List.mem_of_getElem? hx)
    | some p => exact fun k hk x hx => findK_first h k (by simpa using hk) x hx
  rw [cnt_map]
  unfold bumpK
  rw [find_set ⟨_, h2, rfl⟩ hfirst 0]
  by_cases e : κ' = κ
  · rw [if_pos e, if_pos e]
    rfl
  · rw [if_neg e, if_neg e, cnt_map κ' E]
    unfold touchK
    cases h : findK κ E 0 with
    | none =>
      dsimp only
      rw [find_app_other e]
    | some p => rfl
/-- What was gone through; the counts; what is below, each list once. -/
structure SN (u8 : List UInt8 → Bool) (w : World) (V : List DT) (E : List EntK) (N : List (SL × List DT)) : Prop where
  own : ∀ T ∈ V, ownD u8 T = true
  keys : ∀ x ∈ E, okK w x.1
  lv : ∀ p ∈ N, LV w p.1 p.2 ∧ 0 < p.1.n
  from_ : ∀ p ∈ N, ∃ T ∈ V, kidsOf T = p.2
  has : ∀ T ∈ V, kidsOf T ≠ [] → ∃ p ∈ N, p.2 = kidsOf T
  seen : ∀ κ, 0 < cntK κ E → 0 < κ.2 → ∃ p ∈ N, keyOf p.1 = κ
  cnt : ∀ κ, cntK κ E ≤ V.length
  sum : (N.map fun p => nodesL p.2).sum + V.length ≤ nodesL V
theorem SN.nil (u8 : List UInt8 → Bool) (w : World) : SN u8 w [] [] [] :=
  ⟨(fun T h => by cases h), (fun x h => by cases h), (fun p h => by cases h), (fun p h => by cases h), (fun T h => by cases h), (fun κ h => absurd h (Nat.not_lt_zero _)), (fun κ => Nat.le_refl _), Nat.le_refl _⟩
def nextN (N : List (SL × List DT)) (E : List EntK) (x : SL) (Ts : List DT) : List (SL × List DT) := if cntK (keyOf x) E = 0 ∧ 0 < x.n then N ++ [(x, Ts)] else N
theorem SN.step {u8 : List UInt8 → Bool} {w : World} {V : List DT} {E : List EntK} {N : List (SL × List DT)} {T : DT} {x : SL} (h : SN u8 w V E N) (ho : ownD u8 T = true) (hx : LV w x (kidsOf T)) : SN u8 w (V ++ [T]) (bumpK (keyOf x) E) (nextN N E x (kidsOf T)) := by
  have hsub : ∀ p ∈ N, p ∈ nextN N E x (kidsOf T) := fun p hp => by
    unfold nextN
    split
    · exact List.mem_append.2 (.inl hp)
    · exact hp
  have hmem : ∀ p ∈ nextN N E x (kidsOf T), p ∈ N ∨ (p = (x, kidsOf T) ∧ 0 < x.n) := fun p hp => by
    unfold nextN at hp
    split at hp
    · rename_i hc
      rcases List.mem_append.1 hp with hp | hp
      · exact .inl hp
      · exact .inr ⟨List.mem_singleton.1 hp, hc.2⟩
    · exact .inl hp
  have hnew : 0 < x.n → ∃ p ∈ nextN N E x (kidsOf T), keyOf p.1 = keyOf x ∧ p.2 = kidsOf T := fun hn => by
    by_cases hc : cntK (keyOf x) E = 0
    · refine ⟨(x, kidsOf T), ?_, rfl, rfl⟩
      unfold nextN
      rw [if_pos ⟨hc, hn⟩]
      simp
    · obtain ⟨p, hp, hk⟩ := h.seen (keyOf x) (by omega) hn
      exact ⟨p, hsub p hp, hk, ((h.lv p hp).1.det hx hk)⟩
  refine ⟨fun S hS => ?_, fun y hy => ?_, fun p hp => ?_, fun p hp => ?_, fun S hS hne => ?_, fun κ hc hn => ?_, fun κ => ?_, ?_⟩
  · rcases List.mem_append.1 hS with hS | hS
    · exact h.own S hS
    · rw [List.mem_singleton.1 hS]
      exact ho
  · rcases bump_mem y hy with hy | hy | hy
    · exact h.keys y hy
    · rw [hy]
      exact hx.okK
    · rw [hy]
      exact hx.okK
  · rcases hmem p hp with hp | ⟨rfl, hn⟩
    · exact h.lv p hp
    · exact ⟨hx, hn⟩
  · rcases hmem p hp with hp | ⟨rfl, hn⟩
    · obtain ⟨S, hS, e⟩ := h.from_ p hp
      exact ⟨S, List.mem_append.2 (.inl hS), e⟩
    · exact ⟨T, by simp, rfl⟩
  · rcases List.mem_append.1 hS with hS | hS
    · obtain ⟨p, hp, e⟩ := h.has S hS hne
      exact ⟨p, hsub p hp, e⟩
    · rw [List.mem_singleton.1 hS] at hne ⊢
      have hn : 0 < x.n := by
        rw [← hx.len]
        exact List.length_pos_iff.2 hne
      obtain ⟨p, hp, _, e⟩ := hnew hn
      exact ⟨p, hp, e⟩
  · rw [cnt_bump] at hc
    split at hc
    · rename_i e
      subst e
      obtain ⟨p, hp, e, _⟩ := hnew hn
      exact ⟨p, hp, e⟩
    · obtain ⟨p, hp, e⟩ := h.seen κ hc hn
      exact ⟨p, hsub p hp, e⟩
  · rw [cnt_bump, List.length_append, List.length_singleton]
    have h1 := h.cnt κ
    have h2 := h.cnt (keyOf x)
    split <;> omega
  · have hs := h.sum
    have hT := nodes_eq T
    rw [nodesL_app, nodesL_one, List.length_append, List.length_singleton]
    unfold nextN
    split
    · rw [List.map_append, List.sum_append]
      simp only [List.map_cons, List.map_nil, List.sum_cons, List.sum_nil]
      omega
    · omega
/-- All values of a level may be, so many deep. -/
def mayL (u8 : List UInt8 → Bool) (d : Nat) (L : List (SL × List DT)) : Prop := ∀ p ∈ L, ∀ T ∈ p.2, mayD u8 d T = true
/-- What is below a level. -/
structure NX (u8 : List UInt8 → Bool) (L L' : List (SL × List DT)) : Prop where
  own : ∀ p ∈ L, ∀ T ∈ p.2, ownD u8 T = true
  from_ : ∀ q ∈ L', ∃ p ∈ L, ∃ T ∈ p.2, kidsOf T = q.2
  has : ∀ p ∈ L, ∀ T ∈ p.2, kidsOf T ≠ [] → ∃ q ∈ L', q.2 = kidsOf T
  pos : ∀ q ∈ L', q.2 ≠ []
theorem NX.may {u8 : List UInt8 → Bool} {L L' : List (SL × List DT)} (h : NX u8 L L') (d : Nat) : mayL u8 (d + 1) L ↔ mayL u8 d L' := by
  constructor
  · intro hm q hq K hK
    obtain ⟨p, hp, T, hT, e⟩ := h.from_ q hq
    have := hm p hp T hT
    unfold mayD at this
    rw [Bool.and_eq_true] at this
    exact List.all_eq_true.1 this.2 K (by rw [e]; exact hK)
  · intro hm p hp T hT
    unfold mayD
    rw [Bool.and_eq_true]
    refine ⟨h.own p hp T hT, List.all_eq_true.2 fun K hK => ?_⟩
    obtain ⟨q, hq, e⟩ := h.has p hp T hT (List.ne_nil_of_mem hK)
    exact hm q hq K (by rw [e]; exact hK)
theorem may_end {u8 : List UInt8 → Bool} {L : List (SL × List DT)} (h : ∀ q ∈ L, q.2 ≠ []) : mayL u8 0 L ↔ L = [] := by
  constructor
  · intro hm
    cases L with
    | nil => rfl
    | cons q r =>
      have hq := h q List.mem_cons_self
      cases hT : q.2 with
      | nil => exact absurd hT hq
      | cons T s =>
        have := hm q List.mem_cons_self T (by rw [hT]; exact List.mem_cons_self)
        cases this
  · rintro rfl q hq
    cases hq
theorem mayL_not {u8 : List UInt8 → Bool} {L : List (SL × List DT)} {p : SL × List DT} {T : DT} (hp : p ∈ L) (hT : T ∈ p.2) (ho : ownD u8 T = false) (d : Nat) : ¬ mayL u8 d L := fun hm => by
  have := hm p hp T hT
  cases d with
  | zero => cases this
  | succ d =>
    unfold mayD at this
    rw [ho, Bool.false_and] at this
    cases this
end Go.Proofs.YtiafcgoiolbdhaaDoor
namespace Go.Proofs.YtiafcgoiolbdhaaDoor
set_option linter.unusedVariables false
set_option linter.unusedSimpArgs false
set_option maxRecDepth 100000
open Go Go.RowKit
theorem al_list (W : World) : (Instr.alloc 69 true (.tuple #[])).run Tryd.prog W = .ok (.pointer (some ⟨W.heap.size, 0, none⟩)) (W.alloc (.cells (keyC (none, 0)) 69)) := by kernel_rfl
theorem size_list (κ κ' : Key) : (keyC κ).size = (keyC κ').size := rfl
theorem keyC_one (κ : Key) : (keyC κ).all (·.oneCell') = true := by simp [keyC, Value.oneCell']
theorem bd_list0 (W : World) : (Instr.build 69 #[]).run Tryd.prog W = .ok (.agg (keyC (none, 0))) W := by kernel_rfl
theorem bd_listA {g o m : Nat} (W : World) : (Instr.build 69 [(0, .pointer (some ⟨g, o, none⟩)), (1, .int .i64 (m : Int))].toArray).run Tryd.prog W = .ok (.agg (keyC (some (g, o), m))) W := by kernel_rfl
theorem fa_list1 {g : Nat} (W : World) : (Instr.fieldAt 69 (.pointer (some ⟨g, 0, none⟩)) 1).run Tryd.prog W = .ok (.pointer (some ⟨g, 1, none⟩)) W := by kernel_rfl
theorem ld_listN {g : Nat} {κ : Key} (W : World) (h : Blk W g 69 (keyC κ)) : (Instr.loadAt 3 (.pointer (some ⟨g, 1, none⟩))).run Tryd.prog W = .ok (.int .i64 (κ.2 : Int)) W := by
  have hc : W.cell? ⟨g, 1, none⟩ = some (.int .i64 (κ.2 : Int)) := h.cell 1
  go_simp
theorem ia_first {A : Option Addr} {n c g o : Nat} (hA : A = some ⟨g, o, none⟩) (h : 0 < n) (W : World) : (Instr.indexAt 25 (.slice A n c) (.int .i64 0)).run Tryd.prog W = .ok (.pointer (some ⟨g, o, none⟩)) W := by
  subst hA
  have := ia_ders (g := g) (o := o) (c := c) h W
  simpa using this
theorem ld_listX {g : Nat} {x : SL} (W : World) (h : Blk W g 69 (keyC (keyOf x))) : (Instr.loadAt 3 (.pointer (some ⟨g, 1, none⟩))).run Tryd.prog W = .ok (.int .i64 (x.n : Int)) W := ld_listN W h
def slV (p : SL × List DT) : Value := .slice p.1.A p.1.n p.1.c
theorem ia_derss {A : Option Addr} {j n c g o : Nat} (hA : A = some ⟨g, o, none⟩) (hj : j < n) (W : World) : (Instr.indexAt 60 (.slice A n c) (.int .i64 (j : Int))).run Tryd.prog W = .ok (.pointer (some ⟨g, o + j, none⟩)) W := by
  subst hA
  have h1 : (0 : Int) ≤ (j : Int) := by omega
  have h2 : (j : Int) < (n : Int) := by omega
  go_simp
theorem ld_ders {g f : Nat} {A : Option Addr} {n c : Nat} (W : World) (hc : W.cell? ⟨g, f, none⟩ = some (.slice A n c)) : (Instr.loadAt 25 (.pointer (some ⟨g, f, none⟩))).run Tryd.prog W = .ok (.slice A n c) W := by go_simp
theorem ders_infoD : (Tryd.prog.info? 25).map (fun i => (i.zero, i.size, i.bytes)) = some (some (.slice none 0 0), 1, 24) := by kernel_rfl
theorem may_dy {w : World} {T : DT} {x : DH} (u8 : List UInt8 → Bool) (h : DY w T x) (hu8 : UV u8 w) : Calls Tryd.prog 50 #[.agg x.cs] w (fun r W' => r = .returned (.bool (ownD u8 T)) ∧ Below w.heap.size w W') := by
  cases h with
  | @mk x b a ks sub h1 h2 h3 h4 h5 h6 h7 h8 h9 =>
    obtain ⟨xk, xf, xn, ⟨x1, x2, x3⟩, xt, ⟨x4, x5, x6⟩, ⟨x7, x8, x9⟩⟩ := x
    obtain ⟨gx, ox, hax⟩ := h5.nat (Nat.le_refl _)
    exact may_alone u8 w hu8 h2 h3.2.1 ⟨_, _, _, rfl, h4⟩ h3.2.2.1 h6 h5.len hax
/-- A level, as a world holds it. -/
def LVF (L : List (SL × List DT)) (v : Value) (w : World) : Prop := ∃ (A : Option Addr) (c : Nat), v = .slice A L.length c ∧ L.length < 9223372036854775808 ∧ (0 < L.length → ∃ g o, A = some ⟨g, o, none⟩ ∧ g < w.heap.size ∧ ∀ (i : Nat) (p : SL × List DT), L[i]? = some p → w.cell? ⟨g, o + i, none⟩ = some (slV p)) ∧ ∀ p ∈ L, LV w p.1 p.2
instance {L : List (SL × List DT)} {v : Value} : Lasts (LVF L v) := ⟨fun w w' ⟨A, c, e, h1, h2, h3⟩ hb => ⟨A, c, e, h1, fun hn => by
  obtain ⟨g, o, e, hg, hc⟩ := h2 hn
  exact ⟨g, o, e, Nat.lt_of_lt_of_le hg hb.size, fun i p hp => (hb.cell (p := ⟨g, o + i, none⟩) hg).trans (hc i p hp)⟩, fun p hp => (h3 p hp).lasts hb⟩⟩
/-- A new row of one list. -/
def LR (x : SL) (v : Value) (w : World) : Prop := ∃ g, v = .slice (some ⟨g, 0, none⟩) 1 1 ∧ Blk w g 25 #[.slice x.A x.n x.c]
instance {x : SL} {v : Value} : Lasts (LR x v) := ⟨fun w w' ⟨g, e, h⟩ hb => ⟨g, e, h.below hb h.lt⟩⟩
theorem run_lst1 {A : Option Addr} {n c : Nat} (W : World) : (Instr.buildSlice 60 1 #[(0, .slice A n c)]).run Tryd.prog W = .ok (.slice (some ⟨W.heap.size, 0, none⟩) 1 1) (W.alloc (.cells #[.slice A n c] 25)) := by kernel_rfl
theorem vis_take {L : List (SL × List DT)} {p : Nat} {q : SL × List DT} (h : L[p]? = some q) : (L.take (p + 1)).flatMap (·.2) = (L.take p).flatMap (·.2) ++ q.2 := by
  rw [List.take_add_one, h, Option.toList_some, List.flatMap_append]
  simp
theorem vis_le {L : List (SL × List DT)} {p k : Nat} {q : SL × List DT} (h : L[p]? = some q) : nodesL ((L.take p).flatMap (·.2) ++ q.2.take k) ≤ nodesL (L.flatMap (·.2)) := by
  have e1 : nodesL (L.flatMap (·.2)) = nodesL ((L.take (p + 1)).flatMap (·.2)) + nodesL ((L.drop (p + 1)).flatMap (·.2)) := by
    rw [← nodesL_app, ← List.flatMap_append, List.take_append_drop]
  have e2 : nodesL q.2 = nodesL (q.2.take k) + nodesL (q.2.drop k) := by
    rw [← nodesL_app, List.take_append_drop]
  rw [e1, vis_take h, nodesL_app, nodesL_app]
  omega
theorem SN.few {u8 : List UInt8 → Bool} {w : World} {V : List DT} {E : List EntK} {N : List (SL × List DT)} (h : SN u8 w V E N) : N.length ≤ (N.map fun p => nodesL p.2).sum := by
  have key : ∀ M : List (SL × List DT), (∀ p ∈ M, p ∈ N) → M.length ≤ (M.map fun p => nodesL p.2).sum := by
    intro M
    induction M with
    | nil => exact fun _ => Nat.le_refl _
    | cons p r ih =>
      intro hM
      have h1 := ih fun q hq => hM q (List.mem_cons_of_mem _ hq)
      have h2 := h.lv p (hM p List.mem_cons_self)
      have h3 := nodesL_len p.2
      have h4 := h2.1.len
      simp only [List.length_cons, List.map_cons, List.sum_cons]
      omega
  exact key N fun p hp => hp
theorem nodes_flat (N : List (SL × List DT)) : nodesL (N.flatMap (·.2)) = (N.map fun p => nodesL p.2).sum := by
  induction N with
  | nil => rfl
  | cons p r ih => rw [List.flatMap_cons, nodesL_app, ih, List.map_cons, List.sum_cons]
section
variable {n : Nat} {w0 w w' : World} {a : Act} {e : Env} {h t t2 : Hep} {Q : Exit → Act → World → Prop} {ops : Array Oper} {rest : List Oper} {o : Oper}
theorem ob_list1 {y : Operand} {x : SL} (H : St n w0 a w e h) (hw : ∀ a w, St n w0 a w e h → Region.wanted o (yielded ops a.tmps) = true) (ho : o.op = .buildSlice 60 1 #[(0, y)]) (hy : sev e y = some (.slice x.A x.n x.c)) : ObS Tryd.prog ops Q o a w (LR x) := by
  refine ob_runR H hw ⟨_, _, ?_, (Below.refl _ _).alloc (Nat.le_refl _) _, w.heap.size, rfl, Blk.new _ _ _⟩
  simp [execOp, ho, H.ev hy, run_lst1, Result.andThen]
/-- One list more. -/
theorem pl_list {d : Nat} {x y : Operand} {v z : Value} {N : List (SL × List DT)} {q : SL × List DT} (ho : o.op = .call { callee := .builtin .append, args := #[x, y], argTypes := #[60, 60] }) (hx : sev e x = some v) (hy : sev e y = some z)
    (hv : OutD 25 1 t v N.length (N.map slV)) (hz : LR q.1 z w) (hs : N.length ≤ 1000000) (hg : o.guard = none) (hdst : o.dst = some d) (hl : Nat.blt d n = true) (hf : e.all (fun p => !Nat.beq p.1 d) = true) (H : St n w0 a w e (h ++ t))
    (next : ∀ v' t' a w', OutD 25 1 t' v' (N ++ [q]).length ((N ++ [q]).map slV) → St n w0 a w' ((d, v') :: e) (h ++ t') → wpList Tryd.prog ops Q rest a w') : wpList Tryd.prog ops Q (o :: rest) a w :=
  wpList_plain hg fun K_ hK => by
    obtain ⟨g, rfl, hb⟩ := hz
    have hi := ders_infoD
    cases hq : Tryd.prog.info? 25 with
    | none => rw [hq] at hi; cases hi
    | some i =>
      rw [hq] at hi
      simp only [Option.map_some, Option.some.injEq, Prod.mk.injEq] at hi
      obtain ⟨hz0, hsz, hby⟩ := hi
      have hown := hv.owns H
      obtain ⟨v', w', h1, h2, h3, _, h4⟩ := run_append_own_at (P := Tryd.prog) w w0.heap.size 60 o.type 25 i _ 1 24 (by kernel_rfl) hq hz0 hsz hby rfl (by omega) v N.length (N.map slV) hown ⟨g, 0, none⟩ 1 1 [slV q] rfl (fun j y hy => by
        rw [Addr.add_lit, Nat.zero_add, hb.cell]
        cases j with
        | zero => exact hy
        | succ j => simp at hy) (fun y hy => by
        rw [List.mem_singleton.1 hy]
        rfl) (by simp only [maxLen]; omega) (by omega) H.below.size
      obtain ⟨t', hv', H', _⟩ := H.appD hv h2 h3 h4 (by omega)
      unfold Oper.wp
      simp [execOp, ho, resolve, invoke, builtin, H.ev hx, H.ev hy, h1, Result.andThen]
      refine hK _ _ (next v' t' _ _ ?_ ?_)
      · rw [List.length_append, List.map_append]
        exact hv'
      · rw [hdst]
        exact H'.put _ hl hf
theorem does_lookB {x y : Operand} {b k : Nat} {κ : Key} {E : List EntK} (ho : o.op = .lookup 85 x y false) (hx : sev e x = some (.map (some b))) (hy : sev e y = some (keyV κ)) (hk : h[k]? = some (b, .map (entsK (bumpK κ E)) (bumpK κ E).length, #[])) (hκ : okK w0 κ) (hE : ∀ x ∈ E, okK w0 x.1) : Does Tryd.prog Q n w0 e h o (.int .i64 ((cntK κ E + 1 : Nat) : Int)) := does_run fun a w H => by
  have hb : Blk w b (.map (entsK (bumpK κ E)) (bumpK κ E).length) #[] := H.heap _ (List.mem_iff_getElem?.2 ⟨k, hk⟩)
  have hl := run_lookK hb (hκ.below H.below) (fun x hx => by
    rcases bump_mem x hx with h | h | h
    · exact (hE x h).below H.below
    · rw [h]; exact hκ.below H.below
    · rw [h]; exact hκ.below H.below)
  rw [cnt_bump, if_pos rfl] at hl
  generalize cntK κ E + 1 = m at hl
  simp [execOp, ho, H.ev hx, H.ev hy, hl, Result.andThen]
theorem lf_of {A : Option Addr} {c : Nat} {N : List (SL × List DT)} (hO : OutD 25 1 t (.slice A N.length c) N.length (N.map slV)) (H : St n w0 a w e (h ++ t)) (hN : N.length < 9223372036854775808) (hl : ∀ p ∈ N, LV w0 p.1 p.2) : LVF N (.slice A N.length c) w := by
  refine ⟨A, c, rfl, hN, fun hn => ?_, fun p hp => (hl p hp).lasts H.below⟩
  obtain ⟨g, cur, rfl, rfl, hc⟩ := hO.at_ hn
  have hb : Blk w g 25 cur := H.heap (g, .ty 25, cur) (by simp)
  refine ⟨g, 0, rfl, hb.lt, fun i p hp => ?_⟩
  rw [Nat.zero_add, hb.cell]
  exact hc i _ (by rw [List.getElem?_map, hp]; rfl)
end
theorem ents_nil : (Tid.map (entsI []) 0) = Tid.map (entsK []) ([] : List EntK).length := rfl
attribute [local irreducible] bvs byteD rb nodesL ownD cntK bumpK entsK keyC keyOf
set_option maxHeartbeats 4000000 in
theorem list_walk {Ak : Option Addr} {nk ck g0 o0 : Nat} (w : World) (hA : 0 < nk → Ak = some ⟨g0, o0, none⟩) : Calls Tryd.prog 36 #[.slice Ak nk ck] w (fun rr w' => rr = .returned (.agg (keyC (keyOf ⟨Ak, nk, ck⟩))) ∧ Below w.heap.size w w') := by
  refine calls_st (vs := [.slice Ak nk ck]) 12 Tryd.func36 rfl Tryd.ntmps36 rfl (fun a W H => ?_)
  replace H : St 12 w a W [(0, .slice Ak nk ck)] [] := H
  refine sqR H gs0 fun Z_ z_ => rA rfl rfl al_list fun g1 => rN0 z_ ?_
  try clear H a W
  intro a W H
  refine wp_seq_k (fun K2 hK2 => ?_)
  refine sqR H gs0 fun Z_ z_ => rS 1 rfl <| rV rfl (does_len Tryd.underlying25 rfl rfl) <| rV rfl (does_binOp rfl rfl rfl (z_cmp.2.2.1 rfl _ _)) <| rK [1, 0, 0] [] [] <| rN0 z_ ?_
  try clear H a W
  intro a W H
  cases hq1 : decide (((nk : Nat) : Int) = 0) with
  | true =>
    rw [hq1] at H
    have hq1p := of_decide_eq_true hq1
    refine wp_cond_true (H.ev rfl) ?_
    refine sqR H gs0 fun Z_ z_ => rV rfl (does_build (ps := []) rfl rfl bd_list0) <| rW [1] ⟨rfl, rfl⟩ rfl rfl rfl (info_list (none, 0)) (size_list _ _) (keyC_one _) <| rK [0, 0] [] [] <| rN0 z_ ?_
    try clear H a W
    intro a W H
    refine wp_ret ?_
    repeat (first | (with_reducible refine then_ret ?_) | (with_reducible refine blk_ret ?_))
    refine end_cell (p := 2) rfl rfl (k := 0) rfl Tryd.underlying69 rfl (info_list (none, 0)) H (fun hb => ?_)
    refine ⟨?_, hb⟩
    rw [show keyOf ⟨Ak, nk, ck⟩ = (none, 0) from by unfold keyOf; dsimp only; rw [if_pos (by omega), show nk = 0 by omega]]
  | false =>
    rw [hq1] at H
    have hq1p := of_decide_eq_false hq1
    refine wp_cond_false (H.ev rfl) ?_
    refine wp_skip ?_
    refine hK2 _ _ ?_
    clear hK2
    refine sqR H gs0 fun Z_ z_ => rS 1 rfl <| rV rfl (does_indexAddr rfl rfl rfl (ia_first (hA (by omega)) (by omega))) <| rS 1 rfl <| rV rfl (does_len Tryd.underlying25 rfl rfl) <| rV rfl (does_build rfl rfl bd_listA) <| rW [1] ⟨rfl, rfl⟩ rfl rfl rfl (info_list (some (g0, o0), nk)) (size_list _ _) (keyC_one _) <| rK [0, 0, 0, 0, 0, 0, 1, 0] [] [] <| rN0 z_ ?_
    try clear H a W
    intro a W H
    refine wp_ret ?_
    repeat (first | (with_reducible refine then_ret ?_) | (with_reducible refine blk_ret ?_))
    refine end_cell (p := 2) rfl rfl (k := 0) rfl Tryd.underlying69 rfl (info_list (some (g0, o0), nk)) H (fun hb => ?_)
    refine ⟨?_, hb⟩
    rw [show keyOf ⟨Ak, nk, ck⟩ = (some (g0, o0), nk) from by unfold keyOf; dsimp only; rw [if_neg (by omega), hA (by omega)]; rfl]
theorem list_of {w : World} {x : SL} {Ts : List DT} (h : LV w x Ts) : Calls Tryd.prog 36 #[.slice x.A x.n x.c] w (fun r W' => r = .returned (.agg (keyC (keyOf x))) ∧ Below w.heap.size w W') := by
  obtain ⟨A, n, c⟩ := x
  obtain ⟨sub, h1, _⟩ := h.at_
  by_cases h0 : 0 < n
  · obtain ⟨g, o, e, _⟩ := h1 h0
    exact list_walk (g0 := g) (o0 := o) w fun _ => e
  · exact list_walk (g0 := 0) (o0 := 0) w fun h => absurd h h0
set_option maxHeartbeats 4000000 in
theorem below_walk {Al : Option Addr} {nl cl gl ol : Nat} {L : List (SL × List DT)} (u8 : List UInt8 → Bool) (w : World) (hu8 : UV u8 w) (hLn : L.length = nl) (hnl : nl < 9223372036854775808) (hal : 0 < nl → Al = some ⟨gl, ol, none⟩ ∧ gl < w.heap.size ∧ ∀ (i : Nat) (p : SL × List DT), L[i]? = some p → w.cell? ⟨gl, ol + i, none⟩ = some (slV p)) (hLv : ∀ p ∈ L, LV w p.1 p.2) (hN : nodesL (L.flatMap (·.2)) ≤ 1000000) : Calls Tryd.prog 33 #[.slice Al nl cl] w (fun rr w' => ∃ v' ok, rr = .returned (.tuple #[v', .bool ok]) ∧ Below w.heap.size w w' ∧ (ok = false → ∃ p ∈ L, ∃ T ∈ p.2, ownD u8 T = false) ∧ (ok = true → ∃ L', LVF L' v' w' ∧ NX u8 L L' ∧ nodesL (L'.flatMap (·.2)) ≤ nodesL (L.flatMap (·.2)))) := by
  refine calls_st (vs := [.slice Al nl cl]) 53 Tryd.func33 rfl Tryd.ntmps33 rfl (fun a W H => ?_)
  replace H : St 53 w a W [(0, .slice Al nl cl)] [] := H
  refine sqR H gs0 fun Z_ z_ => rS 2 rfl <| rN0 z_ ?_
  try clear H a W
  intro a W H
  refine sqR H gs0 fun Z_ z_ => rS 1 rfl <| rN0 z_ ?_
  try clear H a W
  intro a W H
  refine wp_seq_k (fun K3 hK3 => ?_)
  refine rg_plain ?_
  refine pl_makeMap rfl rfl rfl rfl rfl H ?_
  try clear H a W
  intro b a W H
  rw [ents_nil] at H
  replace H : St 53 w a W [(11, .map (some b)), (4, .slice none 0 0), (3, .bool false), (2, .slice none 0 0), (0, .slice Al nl cl)] [(b, .map (entsK []) ([] : List EntK).length, #[])] := H
  refine rgO H gs0 (rS 1 rfl <| rK [1, 0] [] [] <| rZ0 ?_)
  try clear H a W
  intro a W H
  refine hK3 _ _ ?_
  clear hK3
  refine wp_seq_k (fun K4 hK4 => ?_)
  refine sqR H gs0 fun Z_ z_ => rS 1 rfl <| rV rfl (does_len Tryd.underlying60 rfl rfl) <| rS 1 rfl <| rK [1, 1, 1, 1, 1, 1, 1, 0] [] [] <| rN0 z_ ?_
  try clear H a W
  intro a W H
  refine wp_block ?_
  refine wp_rounds nl (fun p a W => ∃ (E : List EntK) (N : List (SL × List DT)) (A3 : Option Addr) (c3 : Nat) (t3 : Hep), SN u8 w ((L.take p).flatMap (·.2)) E N ∧ OutD 25 1 t3 (.slice A3 N.length c3) N.length (N.map slV) ∧ St 53 w a W [(4, .slice A3 N.length c3), (14, .int .i64 ((p : Nat) : Int)), (13, .int .i64 ((nl : Nat) : Int)), (12, .slice Al nl cl), (5, .map (some b)), (3, .bool false), (2, .slice none 0 0)] ((b, .map (entsK E) E.length, #[]) :: t3)) (k0 := 0) (show ∃ (E : List EntK) (N : List (SL × List DT)) (A3 : Option Addr) (c3 : Nat) (t3 : Hep), SN u8 w ((L.take 0).flatMap (·.2)) E N ∧ OutD 25 1 t3 (.slice A3 N.length c3) N.length (N.map slV) ∧ St 53 w a W [(4, .slice A3 N.length c3), (14, .int .i64 ((0 : Nat) : Int)), (13, .int .i64 ((nl : Nat) : Int)), (12, .slice Al nl cl), (5, .map (some b)), (3, .bool false), (2, .slice none 0 0)] ((b, .map (entsK E) E.length, #[]) :: t3) from ⟨[], [], none, 0, [], SN.nil u8 w, OutD.nil _ _, H.pick [4, 0, 1, 2, 3, 5, 6] [0] rfl⟩) (by omega) ?_
  try clear H a W
  rintro p a W hp ⟨E, N, A3, c3, t3, hSN, hOD, H⟩
  by_cases hp2 : p < nl
  · obtain ⟨⟨px, pTs⟩, hpp⟩ : ∃ q, L[p]? = some q := ⟨_, List.getElem?_eq_getElem (by omega)⟩
    have hpm := List.mem_of_getElem? hpp
    have hlv : LV w px pTs := hLv _ hpm
    have hpn : pTs.length = px.n := hlv.len
    have hpmx := hlv.max
    obtain ⟨sub, hc1, hc2⟩ := hlv.at_
    obtain ⟨g, o, hA⟩ : ∃ g o, 0 < px.n → px.A = some ⟨g, o, none⟩ ∧ g < w.heap.size ∧ ∀ i, i < px.n → ∀ (j : Nat) (v : Value), (sub i).cs[j]? = some v → w.cell? ⟨g, o + i * 7 + j, none⟩ = some v := by
      by_cases h0 : 0 < px.n
      · obtain ⟨g, o, e, hg, hc⟩ := hc1 h0
        exact ⟨g, o, fun _ => ⟨e, hg.lt, hc⟩⟩
      · exact ⟨0, 0, fun h => absurd h h0⟩
    refine sqR H gs0 fun Z_ z_ => rV rfl (does_binOp rfl rfl rfl (z_cmp.1 (decide_eq_true (by omega)) _ _)) <| rN0 z_ ?_
    try clear H a W
    intro a W H
    refine cdT H rfl ?_
    refine wp_seq_k (fun K7 hK7 => ?_)
    refine wp_block ?_
    refine sqR H gs0 fun Z_ z_ => rV rfl (does_indexAddr rfl rfl rfl (ia_derss (j := p) (hal (by omega)).1 (by omega))) <| rV rfl (does_loadCell (v := .slice px.A px.n px.c) rfl rfl ((hal (by omega)).2.2 p _ hpp) (hal (by omega)).2.1 ld_ders) <| rS 1 rfl <| rN0 z_ ?_
    try clear H a W
    intro a W H
    refine sqR H gs0 fun Z_ z_ => rS 1 rfl <| rV rfl (does_len Tryd.underlying25 rfl rfl) <| rS 1 rfl <| rN0 z_ ?_
    try clear H a W
    intro a W H
    refine wp_block ?_
    refine wp_rounds px.n (fun q a W => ∃ (E : List EntK) (N : List (SL × List DT)) (A3 : Option Addr) (c3 : Nat) (t3 : Hep), SN u8 w ((L.take p).flatMap (·.2) ++ pTs.take q) E N ∧ OutD 25 1 t3 (.slice A3 N.length c3) N.length (N.map slV) ∧ St 53 w a W [(4, .slice A3 N.length c3), (20, .int .i64 ((q : Nat) : Int)), (19, .int .i64 ((px.n : Nat) : Int)), (18, .slice px.A px.n px.c), (14, .int .i64 ((p : Nat) : Int)), (13, .int .i64 ((nl : Nat) : Int)), (12, .slice Al nl cl), (5, .map (some b)), (3, .bool false), (2, .slice none 0 0)] ((b, .map (entsK E) E.length, #[]) :: t3)) (k0 := 0) (show ∃ (E : List EntK) (N : List (SL × List DT)) (A3 : Option Addr) (c3 : Nat) (t3 : Hep), SN u8 w ((L.take p).flatMap (·.2) ++ pTs.take 0) E N ∧ OutD 25 1 t3 (.slice A3 N.length c3) N.length (N.map slV) ∧ St 53 w a W [(4, .slice A3 N.length c3), (20, .int .i64 ((0 : Nat) : Int)), (19, .int .i64 ((px.n : Nat) : Int)), (18, .slice px.A px.n px.c), (14, .int .i64 ((p : Nat) : Int)), (13, .int .i64 ((nl : Nat) : Int)), (12, .slice Al nl cl), (5, .map (some b)), (3, .bool false), (2, .slice none 0 0)] ((b, .map (entsK E) E.length, #[]) :: t3) from ⟨E, N, A3, c3, t3, by rw [List.take_zero, List.append_nil]; exact hSN, hOD, H.pickF (h := [(b, .map (entsK E) E.length, #[])]) (t := t3) [7, 0, 1, 2, 8, 9, 10, 11, 12, 13] [0] rfl⟩) (by omega) ?_
    clear H a W hOD hSN
    clear A3 c3 t3 E N
    rintro q a W hq ⟨E, N, A3, c3, t3, hSN, hOD, H⟩
    have hvl_ : nodesL ((L.take p).flatMap (·.2) ++ pTs.take q) ≤ nodesL (L.flatMap (·.2)) := vis_le (k := q) hpp
    have hsm_ := hSN.sum
    have hfw_ := hSN.few
    by_cases hq2 : q < px.n
    · obtain ⟨T, hT⟩ : ∃ T, pTs[q]? = some T := ⟨_, List.getElem?_eq_getElem (by omega)⟩
      have hdy : DY w T (sub q) := hc2 q T hT
      refine sqR H gs0 fun Z_ z_ => rV rfl (does_binOp rfl rfl rfl (z_cmp.1 (decide_eq_true (by omega)) _ _)) <| rN0 z_ ?_
      try clear H a W
      intro a W H
      refine cdT H rfl ?_
      refine wp_seq_k (fun K11 hK11 => ?_)
      refine wp_block ?_
      refine sqR H gs0 fun Z_ z_ => rV rfl (does_indexAddr rfl rfl rfl (ia_kids (j := q) (hA (by omega)).1 (by omega))) <| rV rfl (does_kid (y := sub q) rfl rfl (hA (by omega)).2.1 ((hA (by omega)).2.2 q (by omega))) <| rA rfl rfl al_der fun g1 => rW [1] ⟨rfl, rfl⟩ rfl rfl rfl (info_der (sub q)) (size_der DH.no (sub q)) (sub q).one <| rN0 z_ ?_
      try clear H a W
      intro a W H
      refine wp_seq_k (fun K13 hK13 => ?_)
      refine wp_seq_k (fun K14 hK14 => ?_)
      cases hq1 : ownD u8 T with
      | true =>
        refine rgP H gs0 (rV rfl (does_load rfl rfl (k := 0) rfl Tryd.underlying27 rfl (info_der (sub q))) <| rV rfl (does_call rfl ⟨_, Tryd.func50, by kernel_rfl⟩ rfl (fun W hb => by have h_ := may_dy u8 (hdy.lasts hb) (hu8.ext hb); rw [hq1] at h_; exact h_)) <| rS 1 rfl <| rZ0 ?_)
        try clear H a W
        intro a W H
        refine hK14 _ _ ?_
        clear hK14
        refine wp_cond_false (H.ev rfl) ?_
        refine wp_skip ?_
        refine hK13 _ _ ?_
        clear hK13
        refine sqR H gs0 fun Z_ z_ => rV rfl (does_fieldAddr rfl rfl fa_der6) <| rV rfl (does_loadAt (v := .slice (sub q).ks.A (sub q).ks.n (sub q).ks.c) rfl rfl (k := 0) rfl ld_derS) <| rV rfl (does_call rfl ⟨_, Tryd.func36, by kernel_rfl⟩ rfl (fun W hb => list_of (hdy.lv.lasts hb))) <| rA rfl rfl al_list fun g2 => rW [1] ⟨rfl, rfl⟩ rfl rfl rfl (info_list (keyOf (sub q).ks)) (size_list _ _) (keyC_one _) <| rN0 z_ ?_
        try clear H a W
        intro a W H
        refine wp_seq_k (fun K16 hK16 => ?_)
        replace H : St 53 w a W [(10, .pointer (some ⟨g2, 0, none⟩)), (29, .agg ((keyC (keyOf (sub q).ks)))), (28, .slice (sub q).ks.A (sub q).ks.n (sub q).ks.c), (27, .pointer (some ⟨g1, 6, none⟩)), (26, .bool false), (25, .bool true), (24, .agg ((sub q).cs)), (9, .pointer (some ⟨g1, 0, none⟩)), (23, .agg ((sub q).cs)), (22, .pointer (some ⟨g, o + q * 7, none⟩)), (21, .bool true), (4, .slice A3 N.length c3), (20, .int .i64 ((q : Nat) : Int)), (19, .int .i64 ((px.n : Nat) : Int)), (18, .slice px.A px.n px.c), (14, .int .i64 ((p : Nat) : Int)), (13, .int .i64 ((nl : Nat) : Int)), (12, .slice Al nl cl), (5, .map (some b)), (3, .bool false), (2, .slice none 0 0)] ((b, .map (entsK E) E.length, #[]) :: (g2, 69, (keyC (keyOf (sub q).ks))) :: (g1, 27, (sub q).cs) :: t3) := H.perm' (@List.perm_middle (Nat × Tid × Array Value) (b, .map (entsK E) E.length, #[]) [(g2, .ty 69, (keyC (keyOf (sub q).ks))), (g1, .ty 27, (sub q).cs)] t3)
        have hkk : okK w (keyOf (sub q).ks) := hdy.lv.okK
        have hcn_ := hSN.cnt (keyOf (sub q).ks)
        refine reg12 (κ := keyOf (sub q).ks) (E := E) H rfl rfl (fun d_ h1_ h2_ => by obtain rfl | rfl | rfl | rfl | rfl | rfl : d_ = 30 ∨ d_ = 31 ∨ d_ = 32 ∨ d_ = 33 ∨ d_ = 34 ∨ d_ = 35 := (by omega); all_goals rfl) (by omega) hkk hSN.keys ?_
        try clear H a W
        intro a W H
        replace H : St 53 w a W [(10, .pointer (some ⟨g2, 0, none⟩)), (29, .agg ((keyC (keyOf (sub q).ks)))), (28, .slice (sub q).ks.A (sub q).ks.n (sub q).ks.c), (27, .pointer (some ⟨g1, 6, none⟩)), (26, .bool false), (25, .bool true), (24, .agg ((sub q).cs)), (9, .pointer (some ⟨g1, 0, none⟩)), (23, .agg ((sub q).cs)), (22, .pointer (some ⟨g, o + q * 7, none⟩)), (21, .bool true), (4, .slice A3 N.length c3), (20, .int .i64 ((q : Nat) : Int)), (19, .int .i64 ((px.n : Nat) : Int)), (18, .slice px.A px.n px.c), (14, .int .i64 ((p : Nat) : Int)), (13, .int .i64 ((nl : Nat) : Int)), (12, .slice Al nl cl), (5, .map (some b)), (3, .bool false), (2, .slice none 0 0)] ((b, .map (entsK (bumpK (keyOf (sub q).ks) E)) (bumpK (keyOf (sub q).ks) E).length, #[]) :: (g2, 69, (keyC (keyOf (sub q).ks))) :: (g1, 27, (sub q).cs) :: t3) := H
        refine hK16 _ _ ?_
        clear hK16
        refine wp_seq_k (fun K17 hK17 => ?_)
        cases hq2 : decide ((((cntK (keyOf (sub q).ks) E + 1) : Nat) : Int) = 1) with
        | true =>
          have hq2p := of_decide_eq_true hq2
          refine rgP H gs0 (rS 1 rfl <| rV rfl (does_load rfl rfl (k := 1) rfl Tryd.underlying69 rfl (info_list (keyOf (sub q).ks))) <| rV rfl (does_lookB (κ := keyOf (sub q).ks) (k := 0) rfl rfl rfl rfl hkk hSN.keys) <| rV rfl (does_binOp rfl rfl rfl (z_cmp.2.2.1 hq2 _ _)) <| rS 1 rfl <| rV rfl (does_fieldAddr rfl rfl fa_list1) <| rV rfl (does_loadAt (v := .int .i64 (((sub q).ks.n : Nat) : Int)) rfl rfl (k := 1) rfl (ld_listX (x := (sub q).ks))) <| rV rfl (does_binOp rfl rfl rfl (z_cmp.2.1 rfl _ _)) <| rS 1 rfl <| rZ0 ?_)
          try clear H a W
          intro a W H
          refine hK17 _ _ ?_
          clear hK17
          cases hq3 : decide (0 < (((sub q).ks.n : Nat) : Int)) with
          | true =>
            rw [hq3] at H
            have hq3p := of_decide_eq_true hq3
            refine wp_cond_true (H.ev rfl) ?_
            refine rgP H gs0 (rS 1 rfl <| rV rfl (does_fieldAddr rfl rfl fa_der6) <| rV rfl (does_loadAt (v := .slice (sub q).ks.A (sub q).ks.n (sub q).ks.c) rfl rfl (k := 2) rfl ld_derS) <| rO rfl (fun a W H _ => ob_list1 (x := (sub q).ks) H (wanted_none rfl) rfl rfl) fun v48 => rI ?_)
            try clear H a W
            rintro a W H ⟨hv48, -⟩
            refine pl_list (h := [(b, .map (entsK (bumpK (keyOf (sub q).ks) E)) (bumpK (keyOf (sub q).ks) E).length, #[]), (g2, .ty 69, (keyC (keyOf (sub q).ks))), (g1, .ty 27, (sub q).cs)]) (t := t3) (q := ((sub q).ks, kidsOf T)) rfl rfl rfl hOD hv48 (by omega) rfl rfl rfl rfl H ?_
            try clear H a W
            intro v8 t8 a W hOD8 H
            obtain ⟨A8, c8, rfl, hc8_⟩ := hOD8.form
            replace H : St 53 w a W [(49, .slice A8 (N ++ [((sub q).ks, kidsOf T)]).length c8), (48, v48), (47, .slice (sub q).ks.A (sub q).ks.n (sub q).ks.c), (46, .pointer (some ⟨g1, 6, none⟩)), (45, .slice A3 N.length c3), (44, .bool true), (43, .bool true), (42, .int .i64 (((sub q).ks.n : Nat) : Int)), (41, .pointer (some ⟨g2, 1, none⟩)), (40, .bool true), (39, .bool true), (38, .int .i64 (((cntK (keyOf (sub q).ks) E + 1) : Nat) : Int)), (37, .agg ((keyC (keyOf (sub q).ks)))), (36, .map (some b)), (10, .pointer (some ⟨g2, 0, none⟩)), (29, .agg ((keyC (keyOf (sub q).ks)))), (28, .slice (sub q).ks.A (sub q).ks.n (sub q).ks.c), (27, .pointer (some ⟨g1, 6, none⟩)), (26, .bool false), (25, .bool true), (24, .agg ((sub q).cs)), (9, .pointer (some ⟨g1, 0, none⟩)), (23, .agg ((sub q).cs)), (22, .pointer (some ⟨g, o + q * 7, none⟩)), (21, .bool true), (4, .slice A3 N.length c3), (20, .int .i64 ((q : Nat) : Int)), (19, .int .i64 ((px.n : Nat) : Int)), (18, .slice px.A px.n px.c), (14, .int .i64 ((p : Nat) : Int)), (13, .int .i64 ((nl : Nat) : Int)), (12, .slice Al nl cl), (5, .map (some b)), (3, .bool false), (2, .slice none 0 0)] ((b, .map (entsK (bumpK (keyOf (sub q).ks) E)) (bumpK (keyOf (sub q).ks) E).length, #[]) :: (g2, 69, (keyC (keyOf (sub q).ks))) :: (g1, 27, (sub q).cs) :: t8) := H
            refine rgO H gs0 (rK [1, 1, 1, 1, 1, 1, 1, 1, 1, 1, 1, 1, 1, 1, 1, 1, 1, 1, 1, 1, 1, 1, 1, 1, 1, 0] [] [] <| rS 1 rfl <| rZ0 ?_)
            try clear H a W
            intro a W H
            refine blk_normal ?_
            refine hK11 _ _ ?_
            clear hK11
            refine rgP H gs0 (rV rfl (does_binOp rfl rfl rfl (zd_add_int (k := ((q : Nat) : Int)) (m := 1) (c := ((q + 1 : Nat) : Int)) (by omega) (by omega) _ _)) <| rK [1, 1, 1, 1, 1, 1, 1, 1, 1, 1, 1, 1, 1, 1, 1, 1, 1, 1, 1, 1, 1, 1, 1, 1, 1, 1, 1, 0] [] [] <| rS 1 rfl <| rZ0 ?_)
            try clear H a W
            intro a W H
            refine ⟨q + 1, by omega, by omega, bumpK (keyOf (sub q).ks) E, (N ++ [((sub q).ks, kidsOf T)]), A8, c8, t8, ?_, hOD8, H.pickF (h := [(b, .map (entsK (bumpK (keyOf (sub q).ks) E)) (bumpK (keyOf (sub q).ks) E).length, #[]), (g2, 69, (keyC (keyOf (sub q).ks))), (g1, 27, (sub q).cs)]) (t := t8) [2, 0, 28, 29, 30, 31, 32, 33, 34, 35] [0] rfl⟩
            have h_ := hSN.step hq1 hdy.lv
            unfold nextN at h_
            rw [if_pos ⟨by omega, by omega⟩] at h_
            rw [List.take_add_one, hT, Option.toList_some, ← List.append_assoc]
            exact h_
          | false =>
            rw [hq3] at H
            have hq3p := of_decide_eq_false hq3
            refine wp_cond_false (H.ev rfl) ?_
            refine wp_skip ?_
            refine blk_normal ?_
            refine hK11 _ _ ?_
            clear hK11
            refine rgP H gs0 (rV rfl (does_binOp rfl rfl rfl (zd_add_int (k := ((q : Nat) : Int)) (m := 1) (c := ((q + 1 : Nat) : Int)) (by omega) (by omega) _ _)) <| rK [1, 1, 1, 1, 1, 1, 1, 1, 1, 1, 1, 1, 1, 1, 1, 1, 1, 1, 1, 1, 1, 1, 0] [] [] <| rS 1 rfl <| rZ0 ?_)
            try clear H a W
            intro a W H
            refine ⟨q + 1, by omega, by omega, bumpK (keyOf (sub q).ks) E, N, A3, c3, t3, ?_, hOD, H.pickF (h := [(b, .map (entsK (bumpK (keyOf (sub q).ks) E)) (bumpK (keyOf (sub q).ks) E).length, #[]), (g2, 69, (keyC (keyOf (sub q).ks))), (g1, 27, (sub q).cs)]) (t := t3) [22, 0, 23, 24, 25, 26, 27, 28, 29, 30] [0] rfl⟩
            have h_ := hSN.step hq1 hdy.lv
            unfold nextN at h_
            rw [if_neg (by omega)] at h_
            rw [List.take_add_one, hT, Option.toList_some, ← List.append_assoc]
            exact h_
        | false =>
          have hq2p := of_decide_eq_false hq2
          refine rgP H gs0 (rS 1 rfl <| rV rfl (does_load rfl rfl (k := 1) rfl Tryd.underlying69 rfl (info_list (keyOf (sub q).ks))) <| rV rfl (does_lookB (κ := keyOf (sub q).ks) (k := 0) rfl rfl rfl rfl hkk hSN.keys) <| rV rfl (does_binOp rfl rfl rfl (z_cmp.2.2.1 hq2 _ _)) <| rS 5 rfl <| rZ0 ?_)
          try clear H a W
          intro a W H
          refine hK17 _ _ ?_
          clear hK17
          refine wp_cond_false (H.ev rfl) ?_
          refine wp_skip ?_
          refine blk_normal ?_
          refine hK11 _ _ ?_
          clear hK11
          refine rgP H gs0 (rV rfl (does_binOp rfl rfl rfl (zd_add_int (k := ((q : Nat) : Int)) (m := 1) (c := ((q + 1 : Nat) : Int)) (by omega) (by omega) _ _)) <| rK [1, 1, 1, 1, 1, 1, 1, 1, 1, 1, 1, 1, 1, 1, 1, 1, 1, 1, 1, 1, 1, 1, 0] [] [] <| rS 1 rfl <| rZ0 ?_)
          try clear H a W
          intro a W H
          refine ⟨q + 1, by omega, by omega, bumpK (keyOf (sub q).ks) E, N, A3, c3, t3, ?_, hOD, H.pickF (h := [(b, .map (entsK (bumpK (keyOf (sub q).ks) E)) (bumpK (keyOf (sub q).ks) E).length, #[]), (g2, 69, (keyC (keyOf (sub q).ks))), (g1, 27, (sub q).cs)]) (t := t3) [22, 0, 23, 24, 25, 26, 27, 28, 29, 30] [0] rfl⟩
          have h_ := hSN.step hq1 hdy.lv
          unfold nextN at h_
          rw [if_neg (by omega)] at h_
          rw [List.take_add_one, hT, Option.toList_some, ← List.append_assoc]
          exact h_
      | false =>
        refine rgP H gs0 (rV rfl (does_load rfl rfl (k := 0) rfl Tryd.underlying27 rfl (info_der (sub q))) <| rV rfl (does_call rfl ⟨_, Tryd.func50, by kernel_rfl⟩ rfl (fun W hb => by have h_ := may_dy u8 (hdy.lasts hb) (hu8.ext hb); rw [hq1] at h_; exact h_)) <| rS 1 rfl <| rZ0 ?_)
        try clear H a W
        intro a W H
        refine hK14 _ _ ?_
        clear hK14
        refine wp_cond_true (H.ev rfl) ?_
        refine sqR H gs0 fun Z_ z_ => rK [1, 1, 1, 1, 1, 1, 1, 1, 1, 1, 1, 1, 1, 1, 1, 1, 0] [] [] <| rS 1 rfl <| rK [1, 1, 1, 1, 1, 1, 1, 1, 1, 1, 1, 1, 1, 1, 1, 1, 0] [] [] <| rS 1 rfl <| rN0 z_ ?_
        try clear H a W
        intro a W H
        refine wp_ret ?_
        repeat (first | (with_reducible refine then_ret ?_) | (with_reducible refine blk_ret ?_))
        refine end_tmps2 (p := 2) (q := 3) rfl rfl rfl H (fun hb => ?_)
        refine ⟨_, false, rfl, hb, fun _ => ⟨_, hpm, T, List.mem_of_getElem? hT, hq1⟩, fun h_ => by cases h_⟩
    · obtain rfl : q = px.n := by omega
      refine sqR H gs0 fun Z_ z_ => rV rfl (does_binOp rfl rfl rfl (z_cmp.1 (decide_eq_false (by omega)) _ _)) <| rN0 z_ ?_
      try clear H a W
      intro a W H
      refine wp_seq_k (fun K20 hK20 => ?_)
      refine wp_cond_false (H.ev rfl) ?_
      refine wp_exit ?_
      repeat (first | (with_reducible refine then_exit ?_) | (with_reducible refine blk_pass (by decide) ?_))
      refine blk_exit ?_
      refine blk_normal ?_
      refine hK7 _ _ ?_
      clear hK7
      refine rgP H gs0 (rV rfl (does_binOp rfl rfl rfl (zd_add_int (k := ((p : Nat) : Int)) (m := 1) (c := ((p + 1 : Nat) : Int)) (by omega) (by omega) _ _)) <| rK [1, 1, 1, 1, 1, 1, 0] [] [] <| rS 1 rfl <| rZ0 ?_)
      try clear H a W
      intro a W H
      refine ⟨p + 1, by omega, by omega, E, N, A3, c3, t3, ?_, hOD, H.pickF (h := [(b, .map (entsK E) E.length, #[])]) (t := t3) [3, 0, 7, 8, 9, 10, 11] [0] rfl⟩
      rw [vis_take hpp]
      rw [List.take_of_length_le (l := pTs) (by omega)] at hSN
      exact hSN
  · obtain rfl : nl = p := by omega
    refine sqR H gs0 fun Z_ z_ => rV rfl (does_binOp rfl rfl rfl (z_cmp.1 (decide_eq_false (by omega)) _ _)) <| rK [1, 1, 1, 0] [] [] <| rN0 z_ ?_
    try clear H a W
    intro a W H
    refine wp_seq_k (fun K22 hK22 => ?_)
    refine wp_cond_false (H.ev rfl) ?_
    refine wp_exit ?_
    repeat (first | (with_reducible refine then_exit ?_) | (with_reducible refine blk_pass (by decide) ?_))
    refine blk_exit ?_
    refine hK4 _ _ ?_
    clear hK4
    refine sqR H gs0 fun Z_ z_ => rS 1 rfl <| rK [1, 1, 1, 1, 1, 1, 1, 0] [] [] <| rS 1 rfl <| rK [1, 1, 1, 1, 1, 1, 1, 0] [] [] <| rS 1 rfl <| rK [1, 1, 0, 0, 0, 0, 0, 0] [] [] <| rN0 z_ ?_
    try clear H a W
    intro a W H
    refine wp_ret ?_
    repeat (first | (with_reducible refine then_ret ?_) | (with_reducible refine blk_ret ?_))
    refine end_tmps2 (p := 2) (q := 3) rfl rfl rfl H (fun hb => ?_)
    rw [List.take_of_length_le (l := L) (by omega)] at hSN
    have hsm_ := hSN.sum
    have hfw_ := hSN.few
    refine ⟨_, true, rfl, hb, (fun h_ => by cases h_), fun _ => ⟨N, lf_of (h := [(b, .map (entsK E) E.length, #[])]) hOD H (by omega) (fun p hp => (hSN.lv p hp).1), ?_, ?_⟩⟩
    · refine ⟨fun p hp T hT => hSN.own T (List.mem_flatMap.2 ⟨p, hp, hT⟩), fun q hq => ?_, fun p hp T hT hne => hSN.has T (List.mem_flatMap.2 ⟨p, hp, hT⟩) hne, fun q hq => ?_⟩
      · obtain ⟨T, hT, e⟩ := hSN.from_ q hq
        obtain ⟨p, hp, hT⟩ := List.mem_flatMap.1 hT
        exact ⟨p, hp, T, hT, e⟩
      · have h1 := hSN.lv q hq
        have h2 := h1.1.len
        exact List.ne_nil_of_length_pos (by omega)
    · rw [nodes_flat N]
      omega
end Go.Proofs.YtiafcgoiolbdhaaDoor
namespace Go.Proofs.YtiafcgoiolbdhaaDoor
set_option linter.unusedVariables false
set_option linter.unusedSimpArgs false
set_option maxRecDepth 100000
open Go Go.RowKit
/-- What below answers of a level. -/
def BLF (u8 : List UInt8 → Bool) (L : List (SL × List DT)) (ok : Bool) (v : Value) (w : World) : Prop := ok = true → ∃ L', LVF L' v w ∧ NX u8 L L' ∧ nodesL (L'.flatMap (·.2)) ≤ nodesL (L.flatMap (·.2))
instance {u8 : List UInt8 → Bool} {L : List (SL × List DT)} {ok : Bool} {v : Value} : Lasts (BLF u8 L ok v) := ⟨fun w w' h hb hk => by
  obtain ⟨L', h1, h2⟩ := h hk
  exact ⟨L', Lasts.lasts _ _ h1 hb, h2⟩⟩
theorem below_any {L : List (SL × List DT)} {v : Value} (u8 : List UInt8 → Bool) (W : World) (hu8 : UV u8 W) (hL : LVF L v W) (hN : nodesL (L.flatMap (·.2)) ≤ 1000000) : Calls Tryd.prog 33 #[v] W (fun rr W' => ∃ t, rr = .returned t ∧ Below W.heap.size W W' ∧ ∃ v' ok, t = .tuple #[v', .bool ok] ∧ (ok = false → ∃ p ∈ L, ∃ T ∈ p.2, ownD u8 T = false) ∧ BLF u8 L ok v' W') := by
  obtain ⟨A, c, rfl, h1, h2, h3⟩ := hL
  have fin : ∀ gl ol, (0 < L.length → A = some ⟨gl, ol, none⟩ ∧ gl < W.heap.size ∧ ∀ (i : Nat) (p : SL × List DT), L[i]? = some p → W.cell? ⟨gl, ol + i, none⟩ = some (slV p)) → Calls Tryd.prog 33 #[.slice A L.length c] W (fun rr W' => ∃ t, rr = .returned t ∧ Below W.heap.size W W' ∧ ∃ v' ok, t = .tuple #[v', .bool ok] ∧ (ok = false → ∃ p ∈ L, ∃ T ∈ p.2, ownD u8 T = false) ∧ BLF u8 L ok v' W') := fun gl ol h => by
    refine (below_walk (cl := c) u8 W hu8 rfl h1 h h3 hN).mono ?_
    rintro r W' ⟨v', ok, rfl, hb, hno, hyes⟩
    exact ⟨_, rfl, hb, v', ok, rfl, hno, hyes⟩
  by_cases h0 : 0 < L.length
  · obtain ⟨g, o, e, hg, hc⟩ := h2 h0
    exact fin g o fun _ => ⟨e, hg, hc⟩
  · exact fin 0 0 fun h => absurd h h0
section
variable {n : Nat} {w0 w w' : World} {a : Act} {e : Env} {h : Hep} {Q : Exit → Act → World → Prop} {ops : Array Oper} {rest : List Oper} {o o' : Oper}
/-- A level of one value. -/
theorem pl_level {d d' : Nat} {y : Operand} {x : DH} {T : DT} (ho : o.op = .buildSlice 25 1 #[(0, y)]) (hg : o.guard = none) (hd : o.dst = some d) (ho' : o'.op = .buildSlice 60 1 #[(0, .tmp d)]) (hg' : o'.guard = none) (hd' : o'.dst = some d') (hy : sev e y = some (.agg x.cs)) (hdy : DY w0 T x) (hl : Nat.blt d n = true) (hl' : Nat.blt d' n = true) (hne : Nat.beq d d' = false) (hf : e.all (fun p => !Nat.beq p.1 d) = true) (hf' : e.all (fun p => !Nat.beq p.1 d') = true) (H : St n w0 a w e h)
    (next : ∀ v p a w', p.2 = [T] → LVF [p] v w' → St n w0 a w' ((d', v) :: e) h → wpList Tryd.prog ops Q rest a w') : wpList Tryd.prog ops Q (o :: o' :: rest) a w :=
  wpList_plain hg fun K hK => by
    have hb1 : Below w.heap.size w (w.alloc (.cells x.cs 27)) := (Below.refl _ _).alloc (Nat.le_refl _) _
    have e1 : (execOp a.eval o).run Tryd.prog w = .ok (.value (.slice (some ⟨w.heap.size, 0, none⟩) 1 1)) (w.alloc (.cells x.cs 27)) := by
      simp [execOp, ho, H.ev hy, run_der1, Result.andThen]
    have B1 : Blk (w.alloc (.cells x.cs 27)) w.heap.size 27 x.cs := Blk.new _ _ _
    have H1 : St n w0 (a.put (some d) (.slice (some ⟨w.heap.size, 0, none⟩) 1 1)) (w.alloc (.cells x.cs 27)) ((d, .slice (some ⟨w.heap.size, 0, none⟩) 1 1) :: e) h := (H.call hb1).put _ hl hf
    unfold Oper.wp
    rw [e1]
    refine hK _ _ ?_
    rw [hd]
    generalize w.heap.size = g6 at *
    generalize w.alloc (.cells x.cs 27) = w1 at *
    refine wpList_plain hg' fun K hK => ?_
    have hb2 : Below w1.heap.size w1 (w1.alloc (.cells #[.slice (some ⟨g6, 0, none⟩) 1 1] 25)) := (Below.refl _ _).alloc (Nat.le_refl _) _
    have hx : ∀ a : Act, a.eval (.tmp d) = .slice (some ⟨g6, 0, none⟩) 1 1 → (execOp a.eval o').run Tryd.prog w1 = .ok (.value (.slice (some ⟨w1.heap.size, 0, none⟩) 1 1)) (w1.alloc (.cells #[.slice (some ⟨g6, 0, none⟩) 1 1] 25)) := fun a ha => by
      simp [execOp, ho', ha, run_lst1, Result.andThen]
    have e2 := hx _ (H1.ev (x := .tmp d) (by simp [sev, look]))
    have B2 : Blk (w1.alloc (.cells #[.slice (some ⟨g6, 0, none⟩) 1 1] 25)) w1.heap.size 25 #[.slice (some ⟨g6, 0, none⟩) 1 1] := Blk.new _ _ _
    have B1' : Blk (w1.alloc (.cells #[.slice (some ⟨g6, 0, none⟩) 1 1] 25)) g6 27 x.cs := B1.below hb2 B1.lt
    unfold Oper.wp
    rw [e2]
    have H2 := H1.call hb2
    refine hK _ _ (next (.slice (some ⟨w1.heap.size, 0, none⟩) 1 1) (⟨some ⟨g6, 0, none⟩, 1, 1⟩, [T]) _ _ rfl ⟨some ⟨w1.heap.size, 0, none⟩, 1, rfl, (show 1 < 9223372036854775808 by decide), fun _ => ⟨_, 0, rfl, B2.lt, fun i p hp => ?_⟩, fun p hp => ?_⟩ ?_)
    · rw [Nat.zero_add, B2.cell]
      cases i with
      | zero =>
        injection hp with hp
        subst hp
        rfl
      | succ i => simp at hp
    · rw [List.mem_singleton.1 hp]
      refine ⟨rfl, Nat.le_refl _, (show 1 < 9223372036854775808 by decide), fun _ => x, fun _ => ⟨g6, 0, rfl, ⟨_, _, B1'⟩, fun i hi j v hv => ?_⟩, fun i S hS => ?_⟩
      · have hi : i < 1 := hi
        obtain rfl : i = 0 := by omega
        rw [show 0 + 0 * 7 + j = j by omega, B1'.cell]
        exact hv
      · cases i with
        | zero =>
          injection hS with hS
          subst hS
          exact hdy.lasts H2.below
        | succ i => simp at hS
    · rw [hd']
      have H3 := H2.put (d := d') (.slice (some ⟨w1.heap.size, 0, none⟩) 1 1) hl' (by
        simp only [List.all_cons, hf', Bool.and_true, Bool.not_eq_true']
        exact hne)
      exact H3.sub (fun p hp => by
        rcases List.mem_cons.1 hp with rfl | hp
        · exact List.mem_cons_self
        · exact List.mem_cons_of_mem _ (List.mem_cons_of_mem _ hp)) (fun _ h => h) H3.apart
end
attribute [local irreducible] bvs byteD rb nodesL ownD mayD packD formQ
set_option maxHeartbeats 4000000 in
theorem dermay_walk {x : DH} {T : DT} (u8 : List UInt8 → Bool) (w : World) (hu8 : UV u8 w) (hdy : DY w T x) (hN : nodesD T ≤ 1000000) : Calls Tryd.prog 14 #[.agg (x.cs)] w (fun rr w' => rr = .returned (.bool (mayD u8 12 T)) ∧ Below w.heap.size w w') := by
  refine calls_st (vs := [.agg (x.cs)]) 21 Tryd.func14 rfl Tryd.ntmps14 rfl (fun a W H => ?_)
  replace H : St 21 w a W [(0, .agg (x.cs))] [] := H
  refine sqR H gs0 fun Z_ z_ => rB rfl rfl rfl (bx_der x) fun g1 => rS 1 rfl <| rK [1, 1, 0] [] [] <| rN0 z_ ?_
  try clear H a W
  intro a W H
  refine wp_seq_k (fun K2 hK2 => ?_)
  refine rgP H gs0 (rV rfl (does_load rfl rfl (k := 0) rfl Tryd.underlying27 rfl (info_der x)) <| rI0 ?_)
  try clear H a W
  intro a W H
  refine pl_level rfl rfl rfl rfl rfl rfl rfl hdy rfl rfl rfl rfl rfl H ?_
  try clear H a W
  intro v7 p7 a W hp7 hlv7 H
  replace H : St 21 w a W [(7, v7), (5, .agg (x.cs)), (2, .bool false), (1, .pointer (some ⟨g1, 0, none⟩))] [(g1, 27, x.cs)] := H
  refine rgO H (gsC hlv7 gs0) (rS 2 rfl <| rK [1, 1, 0, 0, 1, 0] [] [] <| rZ ?_)
  try clear hlv7 H a W
  rintro a W H ⟨hlv7, -⟩
  refine hK2 _ _ ?_
  clear hK2
  refine wp_seq_k (fun K3 hK3 => ?_)
  refine sqR H (gsC hlv7 gs0) fun Z_ z_ => rS 1 rfl <| rN z_ ?_
  try clear hlv7 H a W
  rintro a W H ⟨hlv7, -⟩
  have hm0 : mayL u8 (12 - 0) [p7] ↔ mayD u8 12 T = true := ⟨fun h => h p7 (by simp) T (by rw [hp7]; simp), fun h q hq S hS => by rw [List.mem_singleton.1 hq, hp7] at hS; rw [List.mem_singleton.1 hS]; exact h⟩
  have hn0 : nodesL ([p7].flatMap (·.2)) ≤ 1000000 := by rw [List.flatMap_cons, List.flatMap_nil, List.append_nil, hp7, nodesL_one]; exact hN
  refine wp_block ?_
  refine wp_rounds 12 (fun k a W => ∃ (L : List (SL × List DT)) (vo : Value), LVF L vo W ∧ (mayL u8 (12 - k) L ↔ mayD u8 12 T = true) ∧ nodesL (L.flatMap (·.2)) ≤ 1000000 ∧ (12 ≤ k → ∀ q ∈ L, q.2 ≠ []) ∧ St 21 w a W [(8, .int .i64 ((k : Nat) : Int)), (3, vo), (4, .bool true), (2, .bool false)] [(g1, 27, x.cs)]) (k0 := 0) (show ∃ (L : List (SL × List DT)) (vo : Value), LVF L vo W ∧ (mayL u8 (12 - 0) L ↔ mayD u8 12 T = true) ∧ nodesL (L.flatMap (·.2)) ≤ 1000000 ∧ (12 ≤ 0 → ∀ q ∈ L, q.2 ≠ []) ∧ St 21 w a W [(8, .int .i64 ((0 : Nat) : Int)), (3, vo), (4, .bool true), (2, .bool false)] [(g1, 27, x.cs)] from ⟨[p7], v7, hlv7, hm0, hn0, fun h => absurd h (by decide), H.pick [0, 2, 1, 3] [0] rfl⟩) (by omega) ?_
  try clear H a W
  rintro k a W hk ⟨L, vo, hL, hm, hnl, hne, H⟩
  by_cases hk2 : k < 12
  · refine sqR H (gsC hL gs0) fun Z_ z_ => rV rfl (does_binOp rfl rfl rfl (z_cmp.1 (decide_eq_true (by omega)) _ _)) <| rN z_ ?_
    try clear hL H a W
    rintro a W H ⟨hL, -⟩
    refine cdT H rfl ?_
    refine wp_seq_k (fun K6 hK6 => ?_)
    refine wp_block ?_
    refine wp_seq_k (fun K7 hK7 => ?_)
    refine rgP H (gsC hL gs0) (rS 1 rfl <| rI ?_)
    try clear hL H a W
    rintro a W H ⟨hL, -⟩
    refine pl_R (R := SB) (F := fun v W => ∃ v' ok, v = .tuple #[v', .bool ok] ∧ (ok = false → ∃ p ∈ L, ∃ T ∈ p.2, ownD u8 T = false) ∧ BLF u8 L ok v' W) sb_st (ob_callS H (wanted_none rfl) rfl ⟨_, Tryd.func33, by kernel_rfl⟩ rfl (below_any u8 _ (hu8.ext H.below) hL hnl)) rfl rfl rfl H ?_
    try clear H a W
    rintro _ a W ⟨v8, ok, rfl, hno, hyes⟩ hR_ H
    clear hR_
    replace H : St 21 w a W [(12, .tuple #[v8, .bool ok]), (11, vo), (9, .bool true), (8, .int .i64 ((k : Nat) : Int)), (3, vo), (4, .bool true), (2, .bool false)] [(g1, 27, x.cs)] := H
    refine rgO H (gsC hyes gs0) (rS 3 rfl <| rK [1, 1, 1, 1, 1, 1, 1, 0] [] [] <| rS 1 rfl <| rK [1, 1, 1, 1, 1, 1, 1, 1, 0] [] [] <| rS 1 rfl <| rZ ?_)
    try clear hyes H a W
    rintro a W H ⟨hyes, -⟩
    refine hK7 _ _ ?_
    clear hK7
    refine wp_seq_k (fun K8 hK8 => ?_)
    cases hq1 : ok with
    | true =>
      rw [hq1] at H
      refine rgP H (gsC hyes gs0) (rS 2 rfl <| rZ ?_)
      try clear hyes H a W
      rintro a W H ⟨hyes, -⟩
      refine hK8 _ _ ?_
      clear hK8
      refine wp_cond_false (H.ev rfl) ?_
      refine wp_skip ?_
      refine blk_normal ?_
      refine hK6 _ _ ?_
      clear hK6
      refine rgP H (gsC hyes gs0) (rV rfl (does_binOp rfl rfl rfl (zd_add_int (k := ((k : Nat) : Int)) (m := 1) (c := ((k + 1 : Nat) : Int)) (by omega) (by omega) _ _)) <| rK [1, 1, 1, 1, 1, 1, 1, 1, 1, 1, 1, 0] [] [] <| rS 1 rfl <| rZ ?_)
      try clear hyes H a W
      rintro a W H ⟨hyes, -⟩
      obtain ⟨L2, hL2, hNX, hle⟩ := hyes hq1
      refine ⟨k + 1, by omega, by omega, L2, v8, hL2, ?_, Nat.le_trans hle hnl, fun _ => hNX.pos, H.pick [0, 5, 4, 12] [0] rfl⟩
      rw [← hm, show 12 - k = (12 - (k + 1)) + 1 by omega]
      exact (hNX.may _).symm
    | false =>
      rw [hq1] at H
      refine rgP H (gsC hyes gs0) (rS 2 rfl <| rZ ?_)
      try clear hyes H a W
      rintro a W H ⟨hyes, -⟩
      refine hK8 _ _ ?_
      clear hK8
      refine wp_cond_true (H.ev rfl) ?_
      refine sqR H (gsC hyes gs0) fun Z_ z_ => rK [1, 1, 1, 1, 1, 1, 1, 1, 1, 1, 1, 0] [] [] <| rS 1 rfl <| rN z_ ?_
      try clear hyes H a W
      rintro a W H ⟨hyes, -⟩
      refine wp_ret ?_
      repeat (first | (with_reducible refine then_ret ?_) | (with_reducible refine blk_ret ?_))
      refine end_tmp (p := 2) rfl rfl H (fun hb => ?_)
      obtain ⟨p_, hp_, S_, hS_, ho_⟩ := hno hq1
      have hf_ : mayD u8 12 T = false := by
        cases h_ : mayD u8 12 T with
        | false => rfl
        | true => exact absurd (hm.2 h_) (mayL_not hp_ hS_ ho_ _)
      exact ⟨by rw [hf_], hb⟩
  · obtain rfl : k = 12 := by omega
    obtain ⟨Al, cl, rfl, hLn, hal, hLv⟩ := hL
    refine sqR H gs0 fun Z_ z_ => rV rfl (does_binOp rfl rfl rfl (z_cmp.1 (decide_eq_false (by omega)) _ _)) <| rN0 z_ ?_
    try clear H a W
    intro a W H
    refine wp_seq_k (fun K11 hK11 => ?_)
    refine wp_cond_false (H.ev rfl) ?_
    refine wp_exit ?_
    repeat (first | (with_reducible refine then_exit ?_) | (with_reducible refine blk_pass (by decide) ?_))
    refine blk_exit ?_
    refine hK3 _ _ ?_
    clear hK3
    refine sqR H gs0 fun Z_ z_ => rS 1 rfl <| rV rfl (does_len Tryd.underlying60 rfl rfl) <| rV rfl (does_binOp rfl rfl rfl (z_cmp.2.2.1 rfl _ _)) <| rK [1, 1, 1, 1, 1, 1, 1, 0] [] [] <| rS 1 rfl <| rK [1, 0, 0, 0, 0, 0, 0, 0] [] [] <| rN0 z_ ?_
    try clear H a W
    intro a W H
    refine wp_ret ?_
    repeat (first | (with_reducible refine then_ret ?_) | (with_reducible refine blk_ret ?_))
    refine end_tmp (p := 2) rfl rfl H (fun hb => ?_)
    refine ⟨congrArg (fun b_ => Ending.returned (.bool b_)) ?_, hb⟩
    rw [Bool.eq_iff_iff, decide_eq_true_eq, ← hm, may_end (hne (Nat.le_refl _)), ← List.length_eq_zero_iff]
    omega
end Go.Proofs.YtiafcgoiolbdhaaDoor
