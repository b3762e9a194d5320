/- The document's Tag, walked. -/
import Derived.Test.YtghbknebaknmjaaDoorQc
namespace Go.Proofs.YtghbknebaknmjaaDoor
set_option linter.unusedVariables false
set_option linter.unusedSimpArgs false
set_option maxRecDepth 100000
open Go Go.RowKit

/-! Purely. -/
/-- r's digits; s's. -/
def rD (kk : Nat → UInt8) (i : Nat) : Nat := if i % 4 = 3 then (kk i).toNat % 16 else if i = 4 ∨ i = 8 ∨ i = 12 then (kk i).toNat / 4 * 4 else (kk i).toNat
def sD (kk : Nat → UInt8) (i : Nat) : Nat := (kk (16 + i)).toNat
theorem rD_lt (kk : Nat → UInt8) (i : Nat) : rD kk i < 256 := by
  have := (kk i).toNat_lt
  unfold rD
  split
  · omega
  · split <;> omega
theorem sD_lt (kk : Nat → UInt8) (i : Nat) : sD kk i < 256 := (kk (16 + i)).toNat_lt
/-- A piece's digits. -/
def cD (bb : Nat → UInt8) (j R i : Nat) : Nat := if i < R then (bb (16 * j + i)).toNat else if i = R then 1 else 0
theorem cD_le (bb : Nat → UInt8) (j R i : Nat) : cD bb j R i ≤ 255 := by
  have := (bb (16 * j + i)).toNat_lt
  unfold cD
  split
  · omega
  · split <;> omega
/-- The number behind j pieces of n bytes. -/
def acc (kk bb : Nat → UInt8) (n : Nat) : Nat → Nat
  | 0 => 0
  | j + 1 => ((acc kk bb n j + sumD (cD bb j (min 16 (n - 16 * j))) 17) * sumD (rD kk) 16) % PM
theorem acc_lt (kk bb : Nat → UInt8) (n : Nat) : ∀ j, acc kk bb n j < PM
  | 0 => by
    show 0 < PM
    decide
  | j + 1 => Nat.mod_lt _ (by decide)
theorem dig_zero (i : Nat) : dig 0 i = 0 := by simp [dig]
def markF (kk : Nat → UInt8) (A i : Nat) : UInt8 := UInt8.ofNat (dig (A + sumD (sD kk) 16) i)
/-- The mark of a list of bytes. -/
def tagF (kk : Nat → UInt8) (l : List UInt8) : Nat → UInt8 := markF kk (acc kk (fun i => l.getD i 0) l.length ((l.length + 15) / 16))
def aB (A : Nat) (bb : Nat → UInt8) (j i : Nat) : Nat := dig A i + (bb (16 * j + i)).toNat
def aD (A : Nat) (bb : Nat → UInt8) (j R i : Nat) : Nat := dig A i + cD bb j R i
theorem aD_step (A : Nat) (bb : Nat → UInt8) (j R : Nat) : updN (mapK (aB A bb j) (dig A) R) R (dig A R + 1) = aD A bb j R := funext fun i => by
  unfold aD cD
  by_cases h : i = R
  · subst h
    rw [updN_self, if_neg (by omega), if_pos rfl]
  · rw [updN_ne h]
    by_cases h2 : i < R
    · rw [mapK_lt h2, if_pos h2]
      rfl
    · rw [mapK_ge (by omega), if_neg h2, if_neg h]
      rfl
theorem aD_le (A : Nat) (bb : Nat → UInt8) (j R i : Nat) : aD A bb j R i ≤ 510 := by
  have := dig_lt A i
  have := cD_le bb j R i
  unfold aD
  omega
theorem rD_set {kk : Nat → UInt8} {g : Nat → Nat} {k x y : Nat} (h : rD kk k = y) : updN (updN (mapK (rD kk) g k) k x) k y = mapK (rD kk) g (k + 1) := by
  rw [updN_updN, ← h]
  exact mapK_step (rD kk) g k
theorem rD_one {kk : Nat → UInt8} {g : Nat → Nat} {k x : Nat} (h : rD kk k = x) : updN (mapK (rD kk) g k) k x = mapK (rD kk) g (k + 1) := by
  rw [← h]
  exact mapK_step (rD kk) g k
theorem rD_a {kk : Nat → UInt8} {k : Nat} (h : k % 4 = 3) : rD kk k = (kk k).toNat % 16 := by unfold rD; rw [if_pos h]
theorem rD_b {kk : Nat → UInt8} {k : Nat} (h : k = 4 ∨ k = 8 ∨ k = 12) : rD kk k = (kk k).toNat / 4 * 4 := by unfold rD; rw [if_neg (by omega), if_pos h]
theorem rD_c {kk : Nat → UInt8} {k : Nat} (h : ¬ k % 4 = 3 ∧ ¬ (k = 4 ∨ k = 8 ∨ k = 12)) : rD kk k = (kk k).toNat := by unfold rD; rw [if_neg h.1, if_neg h.2]
theorem five (k : Nat) : k % 4 = 3 ∨ k = 4 ∨ k = 8 ∨ k = 12 ∨ (¬ k % 4 = 3 ∧ ¬ (k = 4 ∨ k = 8 ∨ k = 12)) := by omega
/-! The product's digits. -/
def inK (D : Nat → Nat) (c : Nat) (r : Nat → Nat) (x y p : Nat) : Nat := if x ≤ p ∧ p < x + y then D p + c * r (p - x) else D p
def outK (a r : Nat → Nat) : Nat → Nat → Nat
  | 0 => fun _ => 0
  | x + 1 => inK (outK a r x) (a x) r x 16
theorem inK_0 (D : Nat → Nat) (c : Nat) (r : Nat → Nat) (x : Nat) : inK D c r x 0 = D := funext fun p => by
  unfold inK
  rw [if_neg (by omega)]
theorem inK_at (D : Nat → Nat) (c : Nat) (r : Nat → Nat) (x y : Nat) : inK D c r x y (x + y) = D (x + y) := by
  unfold inK
  rw [if_neg (by omega)]
theorem inK_step (D : Nat → Nat) (c : Nat) (r : Nat → Nat) (x y : Nat) : updN (inK D c r x y) (x + y) (D (x + y) + c * r y) = inK D c r x (y + 1) := funext fun p => by
  by_cases h : p = x + y
  · subst h
    rw [updN_self]
    unfold inK
    rw [if_pos (by omega), show x + y - x = y by omega]
  · rw [updN_ne h]
    unfold inK
    by_cases h2 : x ≤ p ∧ p < x + y
    · rw [if_pos h2, if_pos (by omega)]
    · rw [if_neg h2, if_neg (by omega)]
theorem outK_le {a r : Nat → Nat} (ha : ∀ i, a i ≤ 510) (hr : ∀ i, r i < 256) : ∀ x p, outK a r x p ≤ x * 130050
  | 0, p => Nat.zero_le _
  | x + 1, p => by
    have ih := outK_le ha hr x p
    show inK (outK a r x) (a x) r x 16 p ≤ _
    unfold inK
    rw [Nat.succ_mul]
    split
    · exact Nat.add_le_add ih (Nat.le_trans (Nat.mul_le_mul (ha x) (Nat.le_of_lt_succ (hr _))) (by decide))
    · exact Nat.le_trans ih (Nat.le_add_right _ _)
theorem sumD_shift (g : Nat → Nat) (x : Nat) : ∀ k, sumD (fun p => if x ≤ p then g (p - x) else 0) (x + k) = 256 ^ x * sumD g k
  | 0 => by
    rw [Nat.add_zero, sumD_ext (g := fun _ => 0) (fun i hi => if_neg (by omega)), sumD_zero (n := 0) (Nat.zero_le _) (fun _ _ _ => rfl)]
    rfl
  | k + 1 => by
    rw [← Nat.add_assoc, sumD_succ, sumD_shift g x k, sumD_succ, if_pos (by omega), show x + k - x = k by omega, Nat.mul_add, Nat.pow_add, Nat.mul_left_comm]
theorem sumD_row (c : Nat) (r : Nat → Nat) {x : Nat} (hx : x ≤ 18) : sumD (fun p => if x ≤ p ∧ p < x + 16 then c * r (p - x) else 0) 34 = c * 256 ^ x * sumD r 16 := by
  rw [sumD_zero (n := x + 16) (by omega) (fun i h1 h2 => if_neg (by omega)), sumD_ext (g := fun p => if x ≤ p then c * r (p - x) else 0) (fun i hi => by
    by_cases h : x ≤ i
    · rw [if_pos ⟨h, hi⟩, if_pos h]
    · rw [if_neg (by omega), if_neg h]), sumD_shift (fun i => c * r i) x 16, sumD_mul, Nat.mul_left_comm, Nat.mul_assoc]
theorem outK_sum (a r : Nat → Nat) : ∀ x, x ≤ 17 → sumD (outK a r x) 34 = sumD a x * sumD r 16
  | 0, _ => by
    show sumD (fun _ => 0) 34 = 0 * _
    rw [sumD_zero (n := 0) (Nat.zero_le _) (fun _ _ _ => rfl), Nat.zero_mul]
    rfl
  | x + 1, hx => by
    have e : outK a r (x + 1) = fun p => outK a r x p + (if x ≤ p ∧ p < x + 16 then a x * r (p - x) else 0) := funext fun p => by
      show inK (outK a r x) (a x) r x 16 p = _
      unfold inK
      split <;> rfl
    rw [e, sumD_add, outK_sum a r x (by omega), sumD_row (a x) r (by omega), sumD_succ a x, Nat.add_mul]
/-- What 'small' is asked. -/
theorem tag_step (kk bb : Nat → UInt8) (n j : Nat) : sumD (outK (aD (acc kk bb n j) bb j (min 16 (n - 16 * j))) (rD kk) 17) 34 % PM = acc kk bb n (j + 1) := by
  rw [outK_sum _ _ 17 (Nat.le_refl _)]
  unfold aD
  rw [sumD_add (dig (acc kk bb n j)) (cD bb j (min 16 (n - 16 * j))), sum_v (Nat.lt_of_lt_of_le (acc_lt kk bb n j) (by decide))]
  rfl
theorem tag_big (A : Nat) (kk bb : Nat → UInt8) (j R : Nat) : sumD (outK (aD A bb j R) (rD kk) 17) 34 < 7588550360256754183279148073529370729071901715047420004889892225542594864082845696 := by
  rw [outK_sum _ _ 17 (Nat.le_refl _)]
  have h1 := sumD_le (f := aD A bb j R) (b := 510) (k := 17) (fun i _ => aD_le A bb j R i)
  have h2 := sumD_lt (f := rD kk) (k := 16) (fun i _ => rD_lt kk i)
  have e1 : (256 : Nat) ^ 17 = 87112285931760246646623899502532662132736 := by decide +kernel
  have e2 : (256 : Nat) ^ 16 = 340282366920938463463374607431768211456 := by decide +kernel
  rw [e1] at h1
  rw [e2] at h2
  have h3 : sumD (aD A bb j R) 17 ≤ 174224571863520493293247799005065324265472 := by omega
  have h4 := Nat.mul_le_mul h3 (Nat.le_of_lt h2)
  exact Nat.lt_of_le_of_lt h4 (by decide)
/-! The mark. -/
def fS (kk : Nat → UInt8) (A i : Nat) : Nat := dig A i + sD kk i
def mF (kk : Nat → UInt8) (A i : Nat) : UInt8 := UInt8.ofNat (fS kk A i + carC 0 (fS kk A) i)
theorem ofNat_mod (x : Nat) : UInt8.ofNat (x % 256) = UInt8.ofNat x := by
  apply UInt8.toNat_inj.1
  rw [UInt8.toNat_ofNat', UInt8.toNat_ofNat', Nat.mod_mod]
theorem dig_low {A s i : Nat} (hi : i < 16) : dig (A % 256 ^ 16 + s) i = dig (A + s) i := by
  have h := Nat.div_add_mod A (256 ^ 16)
  obtain ⟨q, hq⟩ : ∃ q, A / 256 ^ 16 = q := ⟨_, rfl⟩
  rw [hq] at h
  have e : A + s = (A % 256 ^ 16 + s) + (256 ^ (16 - i - 1) * q * 256) * 256 ^ i := by
    have e2 : 256 ^ (16 - i - 1) * q * 256 * 256 ^ i = 256 ^ 16 * q := by
      rw [Nat.mul_assoc, ← Nat.pow_succ', Nat.mul_right_comm, ← Nat.pow_add, show 16 - i - 1 + (i + 1) = 16 by omega]
    rw [e2]
    omega
  unfold dig
  conv => rhs; rw [e, Nat.add_mul_div_right _ _ (p256 i), Nat.add_mul_mod_self_right]
theorem mF_at (kk : Nat → UInt8) (A : Nat) {i : Nat} (hi : i < 16) : mF kk A i = markF kk A i := by
  unfold mF markF
  rw [← ofNat_mod, carD_dig 0 (fS kk A) 16 i hi, Nat.add_zero]
  unfold fS
  rw [sumD_add (dig A) (sD kk), sumD_dig, dig_low hi]
theorem mF_all (kk : Nat → UInt8) (A : Nat) : bvs (rb 16 (mapB (mF kk A) b0s 16)) = bvs (rb 16 (markF kk A)) := by
  rw [mapB_all, rb_ext (fun i hi => mF_at kk A hi)]
theorem fS_le (kk : Nat → UInt8) (A i : Nat) : fS kk A i ≤ 510 := by
  have := dig_lt A i
  have := sD_lt kk i
  unfold fS
  omega
theorem acc_0 (kk bb : Nat → UInt8) (n : Nat) : nv 17 n0s = nv 17 (dig (acc kk bb n 0)) := nv_ext fun i _ => (dig_zero i).symm
attribute [local irreducible] nv bvs rb bv acc rD cD PM
set_option maxHeartbeats 4000000 in
theorem rtag_any {v : Value} {l : List UInt8} (kk : Nat → UInt8) (w : World) (hv : BF l v w) (hlim : l.length ≤ 1000000) : Calls Tryd.prog 26 #[.agg (bvs (rb 32 kk)), v] w (fun rr w' => rr = .returned (.agg (bvs (rb 16 (tagF kk l)))) ∧ Below w.heap.size w w') := by
  obtain ⟨A, n, cap, rfl, hbs⟩ := hv
  have hn := hbs.len
  unfold tagF
  rw [hn] at hlim ⊢
  obtain ⟨bb, hbb⟩ : ∃ f : Nat → UInt8, f = fun i => l.getD i 0 := ⟨_, rfl⟩
  rw [← hbb]
  refine calls_st (vs := [.agg (bvs (rb 32 kk)), .slice A n cap]) 139 Tryd.func26 rfl Tryd.ntmps26 rfl (fun a W H => ?_)
  replace H : St 139 w a W [(0, .agg (bvs (rb 32 kk))), (1, .slice A n cap)] [] := H
  refine wp_seq_k (fun K1 hK1 => ?_)
  refine rg_plain ?_
  refine pl_box rfl rfl (bx_key kk) rfl rfl rfl rfl H ?_
  try clear H a W
  intro g1 a W H
  refine pl_new (news_of rfl al_mark) rfl rfl rfl rfl H ?_
  try clear H a W
  intro g2 a W H
  refine pl_end ?_
  replace H : St 139 w a W [(4, .pointer (some ⟨g2, 0, none⟩)), (2, .pointer (some ⟨g1, 0, none⟩)), (1, .slice A n cap)] [(g2, 42, bvs (rb 16 b0s)), (g1, 23, bvs (rb 32 kk))] := H.pick [0, 1, 3] [0, 1] rfl
  refine hK1 _ _ ?_
  clear hK1
  refine wp_seq_k (fun K2 hK2 => ?_)
  refine rg_plain ?_
  refine pl_new (news_of rfl al_d16) rfl rfl rfl rfl H ?_
  try clear H a W
  intro g3 a W H
  refine pl_end ?_
  refine hK2 _ _ ?_
  clear hK2
  refine wp_seq_k (fun K3 hK3 => ?_)
  refine wp_seq_k (fun K4 hK4 => ?_)
  refine rg_plain ?_
  refine pl_does (does_assign rfl rfl) rfl rfl rfl rfl H ?_
  try clear H a W
  intro a W H
  refine pl_end ?_
  refine hK4 _ _ ?_
  clear hK4
  refine wp_block ?_
  replace H : St 139 w a W [(6, .int .i64 ((0 : Nat) : Int)), (5, .pointer (some ⟨g3, 0, none⟩)), (4, .pointer (some ⟨g2, 0, none⟩)), (2, .pointer (some ⟨g1, 0, none⟩)), (1, .slice A n cap)] [(g3, 71, nv 16 (mapK (rD kk) n0s 0)), (g2, 42, bvs (rb 16 b0s)), (g1, 23, bvs (rb 32 kk))] := H.pick [0, 1, 2, 3, 4] [0, 1, 2] rfl
  refine wp_rounds 16 (fun k a W => St 139 w a W [(6, .int .i64 ((k : Nat) : Int)), (5, .pointer (some ⟨g3, 0, none⟩)), (4, .pointer (some ⟨g2, 0, none⟩)), (2, .pointer (some ⟨g1, 0, none⟩)), (1, .slice A n cap)] [(g3, 71, nv 16 (mapK (rD kk) n0s k)), (g2, 42, bvs (rb 16 b0s)), (g1, 23, bvs (rb 32 kk))]) (k0 := 0) H (by omega) ?_
  try clear H a W
  intro k a W hk H
  by_cases hk2 : k < 16
  · have b1 := (kk k).toNat_lt
    rcases five k with h5 | h5 | h5 | h5 | h5
    · refine wp_seq_k (fun K5 hK5 => ?_)
      refine wp_seq_k (fun K6 hK6 => ?_)
      refine rg_plain ?_
      refine pl_does (does_move rfl rfl) rfl rfl rfl rfl H ?_
      try clear H a W
      intro a W H
      refine pl_does (does_binOp rfl rfl rfl (i_lss_yes (k := k) (m := 16) (by omega) _ _)) rfl rfl rfl rfl H ?_
      try clear H a W
      intro a W H
      refine pl_end ?_
      refine hK6 _ _ ?_
      clear hK6
      refine wp_cond_true (H.ev rfl) ?_
      refine wp_skip ?_
      refine hK5 _ _ ?_
      clear hK5
      refine wp_seq_k (fun K7 hK7 => ?_)
      refine wp_block ?_
      refine wp_seq_k (fun K8 hK8 => ?_)
      refine rg_plain ?_
      refine pl_does (does_move rfl rfl) rfl rfl rfl rfl H ?_
      try clear H a W
      intro a W H
      refine pl_does (does_move rfl rfl) rfl rfl rfl rfl H ?_
      try clear H a W
      intro a W H
      refine pl_does (does_indexAddr rfl rfl rfl (ia_key (j := k) (by omega))) rfl rfl rfl rfl H ?_
      try clear H a W
      intro a W H
      refine pl_does (does_loadAt (v := bv (kk k)) rfl rfl (k := 2) rfl (ld_byte (by omega))) rfl rfl rfl rfl H ?_
      try clear H a W
      intro a W H
      refine pl_does (does_convert rfl rfl (cv_bu _)) rfl rfl rfl rfl H ?_
      try clear H a W
      intro a W H
      refine pl_does (does_indexAddr rfl rfl rfl (ia_d16 (j := k) (by omega))) rfl rfl rfl rfl H ?_
      try clear H a W
      intro a W H
      refine pl_storeAt rfl rfl rfl (k := 0) rfl (st_nv (by omega)) (sv_nv rfl) rfl rfl H ?_
      try clear H a W
      intro a W H
      refine pl_end ?_
      refine hK8 _ _ ?_
      clear hK8
      refine wp_seq_k (fun K9 hK9 => ?_)
      refine wp_seq_k (fun K10 hK10 => ?_)
      refine rg_plain ?_
      refine pl_does (does_move rfl rfl) rfl rfl rfl rfl H ?_
      try clear H a W
      intro a W H
      refine pl_does (does_binOp rfl rfl rfl (i_remE (k := k) (m := 4) (r := k % 4) rfl (by omega) _ _)) rfl rfl rfl rfl H ?_
      try clear H a W
      intro a W H
      refine pl_does (does_binOp rfl rfl rfl (i_eqlB (k := (k % 4)) (m := 3) (decide_eq_true (by omega)) _ _)) rfl rfl rfl rfl H ?_
      try clear H a W
      intro a W H
      refine pl_end ?_
      refine hK10 _ _ ?_
      clear hK10
      refine wp_cond_true (H.ev rfl) ?_
      refine rg_plain ?_
      refine pl_does (does_move rfl rfl) rfl rfl rfl rfl H ?_
      try clear H a W
      intro a W H
      refine pl_does (does_move rfl rfl) rfl rfl rfl rfl H ?_
      try clear H a W
      intro a W H
      refine pl_does (does_indexAddr rfl rfl rfl (ia_d16 (j := k) (by omega))) rfl rfl rfl rfl H ?_
      try clear H a W
      intro a W H
      refine pl_does (does_loadAt (v := uc ((kk k).toNat)) rfl rfl (k := 0) rfl (ld_nv (by omega) (updN_self _ _ _))) rfl rfl rfl rfl H ?_
      try clear H a W
      intro a W H
      refine pl_does (does_binOp rfl rfl rfl (u_rem (x := ((kk k).toNat)) (m := 16) (by omega) _ _)) rfl rfl rfl rfl H ?_
      try clear H a W
      intro a W H
      refine pl_does (does_indexAddr rfl rfl rfl (ia_d16 (j := k) (by omega))) rfl rfl rfl rfl H ?_
      try clear H a W
      intro a W H
      refine pl_storeAt rfl rfl rfl (k := 0) rfl (st_nv (by omega)) (sv_nv (rD_set (rD_a h5))) rfl rfl H ?_
      try clear H a W
      intro a W H
      refine pl_end ?_
      refine hK9 _ _ ?_
      clear hK9
      refine wp_seq_k (fun K11 hK11 => ?_)
      refine rg_plain ?_
      refine pl_does (does_move rfl rfl) rfl rfl rfl rfl H ?_
      try clear H a W
      intro a W H
      refine pl_does (does_binOp rfl rfl rfl (i_eqlB (k := k) (m := 4) (decide_eq_false (by omega)) _ _)) rfl rfl rfl rfl H ?_
      try clear H a W
      intro a W H
      refine pl_does (does_move rfl rfl) rfl rfl rfl rfl H ?_
      try clear H a W
      intro a W H
      refine pl_does_g (does_move rfl rfl) (wanted_some rfl rfl rfl rfl rfl) rfl rfl rfl H ?_
      try clear H a W
      intro a W H
      refine pl_does_g (does_binOp rfl rfl rfl (i_eqlB (k := k) (m := 8) (decide_eq_false (by omega)) _ _)) (wanted_some rfl rfl rfl rfl rfl) rfl rfl rfl H ?_
      try clear H a W
      intro a W H
      refine pl_does (does_pick rfl rfl (fun hb => by cases hb) (fun _ => rfl)) rfl rfl rfl rfl H ?_
      try clear H a W
      intro a W H
      refine pl_does (does_move rfl rfl) rfl rfl rfl rfl H ?_
      try clear H a W
      intro a W H
      refine pl_does_g (does_move rfl rfl) (wanted_some rfl rfl rfl rfl rfl) rfl rfl rfl H ?_
      try clear H a W
      intro a W H
      refine pl_does_g (does_binOp rfl rfl rfl (i_eqlB (k := k) (m := 12) (decide_eq_false (by omega)) _ _)) (wanted_some rfl rfl rfl rfl rfl) rfl rfl rfl H ?_
      try clear H a W
      intro a W H
      refine pl_does (does_pick rfl rfl (fun hb => by cases hb) (fun _ => rfl)) rfl rfl rfl rfl H ?_
      try clear H a W
      intro a W H
      refine pl_end ?_
      refine hK11 _ _ ?_
      clear hK11
      refine wp_cond_false (H.ev rfl) ?_
      refine wp_skip ?_
      refine blk_normal ?_
      refine hK7 _ _ ?_
      clear hK7
      refine rg_plain ?_
      refine pl_does (does_move rfl rfl) rfl rfl rfl rfl H ?_
      try clear H a W
      intro a W H
      refine pl_does (does_binOp rfl rfl rfl (i_addE (k := k) (m := 1) rfl (by omega) _ _)) rfl rfl rfl rfl H ?_
      try clear H a W
      intro a W H
      replace H : St 139 w a W [(21, .int .i64 ((k + 1 : Nat) : Int)), (20, .int .i64 ((k : Nat) : Int)), (46, .bool false), (45, .bool false), (44, .int .i64 ((k : Nat) : Int)), (43, .bool false), (42, .bool false), (41, .bool false), (40, .int .i64 ((k : Nat) : Int)), (39, .bool false), (38, .bool false), (37, .int .i64 ((k : Nat) : Int)), (36, .pointer (some ⟨g3, k, none⟩)), (35, uc (((kk k).toNat) % 16)), (34, uc ((kk k).toNat)), (33, .pointer (some ⟨g3, k, none⟩)), (32, .int .i64 ((k : Nat) : Int)), (31, .int .i64 ((k : Nat) : Int)), (30, .bool true), (29, .int .i64 ((k % 4 : Nat) : Int)), (28, .int .i64 ((k : Nat) : Int)), (27, .pointer (some ⟨g3, k, none⟩)), (26, uc ((kk k).toNat)), (25, bv (kk k)), (24, .pointer (some ⟨g1, k, none⟩)), (23, .int .i64 ((k : Nat) : Int)), (22, .int .i64 ((k : Nat) : Int)), (19, .bool true), (18, .int .i64 ((k : Nat) : Int)), (5, .pointer (some ⟨g3, 0, none⟩)), (4, .pointer (some ⟨g2, 0, none⟩)), (2, .pointer (some ⟨g1, 0, none⟩)), (1, .slice A n cap)] [(g3, 71, nv 16 (mapK (rD kk) n0s (k + 1))), (g2, 42, bvs (rb 16 b0s)), (g1, 23, bvs (rb 32 kk))] := H.pick [0, 1, 2, 3, 4, 5, 6, 7, 8, 9, 10, 11, 12, 13, 14, 15, 16, 17, 18, 19, 20, 21, 22, 23, 24, 25, 26, 27, 28, 30, 31, 32, 33] [0, 1, 2] rfl
      refine pl_does (does_assign rfl rfl) rfl rfl rfl rfl H ?_
      try clear H a W
      intro a W H
      refine pl_end ?_
      refine ⟨k + 1, by omega, by omega, ?_⟩
      show St 139 w a W [(6, .int .i64 ((k + 1 : Nat) : Int)), (5, .pointer (some ⟨g3, 0, none⟩)), (4, .pointer (some ⟨g2, 0, none⟩)), (2, .pointer (some ⟨g1, 0, none⟩)), (1, .slice A n cap)] [(g3, 71, nv 16 (mapK (rD kk) n0s (k + 1))), (g2, 42, bvs (rb 16 b0s)), (g1, 23, bvs (rb 32 kk))]
      exact H.pick [0, 30, 31, 32, 33] [0, 1, 2] rfl
    · refine wp_seq_k (fun K12 hK12 => ?_)
      refine wp_seq_k (fun K13 hK13 => ?_)
      refine rg_plain ?_
      refine pl_does (does_move rfl rfl) rfl rfl rfl rfl H ?_
      try clear H a W
      intro a W H
      refine pl_does (does_binOp rfl rfl rfl (i_lss_yes (k := k) (m := 16) (by omega) _ _)) rfl rfl rfl rfl H ?_
      try clear H a W
      intro a W H
      refine pl_end ?_
      refine hK13 _ _ ?_
      clear hK13
      refine wp_cond_true (H.ev rfl) ?_
      refine wp_skip ?_
      refine hK12 _ _ ?_
      clear hK12
      refine wp_seq_k (fun K14 hK14 => ?_)
      refine wp_block ?_
      refine wp_seq_k (fun K15 hK15 => ?_)
      refine rg_plain ?_
      refine pl_does (does_move rfl rfl) rfl rfl rfl rfl H ?_
      try clear H a W
      intro a W H
      refine pl_does (does_move rfl rfl) rfl rfl rfl rfl H ?_
      try clear H a W
      intro a W H
      refine pl_does (does_indexAddr rfl rfl rfl (ia_key (j := k) (by omega))) rfl rfl rfl rfl H ?_
      try clear H a W
      intro a W H
      refine pl_does (does_loadAt (v := bv (kk k)) rfl rfl (k := 2) rfl (ld_byte (by omega))) rfl rfl rfl rfl H ?_
      try clear H a W
      intro a W H
      refine pl_does (does_convert rfl rfl (cv_bu _)) rfl rfl rfl rfl H ?_
      try clear H a W
      intro a W H
      refine pl_does (does_indexAddr rfl rfl rfl (ia_d16 (j := k) (by omega))) rfl rfl rfl rfl H ?_
      try clear H a W
      intro a W H
      refine pl_storeAt rfl rfl rfl (k := 0) rfl (st_nv (by omega)) (sv_nv rfl) rfl rfl H ?_
      try clear H a W
      intro a W H
      refine pl_end ?_
      refine hK15 _ _ ?_
      clear hK15
      refine wp_seq_k (fun K16 hK16 => ?_)
      refine wp_seq_k (fun K17 hK17 => ?_)
      refine rg_plain ?_
      refine pl_does (does_move rfl rfl) rfl rfl rfl rfl H ?_
      try clear H a W
      intro a W H
      refine pl_does (does_binOp rfl rfl rfl (i_remE (k := k) (m := 4) (r := k % 4) rfl (by omega) _ _)) rfl rfl rfl rfl H ?_
      try clear H a W
      intro a W H
      refine pl_does (does_binOp rfl rfl rfl (i_eqlB (k := (k % 4)) (m := 3) (decide_eq_false (by omega)) _ _)) rfl rfl rfl rfl H ?_
      try clear H a W
      intro a W H
      refine pl_end ?_
      refine hK17 _ _ ?_
      clear hK17
      refine wp_cond_false (H.ev rfl) ?_
      refine wp_skip ?_
      refine hK16 _ _ ?_
      clear hK16
      refine wp_seq_k (fun K18 hK18 => ?_)
      refine rg_plain ?_
      refine pl_does (does_move rfl rfl) rfl rfl rfl rfl H ?_
      try clear H a W
      intro a W H
      refine pl_does (does_binOp rfl rfl rfl (i_eqlB (k := k) (m := 4) (decide_eq_true (by omega)) _ _)) rfl rfl rfl rfl H ?_
      try clear H a W
      intro a W H
      refine pl_does (does_move rfl rfl) rfl rfl rfl rfl H ?_
      try clear H a W
      intro a W H
      refine pl_skip (wanted_some rfl rfl rfl rfl rfl) rfl rfl rfl H ?_
      try clear H a W
      intro a W H
      refine pl_skip (wanted_some rfl rfl rfl rfl rfl) rfl rfl rfl H ?_
      try clear H a W
      intro a W H
      refine pl_does (does_pick rfl rfl (fun _ => rfl) (fun hb => by cases hb)) rfl rfl rfl rfl H ?_
      try clear H a W
      intro a W H
      refine pl_does (does_move rfl rfl) rfl rfl rfl rfl H ?_
      try clear H a W
      intro a W H
      refine pl_skip (wanted_some rfl rfl rfl rfl rfl) rfl rfl rfl H ?_
      try clear H a W
      intro a W H
      refine pl_skip (wanted_some rfl rfl rfl rfl rfl) rfl rfl rfl H ?_
      try clear H a W
      intro a W H
      refine pl_does (does_pick rfl rfl (fun _ => rfl) (fun hb => by cases hb)) rfl rfl rfl rfl H ?_
      try clear H a W
      intro a W H
      refine pl_end ?_
      refine hK18 _ _ ?_
      clear hK18
      refine wp_cond_true (H.ev rfl) ?_
      refine rg_plain ?_
      refine pl_does (does_move rfl rfl) rfl rfl rfl rfl H ?_
      try clear H a W
      intro a W H
      refine pl_does (does_move rfl rfl) rfl rfl rfl rfl H ?_
      try clear H a W
      intro a W H
      refine pl_does (does_indexAddr rfl rfl rfl (ia_d16 (j := k) (by omega))) rfl rfl rfl rfl H ?_
      try clear H a W
      intro a W H
      refine pl_does (does_loadAt (v := uc ((kk k).toNat)) rfl rfl (k := 0) rfl (ld_nv (by omega) (updN_self _ _ _))) rfl rfl rfl rfl H ?_
      try clear H a W
      intro a W H
      refine pl_does (does_binOp rfl rfl rfl (u_quo (x := ((kk k).toNat)) (m := 4) (by omega) (by omega) _ _)) rfl rfl rfl rfl H ?_
      try clear H a W
      intro a W H
      refine pl_does (does_binOp rfl rfl rfl (u_mul (x := (((kk k).toNat) / 4)) (y := 4) (by omega) _ _)) rfl rfl rfl rfl H ?_
      try clear H a W
      intro a W H
      refine pl_does (does_indexAddr rfl rfl rfl (ia_d16 (j := k) (by omega))) rfl rfl rfl rfl H ?_
      try clear H a W
      intro a W H
      refine pl_storeAt rfl rfl rfl (k := 0) rfl (st_nv (by omega)) (sv_nv (rD_set (rD_b (by omega)))) rfl rfl H ?_
      try clear H a W
      intro a W H
      refine pl_end ?_
      refine blk_normal ?_
      refine hK14 _ _ ?_
      clear hK14
      refine rg_plain ?_
      refine pl_does (does_move rfl rfl) rfl rfl rfl rfl H ?_
      try clear H a W
      intro a W H
      refine pl_does (does_binOp rfl rfl rfl (i_addE (k := k) (m := 1) rfl (by omega) _ _)) rfl rfl rfl rfl H ?_
      try clear H a W
      intro a W H
      replace H : St 139 w a W [(21, .int .i64 ((k + 1 : Nat) : Int)), (20, .int .i64 ((k : Nat) : Int)), (53, .pointer (some ⟨g3, k, none⟩)), (52, uc ((((kk k).toNat) / 4) * 4)), (51, uc (((kk k).toNat) / 4)), (50, uc ((kk k).toNat)), (49, .pointer (some ⟨g3, k, none⟩)), (48, .int .i64 ((k : Nat) : Int)), (47, .int .i64 ((k : Nat) : Int)), (46, .bool true), (45, undef), (44, undef), (43, .bool true), (42, .bool true), (41, undef), (40, undef), (39, .bool true), (38, .bool true), (37, .int .i64 ((k : Nat) : Int)), (30, .bool false), (29, .int .i64 ((k % 4 : Nat) : Int)), (28, .int .i64 ((k : Nat) : Int)), (27, .pointer (some ⟨g3, k, none⟩)), (26, uc ((kk k).toNat)), (25, bv (kk k)), (24, .pointer (some ⟨g1, k, none⟩)), (23, .int .i64 ((k : Nat) : Int)), (22, .int .i64 ((k : Nat) : Int)), (19, .bool true), (18, .int .i64 ((k : Nat) : Int)), (5, .pointer (some ⟨g3, 0, none⟩)), (4, .pointer (some ⟨g2, 0, none⟩)), (2, .pointer (some ⟨g1, 0, none⟩)), (1, .slice A n cap)] [(g3, 71, nv 16 (mapK (rD kk) n0s (k + 1))), (g2, 42, bvs (rb 16 b0s)), (g1, 23, bvs (rb 32 kk))] := H.pick [0, 1, 2, 3, 4, 5, 6, 7, 8, 9, 10, 11, 12, 13, 14, 15, 16, 17, 18, 19, 20, 21, 22, 23, 24, 25, 26, 27, 28, 29, 31, 32, 33, 34] [0, 1, 2] rfl
      refine pl_does (does_assign rfl rfl) rfl rfl rfl rfl H ?_
      try clear H a W
      intro a W H
      refine pl_end ?_
      refine ⟨k + 1, by omega, by omega, ?_⟩
      show St 139 w a W [(6, .int .i64 ((k + 1 : Nat) : Int)), (5, .pointer (some ⟨g3, 0, none⟩)), (4, .pointer (some ⟨g2, 0, none⟩)), (2, .pointer (some ⟨g1, 0, none⟩)), (1, .slice A n cap)] [(g3, 71, nv 16 (mapK (rD kk) n0s (k + 1))), (g2, 42, bvs (rb 16 b0s)), (g1, 23, bvs (rb 32 kk))]
      exact H.pick [0, 31, 32, 33, 34] [0, 1, 2] rfl
    · refine wp_seq_k (fun K19 hK19 => ?_)
      refine wp_seq_k (fun K20 hK20 => ?_)
      refine rg_plain ?_
      refine pl_does (does_move rfl rfl) rfl rfl rfl rfl H ?_
      try clear H a W
      intro a W H
      refine pl_does (does_binOp rfl rfl rfl (i_lss_yes (k := k) (m := 16) (by omega) _ _)) rfl rfl rfl rfl H ?_
      try clear H a W
      intro a W H
      refine pl_end ?_
      refine hK20 _ _ ?_
      clear hK20
      refine wp_cond_true (H.ev rfl) ?_
      refine wp_skip ?_
      refine hK19 _ _ ?_
      clear hK19
      refine wp_seq_k (fun K21 hK21 => ?_)
      refine wp_block ?_
      refine wp_seq_k (fun K22 hK22 => ?_)
      refine rg_plain ?_
      refine pl_does (does_move rfl rfl) rfl rfl rfl rfl H ?_
      try clear H a W
      intro a W H
      refine pl_does (does_move rfl rfl) rfl rfl rfl rfl H ?_
      try clear H a W
      intro a W H
      refine pl_does (does_indexAddr rfl rfl rfl (ia_key (j := k) (by omega))) rfl rfl rfl rfl H ?_
      try clear H a W
      intro a W H
      refine pl_does (does_loadAt (v := bv (kk k)) rfl rfl (k := 2) rfl (ld_byte (by omega))) rfl rfl rfl rfl H ?_
      try clear H a W
      intro a W H
      refine pl_does (does_convert rfl rfl (cv_bu _)) rfl rfl rfl rfl H ?_
      try clear H a W
      intro a W H
      refine pl_does (does_indexAddr rfl rfl rfl (ia_d16 (j := k) (by omega))) rfl rfl rfl rfl H ?_
      try clear H a W
      intro a W H
      refine pl_storeAt rfl rfl rfl (k := 0) rfl (st_nv (by omega)) (sv_nv rfl) rfl rfl H ?_
      try clear H a W
      intro a W H
      refine pl_end ?_
      refine hK22 _ _ ?_
      clear hK22
      refine wp_seq_k (fun K23 hK23 => ?_)
      refine wp_seq_k (fun K24 hK24 => ?_)
      refine rg_plain ?_
      refine pl_does (does_move rfl rfl) rfl rfl rfl rfl H ?_
      try clear H a W
      intro a W H
      refine pl_does (does_binOp rfl rfl rfl (i_remE (k := k) (m := 4) (r := k % 4) rfl (by omega) _ _)) rfl rfl rfl rfl H ?_
      try clear H a W
      intro a W H
      refine pl_does (does_binOp rfl rfl rfl (i_eqlB (k := (k % 4)) (m := 3) (decide_eq_false (by omega)) _ _)) rfl rfl rfl rfl H ?_
      try clear H a W
      intro a W H
      refine pl_end ?_
      refine hK24 _ _ ?_
      clear hK24
      refine wp_cond_false (H.ev rfl) ?_
      refine wp_skip ?_
      refine hK23 _ _ ?_
      clear hK23
      refine wp_seq_k (fun K25 hK25 => ?_)
      refine rg_plain ?_
      refine pl_does (does_move rfl rfl) rfl rfl rfl rfl H ?_
      try clear H a W
      intro a W H
      refine pl_does (does_binOp rfl rfl rfl (i_eqlB (k := k) (m := 4) (decide_eq_false (by omega)) _ _)) rfl rfl rfl rfl H ?_
      try clear H a W
      intro a W H
      refine pl_does (does_move rfl rfl) rfl rfl rfl rfl H ?_
      try clear H a W
      intro a W H
      refine pl_does_g (does_move rfl rfl) (wanted_some rfl rfl rfl rfl rfl) rfl rfl rfl H ?_
      try clear H a W
      intro a W H
      refine pl_does_g (does_binOp rfl rfl rfl (i_eqlB (k := k) (m := 8) (decide_eq_true (by omega)) _ _)) (wanted_some rfl rfl rfl rfl rfl) rfl rfl rfl H ?_
      try clear H a W
      intro a W H
      refine pl_does (does_pick rfl rfl (fun hb => by cases hb) (fun _ => rfl)) rfl rfl rfl rfl H ?_
      try clear H a W
      intro a W H
      refine pl_does (does_move rfl rfl) rfl rfl rfl rfl H ?_
      try clear H a W
      intro a W H
      refine pl_skip (wanted_some rfl rfl rfl rfl rfl) rfl rfl rfl H ?_
      try clear H a W
      intro a W H
      refine pl_skip (wanted_some rfl rfl rfl rfl rfl) rfl rfl rfl H ?_
      try clear H a W
      intro a W H
      refine pl_does (does_pick rfl rfl (fun _ => rfl) (fun hb => by cases hb)) rfl rfl rfl rfl H ?_
      try clear H a W
      intro a W H
      refine pl_end ?_
      refine hK25 _ _ ?_
      clear hK25
      refine wp_cond_true (H.ev rfl) ?_
      refine rg_plain ?_
      refine pl_does (does_move rfl rfl) rfl rfl rfl rfl H ?_
      try clear H a W
      intro a W H
      refine pl_does (does_move rfl rfl) rfl rfl rfl rfl H ?_
      try clear H a W
      intro a W H
      refine pl_does (does_indexAddr rfl rfl rfl (ia_d16 (j := k) (by omega))) rfl rfl rfl rfl H ?_
      try clear H a W
      intro a W H
      refine pl_does (does_loadAt (v := uc ((kk k).toNat)) rfl rfl (k := 0) rfl (ld_nv (by omega) (updN_self _ _ _))) rfl rfl rfl rfl H ?_
      try clear H a W
      intro a W H
      refine pl_does (does_binOp rfl rfl rfl (u_quo (x := ((kk k).toNat)) (m := 4) (by omega) (by omega) _ _)) rfl rfl rfl rfl H ?_
      try clear H a W
      intro a W H
      refine pl_does (does_binOp rfl rfl rfl (u_mul (x := (((kk k).toNat) / 4)) (y := 4) (by omega) _ _)) rfl rfl rfl rfl H ?_
      try clear H a W
      intro a W H
      refine pl_does (does_indexAddr rfl rfl rfl (ia_d16 (j := k) (by omega))) rfl rfl rfl rfl H ?_
      try clear H a W
      intro a W H
      refine pl_storeAt rfl rfl rfl (k := 0) rfl (st_nv (by omega)) (sv_nv (rD_set (rD_b (by omega)))) rfl rfl H ?_
      try clear H a W
      intro a W H
      refine pl_end ?_
      refine blk_normal ?_
      refine hK21 _ _ ?_
      clear hK21
      refine rg_plain ?_
      refine pl_does (does_move rfl rfl) rfl rfl rfl rfl H ?_
      try clear H a W
      intro a W H
      refine pl_does (does_binOp rfl rfl rfl (i_addE (k := k) (m := 1) rfl (by omega) _ _)) rfl rfl rfl rfl H ?_
      try clear H a W
      intro a W H
      replace H : St 139 w a W [(21, .int .i64 ((k + 1 : Nat) : Int)), (20, .int .i64 ((k : Nat) : Int)), (53, .pointer (some ⟨g3, k, none⟩)), (52, uc ((((kk k).toNat) / 4) * 4)), (51, uc (((kk k).toNat) / 4)), (50, uc ((kk k).toNat)), (49, .pointer (some ⟨g3, k, none⟩)), (48, .int .i64 ((k : Nat) : Int)), (47, .int .i64 ((k : Nat) : Int)), (46, .bool true), (45, undef), (44, undef), (43, .bool true), (42, .bool true), (41, .bool true), (40, .int .i64 ((k : Nat) : Int)), (39, .bool false), (38, .bool false), (37, .int .i64 ((k : Nat) : Int)), (30, .bool false), (29, .int .i64 ((k % 4 : Nat) : Int)), (28, .int .i64 ((k : Nat) : Int)), (27, .pointer (some ⟨g3, k, none⟩)), (26, uc ((kk k).toNat)), (25, bv (kk k)), (24, .pointer (some ⟨g1, k, none⟩)), (23, .int .i64 ((k : Nat) : Int)), (22, .int .i64 ((k : Nat) : Int)), (19, .bool true), (18, .int .i64 ((k : Nat) : Int)), (5, .pointer (some ⟨g3, 0, none⟩)), (4, .pointer (some ⟨g2, 0, none⟩)), (2, .pointer (some ⟨g1, 0, none⟩)), (1, .slice A n cap)] [(g3, 71, nv 16 (mapK (rD kk) n0s (k + 1))), (g2, 42, bvs (rb 16 b0s)), (g1, 23, bvs (rb 32 kk))] := H.pick [0, 1, 2, 3, 4, 5, 6, 7, 8, 9, 10, 11, 12, 13, 14, 15, 16, 17, 18, 19, 20, 21, 22, 23, 24, 25, 26, 27, 28, 29, 31, 32, 33, 34] [0, 1, 2] rfl
      refine pl_does (does_assign rfl rfl) rfl rfl rfl rfl H ?_
      try clear H a W
      intro a W H
      refine pl_end ?_
      refine ⟨k + 1, by omega, by omega, ?_⟩
      show St 139 w a W [(6, .int .i64 ((k + 1 : Nat) : Int)), (5, .pointer (some ⟨g3, 0, none⟩)), (4, .pointer (some ⟨g2, 0, none⟩)), (2, .pointer (some ⟨g1, 0, none⟩)), (1, .slice A n cap)] [(g3, 71, nv 16 (mapK (rD kk) n0s (k + 1))), (g2, 42, bvs (rb 16 b0s)), (g1, 23, bvs (rb 32 kk))]
      exact H.pick [0, 31, 32, 33, 34] [0, 1, 2] rfl
    · refine wp_seq_k (fun K26 hK26 => ?_)
      refine wp_seq_k (fun K27 hK27 => ?_)
      refine rg_plain ?_
      refine pl_does (does_move rfl rfl) rfl rfl rfl rfl H ?_
      try clear H a W
      intro a W H
      refine pl_does (does_binOp rfl rfl rfl (i_lss_yes (k := k) (m := 16) (by omega) _ _)) rfl rfl rfl rfl H ?_
      try clear H a W
      intro a W H
      refine pl_end ?_
      refine hK27 _ _ ?_
      clear hK27
      refine wp_cond_true (H.ev rfl) ?_
      refine wp_skip ?_
      refine hK26 _ _ ?_
      clear hK26
      refine wp_seq_k (fun K28 hK28 => ?_)
      refine wp_block ?_
      refine wp_seq_k (fun K29 hK29 => ?_)
      refine rg_plain ?_
      refine pl_does (does_move rfl rfl) rfl rfl rfl rfl H ?_
      try clear H a W
      intro a W H
      refine pl_does (does_move rfl rfl) rfl rfl rfl rfl H ?_
      try clear H a W
      intro a W H
      refine pl_does (does_indexAddr rfl rfl rfl (ia_key (j := k) (by omega))) rfl rfl rfl rfl H ?_
      try clear H a W
      intro a W H
      refine pl_does (does_loadAt (v := bv (kk k)) rfl rfl (k := 2) rfl (ld_byte (by omega))) rfl rfl rfl rfl H ?_
      try clear H a W
      intro a W H
      refine pl_does (does_convert rfl rfl (cv_bu _)) rfl rfl rfl rfl H ?_
      try clear H a W
      intro a W H
      refine pl_does (does_indexAddr rfl rfl rfl (ia_d16 (j := k) (by omega))) rfl rfl rfl rfl H ?_
      try clear H a W
      intro a W H
      refine pl_storeAt rfl rfl rfl (k := 0) rfl (st_nv (by omega)) (sv_nv rfl) rfl rfl H ?_
      try clear H a W
      intro a W H
      refine pl_end ?_
      refine hK29 _ _ ?_
      clear hK29
      refine wp_seq_k (fun K30 hK30 => ?_)
      refine wp_seq_k (fun K31 hK31 => ?_)
      refine rg_plain ?_
      refine pl_does (does_move rfl rfl) rfl rfl rfl rfl H ?_
      try clear H a W
      intro a W H
      refine pl_does (does_binOp rfl rfl rfl (i_remE (k := k) (m := 4) (r := k % 4) rfl (by omega) _ _)) rfl rfl rfl rfl H ?_
      try clear H a W
      intro a W H
      refine pl_does (does_binOp rfl rfl rfl (i_eqlB (k := (k % 4)) (m := 3) (decide_eq_false (by omega)) _ _)) rfl rfl rfl rfl H ?_
      try clear H a W
      intro a W H
      refine pl_end ?_
      refine hK31 _ _ ?_
      clear hK31
      refine wp_cond_false (H.ev rfl) ?_
      refine wp_skip ?_
      refine hK30 _ _ ?_
      clear hK30
      refine wp_seq_k (fun K32 hK32 => ?_)
      refine rg_plain ?_
      refine pl_does (does_move rfl rfl) rfl rfl rfl rfl H ?_
      try clear H a W
      intro a W H
      refine pl_does (does_binOp rfl rfl rfl (i_eqlB (k := k) (m := 4) (decide_eq_false (by omega)) _ _)) rfl rfl rfl rfl H ?_
      try clear H a W
      intro a W H
      refine pl_does (does_move rfl rfl) rfl rfl rfl rfl H ?_
      try clear H a W
      intro a W H
      refine pl_does_g (does_move rfl rfl) (wanted_some rfl rfl rfl rfl rfl) rfl rfl rfl H ?_
      try clear H a W
      intro a W H
      refine pl_does_g (does_binOp rfl rfl rfl (i_eqlB (k := k) (m := 8) (decide_eq_false (by omega)) _ _)) (wanted_some rfl rfl rfl rfl rfl) rfl rfl rfl H ?_
      try clear H a W
      intro a W H
      refine pl_does (does_pick rfl rfl (fun hb => by cases hb) (fun _ => rfl)) rfl rfl rfl rfl H ?_
      try clear H a W
      intro a W H
      refine pl_does (does_move rfl rfl) rfl rfl rfl rfl H ?_
      try clear H a W
      intro a W H
      refine pl_does_g (does_move rfl rfl) (wanted_some rfl rfl rfl rfl rfl) rfl rfl rfl H ?_
      try clear H a W
      intro a W H
      refine pl_does_g (does_binOp rfl rfl rfl (i_eqlB (k := k) (m := 12) (decide_eq_true (by omega)) _ _)) (wanted_some rfl rfl rfl rfl rfl) rfl rfl rfl H ?_
      try clear H a W
      intro a W H
      refine pl_does (does_pick rfl rfl (fun hb => by cases hb) (fun _ => rfl)) rfl rfl rfl rfl H ?_
      try clear H a W
      intro a W H
      refine pl_end ?_
      refine hK32 _ _ ?_
      clear hK32
      refine wp_cond_true (H.ev rfl) ?_
      refine rg_plain ?_
      refine pl_does (does_move rfl rfl) rfl rfl rfl rfl H ?_
      try clear H a W
      intro a W H
      refine pl_does (does_move rfl rfl) rfl rfl rfl rfl H ?_
      try clear H a W
      intro a W H
      refine pl_does (does_indexAddr rfl rfl rfl (ia_d16 (j := k) (by omega))) rfl rfl rfl rfl H ?_
      try clear H a W
      intro a W H
      refine pl_does (does_loadAt (v := uc ((kk k).toNat)) rfl rfl (k := 0) rfl (ld_nv (by omega) (updN_self _ _ _))) rfl rfl rfl rfl H ?_
      try clear H a W
      intro a W H
      refine pl_does (does_binOp rfl rfl rfl (u_quo (x := ((kk k).toNat)) (m := 4) (by omega) (by omega) _ _)) rfl rfl rfl rfl H ?_
      try clear H a W
      intro a W H
      refine pl_does (does_binOp rfl rfl rfl (u_mul (x := (((kk k).toNat) / 4)) (y := 4) (by omega) _ _)) rfl rfl rfl rfl H ?_
      try clear H a W
      intro a W H
      refine pl_does (does_indexAddr rfl rfl rfl (ia_d16 (j := k) (by omega))) rfl rfl rfl rfl H ?_
      try clear H a W
      intro a W H
      refine pl_storeAt rfl rfl rfl (k := 0) rfl (st_nv (by omega)) (sv_nv (rD_set (rD_b (by omega)))) rfl rfl H ?_
      try clear H a W
      intro a W H
      refine pl_end ?_
      refine blk_normal ?_
      refine hK28 _ _ ?_
      clear hK28
      refine rg_plain ?_
      refine pl_does (does_move rfl rfl) rfl rfl rfl rfl H ?_
      try clear H a W
      intro a W H
      refine pl_does (does_binOp rfl rfl rfl (i_addE (k := k) (m := 1) rfl (by omega) _ _)) rfl rfl rfl rfl H ?_
      try clear H a W
      intro a W H
      replace H : St 139 w a W [(21, .int .i64 ((k + 1 : Nat) : Int)), (20, .int .i64 ((k : Nat) : Int)), (53, .pointer (some ⟨g3, k, none⟩)), (52, uc ((((kk k).toNat) / 4) * 4)), (51, uc (((kk k).toNat) / 4)), (50, uc ((kk k).toNat)), (49, .pointer (some ⟨g3, k, none⟩)), (48, .int .i64 ((k : Nat) : Int)), (47, .int .i64 ((k : Nat) : Int)), (46, .bool true), (45, .bool true), (44, .int .i64 ((k : Nat) : Int)), (43, .bool false), (42, .bool false), (41, .bool false), (40, .int .i64 ((k : Nat) : Int)), (39, .bool false), (38, .bool false), (37, .int .i64 ((k : Nat) : Int)), (30, .bool false), (29, .int .i64 ((k % 4 : Nat) : Int)), (28, .int .i64 ((k : Nat) : Int)), (27, .pointer (some ⟨g3, k, none⟩)), (26, uc ((kk k).toNat)), (25, bv (kk k)), (24, .pointer (some ⟨g1, k, none⟩)), (23, .int .i64 ((k : Nat) : Int)), (22, .int .i64 ((k : Nat) : Int)), (19, .bool true), (18, .int .i64 ((k : Nat) : Int)), (5, .pointer (some ⟨g3, 0, none⟩)), (4, .pointer (some ⟨g2, 0, none⟩)), (2, .pointer (some ⟨g1, 0, none⟩)), (1, .slice A n cap)] [(g3, 71, nv 16 (mapK (rD kk) n0s (k + 1))), (g2, 42, bvs (rb 16 b0s)), (g1, 23, bvs (rb 32 kk))] := H.pick [0, 1, 2, 3, 4, 5, 6, 7, 8, 9, 10, 11, 12, 13, 14, 15, 16, 17, 18, 19, 20, 21, 22, 23, 24, 25, 26, 27, 28, 29, 31, 32, 33, 34] [0, 1, 2] rfl
      refine pl_does (does_assign rfl rfl) rfl rfl rfl rfl H ?_
      try clear H a W
      intro a W H
      refine pl_end ?_
      refine ⟨k + 1, by omega, by omega, ?_⟩
      show St 139 w a W [(6, .int .i64 ((k + 1 : Nat) : Int)), (5, .pointer (some ⟨g3, 0, none⟩)), (4, .pointer (some ⟨g2, 0, none⟩)), (2, .pointer (some ⟨g1, 0, none⟩)), (1, .slice A n cap)] [(g3, 71, nv 16 (mapK (rD kk) n0s (k + 1))), (g2, 42, bvs (rb 16 b0s)), (g1, 23, bvs (rb 32 kk))]
      exact H.pick [0, 31, 32, 33, 34] [0, 1, 2] rfl
    · refine wp_seq_k (fun K33 hK33 => ?_)
      refine wp_seq_k (fun K34 hK34 => ?_)
      refine rg_plain ?_
      refine pl_does (does_move rfl rfl) rfl rfl rfl rfl H ?_
      try clear H a W
      intro a W H
      refine pl_does (does_binOp rfl rfl rfl (i_lss_yes (k := k) (m := 16) (by omega) _ _)) rfl rfl rfl rfl H ?_
      try clear H a W
      intro a W H
      refine pl_end ?_
      refine hK34 _ _ ?_
      clear hK34
      refine wp_cond_true (H.ev rfl) ?_
      refine wp_skip ?_
      refine hK33 _ _ ?_
      clear hK33
      refine wp_seq_k (fun K35 hK35 => ?_)
      refine wp_block ?_
      refine wp_seq_k (fun K36 hK36 => ?_)
      refine rg_plain ?_
      refine pl_does (does_move rfl rfl) rfl rfl rfl rfl H ?_
      try clear H a W
      intro a W H
      refine pl_does (does_move rfl rfl) rfl rfl rfl rfl H ?_
      try clear H a W
      intro a W H
      refine pl_does (does_indexAddr rfl rfl rfl (ia_key (j := k) (by omega))) rfl rfl rfl rfl H ?_
      try clear H a W
      intro a W H
      refine pl_does (does_loadAt (v := bv (kk k)) rfl rfl (k := 2) rfl (ld_byte (by omega))) rfl rfl rfl rfl H ?_
      try clear H a W
      intro a W H
      refine pl_does (does_convert rfl rfl (cv_bu _)) rfl rfl rfl rfl H ?_
      try clear H a W
      intro a W H
      refine pl_does (does_indexAddr rfl rfl rfl (ia_d16 (j := k) (by omega))) rfl rfl rfl rfl H ?_
      try clear H a W
      intro a W H
      refine pl_storeAt rfl rfl rfl (k := 0) rfl (st_nv (by omega)) (sv_nv rfl) rfl rfl H ?_
      try clear H a W
      intro a W H
      refine pl_end ?_
      refine hK36 _ _ ?_
      clear hK36
      refine wp_seq_k (fun K37 hK37 => ?_)
      refine wp_seq_k (fun K38 hK38 => ?_)
      refine rg_plain ?_
      refine pl_does (does_move rfl rfl) rfl rfl rfl rfl H ?_
      try clear H a W
      intro a W H
      refine pl_does (does_binOp rfl rfl rfl (i_remE (k := k) (m := 4) (r := k % 4) rfl (by omega) _ _)) rfl rfl rfl rfl H ?_
      try clear H a W
      intro a W H
      refine pl_does (does_binOp rfl rfl rfl (i_eqlB (k := (k % 4)) (m := 3) (decide_eq_false (by omega)) _ _)) rfl rfl rfl rfl H ?_
      try clear H a W
      intro a W H
      refine pl_end ?_
      refine hK38 _ _ ?_
      clear hK38
      refine wp_cond_false (H.ev rfl) ?_
      refine wp_skip ?_
      refine hK37 _ _ ?_
      clear hK37
      refine wp_seq_k (fun K39 hK39 => ?_)
      refine rg_plain ?_
      refine pl_does (does_move rfl rfl) rfl rfl rfl rfl H ?_
      try clear H a W
      intro a W H
      refine pl_does (does_binOp rfl rfl rfl (i_eqlB (k := k) (m := 4) (decide_eq_false (by omega)) _ _)) rfl rfl rfl rfl H ?_
      try clear H a W
      intro a W H
      refine pl_does (does_move rfl rfl) rfl rfl rfl rfl H ?_
      try clear H a W
      intro a W H
      refine pl_does_g (does_move rfl rfl) (wanted_some rfl rfl rfl rfl rfl) rfl rfl rfl H ?_
      try clear H a W
      intro a W H
      refine pl_does_g (does_binOp rfl rfl rfl (i_eqlB (k := k) (m := 8) (decide_eq_false (by omega)) _ _)) (wanted_some rfl rfl rfl rfl rfl) rfl rfl rfl H ?_
      try clear H a W
      intro a W H
      refine pl_does (does_pick rfl rfl (fun hb => by cases hb) (fun _ => rfl)) rfl rfl rfl rfl H ?_
      try clear H a W
      intro a W H
      refine pl_does (does_move rfl rfl) rfl rfl rfl rfl H ?_
      try clear H a W
      intro a W H
      refine pl_does_g (does_move rfl rfl) (wanted_some rfl rfl rfl rfl rfl) rfl rfl rfl H ?_
      try clear H a W
      intro a W H
      refine pl_does_g (does_binOp rfl rfl rfl (i_eqlB (k := k) (m := 12) (decide_eq_false (by omega)) _ _)) (wanted_some rfl rfl rfl rfl rfl) rfl rfl rfl H ?_
      try clear H a W
      intro a W H
      refine pl_does (does_pick rfl rfl (fun hb => by cases hb) (fun _ => rfl)) rfl rfl rfl rfl H ?_
      try clear H a W
      intro a W H
      refine pl_end ?_
      refine hK39 _ _ ?_
      clear hK39
      refine wp_cond_false (H.ev rfl) ?_
      refine wp_skip ?_
      refine blk_normal ?_
      refine hK35 _ _ ?_
      clear hK35
      refine rg_plain ?_
      refine pl_does (does_move rfl rfl) rfl rfl rfl rfl H ?_
      try clear H a W
      intro a W H
      refine pl_does (does_binOp rfl rfl rfl (i_addE (k := k) (m := 1) rfl (by omega) _ _)) rfl rfl rfl rfl H ?_
      try clear H a W
      intro a W H
      replace H : St 139 w a W [(21, .int .i64 ((k + 1 : Nat) : Int)), (20, .int .i64 ((k : Nat) : Int)), (46, .bool false), (45, .bool false), (44, .int .i64 ((k : Nat) : Int)), (43, .bool false), (42, .bool false), (41, .bool false), (40, .int .i64 ((k : Nat) : Int)), (39, .bool false), (38, .bool false), (37, .int .i64 ((k : Nat) : Int)), (30, .bool false), (29, .int .i64 ((k % 4 : Nat) : Int)), (28, .int .i64 ((k : Nat) : Int)), (27, .pointer (some ⟨g3, k, none⟩)), (26, uc ((kk k).toNat)), (25, bv (kk k)), (24, .pointer (some ⟨g1, k, none⟩)), (23, .int .i64 ((k : Nat) : Int)), (22, .int .i64 ((k : Nat) : Int)), (19, .bool true), (18, .int .i64 ((k : Nat) : Int)), (5, .pointer (some ⟨g3, 0, none⟩)), (4, .pointer (some ⟨g2, 0, none⟩)), (2, .pointer (some ⟨g1, 0, none⟩)), (1, .slice A n cap)] [(g3, 71, nv 16 (updN (mapK (rD kk) n0s k) k ((kk k).toNat))), (g2, 42, bvs (rb 16 b0s)), (g1, 23, bvs (rb 32 kk))] := H.pick [0, 1, 2, 3, 4, 5, 6, 7, 8, 9, 10, 11, 12, 13, 14, 15, 16, 17, 18, 19, 20, 21, 22, 24, 25, 26, 27] [0, 1, 2] rfl
      refine pl_does (does_assign rfl rfl) rfl rfl rfl rfl H ?_
      try clear H a W
      intro a W H
      refine pl_end ?_
      refine ⟨k + 1, by omega, by omega, ?_⟩
      show St 139 w a W [(6, .int .i64 ((k + 1 : Nat) : Int)), (5, .pointer (some ⟨g3, 0, none⟩)), (4, .pointer (some ⟨g2, 0, none⟩)), (2, .pointer (some ⟨g1, 0, none⟩)), (1, .slice A n cap)] [(g3, 71, nv 16 (mapK (rD kk) n0s (k + 1))), (g2, 42, bvs (rb 16 b0s)), (g1, 23, bvs (rb 32 kk))]
      rw [rD_one (rD_c h5)] at H
      exact H.pick [0, 24, 25, 26, 27] [0, 1, 2] rfl
  · obtain rfl : 16 = k := by omega
    refine wp_seq_k (fun K40 hK40 => ?_)
    refine wp_seq_k (fun K41 hK41 => ?_)
    refine rg_plain ?_
    refine pl_does (does_move rfl rfl) rfl rfl rfl rfl H ?_
    try clear H a W
    intro a W H
    refine pl_does (does_binOp rfl rfl rfl (i_lss_no (k := 16) (m := 16) (by omega) _ _)) rfl rfl rfl rfl H ?_
    try clear H a W
    intro a W H
    refine pl_end ?_
    replace H : St 139 w a W [(19, .bool false), (6, .int .i64 ((16 : Nat) : Int)), (5, .pointer (some ⟨g3, 0, none⟩)), (4, .pointer (some ⟨g2, 0, none⟩)), (2, .pointer (some ⟨g1, 0, none⟩)), (1, .slice A n cap)] [(g3, 71, nv 16 (mapK (rD kk) n0s 16)), (g2, 42, bvs (rb 16 b0s)), (g1, 23, bvs (rb 32 kk))] := H.pick [0, 2, 3, 4, 5, 6] [0, 1, 2] rfl
    refine hK41 _ _ ?_
    clear hK41
    refine wp_cond_false (H.ev rfl) ?_
    refine wp_exit ?_
    repeat (with_reducible refine then_exit ?_)
    refine blk_exit ?_
    rw [mapK_all] at H
    refine hK3 _ _ ?_
    clear hK3
    refine wp_seq_k (fun K42 hK42 => ?_)
    refine rg_plain ?_
    refine pl_new (news_of rfl al_num9) rfl rfl rfl rfl H ?_
    try clear H a W
    intro g4 a W H
    refine pl_end ?_
    replace H : St 139 w a W [(7, .pointer (some ⟨g4, 0, none⟩)), (5, .pointer (some ⟨g3, 0, none⟩)), (4, .pointer (some ⟨g2, 0, none⟩)), (2, .pointer (some ⟨g1, 0, none⟩)), (1, .slice A n cap)] [(g4, 73, nv 17 n0s), (g3, 71, nv 16 (rD kk)), (g2, 42, bvs (rb 16 b0s)), (g1, 23, bvs (rb 32 kk))] := H.pick [0, 3, 4, 5, 6] [0, 1, 2, 3] rfl
    refine hK42 _ _ ?_
    clear hK42
    refine wp_seq_k (fun K43 hK43 => ?_)
    refine wp_seq_k (fun K44 hK44 => ?_)
    refine rg_plain ?_
    refine pl_does (does_assign rfl rfl) rfl rfl rfl rfl H ?_
    try clear H a W
    intro a W H
    refine pl_end ?_
    refine hK44 _ _ ?_
    clear hK44
    obtain ⟨M, hM⟩ : ∃ M : Nat, M = (n + 15) / 16 := ⟨_, rfl⟩
    rw [acc_0 kk bb n] at H
    refine wp_block ?_
    replace H : St 139 w a W [(8, .int .i64 ((16 * 0 : Nat) : Int)), (7, .pointer (some ⟨g4, 0, none⟩)), (5, .pointer (some ⟨g3, 0, none⟩)), (4, .pointer (some ⟨g2, 0, none⟩)), (2, .pointer (some ⟨g1, 0, none⟩)), (1, .slice A n cap)] [(g4, 73, nv 17 (dig (acc kk bb n 0))), (g3, 71, nv 16 (rD kk)), (g2, 42, bvs (rb 16 b0s)), (g1, 23, bvs (rb 32 kk))] := H.pick [0, 1, 2, 3, 4, 5] [0, 1, 2, 3] rfl
    refine wp_rounds M (fun j a W => St 139 w a W [(8, .int .i64 ((16 * j : Nat) : Int)), (7, .pointer (some ⟨g4, 0, none⟩)), (5, .pointer (some ⟨g3, 0, none⟩)), (4, .pointer (some ⟨g2, 0, none⟩)), (2, .pointer (some ⟨g1, 0, none⟩)), (1, .slice A n cap)] [(g4, 73, nv 17 (dig (acc kk bb n j))), (g3, 71, nv 16 (rD kk)), (g2, 42, bvs (rb 16 b0s)), (g1, 23, bvs (rb 32 kk))]) (k0 := 0) H (by omega) ?_
    try clear H a W
    intro j a W hj H
    by_cases hj2 : j < M
    · obtain ⟨A9, hA9⟩ : ∃ x, acc kk bb n j = x := ⟨_, rfl⟩
      have hAlt : A9 < PM := by rw [← hA9]; exact acc_lt kk bb n j
      have hstep := tag_step kk bb n j
      rw [hA9] at H hstep
      obtain ⟨R, hR⟩ : ∃ R : Nat, R = min 16 (n - 16 * j) := ⟨_, rfl⟩
      rw [← hR] at hstep
      obtain ⟨bg, hbg⟩ : ∃ b : Bool, decide (16 < n - 16 * j) = b := ⟨_, rfl⟩
      refine wp_seq_k (fun K45 hK45 => ?_)
      refine wp_seq_k (fun K46 hK46 => ?_)
      refine rg_plain ?_
      refine pl_does (does_move rfl rfl) rfl rfl rfl rfl H ?_
      try clear H a W
      intro a W H
      refine pl_does (does_move rfl rfl) rfl rfl rfl rfl H ?_
      try clear H a W
      intro a W H
      refine pl_does (does_len Tryd.underlying25 rfl rfl) rfl rfl rfl rfl H ?_
      try clear H a W
      intro a W H
      refine pl_does (does_binOp rfl rfl rfl (i_lss_yes (k := (16 * j)) (m := n) (by omega) _ _)) rfl rfl rfl rfl H ?_
      try clear H a W
      intro a W H
      refine pl_end ?_
      refine hK46 _ _ ?_
      clear hK46
      refine wp_cond_true (H.ev rfl) ?_
      refine wp_skip ?_
      refine hK45 _ _ ?_
      clear hK45
      refine wp_seq_k (fun K47 hK47 => ?_)
      refine wp_block ?_
      refine wp_seq_k (fun K48 hK48 => ?_)
      refine rg_plain ?_
      refine pl_does (does_move rfl rfl) rfl rfl rfl rfl H ?_
      try clear H a W
      intro a W H
      refine pl_does (does_len Tryd.underlying25 rfl rfl) rfl rfl rfl rfl H ?_
      try clear H a W
      intro a W H
      refine pl_does (does_move rfl rfl) rfl rfl rfl rfl H ?_
      try clear H a W
      intro a W H
      refine pl_does (does_binOp rfl rfl rfl (i_subE (k := n) (m := 16 * j) (r := n - 16 * j) (by omega) (by omega) _ _)) rfl rfl rfl rfl H ?_
      try clear H a W
      intro a W H
      refine pl_does (does_assign rfl rfl) rfl rfl rfl rfl H ?_
      try clear H a W
      intro a W H
      refine pl_end ?_
      refine hK48 _ _ ?_
      clear hK48
      refine wp_seq_k (fun K49 hK49 => ?_)
      have J49 : ∀ a W, St 139 w a W [(9, .int .i64 ((R : Nat) : Int)), (8, .int .i64 ((16 * j : Nat) : Int)), (7, .pointer (some ⟨g4, 0, none⟩)), (5, .pointer (some ⟨g3, 0, none⟩)), (4, .pointer (some ⟨g2, 0, none⟩)), (2, .pointer (some ⟨g1, 0, none⟩)), (1, .slice A n cap)] [(g4, 73, nv 17 (dig A9)), (g3, 71, nv 16 (rD kk)), (g2, 42, bvs (rb 16 b0s)), (g1, 23, bvs (rb 32 kk))] → K49 a W := by
        try clear H a W
        intro a W H
        refine hK49 _ _ ?_
        clear hK49
        refine wp_seq_k (fun K50 hK50 => ?_)
        refine wp_seq_k (fun K51 hK51 => ?_)
        refine rg_plain ?_
        refine pl_does (does_assign rfl rfl) rfl rfl rfl rfl H ?_
        try clear H a W
        intro a W H
        refine pl_end ?_
        refine hK51 _ _ ?_
        clear hK51
        refine wp_block ?_
        replace H : St 139 w a W [(10, .int .i64 ((0 : Nat) : Int)), (9, .int .i64 ((R : Nat) : Int)), (8, .int .i64 ((16 * j : Nat) : Int)), (7, .pointer (some ⟨g4, 0, none⟩)), (5, .pointer (some ⟨g3, 0, none⟩)), (4, .pointer (some ⟨g2, 0, none⟩)), (2, .pointer (some ⟨g1, 0, none⟩)), (1, .slice A n cap)] [(g4, 73, nv 17 (mapK (aB A9 bb j) (dig A9) 0)), (g3, 71, nv 16 (rD kk)), (g2, 42, bvs (rb 16 b0s)), (g1, 23, bvs (rb 32 kk))] := H.pick [0, 1, 2, 3, 4, 5, 6, 7] [0, 1, 2, 3] rfl
        refine wp_rounds R (fun i a W => St 139 w a W [(10, .int .i64 ((i : Nat) : Int)), (9, .int .i64 ((R : Nat) : Int)), (8, .int .i64 ((16 * j : Nat) : Int)), (7, .pointer (some ⟨g4, 0, none⟩)), (5, .pointer (some ⟨g3, 0, none⟩)), (4, .pointer (some ⟨g2, 0, none⟩)), (2, .pointer (some ⟨g1, 0, none⟩)), (1, .slice A n cap)] [(g4, 73, nv 17 (mapK (aB A9 bb j) (dig A9) i)), (g3, 71, nv 16 (rD kk)), (g2, 42, bvs (rb 16 b0s)), (g1, 23, bvs (rb 32 kk))]) (k0 := 0) H (by omega) ?_
        try clear H a W
        intro i a W hi H
        by_cases hi2 : i < R
        · obtain ⟨gb, ob, x, rfl, hgb, hx, hcell⟩ := hbs.at' (k := 16 * j + i) (by omega)
          obtain rfl : x = bb (16 * j + i) := by rw [hbb]; simp [List.getD, hx]
          rw [← bv_def] at hcell
          have b1 := dig_lt A9 i
          have b2 := (bb (16 * j + i)).toNat_lt
          refine wp_seq_k (fun K52 hK52 => ?_)
          refine wp_seq_k (fun K53 hK53 => ?_)
          refine rg_plain ?_
          refine pl_does (does_move rfl rfl) rfl rfl rfl rfl H ?_
          try clear H a W
          intro a W H
          refine pl_does (does_move rfl rfl) rfl rfl rfl rfl H ?_
          try clear H a W
          intro a W H
          refine pl_does (does_binOp rfl rfl rfl (i_lss_yes (k := i) (m := R) (by omega) _ _)) rfl rfl rfl rfl H ?_
          try clear H a W
          intro a W H
          refine pl_end ?_
          refine hK53 _ _ ?_
          clear hK53
          refine wp_cond_true (H.ev rfl) ?_
          refine wp_skip ?_
          refine hK52 _ _ ?_
          clear hK52
          refine wp_seq_k (fun K54 hK54 => ?_)
          refine wp_block ?_
          refine drawnS [.val 71 (.int .i64 ((i : Nat) : Int)) [] [], .val 72 (.int .i64 ((i : Nat) : Int)) [] [], .val 73 (.pointer (some ⟨g4, i, none⟩)) [1] [], .val 74 (uc (dig A9 i)) [2] [0], .val 75 (.slice (some ⟨gb, ob, none⟩) n cap) [] [], .val 76 (.int .i64 ((16 * j : Nat) : Int)) [] [], .val 77 (.int .i64 ((i : Nat) : Int)) [] [], .val 78 (.int .i64 ((16 * j + i : Nat) : Int)) [5, 6] [], .val 79 (.pointer (some ⟨gb, ob + (16 * j + i), none⟩)) [4, 7] [], .val 80 (bv (bb (16 * j + i))) [8] [], .val 81 (uc ((bb (16 * j + i)).toNat)) [9] [], .val 82 (uc ((dig A9 i) + ((bb (16 * j + i)).toNat))) [3, 10] [], .val 83 (.pointer (some ⟨g4, i, none⟩)) [0] [], .sto 0 g4 73 (nv 17 (mapK (aB A9 bb j) (dig A9) i)) (nv 17 (mapK (aB A9 bb j) (dig A9) (i + 1))) [12, 11]] [0, 0, 2, 4, 0, 0, 0, 96, 144, 256, 512, 1032, 4095, 8191] (by kernel_rfl) (by kernel_rfl) (by kernel_rfl) H ⟨⟨does_move rfl rfl, wanted_none rfl⟩, ⟨does_move rfl rfl, wanted_none rfl⟩, ⟨does_indexAddr rfl rfl rfl (ia_num9 (j := i) (by omega)), wanted_none rfl⟩, ⟨does_loadAt (v := uc (dig A9 i)) rfl rfl (k := 0) rfl (ld_nv (by omega) (mapK_same _ _ _)), wanted_none rfl⟩, ⟨does_move rfl rfl, wanted_none rfl⟩, ⟨does_move rfl rfl, wanted_none rfl⟩, ⟨does_move rfl rfl, wanted_none rfl⟩, ⟨does_binOp rfl rfl rfl (i_addE (k := (16 * j)) (m := i) rfl (by omega) _ _), wanted_none rfl⟩, ⟨does_indexAddr rfl rfl rfl (ia_bytes (j := (16 * j + i)) (by omega)), wanted_none rfl⟩, ⟨does_loadCell (v := bv (bb (16 * j + i))) rfl rfl hcell hgb ld_cellB, wanted_none rfl⟩, ⟨does_convert rfl rfl (cv_bu _), wanted_none rfl⟩, ⟨does_binOp rfl rfl rfl (u_add (x := (dig A9 i)) (y := ((bb (16 * j + i)).toNat)) (by omega) _ _), wanted_none rfl⟩, ⟨does_indexAddr rfl rfl rfl (ia_num9 (j := i) (by omega)), wanted_none rfl⟩, ⟨rfl, rfl, sto_at rfl rfl rfl (st_nv (by omega)) (sv_nv (mapK_step (aB A9 bb j) _ i))⟩, trivial⟩ ?_
          try clear H a W
          intro G5 a W H
          replace H : St 139 w a W [(71, .int .i64 ((i : Nat) : Int)), (72, .int .i64 ((i : Nat) : Int)), (73, .pointer (some ⟨g4, i, none⟩)), (74, uc (dig A9 i)), (75, .slice (some ⟨gb, ob, none⟩) n cap), (76, .int .i64 ((16 * j : Nat) : Int)), (77, .int .i64 ((i : Nat) : Int)), (78, .int .i64 ((16 * j + i : Nat) : Int)), (79, .pointer (some ⟨gb, ob + (16 * j + i), none⟩)), (80, bv (bb (16 * j + i))), (81, uc ((bb (16 * j + i)).toNat)), (82, uc ((dig A9 i) + ((bb (16 * j + i)).toNat))), (83, .pointer (some ⟨g4, i, none⟩)), (68, .bool true), (67, .int .i64 ((R : Nat) : Int)), (66, .int .i64 ((i : Nat) : Int)), (10, .int .i64 ((i : Nat) : Int)), (9, .int .i64 ((R : Nat) : Int)), (8, .int .i64 ((16 * j : Nat) : Int)), (7, .pointer (some ⟨g4, 0, none⟩)), (5, .pointer (some ⟨g3, 0, none⟩)), (4, .pointer (some ⟨g2, 0, none⟩)), (2, .pointer (some ⟨g1, 0, none⟩)), (1, .slice (some ⟨gb, ob, none⟩) n cap)] [(g4, 73, nv 17 (mapK (aB A9 bb j) (dig A9) (i + 1))), (g3, 71, nv 16 (rD kk)), (g2, 42, bvs (rb 16 b0s)), (g1, 23, bvs (rb 32 kk))] := H
          refine blk_normal ?_
          refine hK54 _ _ ?_
          clear hK54
          refine rg_plain ?_
          refine pl_does (does_move rfl rfl) rfl rfl rfl rfl H ?_
          try clear H a W
          intro a W H
          refine pl_does (does_binOp rfl rfl rfl (i_addE (k := i) (m := 1) rfl (by omega) _ _)) rfl rfl rfl rfl H ?_
          try clear H a W
          intro a W H
          replace H : St 139 w a W [(70, .int .i64 ((i + 1 : Nat) : Int)), (69, .int .i64 ((i : Nat) : Int)), (71, .int .i64 ((i : Nat) : Int)), (72, .int .i64 ((i : Nat) : Int)), (73, .pointer (some ⟨g4, i, none⟩)), (74, uc (dig A9 i)), (75, .slice (some ⟨gb, ob, none⟩) n cap), (76, .int .i64 ((16 * j : Nat) : Int)), (77, .int .i64 ((i : Nat) : Int)), (78, .int .i64 ((16 * j + i : Nat) : Int)), (79, .pointer (some ⟨gb, ob + (16 * j + i), none⟩)), (80, bv (bb (16 * j + i))), (81, uc ((bb (16 * j + i)).toNat)), (82, uc ((dig A9 i) + ((bb (16 * j + i)).toNat))), (83, .pointer (some ⟨g4, i, none⟩)), (68, .bool true), (67, .int .i64 ((R : Nat) : Int)), (66, .int .i64 ((i : Nat) : Int)), (9, .int .i64 ((R : Nat) : Int)), (8, .int .i64 ((16 * j : Nat) : Int)), (7, .pointer (some ⟨g4, 0, none⟩)), (5, .pointer (some ⟨g3, 0, none⟩)), (4, .pointer (some ⟨g2, 0, none⟩)), (2, .pointer (some ⟨g1, 0, none⟩)), (1, .slice (some ⟨gb, ob, none⟩) n cap)] [(g4, 73, nv 17 (mapK (aB A9 bb j) (dig A9) (i + 1))), (g3, 71, nv 16 (rD kk)), (g2, 42, bvs (rb 16 b0s)), (g1, 23, bvs (rb 32 kk))] := H.pick [0, 1, 2, 3, 4, 5, 6, 7, 8, 9, 10, 11, 12, 13, 14, 15, 16, 17, 19, 20, 21, 22, 23, 24, 25] [0, 1, 2, 3] rfl
          refine pl_does (does_assign rfl rfl) rfl rfl rfl rfl H ?_
          try clear H a W
          intro a W H
          refine pl_end ?_
          refine ⟨i + 1, by omega, by omega, ?_⟩
          show St 139 w a W [(10, .int .i64 ((i + 1 : Nat) : Int)), (9, .int .i64 ((R : Nat) : Int)), (8, .int .i64 ((16 * j : Nat) : Int)), (7, .pointer (some ⟨g4, 0, none⟩)), (5, .pointer (some ⟨g3, 0, none⟩)), (4, .pointer (some ⟨g2, 0, none⟩)), (2, .pointer (some ⟨g1, 0, none⟩)), (1, .slice (some ⟨gb, ob, none⟩) n cap)] [(g4, 73, nv 17 (mapK (aB A9 bb j) (dig A9) (i + 1))), (g3, 71, nv 16 (rD kk)), (g2, 42, bvs (rb 16 b0s)), (g1, 23, bvs (rb 32 kk))]
          exact H.pick [0, 19, 20, 21, 22, 23, 24, 25] [0, 1, 2, 3] rfl
        · obtain rfl : R = i := by omega
          refine wp_seq_k (fun K55 hK55 => ?_)
          refine wp_seq_k (fun K56 hK56 => ?_)
          refine rg_plain ?_
          refine pl_does (does_move rfl rfl) rfl rfl rfl rfl H ?_
          try clear H a W
          intro a W H
          refine pl_does (does_move rfl rfl) rfl rfl rfl rfl H ?_
          try clear H a W
          intro a W H
          refine pl_does (does_binOp rfl rfl rfl (i_lss_no (k := R) (m := R) (by omega) _ _)) rfl rfl rfl rfl H ?_
          try clear H a W
          intro a W H
          refine pl_end ?_
          refine hK56 _ _ ?_
          clear hK56
          refine wp_cond_false (H.ev rfl) ?_
          refine wp_exit ?_
          repeat (with_reducible refine then_exit ?_)
          refine blk_exit ?_
          have b1 := dig_lt A9 R
          refine hK50 _ _ ?_
          clear hK50
          refine wp_seq_k (fun K57 hK57 => ?_)
          refine rg_plain ?_
          refine pl_does (does_move rfl rfl) rfl rfl rfl rfl H ?_
          try clear H a W
          intro a W H
          refine pl_does (does_move rfl rfl) rfl rfl rfl rfl H ?_
          try clear H a W
          intro a W H
          refine pl_does (does_indexAddr rfl rfl rfl (ia_num9 (j := R) (by omega))) rfl rfl rfl rfl H ?_
          try clear H a W
          intro a W H
          refine pl_does (does_loadAt (v := uc (dig A9 R)) rfl rfl (k := 0) rfl (ld_nv (by omega) (mapK_same _ _ _))) rfl rfl rfl rfl H ?_
          try clear H a W
          intro a W H
          refine pl_does (does_binOp rfl rfl rfl (u_add (x := (dig A9 R)) (y := 1) (by omega) _ _)) rfl rfl rfl rfl H ?_
          try clear H a W
          intro a W H
          refine pl_does (does_indexAddr rfl rfl rfl (ia_num9 (j := R) (by omega))) rfl rfl rfl rfl H ?_
          try clear H a W
          intro a W H
          refine pl_storeAt rfl rfl rfl (k := 0) rfl (st_nv (by omega)) (sv_nv (aD_step A9 bb j R)) rfl rfl H ?_
          try clear H a W
          intro a W H
          refine pl_end ?_
          refine hK57 _ _ ?_
          clear hK57
          refine wp_seq_k (fun K58 hK58 => ?_)
          refine rg_plain ?_
          refine pl_new (news_of rfl al_d34) rfl rfl rfl rfl H ?_
          try clear H a W
          intro g6 a W H
          refine pl_end ?_
          refine hK58 _ _ ?_
          clear hK58
          refine wp_seq_k (fun K59 hK59 => ?_)
          refine wp_seq_k (fun K60 hK60 => ?_)
          refine rg_plain ?_
          refine pl_does (does_assign rfl rfl) rfl rfl rfl rfl H ?_
          try clear H a W
          intro a W H
          refine pl_end ?_
          refine hK60 _ _ ?_
          clear hK60
          obtain ⟨a9, ha9⟩ : ∃ x, aD A9 bb j R = x := ⟨_, rfl⟩
          have hal : ∀ i, a9 i ≤ 510 := by rw [← ha9]; exact aD_le A9 bb j R
          have hbig := tag_big A9 kk bb j R
          rw [ha9] at H hbig hstep
          refine wp_block ?_
          replace H : St 139 w a W [(12, .int .i64 ((0 : Nat) : Int)), (11, .pointer (some ⟨g6, 0, none⟩)), (8, .int .i64 ((16 * j : Nat) : Int)), (7, .pointer (some ⟨g4, 0, none⟩)), (5, .pointer (some ⟨g3, 0, none⟩)), (4, .pointer (some ⟨g2, 0, none⟩)), (2, .pointer (some ⟨g1, 0, none⟩)), (1, .slice A n cap)] [(g6, 74, nv 34 (outK a9 (rD kk) 0)), (g4, 73, nv 17 a9), (g3, 71, nv 16 (rD kk)), (g2, 42, bvs (rb 16 b0s)), (g1, 23, bvs (rb 32 kk))] := H.pick [0, 1, 13, 14, 15, 16, 17, 18] [0, 1, 2, 3, 4] rfl
          refine wp_rounds 17 (fun x a W => St 139 w a W [(12, .int .i64 ((x : Nat) : Int)), (11, .pointer (some ⟨g6, 0, none⟩)), (8, .int .i64 ((16 * j : Nat) : Int)), (7, .pointer (some ⟨g4, 0, none⟩)), (5, .pointer (some ⟨g3, 0, none⟩)), (4, .pointer (some ⟨g2, 0, none⟩)), (2, .pointer (some ⟨g1, 0, none⟩)), (1, .slice A n cap)] [(g6, 74, nv 34 (outK a9 (rD kk) x)), (g4, 73, nv 17 a9), (g3, 71, nv 16 (rD kk)), (g2, 42, bvs (rb 16 b0s)), (g1, 23, bvs (rb 32 kk))]) (k0 := 0) H (by omega) ?_
          try clear H a W
          intro x a W hx H
          by_cases hx2 : x < 17
          · refine wp_seq_k (fun K61 hK61 => ?_)
            refine wp_seq_k (fun K62 hK62 => ?_)
            refine rg_plain ?_
            refine pl_does (does_move rfl rfl) rfl rfl rfl rfl H ?_
            try clear H a W
            intro a W H
            refine pl_does (does_binOp rfl rfl rfl (i_lss_yes (k := x) (m := 17) (by omega) _ _)) rfl rfl rfl rfl H ?_
            try clear H a W
            intro a W H
            refine pl_end ?_
            refine hK62 _ _ ?_
            clear hK62
            refine wp_cond_true (H.ev rfl) ?_
            refine wp_skip ?_
            refine hK61 _ _ ?_
            clear hK61
            refine wp_seq_k (fun K63 hK63 => ?_)
            refine wp_block ?_
            refine wp_seq_k (fun K64 hK64 => ?_)
            refine rg_plain ?_
            refine pl_does (does_assign rfl rfl) rfl rfl rfl rfl H ?_
            try clear H a W
            intro a W H
            refine pl_end ?_
            refine hK64 _ _ ?_
            clear hK64
            rw [← inK_0 (outK a9 (rD kk) x) (a9 x) (rD kk) x] at H
            refine wp_block ?_
            replace H : St 139 w a W [(13, .int .i64 ((0 : Nat) : Int)), (12, .int .i64 ((x : Nat) : Int)), (11, .pointer (some ⟨g6, 0, none⟩)), (8, .int .i64 ((16 * j : Nat) : Int)), (7, .pointer (some ⟨g4, 0, none⟩)), (5, .pointer (some ⟨g3, 0, none⟩)), (4, .pointer (some ⟨g2, 0, none⟩)), (2, .pointer (some ⟨g1, 0, none⟩)), (1, .slice A n cap)] [(g6, 74, nv 34 (inK (outK a9 (rD kk) x) (a9 x) (rD kk) x 0)), (g4, 73, nv 17 a9), (g3, 71, nv 16 (rD kk)), (g2, 42, bvs (rb 16 b0s)), (g1, 23, bvs (rb 32 kk))] := H.pick [0, 3, 4, 5, 6, 7, 8, 9, 10] [0, 1, 2, 3, 4] rfl
            refine wp_rounds 16 (fun y a W => St 139 w a W [(13, .int .i64 ((y : Nat) : Int)), (12, .int .i64 ((x : Nat) : Int)), (11, .pointer (some ⟨g6, 0, none⟩)), (8, .int .i64 ((16 * j : Nat) : Int)), (7, .pointer (some ⟨g4, 0, none⟩)), (5, .pointer (some ⟨g3, 0, none⟩)), (4, .pointer (some ⟨g2, 0, none⟩)), (2, .pointer (some ⟨g1, 0, none⟩)), (1, .slice A n cap)] [(g6, 74, nv 34 (inK (outK a9 (rD kk) x) (a9 x) (rD kk) x y)), (g4, 73, nv 17 a9), (g3, 71, nv 16 (rD kk)), (g2, 42, bvs (rb 16 b0s)), (g1, 23, bvs (rb 32 kk))]) (k0 := 0) H (by omega) ?_
            try clear H a W
            intro y a W hy H
            by_cases hy2 : y < 16
            · have b1 := outK_le hal (rD_lt kk) x (x + y)
              have b2 : a9 x * rD kk y ≤ 510 * 255 := Nat.mul_le_mul (hal x) (Nat.le_of_lt_succ (rD_lt kk y))
              obtain ⟨pr, hpr⟩ : ∃ p, a9 x * rD kk y = p := ⟨_, rfl⟩
              have b3 : x * 130050 ≤ 16 * 130050 := Nat.mul_le_mul_right _ (by omega)
              rw [hpr] at b2
              refine wp_seq_k (fun K65 hK65 => ?_)
              refine wp_seq_k (fun K66 hK66 => ?_)
              refine rg_plain ?_
              refine pl_does (does_move rfl rfl) rfl rfl rfl rfl H ?_
              try clear H a W
              intro a W H
              refine pl_does (does_binOp rfl rfl rfl (i_lss_yes (k := y) (m := 16) (by omega) _ _)) rfl rfl rfl rfl H ?_
              try clear H a W
              intro a W H
              refine pl_end ?_
              refine hK66 _ _ ?_
              clear hK66
              refine wp_cond_true (H.ev rfl) ?_
              refine wp_skip ?_
              refine hK65 _ _ ?_
              clear hK65
              refine wp_seq_k (fun K67 hK67 => ?_)
              refine wp_block ?_
              refine drawnS [.val 98 (.int .i64 ((x : Nat) : Int)) [] [], .val 99 (.int .i64 ((y : Nat) : Int)) [] [], .val 100 (.int .i64 ((x + y : Nat) : Int)) [0, 1] [], .val 101 (.int .i64 ((x : Nat) : Int)) [] [], .val 102 (.int .i64 ((y : Nat) : Int)) [] [], .val 103 (.int .i64 ((x + y : Nat) : Int)) [3, 4] [], .val 104 (.pointer (some ⟨g6, x + y, none⟩)) [5] [], .val 105 (uc (outK a9 (rD kk) x (x + y))) [6] [0], .val 106 (.int .i64 ((x : Nat) : Int)) [] [], .val 107 (.pointer (some ⟨g4, x, none⟩)) [8] [], .val 108 (uc (a9 x)) [9] [1], .val 109 (.int .i64 ((y : Nat) : Int)) [] [], .val 110 (.pointer (some ⟨g3, y, none⟩)) [11] [], .val 111 (uc ((rD kk) y)) [12] [2], .val 112 (uc ((a9 x) * ((rD kk) y))) [10, 13] [], .val 113 (uc ((outK a9 (rD kk) x (x + y)) + ((a9 x) * ((rD kk) y)))) [7, 14] [], .val 114 (.pointer (some ⟨g6, x + y, none⟩)) [2] [], .sto 0 g6 74 (nv 34 (inK (outK a9 (rD kk) x) (a9 x) (rD kk) x y)) (nv 34 (inK (outK a9 (rD kk) x) (a9 x) (rD kk) x (y + 1))) [16, 15]] [0, 0, 3, 0, 0, 24, 32, 64, 0, 256, 512, 0, 2048, 4096, 9216, 16512, 65535, 131071] (by kernel_rfl) (by kernel_rfl) (by kernel_rfl) H ⟨⟨does_move rfl rfl, wanted_none rfl⟩, ⟨does_move rfl rfl, wanted_none rfl⟩, ⟨does_binOp rfl rfl rfl (i_addE (k := x) (m := y) rfl (by omega) _ _), wanted_none rfl⟩, ⟨does_move rfl rfl, wanted_none rfl⟩, ⟨does_move rfl rfl, wanted_none rfl⟩, ⟨does_binOp rfl rfl rfl (i_addE (k := x) (m := y) rfl (by omega) _ _), wanted_none rfl⟩, ⟨does_indexAddr rfl rfl rfl (ia_d34 (j := (x + y)) (by omega)), wanted_none rfl⟩, ⟨does_loadAt (v := uc (outK a9 (rD kk) x (x + y))) rfl rfl (k := 0) rfl (ld_nv (by omega) (inK_at _ _ _ _ _)), wanted_none rfl⟩, ⟨does_move rfl rfl, wanted_none rfl⟩, ⟨does_indexAddr rfl rfl rfl (ia_num9 (j := x) (by omega)), wanted_none rfl⟩, ⟨does_loadAt (v := uc (a9 x)) rfl rfl (k := 0) rfl (ld_nv (by omega) (rfl)), wanted_none rfl⟩, ⟨does_move rfl rfl, wanted_none rfl⟩, ⟨does_indexAddr rfl rfl rfl (ia_d16 (j := y) (by omega)), wanted_none rfl⟩, ⟨does_loadAt (v := uc ((rD kk) y)) rfl rfl (k := 0) rfl (ld_nv (by omega) (rfl)), wanted_none rfl⟩, ⟨does_binOp rfl rfl rfl (u_mul (x := (a9 x)) (y := ((rD kk) y)) (by rw [hpr]; omega) _ _), wanted_none rfl⟩, ⟨does_binOp rfl rfl rfl (u_add (x := (outK a9 (rD kk) x (x + y))) (y := ((a9 x) * ((rD kk) y))) (by omega) _ _), wanted_none rfl⟩, ⟨does_indexAddr rfl rfl rfl (ia_d34 (j := (x + y)) (by omega)), wanted_none rfl⟩, ⟨rfl, rfl, sto_at rfl rfl rfl (st_nv (by omega)) (sv_nv (inK_step _ _ _ _ _))⟩, trivial⟩ ?_
              try clear H a W
              intro G7 a W H
              replace H : St 139 w a W [(98, .int .i64 ((x : Nat) : Int)), (99, .int .i64 ((y : Nat) : Int)), (100, .int .i64 ((x + y : Nat) : Int)), (101, .int .i64 ((x : Nat) : Int)), (102, .int .i64 ((y : Nat) : Int)), (103, .int .i64 ((x + y : Nat) : Int)), (104, .pointer (some ⟨g6, x + y, none⟩)), (105, uc (outK a9 (rD kk) x (x + y))), (106, .int .i64 ((x : Nat) : Int)), (107, .pointer (some ⟨g4, x, none⟩)), (108, uc (a9 x)), (109, .int .i64 ((y : Nat) : Int)), (110, .pointer (some ⟨g3, y, none⟩)), (111, uc ((rD kk) y)), (112, uc ((a9 x) * ((rD kk) y))), (113, uc ((outK a9 (rD kk) x (x + y)) + ((a9 x) * ((rD kk) y)))), (114, .pointer (some ⟨g6, x + y, none⟩)), (95, .bool true), (94, .int .i64 ((y : Nat) : Int)), (13, .int .i64 ((y : Nat) : Int)), (12, .int .i64 ((x : Nat) : Int)), (11, .pointer (some ⟨g6, 0, none⟩)), (8, .int .i64 ((16 * j : Nat) : Int)), (7, .pointer (some ⟨g4, 0, none⟩)), (5, .pointer (some ⟨g3, 0, none⟩)), (4, .pointer (some ⟨g2, 0, none⟩)), (2, .pointer (some ⟨g1, 0, none⟩)), (1, .slice A n cap)] [(g6, 74, nv 34 (inK (outK a9 (rD kk) x) (a9 x) (rD kk) x (y + 1))), (g4, 73, nv 17 a9), (g3, 71, nv 16 (rD kk)), (g2, 42, bvs (rb 16 b0s)), (g1, 23, bvs (rb 32 kk))] := H
              refine blk_normal ?_
              refine hK67 _ _ ?_
              clear hK67
              refine rg_plain ?_
              refine pl_does (does_move rfl rfl) rfl rfl rfl rfl H ?_
              try clear H a W
              intro a W H
              refine pl_does (does_binOp rfl rfl rfl (i_addE (k := y) (m := 1) rfl (by omega) _ _)) rfl rfl rfl rfl H ?_
              try clear H a W
              intro a W H
              replace H : St 139 w a W [(97, .int .i64 ((y + 1 : Nat) : Int)), (96, .int .i64 ((y : Nat) : Int)), (98, .int .i64 ((x : Nat) : Int)), (99, .int .i64 ((y : Nat) : Int)), (100, .int .i64 ((x + y : Nat) : Int)), (101, .int .i64 ((x : Nat) : Int)), (102, .int .i64 ((y : Nat) : Int)), (103, .int .i64 ((x + y : Nat) : Int)), (104, .pointer (some ⟨g6, x + y, none⟩)), (105, uc (outK a9 (rD kk) x (x + y))), (106, .int .i64 ((x : Nat) : Int)), (107, .pointer (some ⟨g4, x, none⟩)), (108, uc (a9 x)), (109, .int .i64 ((y : Nat) : Int)), (110, .pointer (some ⟨g3, y, none⟩)), (111, uc ((rD kk) y)), (112, uc ((a9 x) * ((rD kk) y))), (113, uc ((outK a9 (rD kk) x (x + y)) + ((a9 x) * ((rD kk) y)))), (114, .pointer (some ⟨g6, x + y, none⟩)), (95, .bool true), (94, .int .i64 ((y : Nat) : Int)), (12, .int .i64 ((x : Nat) : Int)), (11, .pointer (some ⟨g6, 0, none⟩)), (8, .int .i64 ((16 * j : Nat) : Int)), (7, .pointer (some ⟨g4, 0, none⟩)), (5, .pointer (some ⟨g3, 0, none⟩)), (4, .pointer (some ⟨g2, 0, none⟩)), (2, .pointer (some ⟨g1, 0, none⟩)), (1, .slice A n cap)] [(g6, 74, nv 34 (inK (outK a9 (rD kk) x) (a9 x) (rD kk) x (y + 1))), (g4, 73, nv 17 a9), (g3, 71, nv 16 (rD kk)), (g2, 42, bvs (rb 16 b0s)), (g1, 23, bvs (rb 32 kk))] := H.pick [0, 1, 2, 3, 4, 5, 6, 7, 8, 9, 10, 11, 12, 13, 14, 15, 16, 17, 18, 19, 20, 22, 23, 24, 25, 26, 27, 28, 29] [0, 1, 2, 3, 4] rfl
              refine pl_does (does_assign rfl rfl) rfl rfl rfl rfl H ?_
              try clear H a W
              intro a W H
              refine pl_end ?_
              refine ⟨y + 1, by omega, by omega, ?_⟩
              show St 139 w a W [(13, .int .i64 ((y + 1 : Nat) : Int)), (12, .int .i64 ((x : Nat) : Int)), (11, .pointer (some ⟨g6, 0, none⟩)), (8, .int .i64 ((16 * j : Nat) : Int)), (7, .pointer (some ⟨g4, 0, none⟩)), (5, .pointer (some ⟨g3, 0, none⟩)), (4, .pointer (some ⟨g2, 0, none⟩)), (2, .pointer (some ⟨g1, 0, none⟩)), (1, .slice A n cap)] [(g6, 74, nv 34 (inK (outK a9 (rD kk) x) (a9 x) (rD kk) x (y + 1))), (g4, 73, nv 17 a9), (g3, 71, nv 16 (rD kk)), (g2, 42, bvs (rb 16 b0s)), (g1, 23, bvs (rb 32 kk))]
              exact H.pick [0, 22, 23, 24, 25, 26, 27, 28, 29] [0, 1, 2, 3, 4] rfl
            · obtain rfl : 16 = y := by omega
              refine wp_seq_k (fun K68 hK68 => ?_)
              refine wp_seq_k (fun K69 hK69 => ?_)
              refine rg_plain ?_
              refine pl_does (does_move rfl rfl) rfl rfl rfl rfl H ?_
              try clear H a W
              intro a W H
              refine pl_does (does_binOp rfl rfl rfl (i_lss_no (k := 16) (m := 16) (by omega) _ _)) rfl rfl rfl rfl H ?_
              try clear H a W
              intro a W H
              refine pl_end ?_
              refine hK69 _ _ ?_
              clear hK69
              refine wp_cond_false (H.ev rfl) ?_
              refine wp_exit ?_
              repeat (with_reducible refine then_exit ?_)
              refine blk_exit ?_
              replace H : St 139 w a W [(95, .bool false), (94, .int .i64 ((16 : Nat) : Int)), (13, .int .i64 ((16 : Nat) : Int)), (12, .int .i64 ((x : Nat) : Int)), (11, .pointer (some ⟨g6, 0, none⟩)), (8, .int .i64 ((16 * j : Nat) : Int)), (7, .pointer (some ⟨g4, 0, none⟩)), (5, .pointer (some ⟨g3, 0, none⟩)), (4, .pointer (some ⟨g2, 0, none⟩)), (2, .pointer (some ⟨g1, 0, none⟩)), (1, .slice A n cap)] [(g6, 74, nv 34 (outK a9 (rD kk) (x + 1))), (g4, 73, nv 17 a9), (g3, 71, nv 16 (rD kk)), (g2, 42, bvs (rb 16 b0s)), (g1, 23, bvs (rb 32 kk))] := H
              refine blk_normal ?_
              refine hK63 _ _ ?_
              clear hK63
              refine rg_plain ?_
              refine pl_does (does_move rfl rfl) rfl rfl rfl rfl H ?_
              try clear H a W
              intro a W H
              refine pl_does (does_binOp rfl rfl rfl (i_addE (k := x) (m := 1) rfl (by omega) _ _)) rfl rfl rfl rfl H ?_
              try clear H a W
              intro a W H
              replace H : St 139 w a W [(93, .int .i64 ((x + 1 : Nat) : Int)), (92, .int .i64 ((x : Nat) : Int)), (95, .bool false), (94, .int .i64 ((16 : Nat) : Int)), (13, .int .i64 ((16 : Nat) : Int)), (11, .pointer (some ⟨g6, 0, none⟩)), (8, .int .i64 ((16 * j : Nat) : Int)), (7, .pointer (some ⟨g4, 0, none⟩)), (5, .pointer (some ⟨g3, 0, none⟩)), (4, .pointer (some ⟨g2, 0, none⟩)), (2, .pointer (some ⟨g1, 0, none⟩)), (1, .slice A n cap)] [(g6, 74, nv 34 (outK a9 (rD kk) (x + 1))), (g4, 73, nv 17 a9), (g3, 71, nv 16 (rD kk)), (g2, 42, bvs (rb 16 b0s)), (g1, 23, bvs (rb 32 kk))] := H.pick [0, 1, 2, 3, 4, 6, 7, 8, 9, 10, 11, 12] [0, 1, 2, 3, 4] rfl
              refine pl_does (does_assign rfl rfl) rfl rfl rfl rfl H ?_
              try clear H a W
              intro a W H
              refine pl_end ?_
              refine ⟨x + 1, by omega, by omega, ?_⟩
              show St 139 w a W [(12, .int .i64 ((x + 1 : Nat) : Int)), (11, .pointer (some ⟨g6, 0, none⟩)), (8, .int .i64 ((16 * j : Nat) : Int)), (7, .pointer (some ⟨g4, 0, none⟩)), (5, .pointer (some ⟨g3, 0, none⟩)), (4, .pointer (some ⟨g2, 0, none⟩)), (2, .pointer (some ⟨g1, 0, none⟩)), (1, .slice A n cap)] [(g6, 74, nv 34 (outK a9 (rD kk) (x + 1))), (g4, 73, nv 17 a9), (g3, 71, nv 16 (rD kk)), (g2, 42, bvs (rb 16 b0s)), (g1, 23, bvs (rb 32 kk))]
              exact H.pick [0, 6, 7, 8, 9, 10, 11, 12] [0, 1, 2, 3, 4] rfl
          · obtain rfl : 17 = x := by omega
            refine wp_seq_k (fun K70 hK70 => ?_)
            refine wp_seq_k (fun K71 hK71 => ?_)
            refine rg_plain ?_
            refine pl_does (does_move rfl rfl) rfl rfl rfl rfl H ?_
            try clear H a W
            intro a W H
            refine pl_does (does_binOp rfl rfl rfl (i_lss_no (k := 17) (m := 17) (by omega) _ _)) rfl rfl rfl rfl H ?_
            try clear H a W
            intro a W H
            refine pl_end ?_
            refine hK71 _ _ ?_
            clear hK71
            refine wp_cond_false (H.ev rfl) ?_
            refine wp_exit ?_
            repeat (with_reducible refine then_exit ?_)
            refine blk_exit ?_
            have hout : ∀ i, outK a9 (rD kk) 17 i ≤ 1099511627776 := fun i => by have := outK_le hal (rD_lt kk) 17 i; omega
            refine hK59 _ _ ?_
            clear hK59
            refine rg_plain ?_
            refine pl_does (does_load rfl rfl (k := 0) rfl Tryd.underlying74 rfl (info_d34 _)) rfl rfl rfl rfl H ?_
            try clear H a W
            intro a W H
            refine pl_does (does_call rfl ⟨_, Tryd.func39, by kernel_rfl⟩ rfl (fun W hb => small_any _ hout hbig W)) rfl rfl rfl rfl H ?_
            try clear H a W
            intro a W H
            refine pl_store rfl rfl rfl (k := 1) rfl (info_num9 _) (size_nv _ _ _) (nv_one _ _) rfl rfl H ?_
            try clear H a W
            intro a W H
            refine pl_end ?_
            refine blk_normal ?_
            refine hK47 _ _ ?_
            clear hK47
            refine rg_plain ?_
            refine pl_does (does_move rfl rfl) rfl rfl rfl rfl H ?_
            try clear H a W
            intro a W H
            refine pl_does (does_binOp rfl rfl rfl (i_addE (k := 16 * j) (m := 16) (r := 16 * (j + 1)) (by omega) (by omega) _ _)) rfl rfl rfl rfl H ?_
            try clear H a W
            intro a W H
            replace H : St 139 w a W [(59, .int .i64 ((16 * (j + 1) : Nat) : Int)), (58, .int .i64 ((16 * j : Nat) : Int)), (116, .agg (nv 17 (dig (sumD (outK a9 (rD kk) 17) 34 % PM)))), (115, .agg (nv 34 (outK a9 (rD kk) 17))), (91, .bool false), (90, .int .i64 ((17 : Nat) : Int)), (12, .int .i64 ((17 : Nat) : Int)), (11, .pointer (some ⟨g6, 0, none⟩)), (7, .pointer (some ⟨g4, 0, none⟩)), (5, .pointer (some ⟨g3, 0, none⟩)), (4, .pointer (some ⟨g2, 0, none⟩)), (2, .pointer (some ⟨g1, 0, none⟩)), (1, .slice A n cap)] [(g6, 74, nv 34 (outK a9 (rD kk) 17)), (g4, 73, nv 17 (dig (sumD (outK a9 (rD kk) 17) 34 % PM))), (g3, 71, nv 16 (rD kk)), (g2, 42, bvs (rb 16 b0s)), (g1, 23, bvs (rb 32 kk))] := H.pick [0, 1, 2, 3, 4, 5, 6, 7, 9, 10, 11, 12, 13] [0, 1, 2, 3, 4] rfl
            refine pl_does (does_assign rfl rfl) rfl rfl rfl rfl H ?_
            try clear H a W
            intro a W H
            refine pl_end ?_
            refine ⟨j + 1, by omega, by omega, ?_⟩
            show St 139 w a W [(8, .int .i64 ((16 * (j + 1) : Nat) : Int)), (7, .pointer (some ⟨g4, 0, none⟩)), (5, .pointer (some ⟨g3, 0, none⟩)), (4, .pointer (some ⟨g2, 0, none⟩)), (2, .pointer (some ⟨g1, 0, none⟩)), (1, .slice A n cap)] [(g4, 73, nv 17 (dig (acc kk bb n (j + 1)))), (g3, 71, nv 16 (rD kk)), (g2, 42, bvs (rb 16 b0s)), (g1, 23, bvs (rb 32 kk))]
            rw [hstep] at H
            exact H.pick [0, 9, 10, 11, 12, 13] [1, 2, 3, 4] rfl
      clear hK49
      cases bg
      · have hRe : R = n - 16 * j := by have := of_decide_eq_false hbg; omega
        refine wp_seq_k (fun K72 hK72 => ?_)
        refine rg_plain ?_
        refine pl_does (does_move rfl rfl) rfl rfl rfl rfl H ?_
        try clear H a W
        intro a W H
        refine pl_does (does_binOp rfl rfl rfl (i_gtrB (k := n - 16 * j) (m := 16) hbg _ _)) rfl rfl rfl rfl H ?_
        try clear H a W
        intro a W H
        refine pl_end ?_
        refine hK72 _ _ ?_
        clear hK72
        refine wp_cond_false (H.ev rfl) ?_
        refine wp_skip ?_
        exact J49 _ _ (by rw [hRe]; exact H.pick [2, 11, 12, 13, 14, 15, 16] [0, 1, 2, 3] rfl)
      · have hRe : R = 16 := by have := of_decide_eq_true hbg; omega
        refine wp_seq_k (fun K73 hK73 => ?_)
        refine rg_plain ?_
        refine pl_does (does_move rfl rfl) rfl rfl rfl rfl H ?_
        try clear H a W
        intro a W H
        refine pl_does (does_binOp rfl rfl rfl (i_gtrB (k := n - 16 * j) (m := 16) hbg _ _)) rfl rfl rfl rfl H ?_
        try clear H a W
        intro a W H
        refine pl_end ?_
        refine hK73 _ _ ?_
        clear hK73
        refine wp_cond_true (H.ev rfl) ?_
        refine rg_plain ?_
        replace H : St 139 w a W [(65, .bool true), (64, .int .i64 ((n - 16 * j : Nat) : Int)), (63, .int .i64 ((n - 16 * j : Nat) : Int)), (62, .int .i64 ((16 * j : Nat) : Int)), (61, .int .i64 ((n : Nat) : Int)), (60, .slice A n cap), (57, .bool true), (56, .int .i64 ((n : Nat) : Int)), (55, .slice A n cap), (54, .int .i64 ((16 * j : Nat) : Int)), (8, .int .i64 ((16 * j : Nat) : Int)), (7, .pointer (some ⟨g4, 0, none⟩)), (5, .pointer (some ⟨g3, 0, none⟩)), (4, .pointer (some ⟨g2, 0, none⟩)), (2, .pointer (some ⟨g1, 0, none⟩)), (1, .slice A n cap)] [(g4, 73, nv 17 (dig A9)), (g3, 71, nv 16 (rD kk)), (g2, 42, bvs (rb 16 b0s)), (g1, 23, bvs (rb 32 kk))] := H.pick [0, 1, 3, 4, 5, 6, 7, 8, 9, 10, 11, 12, 13, 14, 15, 16] [0, 1, 2, 3] rfl
        refine pl_does (does_assign rfl rfl) rfl rfl rfl rfl H ?_
        try clear H a W
        intro a W H
        refine pl_end ?_
        exact J49 _ _ (by rw [hRe]; exact H.pick [0, 11, 12, 13, 14, 15, 16] [0, 1, 2, 3] rfl)
    · obtain rfl : M = j := by omega
      refine wp_seq_k (fun K74 hK74 => ?_)
      refine wp_seq_k (fun K75 hK75 => ?_)
      refine rg_plain ?_
      refine pl_does (does_move rfl rfl) rfl rfl rfl rfl H ?_
      try clear H a W
      intro a W H
      refine pl_does (does_move rfl rfl) rfl rfl rfl rfl H ?_
      try clear H a W
      intro a W H
      refine pl_does (does_len Tryd.underlying25 rfl rfl) rfl rfl rfl rfl H ?_
      try clear H a W
      intro a W H
      refine pl_does (does_binOp rfl rfl rfl (i_lss_no (k := (16 * M)) (m := n) (by omega) _ _)) rfl rfl rfl rfl H ?_
      try clear H a W
      intro a W H
      refine pl_end ?_
      replace H : St 139 w a W [(57, .bool false), (8, .int .i64 ((16 * M : Nat) : Int)), (7, .pointer (some ⟨g4, 0, none⟩)), (5, .pointer (some ⟨g3, 0, none⟩)), (4, .pointer (some ⟨g2, 0, none⟩)), (2, .pointer (some ⟨g1, 0, none⟩)), (1, .slice A n cap)] [(g4, 73, nv 17 (dig (acc kk bb n M))), (g3, 71, nv 16 (rD kk)), (g2, 42, bvs (rb 16 b0s)), (g1, 23, bvs (rb 32 kk))] := H.pick [0, 4, 5, 6, 7, 8, 9] [0, 1, 2, 3] rfl
      refine hK75 _ _ ?_
      clear hK75
      refine wp_cond_false (H.ev rfl) ?_
      refine wp_exit ?_
      repeat (with_reducible refine then_exit ?_)
      refine blk_exit ?_
      obtain ⟨A9, hA9⟩ : ∃ x, acc kk bb n M = x := ⟨_, rfl⟩
      rw [hA9] at H
      refine hK43 _ _ ?_
      clear hK43
      refine wp_seq_k (fun K76 hK76 => ?_)
      refine rg_plain ?_
      refine pl_new (news_of rfl al_mark) rfl rfl rfl rfl H ?_
      try clear H a W
      intro g8 a W H
      refine pl_end ?_
      replace H : St 139 w a W [(14, .pointer (some ⟨g8, 0, none⟩)), (7, .pointer (some ⟨g4, 0, none⟩)), (4, .pointer (some ⟨g2, 0, none⟩)), (2, .pointer (some ⟨g1, 0, none⟩))] [(g8, 42, bvs (rb 16 b0s)), (g4, 73, nv 17 (dig A9)), (g3, 71, nv 16 (rD kk)), (g2, 42, bvs (rb 16 b0s)), (g1, 23, bvs (rb 32 kk))] := H.pick [0, 3, 5, 6] [0, 1, 2, 3, 4] rfl
      refine hK76 _ _ ?_
      clear hK76
      refine wp_seq_k (fun K77 hK77 => ?_)
      refine rg_plain ?_
      refine pl_does (does_assign rfl rfl) rfl rfl rfl rfl H ?_
      try clear H a W
      intro a W H
      refine pl_end ?_
      refine hK77 _ _ ?_
      clear hK77
      refine wp_seq_k (fun K78 hK78 => ?_)
      refine wp_seq_k (fun K79 hK79 => ?_)
      refine rg_plain ?_
      refine pl_does (does_assign rfl rfl) rfl rfl rfl rfl H ?_
      try clear H a W
      intro a W H
      refine pl_end ?_
      refine hK79 _ _ ?_
      clear hK79
      refine wp_block ?_
      replace H : St 139 w a W [(16, .int .i64 ((0 : Nat) : Int)), (15, uc (carC 0 (fS kk A9) 0)), (14, .pointer (some ⟨g8, 0, none⟩)), (7, .pointer (some ⟨g4, 0, none⟩)), (4, .pointer (some ⟨g2, 0, none⟩)), (2, .pointer (some ⟨g1, 0, none⟩))] [(g8, 42, bvs (rb 16 (mapB (mF kk A9) b0s 0))), (g4, 73, nv 17 (dig A9)), (g3, 71, nv 16 (rD kk)), (g2, 42, bvs (rb 16 b0s)), (g1, 23, bvs (rb 32 kk))] := H.pick [0, 1, 2, 3, 4, 5] [0, 1, 2, 3, 4] rfl
      refine wp_rounds 16 (fun k a W => St 139 w a W [(16, .int .i64 ((k : Nat) : Int)), (15, uc (carC 0 (fS kk A9) k)), (14, .pointer (some ⟨g8, 0, none⟩)), (7, .pointer (some ⟨g4, 0, none⟩)), (4, .pointer (some ⟨g2, 0, none⟩)), (2, .pointer (some ⟨g1, 0, none⟩))] [(g8, 42, bvs (rb 16 (mapB (mF kk A9) b0s k))), (g4, 73, nv 17 (dig A9)), (g3, 71, nv 16 (rD kk)), (g2, 42, bvs (rb 16 b0s)), (g1, 23, bvs (rb 32 kk))]) (k0 := 0) H (by omega) ?_
      try clear H a W
      intro k a W hk H
      by_cases hk2 : k < 16
      · have b1 := dig_lt A9 k
        have b2 := (kk (16 + k)).toNat_lt
        have b3 := carC_le (c := 0) (b := 510) (f := fS kk A9) (Nat.zero_le _) (fS_le kk A9) k
        refine wp_seq_k (fun K80 hK80 => ?_)
        refine wp_seq_k (fun K81 hK81 => ?_)
        refine rg_plain ?_
        refine pl_does (does_move rfl rfl) rfl rfl rfl rfl H ?_
        try clear H a W
        intro a W H
        refine pl_does (does_binOp rfl rfl rfl (i_lss_yes (k := k) (m := 16) (by omega) _ _)) rfl rfl rfl rfl H ?_
        try clear H a W
        intro a W H
        refine pl_end ?_
        refine hK81 _ _ ?_
        clear hK81
        refine wp_cond_true (H.ev rfl) ?_
        refine wp_skip ?_
        refine hK80 _ _ ?_
        clear hK80
        refine wp_seq_k (fun K82 hK82 => ?_)
        refine wp_block ?_
        refine wp_seq_k (fun K83 hK83 => ?_)
        refine drawnS [.val 121 (.int .i64 ((k : Nat) : Int)) [] [], .val 122 (.pointer (some ⟨g4, k, none⟩)) [0] [], .val 123 (uc ((dig A9) k)) [1] [1], .val 124 (.int .i64 ((k : Nat) : Int)) [] [], .val 125 (.int .i64 ((16 + k : Nat) : Int)) [3] [], .val 126 (.pointer (some ⟨g1, 16 + k, none⟩)) [4] [], .val 127 (bv (kk (16 + k))) [5] [4], .val 128 (uc ((kk (16 + k)).toNat)) [6] [], .val 129 (uc (((dig A9) k) + ((kk (16 + k)).toNat))) [2, 7] [], .val 130 (uc (carC 0 (fS kk A9) k)) [] [], .val 131 (uc ((((dig A9) k) + ((kk (16 + k)).toNat)) + (carC 0 (fS kk A9) k))) [8, 9] [], .val 17 (uc ((((dig A9) k) + ((kk (16 + k)).toNat)) + (carC 0 (fS kk A9) k))) [10] []] [0, 1, 2, 0, 8, 16, 32, 64, 132, 0, 768, 2047] (by kernel_rfl) (by kernel_rfl) (by kernel_rfl) H ⟨⟨does_move rfl rfl, wanted_none rfl⟩, ⟨does_indexAddr rfl rfl rfl (ia_num9 (j := k) (by omega)), wanted_none rfl⟩, ⟨does_loadAt (v := uc ((dig A9) k)) rfl rfl (k := 0) rfl (ld_nv (by omega) (rfl)), wanted_none rfl⟩, ⟨does_move rfl rfl, wanted_none rfl⟩, ⟨does_binOp rfl rfl rfl (i_addE (k := 16) (m := k) rfl (by omega) _ _), wanted_none rfl⟩, ⟨does_indexAddr rfl rfl rfl (ia_key (j := (16 + k)) (by omega)), wanted_none rfl⟩, ⟨does_loadAt (v := bv (kk (16 + k))) rfl rfl (k := 0) rfl (ld_byte (by omega)), wanted_none rfl⟩, ⟨does_convert rfl rfl (cv_bu _), wanted_none rfl⟩, ⟨does_binOp rfl rfl rfl (u_add (x := ((dig A9) k)) (y := ((kk (16 + k)).toNat)) (by omega) _ _), wanted_none rfl⟩, ⟨does_move rfl rfl, wanted_none rfl⟩, ⟨does_binOp rfl rfl rfl (u_add (x := (((dig A9) k) + ((kk (16 + k)).toNat))) (y := (carC 0 (fS kk A9) k)) (by omega) _ _), wanted_none rfl⟩, ⟨does_assign rfl rfl, wanted_none rfl⟩, trivial⟩ ?_
        try clear H a W
        intro G9 a W H
        replace H : St 139 w a W [(121, .int .i64 ((k : Nat) : Int)), (122, .pointer (some ⟨g4, k, none⟩)), (123, uc ((dig A9) k)), (124, .int .i64 ((k : Nat) : Int)), (125, .int .i64 ((16 + k : Nat) : Int)), (126, .pointer (some ⟨g1, 16 + k, none⟩)), (127, bv (kk (16 + k))), (128, uc ((kk (16 + k)).toNat)), (129, uc (((dig A9) k) + ((kk (16 + k)).toNat))), (130, uc (carC 0 (fS kk A9) k)), (131, uc ((((dig A9) k) + ((kk (16 + k)).toNat)) + (carC 0 (fS kk A9) k))), (17, uc ((((dig A9) k) + ((kk (16 + k)).toNat)) + (carC 0 (fS kk A9) k))), (118, .bool true), (117, .int .i64 ((k : Nat) : Int)), (16, .int .i64 ((k : Nat) : Int)), (15, uc (carC 0 (fS kk A9) k)), (14, .pointer (some ⟨g8, 0, none⟩)), (7, .pointer (some ⟨g4, 0, none⟩)), (4, .pointer (some ⟨g2, 0, none⟩)), (2, .pointer (some ⟨g1, 0, none⟩))] [(g8, 42, bvs (rb 16 (mapB (mF kk A9) b0s k))), (g4, 73, nv 17 (dig A9)), (g3, 71, nv 16 (rD kk)), (g2, 42, bvs (rb 16 b0s)), (g1, 23, bvs (rb 32 kk))] := H
        refine hK83 _ _ ?_
        clear hK83
        refine wp_seq_k (fun K84 hK84 => ?_)
        refine rg_plain ?_
        refine pl_does (does_move rfl rfl) rfl rfl rfl rfl H ?_
        try clear H a W
        intro a W H
        refine pl_does (does_move rfl rfl) rfl rfl rfl rfl H ?_
        try clear H a W
        intro a W H
        refine pl_does (does_convert rfl rfl (cv_ub _)) rfl rfl rfl rfl H ?_
        try clear H a W
        intro a W H
        refine pl_does (does_indexAddr rfl rfl rfl (ia_mark (j := k) (by omega))) rfl rfl rfl rfl H ?_
        try clear H a W
        intro a W H
        refine pl_storeAt rfl rfl rfl (k := 0) rfl (st_byte (n := 16) (x := UInt8.ofNat ((((dig A9) k) + ((kk (16 + k)).toNat)) + (carC 0 (fS kk A9) k))) (by omega)) (sv_byte (mapB_step (mF kk A9) _ k)) rfl rfl H ?_
        try clear H a W
        intro a W H
        refine pl_end ?_
        refine hK84 _ _ ?_
        clear hK84
        refine rg_plain ?_
        refine pl_does (does_move rfl rfl) rfl rfl rfl rfl H ?_
        try clear H a W
        intro a W H
        refine pl_does (does_binOp rfl rfl rfl (u_quo (x := ((((dig A9) k) + ((kk (16 + k)).toNat)) + (carC 0 (fS kk A9) k))) (m := 256) (by omega) (by omega) _ _)) rfl rfl rfl rfl H ?_
        try clear H a W
        intro a W H
        replace H : St 139 w a W [(137, uc (((((dig A9) k) + ((kk (16 + k)).toNat)) + (carC 0 (fS kk A9) k)) / 256)), (136, uc ((((dig A9) k) + ((kk (16 + k)).toNat)) + (carC 0 (fS kk A9) k))), (135, .pointer (some ⟨g8, k, none⟩)), (134, bv (UInt8.ofNat ((((dig A9) k) + ((kk (16 + k)).toNat)) + (carC 0 (fS kk A9) k)))), (133, uc ((((dig A9) k) + ((kk (16 + k)).toNat)) + (carC 0 (fS kk A9) k))), (132, .int .i64 ((k : Nat) : Int)), (121, .int .i64 ((k : Nat) : Int)), (122, .pointer (some ⟨g4, k, none⟩)), (123, uc ((dig A9) k)), (124, .int .i64 ((k : Nat) : Int)), (125, .int .i64 ((16 + k : Nat) : Int)), (126, .pointer (some ⟨g1, 16 + k, none⟩)), (127, bv (kk (16 + k))), (128, uc ((kk (16 + k)).toNat)), (129, uc (((dig A9) k) + ((kk (16 + k)).toNat))), (130, uc (carC 0 (fS kk A9) k)), (131, uc ((((dig A9) k) + ((kk (16 + k)).toNat)) + (carC 0 (fS kk A9) k))), (17, uc ((((dig A9) k) + ((kk (16 + k)).toNat)) + (carC 0 (fS kk A9) k))), (118, .bool true), (117, .int .i64 ((k : Nat) : Int)), (16, .int .i64 ((k : Nat) : Int)), (14, .pointer (some ⟨g8, 0, none⟩)), (7, .pointer (some ⟨g4, 0, none⟩)), (4, .pointer (some ⟨g2, 0, none⟩)), (2, .pointer (some ⟨g1, 0, none⟩))] [(g8, 42, bvs (rb 16 (mapB (mF kk A9) b0s (k + 1)))), (g4, 73, nv 17 (dig A9)), (g3, 71, nv 16 (rD kk)), (g2, 42, bvs (rb 16 b0s)), (g1, 23, bvs (rb 32 kk))] := H.pick [0, 1, 2, 3, 4, 5, 6, 7, 8, 9, 10, 11, 12, 13, 14, 15, 16, 17, 18, 19, 20, 22, 23, 24, 25] [0, 1, 2, 3, 4] rfl
        refine pl_does (does_assign rfl rfl) rfl rfl rfl rfl H ?_
        try clear H a W
        intro a W H
        refine pl_end ?_
        refine blk_normal ?_
        refine hK82 _ _ ?_
        clear hK82
        refine rg_plain ?_
        refine pl_does (does_move rfl rfl) rfl rfl rfl rfl H ?_
        try clear H a W
        intro a W H
        refine pl_does (does_binOp rfl rfl rfl (i_addE (k := k) (m := 1) rfl (by omega) _ _)) rfl rfl rfl rfl H ?_
        try clear H a W
        intro a W H
        replace H : St 139 w a W [(120, .int .i64 ((k + 1 : Nat) : Int)), (119, .int .i64 ((k : Nat) : Int)), (15, uc (((((dig A9) k) + ((kk (16 + k)).toNat)) + (carC 0 (fS kk A9) k)) / 256)), (137, uc (((((dig A9) k) + ((kk (16 + k)).toNat)) + (carC 0 (fS kk A9) k)) / 256)), (136, uc ((((dig A9) k) + ((kk (16 + k)).toNat)) + (carC 0 (fS kk A9) k))), (135, .pointer (some ⟨g8, k, none⟩)), (134, bv (UInt8.ofNat ((((dig A9) k) + ((kk (16 + k)).toNat)) + (carC 0 (fS kk A9) k)))), (133, uc ((((dig A9) k) + ((kk (16 + k)).toNat)) + (carC 0 (fS kk A9) k))), (132, .int .i64 ((k : Nat) : Int)), (121, .int .i64 ((k : Nat) : Int)), (122, .pointer (some ⟨g4, k, none⟩)), (123, uc ((dig A9) k)), (124, .int .i64 ((k : Nat) : Int)), (125, .int .i64 ((16 + k : Nat) : Int)), (126, .pointer (some ⟨g1, 16 + k, none⟩)), (127, bv (kk (16 + k))), (128, uc ((kk (16 + k)).toNat)), (129, uc (((dig A9) k) + ((kk (16 + k)).toNat))), (130, uc (carC 0 (fS kk A9) k)), (131, uc ((((dig A9) k) + ((kk (16 + k)).toNat)) + (carC 0 (fS kk A9) k))), (17, uc ((((dig A9) k) + ((kk (16 + k)).toNat)) + (carC 0 (fS kk A9) k))), (118, .bool true), (117, .int .i64 ((k : Nat) : Int)), (14, .pointer (some ⟨g8, 0, none⟩)), (7, .pointer (some ⟨g4, 0, none⟩)), (4, .pointer (some ⟨g2, 0, none⟩)), (2, .pointer (some ⟨g1, 0, none⟩))] [(g8, 42, bvs (rb 16 (mapB (mF kk A9) b0s (k + 1)))), (g4, 73, nv 17 (dig A9)), (g3, 71, nv 16 (rD kk)), (g2, 42, bvs (rb 16 b0s)), (g1, 23, bvs (rb 32 kk))] := H.pick [0, 1, 2, 3, 4, 5, 6, 7, 8, 9, 10, 11, 12, 13, 14, 15, 16, 17, 18, 19, 20, 21, 22, 24, 25, 26, 27] [0, 1, 2, 3, 4] rfl
        refine pl_does (does_assign rfl rfl) rfl rfl rfl rfl H ?_
        try clear H a W
        intro a W H
        refine pl_end ?_
        refine ⟨k + 1, by omega, by omega, ?_⟩
        show St 139 w a W [(16, .int .i64 ((k + 1 : Nat) : Int)), (15, uc (carC 0 (fS kk A9) (k + 1))), (14, .pointer (some ⟨g8, 0, none⟩)), (7, .pointer (some ⟨g4, 0, none⟩)), (4, .pointer (some ⟨g2, 0, none⟩)), (2, .pointer (some ⟨g1, 0, none⟩))] [(g8, 42, bvs (rb 16 (mapB (mF kk A9) b0s (k + 1)))), (g4, 73, nv 17 (dig A9)), (g3, 71, nv 16 (rD kk)), (g2, 42, bvs (rb 16 b0s)), (g1, 23, bvs (rb 32 kk))]
        exact H.pick [0, 3, 24, 25, 26, 27] [0, 1, 2, 3, 4] rfl
      · obtain rfl : 16 = k := by omega
        refine wp_seq_k (fun K85 hK85 => ?_)
        refine wp_seq_k (fun K86 hK86 => ?_)
        refine rg_plain ?_
        refine pl_does (does_move rfl rfl) rfl rfl rfl rfl H ?_
        try clear H a W
        intro a W H
        refine pl_does (does_binOp rfl rfl rfl (i_lss_no (k := 16) (m := 16) (by omega) _ _)) rfl rfl rfl rfl H ?_
        try clear H a W
        intro a W H
        refine pl_end ?_
        replace H : St 139 w a W [(118, .bool false), (16, .int .i64 ((16 : Nat) : Int)), (15, uc (carC 0 (fS kk A9) 16)), (14, .pointer (some ⟨g8, 0, none⟩)), (7, .pointer (some ⟨g4, 0, none⟩)), (4, .pointer (some ⟨g2, 0, none⟩)), (2, .pointer (some ⟨g1, 0, none⟩))] [(g8, 42, bvs (rb 16 (mapB (mF kk A9) b0s 16))), (g4, 73, nv 17 (dig A9)), (g3, 71, nv 16 (rD kk)), (g2, 42, bvs (rb 16 b0s)), (g1, 23, bvs (rb 32 kk))] := H.pick [0, 2, 3, 4, 5, 6, 7] [0, 1, 2, 3, 4] rfl
        refine hK86 _ _ ?_
        clear hK86
        refine wp_cond_false (H.ev rfl) ?_
        refine wp_exit ?_
        repeat (with_reducible refine then_exit ?_)
        refine blk_exit ?_
        rw [mF_all] at H
        refine hK78 _ _ ?_
        clear hK78
        refine wp_seq_k (fun K87 hK87 => ?_)
        refine rg_plain ?_
        refine pl_does (does_load rfl rfl (k := 0) rfl Tryd.underlying42 rfl (info_mark _)) rfl rfl rfl rfl H ?_
        try clear H a W
        intro a W H
        refine pl_store rfl rfl rfl (k := 3) rfl (info_mark _) (size_rb _ _ _) (bvs_one _) rfl rfl H ?_
        try clear H a W
        intro a W H
        refine pl_end ?_
        replace H : St 139 w a W [(4, .pointer (some ⟨g2, 0, none⟩))] [(g8, 42, bvs (rb 16 (markF kk A9))), (g4, 73, nv 17 (dig A9)), (g3, 71, nv 16 (rD kk)), (g2, 42, bvs (rb 16 (markF kk A9))), (g1, 23, bvs (rb 32 kk))] := H.pick [6] [0, 1, 2, 3, 4] rfl
        refine hK87 _ _ ?_
        clear hK87
        refine wp_ret ?_
        repeat (first | (with_reducible refine then_ret ?_) | (with_reducible refine blk_ret ?_))
        refine end_cell (p := 4) rfl rfl (k := 3) rfl Tryd.underlying42 rfl (info_mark _) H (fun hb => ?_)
        exact ⟨by rw [← hA9, hM], hb⟩
end Go.Proofs.YtghbknebaknmjaaDoor
