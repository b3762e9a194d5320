/- Package poly: its inner walks: words that are added, multiplied, folded; the secrets of a key. -/
import Derived.Test.YtghbknebaknmjaaDoorQh
import Derived.Test.YtghbknebaknmjaaDoorVm
namespace Go.Proofs.YtghbknebaknmjaaDoor
set_option linter.unusedVariables false
set_option linter.unusedSimpArgs false
set_option maxRecDepth 100000
open Go Go.RowKit

theorem difQ_def (x y : Nat → Nat) (k : Nat) : (x k + 18446744073709551616 - y k - borQ x y k) % 18446744073709551616 = difQ x y k := rfl
theorem carQ_0 (f : Nat → Nat) : carQ f 0 = 0 := rfl
theorem borQ_0 (x y : Nat → Nat) : borQ x y 0 = 0 := rfl
theorem carQ_succ (f : Nat → Nat) (k : Nat) : carQ f (k + 1) = (f k + carQ f k) / 18446744073709551616 := rfl
theorem add_all (N M : Nat) (g : Nat → Nat) : nv 3 (mapK (resQ (addQ N M)) g 3) = nv 3 (wdg (N + M)) := by
  rw [mapK_all]
  exact nv_ext fun i hi => add_res hi
theorem nv_zero (n : Nat) : nv n n0s = nv n (wdg 0) := nv_ext fun i _ => by simp [wdg]
theorem rows_0 (N R : Nat) : nv 6 n0s = nv 6 (wdg (rowsQ N R 0)) := by rw [rowsQ_0, nv_zero]
theorem rows_1 {N R i : Nat} (hN : N < 6277101735386680763835789423207666416102355444464034512896) : nv 6 (updN (inQ (wdg R i) (rowsQ N R i) N i 3) (i + 3) (carQ (rowF (wdg R i) (rowsQ N R i) N i) 3)) = nv 6 (wdg (rowsQ N R (i + 1))) := nv_ext fun p _ => row_done hN p
theorem dif_all {N : Nat} (hN : N < 6277101735386680763835789423207666416102355444464034512896) (h : PM ≤ N) (g : Nat → Nat) : nv 3 (mapK (difQ (wdg N) (wdg PM)) g 3) = nv 3 (wdg (N - PM)) := by
  rw [mapK_all]
  exact nv_ext fun i hi => (dif_res hN (by decide)).2 h i hi
theorem low_all (V : Nat) : nv 3 (updN (wdg V) 2 (wdg V 2 % 4)) = nv 3 (wdg (loQ V)) := nv_ext fun i hi => loQ_wdg V hi
theorem fol_all {V : Nat} (h : upQ V < 6277101735386680763835789423207666416102355444464034512896) (g : Nat → Nat) : nv 3 (mapK (resQ (folF V)) g 3) = nv 3 (wdg (fold5 V)) := by
  rw [mapK_all]
  exact nv_ext fun i hi => fol_res h hi
theorem nv_take (V : Nat) : spliceA (nv 3 n0s) 0 (((nv 6 (wdg V)).toList.drop 0).take 3) = nv 3 (wdg V) := by
  unfold spliceA nv
  rfl
theorem or_add {x y s : Nat} (hx : x < 2 ^ s) : (x ||| y * 2 ^ s) = x + y * 2 ^ s := by
  rw [Nat.or_comm, ← Nat.shiftLeft_eq, ← Nat.shiftLeft_add_eq_or_of_lt hx, Nat.add_comm]
theorem up_or (V i : Nat) : (wdg V (2 + i) / 4 ||| wdg V (3 + i) * 4611686018427387904 % 18446744073709551616) = wdg (upQ V) i := by
  rw [← upQ_wdg]
  have h1 := wdg_lt V (2 + i)
  have e : wdg V (3 + i) * 4611686018427387904 % 18446744073709551616 = (wdg V (3 + i) % 4) * 2 ^ 62 := by omega
  rw [e]
  exact or_add (by omega)
theorem PM_2 : wdg PM 2 = 3 := by decide +kernel
theorem PM_lt : PM < 6277101735386680763835789423207666416102355444464034512896 := by decide +kernel
def bN (N i : Nat) : UInt8 := UInt8.ofNat (dig N i)
theorem putU {N i : Nat} {b : UInt8} (hN : N < 256 ^ i) : nv 3 (updN (wdg N) (i / 8) (wdg N (i / 8) ||| b.toNat * 2 ^ (8 * (i % 8)) % 18446744073709551616)) = nv 3 (wdg (putN N i b.toNat)) := nv_ext fun p _ => put_wdg hN b.toNat_lt p
theorem bN_step (N k : Nat) : updB (mapB (bN N) b0s k) k (UInt8.ofNat (wdg N (k / 8) / 2 ^ (8 * (k % 8)))) = mapB (bN N) b0s (k + 1) := by
  rw [byte_wdg]
  exact mapB_step (bN N) b0s k
theorem bv_1 : bv 1 = .int .u8 1 := rfl
section
variable {n : Nat} {w0 w : World} {a : Act} {e : Env} {h t : Hep}
theorem St.pickT (H : St n w0 a w e (h ++ t)) (es hs : List Nat) (hr : rises hs = true) : St n w0 a w (picks e es) (picks h hs ++ t) := by
  have hap := List.pairwise_append.1 H.apart
  refine H.sub (fun p hp => ?_) (fun p hp => ?_) (List.pairwise_append.2 ⟨picks_pw hap.1 hr, hap.2.1, fun p hp q hq => ?_⟩)
  · obtain ⟨k, _, hk⟩ := picks_get hp
    exact List.mem_iff_getElem?.2 ⟨k, hk⟩
  · rcases List.mem_append.1 hp with hp | hp
    · obtain ⟨k, _, hk⟩ := picks_get hp
      exact List.mem_append.2 (.inl (List.mem_iff_getElem?.2 ⟨k, hk⟩))
    · exact List.mem_append.2 (.inr hp)
  · obtain ⟨k, _, hk⟩ := picks_get hp
    exact hap.2.2 p (List.mem_iff_getElem?.2 ⟨k, hk⟩) q hq
end
/-! The secrets' bytes. -/
def cA (kk : Nat → UInt8) (n i : Nat) : UInt8 := if i % 4 = 3 ∧ i < 4 * n then UInt8.ofNat ((kk i).toNat % 16) else kk i
def cB (kk : Nat → UInt8) (n i : Nat) : UInt8 := if i % 4 = 0 ∧ 4 ≤ i ∧ i < 4 * n + 4 then UInt8.ofNat ((cA kk 4 i).toNat / 4 * 4) else cA kk 4 i
theorem cA_0 (kk : Nat → UInt8) : cA kk 0 = kk := funext fun i => if_neg (by omega)
theorem cB_0 (kk : Nat → UInt8) : cB kk 0 = cA kk 4 := funext fun i => if_neg (by omega)
theorem cA_step (kk : Nat → UInt8) (n : Nat) : updB (cA kk n) (4 * n + 3) (UInt8.ofNat ((cA kk n (4 * n + 3)).toNat % 16)) = cA kk (n + 1) := funext fun i => by
  have e : cA kk n (4 * n + 3) = kk (4 * n + 3) := if_neg (by omega)
  rw [e]
  unfold updB
  by_cases h : i = 4 * n + 3
  · subst h
    simp only [Nat.beq_eq_true_eq, Nat.beq_refl, cond_true]
    exact (if_pos (by omega)).symm
  · rw [nb_ne h]
    unfold cA
    by_cases h2 : i % 4 = 3 ∧ i < 4 * n
    · exact (if_pos h2).trans (if_pos (by omega)).symm
    · exact (if_neg h2).trans (if_neg (by omega)).symm
theorem cB_step (kk : Nat → UInt8) (n : Nat) : updB (cB kk n) (4 * n + 4) (UInt8.ofNat ((cB kk n (4 * n + 4)).toNat / 4 * 4)) = cB kk (n + 1) := funext fun i => by
  have e : cB kk n (4 * n + 4) = cA kk 4 (4 * n + 4) := if_neg (by omega)
  rw [e]
  unfold updB
  by_cases h : i = 4 * n + 4
  · subst h
    simp only [Nat.beq_eq_true_eq, Nat.beq_refl, cond_true]
    exact (if_pos (by omega)).symm
  · rw [nb_ne h]
    unfold cB
    by_cases h2 : i % 4 = 0 ∧ 4 ≤ i ∧ i < 4 * n + 4
    · exact (if_pos h2).trans (if_pos (by omega)).symm
    · exact (if_neg h2).trans (if_neg (by omega)).symm
theorem cB_r (kk : Nat → UInt8) {i : Nat} (hi : i < 16) : (cB kk 3 i).toNat = rD kk i := by
  have hk := (kk i).toNat_lt
  unfold cB cA rD
  by_cases h1 : i % 4 = 3
  · rw [if_neg (show ¬ (i % 4 = 0 ∧ 4 ≤ i ∧ i < 4 * 3 + 4) by omega), if_pos (show i % 4 = 3 ∧ i < 4 * 4 by omega), if_pos h1, UInt8.toNat_ofNat', Nat.mod_eq_of_lt (show (kk i).toNat % 16 < 2 ^ 8 by omega)]
  · rw [if_neg h1, if_neg (show ¬ (i % 4 = 3 ∧ i < 4 * 4) by omega)]
    by_cases h2 : i = 4 ∨ i = 8 ∨ i = 12
    · rw [if_pos (show i % 4 = 0 ∧ 4 ≤ i ∧ i < 4 * 3 + 4 by omega), if_pos h2, UInt8.toNat_ofNat', Nat.mod_eq_of_lt (show (kk i).toNat / 4 * 4 < 2 ^ 8 by omega)]
    · rw [if_neg (show ¬ (i % 4 = 0 ∧ 4 ≤ i ∧ i < 4 * 3 + 4) by omega), if_neg h2]
theorem cB_s (kk : Nat → UInt8) (i : Nat) : (cB kk 3 (16 + i)).toNat = sD kk i := by
  unfold cB cA sD
  rw [if_neg (by omega), if_neg (by omega)]
theorem put_r (kk : Nat → UInt8) {k : Nat} (hk : k < 16) : putN (sumD (rD kk) k) k (cB kk 3 k).toNat = sumD (rD kk) (k + 1) := by
  rw [cB_r kk hk]
  rfl
theorem put_s (kk : Nat → UInt8) (k : Nat) : putN (sumD (sD kk) k) k (cB kk 3 (16 + k)).toNat = sumD (sD kk) (k + 1) := by
  rw [cB_s]
  rfl
theorem p256_16 {i : Nat} (h : i ≤ 16) : (256 : Nat) ^ i ≤ 256 ^ 16 := Nat.pow_le_pow_right (by omega) h
attribute [local irreducible] nv bvs rb bv wdg sumD rD sD cA cB carQ resQ addQ rowF rowsQ inQ difQ borQ folF upQ loQ fold5 PM putN bN
set_option maxHeartbeats 4000000 in
theorem mulAdd_q {x y z c hi lo : Nat} (hx : x < 18446744073709551616) (hy : y < 18446744073709551616) (hz : z < 18446744073709551616) (hc : c < 18446744073709551616) (eh0 : (x * y + z + c) / 18446744073709551616 = hi) (el0 : (x * y + z + c) % 18446744073709551616 = lo) (w : World) : Calls Tryd.prog 44 #[uc x, uc y, uc z, uc c] w (fun rr w' => rr = .returned (.tuple #[uc hi, uc lo]) ∧ Below w.heap.size w w') := by
  have hxy : x * y ≤ 18446744073709551615 * 18446744073709551615 := Nat.mul_le_mul (by omega) (by omega)
  obtain ⟨h1, e1⟩ : ∃ t, x * y / 18446744073709551616 = t := ⟨_, rfl⟩
  obtain ⟨l1, e2⟩ : ∃ t, x * y % 18446744073709551616 = t := ⟨_, rfl⟩
  obtain ⟨s2, e3⟩ : ∃ t, (l1 + z + 0) % 18446744073709551616 = t := ⟨_, rfl⟩
  obtain ⟨k2, e4⟩ : ∃ t, (l1 + z + 0) / 18446744073709551616 = t := ⟨_, rfl⟩
  obtain ⟨t3, e5⟩ : ∃ t, (s2 + c + 0) % 18446744073709551616 = t := ⟨_, rfl⟩
  obtain ⟨k3, e6⟩ : ∃ t, (s2 + c + 0) / 18446744073709551616 = t := ⟨_, rfl⟩
  have hall : lo = t3 ∧ h1 + k2 + k3 = hi ∧ l1 < 18446744073709551616 ∧ s2 < 18446744073709551616 ∧ hi < 18446744073709551616 := by generalize x * y = m at *; omega
  obtain ⟨rfl, eh, l1_lt, s2_lt, hi_lt⟩ := hall
  clear eh0 el0 hxy
  refine calls_st (vs := [uc x, uc y, uc z, uc c]) 36 Tryd.func44 rfl Tryd.ntmps44 rfl (fun a W H => ?_)
  replace H : St 36 w a W [(0, uc x), (1, uc y), (2, uc z), (3, uc c)] [] := H
  refine wp_seq_k (fun K1 hK1 => ?_)
  refine rg_plain ?_
  refine pl_does (does_assign rfl rfl) rfl rfl rfl rfl H ?_
  try clear H a W
  intro a W H
  refine pl_does (does_assign rfl rfl) rfl rfl rfl rfl H ?_
  try clear H a W
  intro a W H
  refine pl_end ?_
  refine hK1 _ _ ?_
  clear hK1
  refine wp_seq_k (fun K2 hK2 => ?_)
  refine rg_plain ?_
  refine pl_does (does_move rfl rfl) rfl rfl rfl rfl H ?_
  try clear H a W
  intro a W H
  refine pl_does (does_move rfl rfl) rfl rfl rfl rfl H ?_
  try clear H a W
  intro a W H
  refine pl_does (does_call rfl ⟨_, Tryd.func49, by kernel_rfl⟩ rfl (fun W hb => mul64_q hx hy e1 e2 W)) rfl rfl rfl rfl H ?_
  try clear H a W
  intro a W H
  refine pl_does (does_move rfl rfl) rfl rfl rfl rfl H ?_
  try clear H a W
  intro a W H
  refine pl_does (does_extract rfl rfl (fun _ => rfl)) rfl rfl rfl rfl H ?_
  try clear H a W
  intro a W H
  refine pl_does (does_extract rfl rfl (fun _ => rfl)) rfl rfl rfl rfl H ?_
  try clear H a W
  intro a W H
  replace H : St 36 w a W [(16, uc l1), (15, uc h1), (11, .tuple #[uc h1, uc l1]), (14, .tuple #[uc h1, uc l1]), (13, uc y), (12, uc x), (9, .int .u64 0), (0, uc x), (1, uc y), (2, uc z), (3, uc c)] [] := H.pick [0, 1, 2, 3, 4, 5, 6, 8, 9, 10, 11] [] rfl
  refine pl_does (does_assign rfl rfl) rfl rfl rfl rfl H ?_
  try clear H a W
  intro a W H
  replace H : St 36 w a W [(8, uc h1), (16, uc l1), (15, uc h1), (11, .tuple #[uc h1, uc l1]), (14, .tuple #[uc h1, uc l1]), (13, uc y), (12, uc x), (0, uc x), (1, uc y), (2, uc z), (3, uc c)] [] := H.pick [0, 1, 2, 3, 4, 5, 6, 8, 9, 10, 11] [] rfl
  refine pl_does (does_assign rfl rfl) rfl rfl rfl rfl H ?_
  try clear H a W
  intro a W H
  refine pl_end ?_
  replace H : St 36 w a W [(9, uc l1), (8, uc h1), (2, uc z), (3, uc c)] [] := H.pick [0, 1, 10, 11] [] rfl
  refine hK2 _ _ ?_
  clear hK2
  refine wp_seq_k (fun K3 hK3 => ?_)
  refine rg_plain ?_
  refine pl_does (does_move rfl rfl) rfl rfl rfl rfl H ?_
  try clear H a W
  intro a W H
  refine pl_does (does_move rfl rfl) rfl rfl rfl rfl H ?_
  try clear H a W
  intro a W H
  refine pl_does (does_ext rfl rfl (add64_q l1_lt hz (by omega) e3 e4)) rfl rfl rfl rfl H ?_
  try clear H a W
  intro a W H
  refine pl_does (does_move rfl rfl) rfl rfl rfl rfl H ?_
  try clear H a W
  intro a W H
  refine pl_does (does_extract rfl rfl (fun _ => rfl)) rfl rfl rfl rfl H ?_
  try clear H a W
  intro a W H
  refine pl_does (does_extract rfl rfl (fun _ => rfl)) rfl rfl rfl rfl H ?_
  try clear H a W
  intro a W H
  replace H : St 36 w a W [(22, uc k2), (21, uc s2), (17, .tuple #[uc s2, uc k2]), (20, .tuple #[uc s2, uc k2]), (19, uc z), (18, uc l1), (8, uc h1), (2, uc z), (3, uc c)] [] := H.pick [0, 1, 2, 3, 4, 5, 7, 8, 9] [] rfl
  refine pl_does (does_assign rfl rfl) rfl rfl rfl rfl H ?_
  try clear H a W
  intro a W H
  refine pl_does (does_assign rfl rfl) rfl rfl rfl rfl H ?_
  try clear H a W
  intro a W H
  refine pl_end ?_
  replace H : St 36 w a W [(10, uc k2), (9, uc s2), (8, uc h1), (3, uc c)] [] := H.pick [0, 1, 8, 10] [] rfl
  refine hK3 _ _ ?_
  clear hK3
  refine wp_seq_k (fun K4 hK4 => ?_)
  refine rg_plain ?_
  refine pl_does (does_move rfl rfl) rfl rfl rfl rfl H ?_
  try clear H a W
  intro a W H
  refine pl_does (does_move rfl rfl) rfl rfl rfl rfl H ?_
  try clear H a W
  intro a W H
  refine pl_does (does_binOp rfl rfl rfl (u_addE (rfl) (by omega) _ _)) rfl rfl rfl rfl H ?_
  try clear H a W
  intro a W H
  replace H : St 36 w a W [(25, uc (h1 + k2)), (24, uc k2), (23, uc h1), (10, uc k2), (9, uc s2), (3, uc c)] [] := H.pick [0, 1, 2, 3, 4, 6] [] rfl
  refine pl_does (does_assign rfl rfl) rfl rfl rfl rfl H ?_
  try clear H a W
  intro a W H
  refine pl_end ?_
  replace H : St 36 w a W [(8, uc (h1 + k2)), (10, uc k2), (9, uc s2), (3, uc c)] [] := H.pick [0, 4, 5, 6] [] rfl
  refine hK4 _ _ ?_
  clear hK4
  refine wp_seq_k (fun K5 hK5 => ?_)
  refine rg_plain ?_
  refine pl_does (does_move rfl rfl) rfl rfl rfl rfl H ?_
  try clear H a W
  intro a W H
  refine pl_does (does_move rfl rfl) rfl rfl rfl rfl H ?_
  try clear H a W
  intro a W H
  refine pl_does (does_ext rfl rfl (add64_q s2_lt hc (by omega) e5 e6)) rfl rfl rfl rfl H ?_
  try clear H a W
  intro a W H
  refine pl_does (does_move rfl rfl) rfl rfl rfl rfl H ?_
  try clear H a W
  intro a W H
  refine pl_does (does_extract rfl rfl (fun _ => rfl)) rfl rfl rfl rfl H ?_
  try clear H a W
  intro a W H
  refine pl_does (does_extract rfl rfl (fun _ => rfl)) rfl rfl rfl rfl H ?_
  try clear H a W
  intro a W H
  replace H : St 36 w a W [(31, uc k3), (30, uc lo), (26, .tuple #[uc lo, uc k3]), (29, .tuple #[uc lo, uc k3]), (28, uc c), (27, uc s2), (8, uc (h1 + k2)), (10, uc k2), (3, uc c)] [] := H.pick [0, 1, 2, 3, 4, 5, 6, 7, 9] [] rfl
  refine pl_does (does_assign rfl rfl) rfl rfl rfl rfl H ?_
  try clear H a W
  intro a W H
  replace H : St 36 w a W [(9, uc lo), (31, uc k3), (30, uc lo), (26, .tuple #[uc lo, uc k3]), (29, .tuple #[uc lo, uc k3]), (28, uc c), (27, uc s2), (8, uc (h1 + k2)), (3, uc c)] [] := H.pick [0, 1, 2, 3, 4, 5, 6, 7, 9] [] rfl
  refine pl_does (does_assign rfl rfl) rfl rfl rfl rfl H ?_
  try clear H a W
  intro a W H
  refine pl_end ?_
  replace H : St 36 w a W [(10, uc k3), (9, uc lo), (8, uc (h1 + k2))] [] := H.pick [0, 1, 8] [] rfl
  refine hK5 _ _ ?_
  clear hK5
  refine wp_seq_k (fun K6 hK6 => ?_)
  refine rg_plain ?_
  refine pl_does (does_move rfl rfl) rfl rfl rfl rfl H ?_
  try clear H a W
  intro a W H
  refine pl_does (does_move rfl rfl) rfl rfl rfl rfl H ?_
  try clear H a W
  intro a W H
  refine pl_does (does_binOp rfl rfl rfl (u_addE (eh) (by omega) _ _)) rfl rfl rfl rfl H ?_
  try clear H a W
  intro a W H
  refine pl_does (does_move rfl rfl) rfl rfl rfl rfl H ?_
  try clear H a W
  intro a W H
  replace H : St 36 w a W [(35, uc lo), (34, uc hi), (33, uc k3), (32, uc (h1 + k2)), (10, uc k3), (9, uc lo)] [] := H.pick [0, 1, 2, 3, 4, 5] [] rfl
  refine pl_does (does_assign rfl rfl) rfl rfl rfl rfl H ?_
  try clear H a W
  intro a W H
  replace H : St 36 w a W [(8, uc hi), (35, uc lo), (34, uc hi), (33, uc k3), (32, uc (h1 + k2)), (10, uc k3)] [] := H.pick [0, 1, 2, 3, 4, 5] [] rfl
  refine pl_does (does_assign rfl rfl) rfl rfl rfl rfl H ?_
  try clear H a W
  intro a W H
  refine pl_end ?_
  replace H : St 36 w a W [(9, uc lo), (8, uc hi)] [] := H.pick [0, 1] [] rfl
  refine hK6 _ _ ?_
  clear hK6
  refine wp_ret ?_
  repeat (first | (with_reducible refine then_ret ?_) | (with_reducible refine blk_ret ?_))
  refine end_tmps (p := 8) (q := 9) rfl rfl rfl H (fun hb => ?_)
  exact ⟨rfl, hb⟩
theorem res_def (N M : Nat) {k : Nat} : (wdg N k + wdg M k + carQ (addQ N M) k) % 18446744073709551616 = resQ (addQ N M) k := by unfold resQ; rw [show addQ N M k = wdg N k + wdg M k by unfold addQ; rfl]
theorem car_def (N M : Nat) {k : Nat} : (wdg N k + wdg M k + carQ (addQ N M) k) / 18446744073709551616 = carQ (addQ N M) (k + 1) := by rw [carQ_succ, show addQ N M k = wdg N k + wdg M k by unfold addQ; rfl]
set_option maxHeartbeats 4000000 in
theorem plus_any (N M : Nat) (w : World) : Calls Tryd.prog 36 #[.agg (nv 3 (wdg N)), .agg (nv 3 (wdg M))] w (fun rr w' => rr = .returned (.agg (nv 3 (wdg (N + M)))) ∧ Below w.heap.size w w') := by
  refine calls_st (vs := [.agg (nv 3 (wdg N)), .agg (nv 3 (wdg M))]) 25 Tryd.func36 rfl Tryd.ntmps36 rfl (fun a W H => ?_)
  replace H : St 25 w a W [(0, .agg (nv 3 (wdg N))), (1, .agg (nv 3 (wdg M)))] [] := H
  refine wp_seq_k (fun K1 hK1 => ?_)
  refine rg_plain ?_
  refine pl_box rfl rfl (bx_n3 (wdg N)) rfl rfl rfl rfl H ?_
  try clear H a W
  intro g1 a W H
  refine pl_box rfl rfl (bx_n3 (wdg M)) rfl rfl rfl rfl H ?_
  try clear H a W
  intro g2 a W H
  refine pl_new (news_of rfl al_n3) rfl rfl rfl rfl H ?_
  try clear H a W
  intro g3 a W H
  refine pl_end ?_
  replace H : St 25 w a W [(4, .pointer (some ⟨g3, 0, none⟩)), (3, .pointer (some ⟨g2, 0, none⟩)), (2, .pointer (some ⟨g1, 0, none⟩))] [(g3, 62, nv 3 n0s), (g2, 62, nv 3 (wdg M)), (g1, 62, nv 3 (wdg N))] := H.pick [0, 1, 2] [0, 1, 2] rfl
  refine hK1 _ _ ?_
  clear hK1
  refine wp_seq_k (fun K2 hK2 => ?_)
  refine rg_plain ?_
  refine pl_does (does_assign rfl rfl) rfl rfl rfl rfl H ?_
  try clear H a W
  intro a W H
  refine pl_end ?_
  refine hK2 _ _ ?_
  clear hK2
  refine wp_seq_k (fun K3 hK3 => ?_)
  refine wp_seq_k (fun K4 hK4 => ?_)
  refine rg_plain ?_
  refine pl_does (does_move rfl rfl) rfl rfl rfl rfl H ?_
  try clear H a W
  intro a W H
  refine pl_end ?_
  refine hK4 _ _ ?_
  clear hK4
  replace H : St 25 w a W [(7, .int .i64 0), (5, uc (carQ (addQ N M) 0)), (4, .pointer (some ⟨g3, 0, none⟩)), (3, .pointer (some ⟨g2, 0, none⟩)), (2, .pointer (some ⟨g1, 0, none⟩))] [(g3, 62, nv 3 n0s), (g2, 62, nv 3 (wdg M)), (g1, 62, nv 3 (mapK (resQ (addQ N M)) (wdg N) 0))] := by rw [mapK_0, carQ_0]; exact H
  refine wp_block ?_
  replace H : St 25 w a W [(7, .int .i64 ((0 : Nat) : Int)), (5, uc (carQ (addQ N M) 0)), (4, .pointer (some ⟨g3, 0, none⟩)), (3, .pointer (some ⟨g2, 0, none⟩)), (2, .pointer (some ⟨g1, 0, none⟩))] [(g3, 62, nv 3 n0s), (g2, 62, nv 3 (wdg M)), (g1, 62, nv 3 (mapK (resQ (addQ N M)) (wdg N) 0))] := H.pick [0, 1, 2, 3, 4] [0, 1, 2] rfl
  refine wp_rounds 3 (fun k a W => St 25 w a W [(7, .int .i64 ((k : Nat) : Int)), (5, uc (carQ (addQ N M) k)), (4, .pointer (some ⟨g3, 0, none⟩)), (3, .pointer (some ⟨g2, 0, none⟩)), (2, .pointer (some ⟨g1, 0, none⟩))] [(g3, 62, nv 3 n0s), (g2, 62, nv 3 (wdg M)), (g1, 62, nv 3 (mapK (resQ (addQ N M)) (wdg N) k))]) (k0 := 0) H (by omega) ?_
  try clear H a W
  intro k a W hk H
  by_cases hk2 : k < 3
  · refine wp_seq_k (fun K5 hK5 => ?_)
    refine rg_plain ?_
    refine pl_does (does_binOp rfl rfl rfl (i_lss_yes (k := k) (m := 3) (by omega) _ _)) rfl rfl rfl rfl H ?_
    try clear H a W
    intro a W H
    refine pl_end ?_
    refine hK5 _ _ ?_
    clear hK5
    refine wp_seq_k (fun K6 hK6 => ?_)
    refine wp_cond_true (H.ev rfl) ?_
    refine wp_skip ?_
    refine hK6 _ _ ?_
    clear hK6
    refine wp_seq_k (fun K7 hK7 => ?_)
    refine wp_block ?_
    refine wp_seq_k (fun K8 hK8 => ?_)
    refine rg_plain ?_
    refine pl_does (does_move rfl rfl) rfl rfl rfl rfl H ?_
    try clear H a W
    intro a W H
    refine pl_does (does_assign rfl rfl) rfl rfl rfl rfl H ?_
    try clear H a W
    intro a W H
    refine pl_end ?_
    refine hK8 _ _ ?_
    clear hK8
    replace H : St 25 w a W [(5, uc (carQ (addQ N M) k)), (6, .int .i64 ((k : Nat) : Int)), (9, .int .i64 ((k : Nat) : Int)), (8, .bool true), (7, .int .i64 ((k : Nat) : Int)), (4, .pointer (some ⟨g3, 0, none⟩)), (3, .pointer (some ⟨g2, 0, none⟩)), (2, .pointer (some ⟨g1, 0, none⟩))] [(g3, 62, nv 3 n0s), (g2, 62, nv 3 (wdg M)), (g1, 62, nv 3 (mapK (resQ (addQ N M)) (wdg N) k))] := H.sub (by simp) (fun _ h => h) H.apart
    refine drawnSO (e := [(6, .int .i64 ((k : Nat) : Int)), (9, .int .i64 ((k : Nat) : Int)), (8, .bool true), (7, .int .i64 ((k : Nat) : Int)), (4, .pointer (some ⟨g3, 0, none⟩)), (3, .pointer (some ⟨g2, 0, none⟩)), (2, .pointer (some ⟨g1, 0, none⟩))]) [(5, uc (carQ (addQ N M) k), 14)] [[(5, uc (carQ (addQ N M) k))], [(5, uc (carQ (addQ N M) k))], [(5, uc (carQ (addQ N M) k))], [(5, uc (carQ (addQ N M) k))], [(5, uc (carQ (addQ N M) k))], [(5, uc (carQ (addQ N M) k))], [(5, uc (carQ (addQ N M) k))], [(5, uc (carQ (addQ N M) k))], [(5, uc (carQ (addQ N M) k))], [(5, uc (carQ (addQ N M) k))], [(5, uc (carQ (addQ N M) k))], [(5, uc (carQ (addQ N M) k))], [(5, uc (carQ (addQ N M) k))], [(5, uc (carQ (addQ N M) k))], [(5, uc (carQ (addQ N M) k))]] [.val 11 (.int .i64 ((k : Nat) : Int)) [] [], .val 12 (.int .i64 ((k : Nat) : Int)) [] [], .val 13 (.pointer (some ⟨g1, k, none⟩)) [1] [], .val 14 (uc (wdg N k)) [2] [2], .val 15 (.int .i64 ((k : Nat) : Int)) [] [], .val 16 (.pointer (some ⟨g2, k, none⟩)) [4] [], .val 17 (uc ((wdg M) k)) [5] [1], .val 18 (uc (carQ (addQ N M) k)) [] [], .val 19 (.tuple #[uc (resQ (addQ N M) k), uc (carQ (addQ N M) (k + 1))]) [3, 6, 7] [], .val 10 (.tuple #[uc (resQ (addQ N M) k), uc (carQ (addQ N M) (k + 1))]) [8] [], .val 20 (uc (resQ (addQ N M) k)) [9] [], .val 21 (uc (carQ (addQ N M) (k + 1))) [9] [], .val 22 (.pointer (some ⟨g1, k, none⟩)) [0] [], .sto 2 g1 62 (nv 3 (mapK (resQ (addQ N M)) (wdg N) k)) (nv 3 (mapK (resQ (addQ N M)) (wdg N) (k + 1))) [12, 10], .val 5 (uc (carQ (addQ N M) (k + 1))) [11] []] [0, 0, 2, 4, 0, 16, 32, 0, 200, 256, 512, 512, 2047, 6143, 16383] (by kernel_rfl) (by kernel_rfl) (by kernel_rfl) (by kernel_rfl) (by kernel_rfl) H ⟨⟨does_move rfl rfl, wanted_none rfl⟩, ⟨does_move rfl rfl, wanted_none rfl⟩, ⟨does_indexAddr rfl rfl rfl (ia_n3 (j := k) (by omega)), wanted_none rfl⟩, ⟨does_loadAt (v := uc (wdg N k)) rfl rfl (k := 0) rfl (ld_nv (by omega) (mapK_same _ _ _)), wanted_none rfl⟩, ⟨does_move rfl rfl, wanted_none rfl⟩, ⟨does_indexAddr rfl rfl rfl (ia_n3 (j := k) (by omega)), wanted_none rfl⟩, ⟨does_loadAt (v := uc ((wdg M) k)) rfl rfl (k := 0) rfl (ld_nv (by omega) (rfl)), wanted_none rfl⟩, ⟨does_move rfl rfl, wanted_none rfl⟩, ⟨does_ext rfl rfl (add64_q (wdg_lt N k) (wdg_lt M k) (carQ_one (addQ_le N M) k) (res_def _ _) (car_def _ _)), wanted_none rfl⟩, ⟨does_move rfl rfl, wanted_none rfl⟩, ⟨does_extract rfl rfl (fun _ => rfl), wanted_none rfl⟩, ⟨does_extract rfl rfl (fun _ => rfl), wanted_none rfl⟩, ⟨does_indexAddr rfl rfl rfl (ia_n3 (j := k) (by omega)), wanted_none rfl⟩, ⟨rfl, rfl, sto_at rfl rfl rfl (st_nv (by omega)) (sv_nv (mapK_step (resQ (addQ N M)) _ k))⟩, ⟨does_assign rfl rfl, wanted_none rfl⟩, trivial⟩ ?_
    try clear H a W
    intro G4 a W H
    replace H : St 25 w a W [(11, .int .i64 ((k : Nat) : Int)), (12, .int .i64 ((k : Nat) : Int)), (13, .pointer (some ⟨g1, k, none⟩)), (14, uc (wdg N k)), (15, .int .i64 ((k : Nat) : Int)), (16, .pointer (some ⟨g2, k, none⟩)), (17, uc ((wdg M) k)), (18, uc (carQ (addQ N M) k)), (19, .tuple #[uc (resQ (addQ N M) k), uc (carQ (addQ N M) (k + 1))]), (10, .tuple #[uc (resQ (addQ N M) k), uc (carQ (addQ N M) (k + 1))]), (20, uc (resQ (addQ N M) k)), (21, uc (carQ (addQ N M) (k + 1))), (22, .pointer (some ⟨g1, k, none⟩)), (5, uc (carQ (addQ N M) (k + 1))), (6, .int .i64 ((k : Nat) : Int)), (9, .int .i64 ((k : Nat) : Int)), (8, .bool true), (7, .int .i64 ((k : Nat) : Int)), (4, .pointer (some ⟨g3, 0, none⟩)), (3, .pointer (some ⟨g2, 0, none⟩)), (2, .pointer (some ⟨g1, 0, none⟩))] [(g3, 62, nv 3 n0s), (g2, 62, nv 3 (wdg M)), (g1, 62, nv 3 (mapK (resQ (addQ N M)) (wdg N) (k + 1)))] := H
    refine blk_normal ?_
    refine hK7 _ _ ?_
    clear hK7
    refine rg_plain ?_
    refine pl_does (does_binOp rfl rfl rfl (i_addE (k := k) (m := 1) rfl (by omega) _ _)) rfl rfl rfl rfl H ?_
    try clear H a W
    intro a W H
    replace H : St 25 w a W [(23, .int .i64 ((k + 1 : Nat) : Int)), (11, .int .i64 ((k : Nat) : Int)), (12, .int .i64 ((k : Nat) : Int)), (13, .pointer (some ⟨g1, k, none⟩)), (14, uc (wdg N k)), (15, .int .i64 ((k : Nat) : Int)), (16, .pointer (some ⟨g2, k, none⟩)), (17, uc ((wdg M) k)), (18, uc (carQ (addQ N M) k)), (19, .tuple #[uc (resQ (addQ N M) k), uc (carQ (addQ N M) (k + 1))]), (10, .tuple #[uc (resQ (addQ N M) k), uc (carQ (addQ N M) (k + 1))]), (20, uc (resQ (addQ N M) k)), (21, uc (carQ (addQ N M) (k + 1))), (22, .pointer (some ⟨g1, k, none⟩)), (5, uc (carQ (addQ N M) (k + 1))), (6, .int .i64 ((k : Nat) : Int)), (9, .int .i64 ((k : Nat) : Int)), (8, .bool true), (4, .pointer (some ⟨g3, 0, none⟩)), (3, .pointer (some ⟨g2, 0, none⟩)), (2, .pointer (some ⟨g1, 0, none⟩))] [(g3, 62, nv 3 n0s), (g2, 62, nv 3 (wdg M)), (g1, 62, nv 3 (mapK (resQ (addQ N M)) (wdg N) (k + 1)))] := H.pick [0, 1, 2, 3, 4, 5, 6, 7, 8, 9, 10, 11, 12, 13, 14, 15, 16, 17, 19, 20, 21] [0, 1, 2] rfl
    refine pl_does (does_move rfl rfl) rfl rfl rfl rfl H ?_
    try clear H a W
    intro a W H
    refine pl_end ?_
    refine ⟨k + 1, by omega, by omega, ?_⟩
    show St 25 w a W [(7, .int .i64 ((k + 1 : Nat) : Int)), (5, uc (carQ (addQ N M) (k + 1))), (4, .pointer (some ⟨g3, 0, none⟩)), (3, .pointer (some ⟨g2, 0, none⟩)), (2, .pointer (some ⟨g1, 0, none⟩))] [(g3, 62, nv 3 n0s), (g2, 62, nv 3 (wdg M)), (g1, 62, nv 3 (mapK (resQ (addQ N M)) (wdg N) (k + 1)))]
    exact H.pick [0, 15, 19, 20, 21] [0, 1, 2] rfl
  · obtain rfl : 3 = k := by omega
    refine wp_seq_k (fun K9 hK9 => ?_)
    refine rg_plain ?_
    refine pl_does (does_binOp rfl rfl rfl (i_lss_no (k := 3) (m := 3) (by omega) _ _)) rfl rfl rfl rfl H ?_
    try clear H a W
    intro a W H
    refine pl_end ?_
    refine hK9 _ _ ?_
    clear hK9
    refine wp_seq_k (fun K10 hK10 => ?_)
    refine wp_cond_false (H.ev rfl) ?_
    refine wp_exit ?_
    repeat (with_reducible refine then_exit ?_)
    refine blk_exit ?_
    rw [add_all] at H
    refine hK3 _ _ ?_
    clear hK3
    refine wp_seq_k (fun K11 hK11 => ?_)
    refine rg_plain ?_
    refine pl_does (does_load rfl rfl (k := 2) rfl Tryd.underlying62 rfl (info_n3 _)) rfl rfl rfl rfl H ?_
    try clear H a W
    intro a W H
    refine pl_store rfl rfl rfl (k := 0) rfl (info_n3 _) (size_nv _ _ _) (nv_one _ _) rfl rfl H ?_
    try clear H a W
    intro a W H
    refine pl_end ?_
    replace H : St 25 w a W [(4, .pointer (some ⟨g3, 0, none⟩))] [(g3, 62, nv 3 (wdg (N + M))), (g2, 62, nv 3 (wdg M)), (g1, 62, nv 3 (wdg (N + M)))] := H.pick [4] [0, 1, 2] rfl
    refine hK11 _ _ ?_
    clear hK11
    refine wp_ret ?_
    repeat (first | (with_reducible refine then_ret ?_) | (with_reducible refine blk_ret ?_))
    refine end_cell (p := 4) rfl rfl (k := 0) rfl Tryd.underlying62 rfl (info_n3 _) H (fun hb => ?_)
    exact ⟨rfl, hb⟩
theorem fres_def (V : Nat) {k : Nat} : (wdg (upQ V) k * 5 + wdg (loQ V) k + carQ (folF V) k) % 18446744073709551616 = resQ (folF V) k := by unfold resQ; rw [show folF V k = wdg (upQ V) k * 5 + wdg (loQ V) k by unfold folF; rfl]
theorem fcar_def (V : Nat) {k : Nat} : (wdg (upQ V) k * 5 + wdg (loQ V) k + carQ (folF V) k) / 18446744073709551616 = carQ (folF V) (k + 1) := by rw [carQ_succ, show folF V k = wdg (upQ V) k * 5 + wdg (loQ V) k by unfold folF; rfl]
set_option maxHeartbeats 4000000 in
theorem folded_any {V : Nat} (hV : upQ V < 6277101735386680763835789423207666416102355444464034512896) (w : World) (hpg : PG w) : Calls Tryd.prog 45 #[.agg (nv 6 (wdg V))] w (fun rr w' => rr = .returned (.agg (nv 3 (wdg (fold5 V)))) ∧ Below w.heap.size w w') := by
  refine calls_st (vs := [.agg (nv 6 (wdg V))]) 43 Tryd.func45 rfl Tryd.ntmps45 rfl (fun a W H => ?_)
  replace H : St 43 w a W [(0, .agg (nv 6 (wdg V)))] [] := H
  refine wp_seq_k (fun K1 hK1 => ?_)
  refine rg_plain ?_
  refine pl_box rfl rfl (bx_n6 (wdg V)) rfl rfl rfl rfl H ?_
  try clear H a W
  intro g1 a W H
  refine pl_new (news_of rfl al_n3) rfl rfl rfl rfl H ?_
  try clear H a W
  intro g2 a W H
  refine pl_end ?_
  replace H : St 43 w a W [(2, .pointer (some ⟨g2, 0, none⟩)), (1, .pointer (some ⟨g1, 0, none⟩))] [(g2, 62, nv 3 n0s), (g1, 83, nv 6 (wdg V))] := H.pick [0, 1] [0, 1] rfl
  refine hK1 _ _ ?_
  clear hK1
  refine wp_seq_k (fun K2 hK2 => ?_)
  refine rg_plain ?_
  refine pl_new (news_of rfl al_n3) rfl rfl rfl rfl H ?_
  try clear H a W
  intro g3 a W H
  refine pl_end ?_
  refine hK2 _ _ ?_
  clear hK2
  refine wp_seq_k (fun K3 hK3 => ?_)
  refine drawnR SB SB [⟨7, fun u_ _ => u_ = .slice (some ⟨g3, 0, none⟩) 3 3, [], none, false⟩, ⟨8, fun u_ _ => u_ = .slice (some ⟨g1, 0, none⟩) 3 6, [], none, false⟩] [0, 0, 3] [0, 1] sb_st sb_st (by kernel_rfl) (by kernel_rfl) (by kernel_rfl) H ⟨⟨fun a W  H => by exact ob_valS H (wanted_none rfl) (does_slice rfl rfl (vl := none) (vh := none) rfl rfl (sl_n3 g3)), val_grow, fun _ => val_grow⟩, ⟨fun a W  H => by exact ob_valS H (wanted_none rfl) (does_slice rfl rfl (vl := none) (vh := some (.int .i64 3)) rfl rfl (sl_n6 g1)), val_grow, fun _ => val_grow⟩, trivial⟩ (by kernel_rfl) ?_
  try clear H a W
  intro a W
  rintro _ rfl
  rintro _ rfl
  intro H
  replace H : St 43 w a W [(8, .slice (some ⟨g1, 0, none⟩) 3 6), (7, .slice (some ⟨g3, 0, none⟩) 3 3), (3, .pointer (some ⟨g3, 0, none⟩)), (2, .pointer (some ⟨g2, 0, none⟩)), (1, .pointer (some ⟨g1, 0, none⟩))] [(g3, 62, nv 3 n0s), (g2, 62, nv 3 n0s), (g1, 83, nv 6 (wdg V))] := H
  refine pl_copy rfl Tryd.underlying90 size_u64 rfl rfl (k := 0) rfl (k2 := 2) rfl (m := 3) rfl (by rw [nv_size]; omega) (by rw [nv_size]; omega) (nv_one _ _) (nv_take V) rfl rfl rfl rfl H ?_
  try clear H a W
  intro a W H
  replace H : St 43 w a W [(9, .int .i64 ((3 : Nat) : Int)), (8, .slice (some ⟨g1, 0, none⟩) 3 6), (7, .slice (some ⟨g3, 0, none⟩) 3 3), (3, .pointer (some ⟨g3, 0, none⟩)), (2, .pointer (some ⟨g2, 0, none⟩)), (1, .pointer (some ⟨g1, 0, none⟩))] [(g3, 62, nv 3 (wdg V)), (g2, 62, nv 3 n0s), (g1, 83, nv 6 (wdg V))] := H
  refine pl_end ?_
  replace H : St 43 w a W [(3, .pointer (some ⟨g3, 0, none⟩)), (2, .pointer (some ⟨g2, 0, none⟩)), (1, .pointer (some ⟨g1, 0, none⟩))] [(g3, 62, nv 3 (wdg V)), (g2, 62, nv 3 n0s), (g1, 83, nv 6 (wdg V))] := H.pick [3, 4, 5] [0, 1, 2] rfl
  refine hK3 _ _ ?_
  clear hK3
  refine wp_seq_k (fun K4 hK4 => ?_)
  refine rg_plain ?_
  refine pl_does (does_indexAddr rfl rfl rfl (ia_n3 (j := 2) (by omega))) rfl rfl rfl rfl H ?_
  try clear H a W
  intro a W H
  refine pl_does (does_loadAt (v := uc ((wdg V) 2)) rfl rfl (k := 0) rfl (ld_nv (by omega) (rfl))) rfl rfl rfl rfl H ?_
  try clear H a W
  intro a W H
  refine pl_does (does_indexAddr rfl rfl rfl (ia_n3 (j := 2) (by omega))) rfl rfl rfl rfl H ?_
  try clear H a W
  intro a W H
  refine pl_does (does_loadCell (v := uc 3) rfl rfl (by rw [← PM_2]; exact hpg.cell 2 (by omega)) hpg.lt ld_cellU) rfl rfl rfl rfl H ?_
  try clear H a W
  intro a W H
  refine pl_does (does_binOp rfl rfl rfl (u_and3 (wdg_lt V 2) _ _)) rfl rfl rfl rfl H ?_
  try clear H a W
  intro a W H
  refine pl_does (does_indexAddr rfl rfl rfl (ia_n3 (j := 2) (by omega))) rfl rfl rfl rfl H ?_
  try clear H a W
  intro a W H
  refine pl_storeAt rfl rfl rfl (k := 0) rfl (st_nv (by omega)) (sv_nv rfl) rfl rfl H ?_
  try clear H a W
  intro a W H
  refine pl_end ?_
  replace H : St 43 w a W [(3, .pointer (some ⟨g3, 0, none⟩)), (2, .pointer (some ⟨g2, 0, none⟩)), (1, .pointer (some ⟨g1, 0, none⟩))] [(g3, 62, nv 3 (updN (wdg V) 2 ((wdg V) 2 % 4))), (g2, 62, nv 3 n0s), (g1, 83, nv 6 (wdg V))] := H.pick [6, 7, 8] [0, 1, 2] rfl
  refine hK4 _ _ ?_
  clear hK4
  refine wp_seq_k (fun K5 hK5 => ?_)
  refine rg_plain ?_
  refine pl_does (does_assign rfl rfl) rfl rfl rfl rfl H ?_
  try clear H a W
  intro a W H
  refine pl_end ?_
  refine hK5 _ _ ?_
  clear hK5
  refine wp_seq_k (fun K6 hK6 => ?_)
  refine wp_seq_k (fun K7 hK7 => ?_)
  refine rg_plain ?_
  refine pl_does (does_move rfl rfl) rfl rfl rfl rfl H ?_
  try clear H a W
  intro a W H
  refine pl_end ?_
  refine hK7 _ _ ?_
  clear hK7
  rw [low_all] at H
  replace H : St 43 w a W [(16, .int .i64 0), (4, uc (carQ (folF V) 0)), (3, .pointer (some ⟨g3, 0, none⟩)), (2, .pointer (some ⟨g2, 0, none⟩)), (1, .pointer (some ⟨g1, 0, none⟩))] [(g3, 62, nv 3 (mapK (resQ (folF V)) (wdg (loQ V)) 0)), (g2, 62, nv 3 n0s), (g1, 83, nv 6 (wdg V))] := by rw [mapK_0, carQ_0]; exact H
  refine wp_block ?_
  replace H : St 43 w a W [(16, .int .i64 ((0 : Nat) : Int)), (4, uc (carQ (folF V) 0)), (3, .pointer (some ⟨g3, 0, none⟩)), (2, .pointer (some ⟨g2, 0, none⟩)), (1, .pointer (some ⟨g1, 0, none⟩))] [(g3, 62, nv 3 (mapK (resQ (folF V)) (wdg (loQ V)) 0)), (g2, 62, nv 3 n0s), (g1, 83, nv 6 (wdg V))] := H.pick [0, 1, 2, 3, 4] [0, 1, 2] rfl
  refine wp_rounds 3 (fun k a W => St 43 w a W [(16, .int .i64 ((k : Nat) : Int)), (4, uc (carQ (folF V) k)), (3, .pointer (some ⟨g3, 0, none⟩)), (2, .pointer (some ⟨g2, 0, none⟩)), (1, .pointer (some ⟨g1, 0, none⟩))] [(g3, 62, nv 3 (mapK (resQ (folF V)) (wdg (loQ V)) k)), (g2, 62, nv 3 n0s), (g1, 83, nv 6 (wdg V))]) (k0 := 0) H (by omega) ?_
  try clear H a W
  intro k a W hk H
  by_cases hk2 : k < 3
  · refine wp_seq_k (fun K8 hK8 => ?_)
    refine rg_plain ?_
    refine pl_does (does_binOp rfl rfl rfl (i_lss_yes (k := k) (m := 3) (by omega) _ _)) rfl rfl rfl rfl H ?_
    try clear H a W
    intro a W H
    refine pl_end ?_
    refine hK8 _ _ ?_
    clear hK8
    refine wp_seq_k (fun K9 hK9 => ?_)
    refine wp_cond_true (H.ev rfl) ?_
    refine wp_skip ?_
    refine hK9 _ _ ?_
    clear hK9
    refine wp_seq_k (fun K10 hK10 => ?_)
    refine wp_block ?_
    refine wp_seq_k (fun K11 hK11 => ?_)
    refine rg_plain ?_
    refine pl_does (does_move rfl rfl) rfl rfl rfl rfl H ?_
    try clear H a W
    intro a W H
    refine pl_does (does_assign rfl rfl) rfl rfl rfl rfl H ?_
    try clear H a W
    intro a W H
    refine pl_end ?_
    refine hK11 _ _ ?_
    clear hK11
    refine wp_seq_k (fun K12 hK12 => ?_)
    refine drawnS [.val 19 (.int .i64 ((k : Nat) : Int)) [] [], .val 20 (.int .i64 ((2 + k : Nat) : Int)) [0] [], .val 21 (.pointer (some ⟨g1, 2 + k, none⟩)) [1] [], .val 22 (uc ((wdg V) (2 + k))) [2] [2], .val 23 (uc (((wdg V) (2 + k)) / 4)) [3] [], .val 24 (.int .i64 ((k : Nat) : Int)) [] [], .val 25 (.int .i64 ((3 + k : Nat) : Int)) [5] [], .val 26 (.pointer (some ⟨g1, 3 + k, none⟩)) [6] [], .val 27 (uc ((wdg V) (3 + k))) [7] [2], .val 28 (uc (((wdg V) (3 + k)) * 4611686018427387904 % 18446744073709551616)) [8] [], .val 29 (uc (wdg (upQ V) k)) [4, 9] [], .val 6 (uc (wdg (upQ V) k)) [10] []] [0, 1, 2, 4, 8, 0, 32, 64, 128, 256, 528, 2047] (by kernel_rfl) (by kernel_rfl) (by kernel_rfl) H ⟨⟨does_move rfl rfl, wanted_none rfl⟩, ⟨does_binOp rfl rfl rfl (i_addE (k := 2) (m := k) rfl (by omega) _ _), wanted_none rfl⟩, ⟨does_indexAddr rfl rfl rfl (ia_n6 (j := (2 + k)) (by omega)), wanted_none rfl⟩, ⟨does_loadAt (v := uc ((wdg V) (2 + k))) rfl rfl (k := 0) rfl (ld_nv (by omega) (rfl)), wanted_none rfl⟩, ⟨does_binOp rfl rfl rfl (u_shr2 _ _ _), wanted_none rfl⟩, ⟨does_move rfl rfl, wanted_none rfl⟩, ⟨does_binOp rfl rfl rfl (i_addE (k := 3) (m := k) rfl (by omega) _ _), wanted_none rfl⟩, ⟨does_indexAddr rfl rfl rfl (ia_n6 (j := (3 + k)) (by omega)), wanted_none rfl⟩, ⟨does_loadAt (v := uc ((wdg V) (3 + k))) rfl rfl (k := 0) rfl (ld_nv (by omega) (rfl)), wanted_none rfl⟩, ⟨does_binOp rfl rfl rfl (u_shl62 _ _ _), wanted_none rfl⟩, ⟨does_binOp rfl rfl rfl (u_orE (by have := wdg_lt V (2 + k); omega) (by omega) (up_or V k) _ _), wanted_none rfl⟩, ⟨does_assign rfl rfl, wanted_none rfl⟩, trivial⟩ ?_
    try clear H a W
    intro G4 a W H
    replace H : St 43 w a W [(19, .int .i64 ((k : Nat) : Int)), (20, .int .i64 ((2 + k : Nat) : Int)), (21, .pointer (some ⟨g1, 2 + k, none⟩)), (22, uc ((wdg V) (2 + k))), (23, uc (((wdg V) (2 + k)) / 4)), (24, .int .i64 ((k : Nat) : Int)), (25, .int .i64 ((3 + k : Nat) : Int)), (26, .pointer (some ⟨g1, 3 + k, none⟩)), (27, uc ((wdg V) (3 + k))), (28, uc (((wdg V) (3 + k)) * 4611686018427387904 % 18446744073709551616)), (29, uc (wdg (upQ V) k)), (6, uc (wdg (upQ V) k)), (5, .int .i64 ((k : Nat) : Int)), (18, .int .i64 ((k : Nat) : Int)), (17, .bool true), (16, .int .i64 ((k : Nat) : Int)), (4, uc (carQ (folF V) k)), (3, .pointer (some ⟨g3, 0, none⟩)), (2, .pointer (some ⟨g2, 0, none⟩)), (1, .pointer (some ⟨g1, 0, none⟩))] [(g3, 62, nv 3 (mapK (resQ (folF V)) (wdg (loQ V)) k)), (g2, 62, nv 3 n0s), (g1, 83, nv 6 (wdg V))] := H
    refine hK12 _ _ ?_
    clear hK12
    refine rg_plain ?_
    refine pl_does (does_move rfl rfl) rfl rfl rfl rfl H ?_
    try clear H a W
    intro a W H
    refine pl_does (does_move rfl rfl) rfl rfl rfl rfl H ?_
    try clear H a W
    intro a W H
    refine pl_does (does_move rfl rfl) rfl rfl rfl rfl H ?_
    try clear H a W
    intro a W H
    refine pl_does (does_indexAddr rfl rfl rfl (ia_n3 (j := k) (by omega))) rfl rfl rfl rfl H ?_
    try clear H a W
    intro a W H
    refine pl_does (does_loadAt (v := uc (wdg (loQ V) k)) rfl rfl (k := 0) rfl (ld_nv (by omega) (mapK_same _ _ _))) rfl rfl rfl rfl H ?_
    try clear H a W
    intro a W H
    refine pl_does (does_move rfl rfl) rfl rfl rfl rfl H ?_
    try clear H a W
    intro a W H
    refine pl_does (does_call rfl ⟨_, Tryd.func44, by kernel_rfl⟩ rfl (fun W hb => mulAdd_q (wdg_lt _ _) (by omega) (wdg_lt _ _) (carQ_lt (folF_le V) k) (fcar_def V) (fres_def V) W)) rfl rfl rfl rfl H ?_
    try clear H a W
    intro a W H
    refine pl_does (does_move rfl rfl) rfl rfl rfl rfl H ?_
    try clear H a W
    intro a W H
    refine pl_does (does_extract rfl rfl (fun _ => rfl)) rfl rfl rfl rfl H ?_
    try clear H a W
    intro a W H
    refine pl_does (does_extract rfl rfl (fun _ => rfl)) rfl rfl rfl rfl H ?_
    try clear H a W
    intro a W H
    replace H : St 43 w a W [(39, uc (resQ (folF V) k)), (38, uc (carQ (folF V) (k + 1))), (30, .tuple #[uc (carQ (folF V) (k + 1)), uc (resQ (folF V) k)]), (37, .tuple #[uc (carQ (folF V) (k + 1)), uc (resQ (folF V) k)]), (36, uc (carQ (folF V) k)), (35, uc (wdg (loQ V) k)), (34, .pointer (some ⟨g3, k, none⟩)), (33, .int .i64 ((k : Nat) : Int)), (32, uc (wdg (upQ V) k)), (31, .int .i64 ((k : Nat) : Int)), (19, .int .i64 ((k : Nat) : Int)), (20, .int .i64 ((2 + k : Nat) : Int)), (21, .pointer (some ⟨g1, 2 + k, none⟩)), (22, uc ((wdg V) (2 + k))), (23, uc (((wdg V) (2 + k)) / 4)), (24, .int .i64 ((k : Nat) : Int)), (25, .int .i64 ((3 + k : Nat) : Int)), (26, .pointer (some ⟨g1, 3 + k, none⟩)), (27, uc ((wdg V) (3 + k))), (28, uc (((wdg V) (3 + k)) * 4611686018427387904 % 18446744073709551616)), (29, uc (wdg (upQ V) k)), (6, uc (wdg (upQ V) k)), (5, .int .i64 ((k : Nat) : Int)), (18, .int .i64 ((k : Nat) : Int)), (17, .bool true), (16, .int .i64 ((k : Nat) : Int)), (3, .pointer (some ⟨g3, 0, none⟩)), (2, .pointer (some ⟨g2, 0, none⟩)), (1, .pointer (some ⟨g1, 0, none⟩))] [(g3, 62, nv 3 (mapK (resQ (folF V)) (wdg (loQ V)) k)), (g2, 62, nv 3 n0s), (g1, 83, nv 6 (wdg V))] := H.pick [0, 1, 2, 3, 4, 5, 6, 7, 8, 9, 10, 11, 12, 13, 14, 15, 16, 17, 18, 19, 20, 21, 22, 23, 24, 25, 27, 28, 29] [0, 1, 2] rfl
    refine pl_does (does_assign rfl rfl) rfl rfl rfl rfl H ?_
    try clear H a W
    intro a W H
    refine pl_does (does_indexAddr rfl rfl rfl (ia_n3 (j := k) (by omega))) rfl rfl rfl rfl H ?_
    try clear H a W
    intro a W H
    refine pl_storeAt rfl rfl rfl (k := 0) rfl (st_nv (by omega)) (sv_nv (mapK_step (resQ (folF V)) _ k)) rfl rfl H ?_
    try clear H a W
    intro a W H
    refine pl_end ?_
    refine blk_normal ?_
    refine hK10 _ _ ?_
    clear hK10
    refine rg_plain ?_
    refine pl_does (does_binOp rfl rfl rfl (i_addE (k := k) (m := 1) rfl (by omega) _ _)) rfl rfl rfl rfl H ?_
    try clear H a W
    intro a W H
    replace H : St 43 w a W [(41, .int .i64 ((k + 1 : Nat) : Int)), (40, .pointer (some ⟨g3, k, none⟩)), (4, uc (carQ (folF V) (k + 1))), (39, uc (resQ (folF V) k)), (38, uc (carQ (folF V) (k + 1))), (30, .tuple #[uc (carQ (folF V) (k + 1)), uc (resQ (folF V) k)]), (37, .tuple #[uc (carQ (folF V) (k + 1)), uc (resQ (folF V) k)]), (36, uc (carQ (folF V) k)), (35, uc (wdg (loQ V) k)), (34, .pointer (some ⟨g3, k, none⟩)), (33, .int .i64 ((k : Nat) : Int)), (32, uc (wdg (upQ V) k)), (31, .int .i64 ((k : Nat) : Int)), (19, .int .i64 ((k : Nat) : Int)), (20, .int .i64 ((2 + k : Nat) : Int)), (21, .pointer (some ⟨g1, 2 + k, none⟩)), (22, uc ((wdg V) (2 + k))), (23, uc (((wdg V) (2 + k)) / 4)), (24, .int .i64 ((k : Nat) : Int)), (25, .int .i64 ((3 + k : Nat) : Int)), (26, .pointer (some ⟨g1, 3 + k, none⟩)), (27, uc ((wdg V) (3 + k))), (28, uc (((wdg V) (3 + k)) * 4611686018427387904 % 18446744073709551616)), (29, uc (wdg (upQ V) k)), (6, uc (wdg (upQ V) k)), (5, .int .i64 ((k : Nat) : Int)), (18, .int .i64 ((k : Nat) : Int)), (17, .bool true), (3, .pointer (some ⟨g3, 0, none⟩)), (2, .pointer (some ⟨g2, 0, none⟩)), (1, .pointer (some ⟨g1, 0, none⟩))] [(g3, 62, nv 3 (mapK (resQ (folF V)) (wdg (loQ V)) (k + 1))), (g2, 62, nv 3 n0s), (g1, 83, nv 6 (wdg V))] := H.pick [0, 1, 2, 3, 4, 5, 6, 7, 8, 9, 10, 11, 12, 13, 14, 15, 16, 17, 18, 19, 20, 21, 22, 23, 24, 25, 26, 27, 29, 30, 31] [0, 1, 2] rfl
    refine pl_does (does_move rfl rfl) rfl rfl rfl rfl H ?_
    try clear H a W
    intro a W H
    refine pl_end ?_
    refine ⟨k + 1, by omega, by omega, ?_⟩
    show St 43 w a W [(16, .int .i64 ((k + 1 : Nat) : Int)), (4, uc (carQ (folF V) (k + 1))), (3, .pointer (some ⟨g3, 0, none⟩)), (2, .pointer (some ⟨g2, 0, none⟩)), (1, .pointer (some ⟨g1, 0, none⟩))] [(g3, 62, nv 3 (mapK (resQ (folF V)) (wdg (loQ V)) (k + 1))), (g2, 62, nv 3 n0s), (g1, 83, nv 6 (wdg V))]
    exact H.pick [0, 3, 29, 30, 31] [0, 1, 2] rfl
  · obtain rfl : 3 = k := by omega
    refine wp_seq_k (fun K13 hK13 => ?_)
    refine rg_plain ?_
    refine pl_does (does_binOp rfl rfl rfl (i_lss_no (k := 3) (m := 3) (by omega) _ _)) rfl rfl rfl rfl H ?_
    try clear H a W
    intro a W H
    refine pl_end ?_
    refine hK13 _ _ ?_
    clear hK13
    refine wp_seq_k (fun K14 hK14 => ?_)
    refine wp_cond_false (H.ev rfl) ?_
    refine wp_exit ?_
    repeat (with_reducible refine then_exit ?_)
    refine blk_exit ?_
    rw [fol_all hV] at H
    refine hK6 _ _ ?_
    clear hK6
    refine wp_seq_k (fun K15 hK15 => ?_)
    refine rg_plain ?_
    refine pl_does (does_load rfl rfl (k := 0) rfl Tryd.underlying62 rfl (info_n3 _)) rfl rfl rfl rfl H ?_
    try clear H a W
    intro a W H
    refine pl_store rfl rfl rfl (k := 1) rfl (info_n3 _) (size_nv _ _ _) (nv_one _ _) rfl rfl H ?_
    try clear H a W
    intro a W H
    refine pl_end ?_
    replace H : St 43 w a W [(2, .pointer (some ⟨g2, 0, none⟩))] [(g3, 62, nv 3 (wdg (fold5 V))), (g2, 62, nv 3 (wdg (fold5 V))), (g1, 83, nv 6 (wdg V))] := H.pick [5] [0, 1, 2] rfl
    refine hK15 _ _ ?_
    clear hK15
    refine wp_ret ?_
    repeat (first | (with_reducible refine then_ret ?_) | (with_reducible refine blk_ret ?_))
    refine end_cell (p := 2) rfl rfl (k := 1) rfl Tryd.underlying62 rfl (info_n3 _) H (fun hb => ?_)
    exact ⟨rfl, hb⟩
theorem rcar_def (r V N i j : Nat) : (r * wdg N j + wdg V (i + j) + carQ (rowF r V N i) j) / 18446744073709551616 = carQ (rowF r V N i) (j + 1) := by rw [carQ_succ, show rowF r V N i j = r * wdg N j + wdg V (i + j) by unfold rowF; rfl]
set_option maxHeartbeats 4000000 in
theorem times_any {N R : Nat} (hN : N < 6277101735386680763835789423207666416102355444464034512896) (hR : R < 6277101735386680763835789423207666416102355444464034512896) (hu : upQ (N * R) < 6277101735386680763835789423207666416102355444464034512896) (w : World) (hpg : PG w) : Calls Tryd.prog 34 #[.agg (nv 3 (wdg N)), .agg (nv 3 (wdg R))] w (fun rr w' => rr = .returned (.agg (nv 3 (wdg (fold5 (N * R))))) ∧ Below w.heap.size w w') := by
  refine calls_st (vs := [.agg (nv 3 (wdg N)), .agg (nv 3 (wdg R))]) 44 Tryd.func34 rfl Tryd.ntmps34 rfl (fun a W H => ?_)
  replace H : St 44 w a W [(0, .agg (nv 3 (wdg N))), (1, .agg (nv 3 (wdg R)))] [] := H
  refine wp_seq_k (fun K1 hK1 => ?_)
  refine rg_plain ?_
  refine pl_box rfl rfl (bx_n3 (wdg N)) rfl rfl rfl rfl H ?_
  try clear H a W
  intro g1 a W H
  refine pl_box rfl rfl (bx_n3 (wdg R)) rfl rfl rfl rfl H ?_
  try clear H a W
  intro g2 a W H
  refine pl_new (news_of rfl al_n3) rfl rfl rfl rfl H ?_
  try clear H a W
  intro g3 a W H
  refine pl_end ?_
  replace H : St 44 w a W [(4, .pointer (some ⟨g3, 0, none⟩)), (3, .pointer (some ⟨g2, 0, none⟩)), (2, .pointer (some ⟨g1, 0, none⟩))] [(g3, 62, nv 3 n0s), (g2, 62, nv 3 (wdg R)), (g1, 62, nv 3 (wdg N))] := H.pick [0, 1, 2] [0, 1, 2] rfl
  refine hK1 _ _ ?_
  clear hK1
  refine wp_seq_k (fun K2 hK2 => ?_)
  refine rg_plain ?_
  refine pl_new (news_of rfl al_n6) rfl rfl rfl rfl H ?_
  try clear H a W
  intro g4 a W H
  refine pl_end ?_
  refine hK2 _ _ ?_
  clear hK2
  refine wp_seq_k (fun K3 hK3 => ?_)
  refine wp_seq_k (fun K4 hK4 => ?_)
  refine rg_plain ?_
  refine pl_does (does_load rfl rfl (k := 2) rfl Tryd.underlying62 rfl (info_n3 _)) rfl rfl rfl rfl H ?_
  try clear H a W
  intro a W H
  refine pl_does (does_move rfl rfl) rfl rfl rfl rfl H ?_
  try clear H a W
  intro a W H
  refine pl_end ?_
  replace H : St 44 w a W [(11, .int .i64 0), (10, .agg (nv 3 (wdg R))), (5, .pointer (some ⟨g4, 0, none⟩)), (4, .pointer (some ⟨g3, 0, none⟩)), (2, .pointer (some ⟨g1, 0, none⟩))] [(g4, 83, nv 6 n0s), (g3, 62, nv 3 n0s), (g2, 62, nv 3 (wdg R)), (g1, 62, nv 3 (wdg N))] := H.pick [0, 1, 2, 3, 5] [0, 1, 2, 3] rfl
  refine hK4 _ _ ?_
  clear hK4
  rw [rows_0 N R] at H
  refine wp_block ?_
  replace H : St 44 w a W [(11, .int .i64 ((0 : Nat) : Int)), (10, .agg (nv 3 (wdg R))), (5, .pointer (some ⟨g4, 0, none⟩)), (4, .pointer (some ⟨g3, 0, none⟩)), (2, .pointer (some ⟨g1, 0, none⟩))] [(g4, 83, nv 6 (wdg (rowsQ N R 0))), (g3, 62, nv 3 n0s), (g2, 62, nv 3 (wdg R)), (g1, 62, nv 3 (wdg N))] := H.pick [0, 1, 2, 3, 4] [0, 1, 2, 3] rfl
  refine wp_rounds 3 (fun i a W => St 44 w a W [(11, .int .i64 ((i : Nat) : Int)), (10, .agg (nv 3 (wdg R))), (5, .pointer (some ⟨g4, 0, none⟩)), (4, .pointer (some ⟨g3, 0, none⟩)), (2, .pointer (some ⟨g1, 0, none⟩))] [(g4, 83, nv 6 (wdg (rowsQ N R i))), (g3, 62, nv 3 n0s), (g2, 62, nv 3 (wdg R)), (g1, 62, nv 3 (wdg N))]) (k0 := 0) H (by omega) ?_
  try clear H a W
  intro i a W hi H
  by_cases hi2 : i < 3
  · refine wp_seq_k (fun K5 hK5 => ?_)
    refine rg_plain ?_
    refine pl_does (does_binOp rfl rfl rfl (i_lss_yes (k := i) (m := 3) (by omega) _ _)) rfl rfl rfl rfl H ?_
    try clear H a W
    intro a W H
    refine pl_end ?_
    refine hK5 _ _ ?_
    clear hK5
    refine wp_seq_k (fun K6 hK6 => ?_)
    refine wp_cond_true (H.ev rfl) ?_
    refine wp_skip ?_
    refine hK6 _ _ ?_
    clear hK6
    refine wp_seq_k (fun K7 hK7 => ?_)
    refine wp_block ?_
    refine wp_seq_k (fun K8 hK8 => ?_)
    refine rg_plain ?_
    refine pl_does (does_move rfl rfl) rfl rfl rfl rfl H ?_
    try clear H a W
    intro a W H
    refine pl_does (does_index rfl rfl rfl (ix_n3 (j := i) (by omega) _)) rfl rfl rfl rfl H ?_
    try clear H a W
    intro a W H
    refine pl_does (does_assign rfl rfl) rfl rfl rfl rfl H ?_
    try clear H a W
    intro a W H
    refine pl_does (does_assign rfl rfl) rfl rfl rfl rfl H ?_
    try clear H a W
    intro a W H
    refine pl_end ?_
    refine hK8 _ _ ?_
    clear hK8
    refine wp_seq_k (fun K9 hK9 => ?_)
    refine rg_plain ?_
    refine pl_does (does_assign rfl rfl) rfl rfl rfl rfl H ?_
    try clear H a W
    intro a W H
    refine pl_end ?_
    refine hK9 _ _ ?_
    clear hK9
    refine wp_seq_k (fun K10 hK10 => ?_)
    refine wp_seq_k (fun K11 hK11 => ?_)
    refine rg_plain ?_
    refine pl_does (does_move rfl rfl) rfl rfl rfl rfl H ?_
    try clear H a W
    intro a W H
    refine pl_end ?_
    refine hK11 _ _ ?_
    clear hK11
    rw [← inQ_0 (wdg R i) (rowsQ N R i) N i] at H
    replace H : St 44 w a W [(15, .int .i64 0), (8, uc (carQ (rowF (wdg R i) (rowsQ N R i) N i) 0)), (7, uc ((wdg R) i)), (6, .int .i64 ((i : Nat) : Int)), (14, uc ((wdg R) i)), (13, .int .i64 ((i : Nat) : Int)), (12, .bool true), (11, .int .i64 ((i : Nat) : Int)), (10, .agg (nv 3 (wdg R))), (5, .pointer (some ⟨g4, 0, none⟩)), (4, .pointer (some ⟨g3, 0, none⟩)), (2, .pointer (some ⟨g1, 0, none⟩))] [(g4, 83, nv 6 (inQ (wdg R i) (rowsQ N R i) N i 0)), (g3, 62, nv 3 n0s), (g2, 62, nv 3 (wdg R)), (g1, 62, nv 3 (wdg N))] := by rw [carQ_0]; exact H
    refine wp_block ?_
    replace H : St 44 w a W [(15, .int .i64 ((0 : Nat) : Int)), (8, uc (carQ (rowF (wdg R i) (rowsQ N R i) N i) 0)), (7, uc ((wdg R) i)), (6, .int .i64 ((i : Nat) : Int)), (11, .int .i64 ((i : Nat) : Int)), (10, .agg (nv 3 (wdg R))), (5, .pointer (some ⟨g4, 0, none⟩)), (4, .pointer (some ⟨g3, 0, none⟩)), (2, .pointer (some ⟨g1, 0, none⟩))] [(g4, 83, nv 6 (inQ (wdg R i) (rowsQ N R i) N i 0)), (g3, 62, nv 3 n0s), (g2, 62, nv 3 (wdg R)), (g1, 62, nv 3 (wdg N))] := H.pick [0, 1, 2, 3, 7, 8, 9, 10, 11] [0, 1, 2, 3] rfl
    refine wp_rounds 3 (fun j a W => St 44 w a W [(15, .int .i64 ((j : Nat) : Int)), (8, uc (carQ (rowF (wdg R i) (rowsQ N R i) N i) j)), (7, uc ((wdg R) i)), (6, .int .i64 ((i : Nat) : Int)), (11, .int .i64 ((i : Nat) : Int)), (10, .agg (nv 3 (wdg R))), (5, .pointer (some ⟨g4, 0, none⟩)), (4, .pointer (some ⟨g3, 0, none⟩)), (2, .pointer (some ⟨g1, 0, none⟩))] [(g4, 83, nv 6 (inQ (wdg R i) (rowsQ N R i) N i j)), (g3, 62, nv 3 n0s), (g2, 62, nv 3 (wdg R)), (g1, 62, nv 3 (wdg N))]) (k0 := 0) H (by omega) ?_
    try clear H a W
    intro j a W hj H
    by_cases hj2 : j < 3
    · refine wp_seq_k (fun K12 hK12 => ?_)
      refine rg_plain ?_
      refine pl_does (does_binOp rfl rfl rfl (i_lss_yes (k := j) (m := 3) (by omega) _ _)) rfl rfl rfl rfl H ?_
      try clear H a W
      intro a W H
      refine pl_end ?_
      refine hK12 _ _ ?_
      clear hK12
      refine wp_seq_k (fun K13 hK13 => ?_)
      refine wp_cond_true (H.ev rfl) ?_
      refine wp_skip ?_
      refine hK13 _ _ ?_
      clear hK13
      refine wp_seq_k (fun K14 hK14 => ?_)
      refine wp_block ?_
      refine wp_seq_k (fun K15 hK15 => ?_)
      refine rg_plain ?_
      refine pl_does (does_move rfl rfl) rfl rfl rfl rfl H ?_
      try clear H a W
      intro a W H
      refine pl_does (does_assign rfl rfl) rfl rfl rfl rfl H ?_
      try clear H a W
      intro a W H
      refine pl_end ?_
      refine hK15 _ _ ?_
      clear hK15
      replace H : St 44 w a W [(8, uc (carQ (rowF (wdg R i) (rowsQ N R i) N i) j)), (9, .int .i64 ((j : Nat) : Int)), (17, .int .i64 ((j : Nat) : Int)), (16, .bool true), (15, .int .i64 ((j : Nat) : Int)), (7, uc ((wdg R) i)), (6, .int .i64 ((i : Nat) : Int)), (11, .int .i64 ((i : Nat) : Int)), (10, .agg (nv 3 (wdg R))), (5, .pointer (some ⟨g4, 0, none⟩)), (4, .pointer (some ⟨g3, 0, none⟩)), (2, .pointer (some ⟨g1, 0, none⟩))] [(g4, 83, nv 6 (inQ (wdg R i) (rowsQ N R i) N i j)), (g3, 62, nv 3 n0s), (g2, 62, nv 3 (wdg R)), (g1, 62, nv 3 (wdg N))] := H.sub (by simp) (fun _ h => h) H.apart
      refine drawnSO (e := [(9, .int .i64 ((j : Nat) : Int)), (17, .int .i64 ((j : Nat) : Int)), (16, .bool true), (15, .int .i64 ((j : Nat) : Int)), (7, uc ((wdg R) i)), (6, .int .i64 ((i : Nat) : Int)), (11, .int .i64 ((i : Nat) : Int)), (10, .agg (nv 3 (wdg R))), (5, .pointer (some ⟨g4, 0, none⟩)), (4, .pointer (some ⟨g3, 0, none⟩)), (2, .pointer (some ⟨g1, 0, none⟩))]) [(8, uc (carQ (rowF (wdg R i) (rowsQ N R i) N i) j), 17)] [[], [], [], [(8, uc (carQ (rowF (wdg R i) (rowsQ N R i) N i) j))], [(8, uc (carQ (rowF (wdg R i) (rowsQ N R i) N i) j))], [(8, uc (carQ (rowF (wdg R i) (rowsQ N R i) N i) j))], [(8, uc (carQ (rowF (wdg R i) (rowsQ N R i) N i) j))], [(8, uc (carQ (rowF (wdg R i) (rowsQ N R i) N i) j))], [(8, uc (carQ (rowF (wdg R i) (rowsQ N R i) N i) j))], [(8, uc (carQ (rowF (wdg R i) (rowsQ N R i) N i) j))], [(8, uc (carQ (rowF (wdg R i) (rowsQ N R i) N i) j))], [(8, uc (carQ (rowF (wdg R i) (rowsQ N R i) N i) j))], [(8, uc (carQ (rowF (wdg R i) (rowsQ N R i) N i) j))], [(8, uc (carQ (rowF (wdg R i) (rowsQ N R i) N i) j))], [(8, uc (carQ (rowF (wdg R i) (rowsQ N R i) N i) j))], [(8, uc (carQ (rowF (wdg R i) (rowsQ N R i) N i) j))], [], [(8, uc (carQ (rowF (wdg R i) (rowsQ N R i) N i) j))], [], []] [.val 19 (.int .i64 ((i : Nat) : Int)) [] [], .val 20 (.int .i64 ((j : Nat) : Int)) [] [], .val 21 (.int .i64 ((i + j : Nat) : Int)) [0, 1] [], .val 22 (uc ((wdg R) i)) [] [], .val 23 (.int .i64 ((j : Nat) : Int)) [] [], .val 24 (.pointer (some ⟨g1, j, none⟩)) [4] [], .val 25 (uc ((wdg N) j)) [5] [3], .val 26 (.int .i64 ((i : Nat) : Int)) [] [], .val 27 (.int .i64 ((j : Nat) : Int)) [] [], .val 28 (.int .i64 ((i + j : Nat) : Int)) [7, 8] [], .val 29 (.pointer (some ⟨g4, i + j, none⟩)) [9] [], .val 30 (uc (wdg (rowsQ N R i) (i + j))) [10] [0], .val 31 (uc (carQ (rowF (wdg R i) (rowsQ N R i) N i) j)) [] [], .val 32 (.tuple #[uc (carQ (rowF (wdg R i) (rowsQ N R i) N i) (j + 1)), uc ((wdg R i * wdg N j + wdg (rowsQ N R i) (i + j) + carQ (rowF (wdg R i) (rowsQ N R i) N i) j) % 18446744073709551616)]) [3, 6, 11, 12] [], .val 18 (.tuple #[uc (carQ (rowF (wdg R i) (rowsQ N R i) N i) (j + 1)), uc ((wdg R i * wdg N j + wdg (rowsQ N R i) (i + j) + carQ (rowF (wdg R i) (rowsQ N R i) N i) j) % 18446744073709551616)]) [13] [], .val 33 (uc (carQ (rowF (wdg R i) (rowsQ N R i) N i) (j + 1))) [14] [], .val 34 (uc ((wdg R i * wdg N j + wdg (rowsQ N R i) (i + j) + carQ (rowF (wdg R i) (rowsQ N R i) N i) j) % 18446744073709551616)) [14] [], .val 8 (uc (carQ (rowF (wdg R i) (rowsQ N R i) N i) (j + 1))) [15] [], .val 35 (.pointer (some ⟨g4, i + j, none⟩)) [2] [], .sto 0 g4 83 (nv 6 (inQ (wdg R i) (rowsQ N R i) N i j)) (nv 6 (inQ (wdg R i) (rowsQ N R i) N i (j + 1))) [18, 16]] [0, 0, 3, 0, 0, 16, 32, 0, 0, 384, 512, 1024, 0, 6216, 8192, 16384, 16384, 65528, 262143, 524287] (by kernel_rfl) (by kernel_rfl) (by kernel_rfl) (by kernel_rfl) (by kernel_rfl) H ⟨⟨does_move rfl rfl, wanted_none rfl⟩, ⟨does_move rfl rfl, wanted_none rfl⟩, ⟨does_binOp rfl rfl rfl (i_addE (k := i) (m := j) rfl (by omega) _ _), wanted_none rfl⟩, ⟨does_move rfl rfl, wanted_none rfl⟩, ⟨does_move rfl rfl, wanted_none rfl⟩, ⟨does_indexAddr rfl rfl rfl (ia_n3 (j := j) (by omega)), wanted_none rfl⟩, ⟨does_loadAt (v := uc ((wdg N) j)) rfl rfl (k := 0) rfl (ld_nv (by omega) (rfl)), wanted_none rfl⟩, ⟨does_move rfl rfl, wanted_none rfl⟩, ⟨does_move rfl rfl, wanted_none rfl⟩, ⟨does_binOp rfl rfl rfl (i_addE (k := i) (m := j) rfl (by omega) _ _), wanted_none rfl⟩, ⟨does_indexAddr rfl rfl rfl (ia_n6 (j := (i + j)) (by omega)), wanted_none rfl⟩, ⟨does_loadAt (v := uc (wdg (rowsQ N R i) (i + j))) rfl rfl (k := 0) rfl (ld_nv (by omega) (inQ_at _ _ _ _ _)), wanted_none rfl⟩, ⟨does_move rfl rfl, wanted_none rfl⟩, ⟨does_call rfl ⟨_, Tryd.func44, by kernel_rfl⟩ rfl (fun W hb => mulAdd_q (wdg_lt _ _) (wdg_lt _ _) (wdg_lt _ _) (carQ_lt (rowF_le (wdg_lt R i) _ _ _) j) (rcar_def _ _ _ _ _) rfl W), wanted_none rfl⟩, ⟨does_move rfl rfl, wanted_none rfl⟩, ⟨does_extract rfl rfl (fun _ => rfl), wanted_none rfl⟩, ⟨does_extract rfl rfl (fun _ => rfl), wanted_none rfl⟩, ⟨does_assign rfl rfl, wanted_none rfl⟩, ⟨does_indexAddr rfl rfl rfl (ia_n6 (j := (i + j)) (by omega)), wanted_none rfl⟩, ⟨rfl, rfl, sto_at rfl rfl rfl (st_nv (by omega)) (sv_nv (inQ_step _ _ _ _ _))⟩, trivial⟩ ?_
      try clear H a W
      intro G5 a W H
      replace H : St 44 w a W [(19, .int .i64 ((i : Nat) : Int)), (20, .int .i64 ((j : Nat) : Int)), (21, .int .i64 ((i + j : Nat) : Int)), (22, uc ((wdg R) i)), (23, .int .i64 ((j : Nat) : Int)), (24, .pointer (some ⟨g1, j, none⟩)), (25, uc ((wdg N) j)), (26, .int .i64 ((i : Nat) : Int)), (27, .int .i64 ((j : Nat) : Int)), (28, .int .i64 ((i + j : Nat) : Int)), (29, .pointer (some ⟨g4, i + j, none⟩)), (30, uc (wdg (rowsQ N R i) (i + j))), (31, uc (carQ (rowF (wdg R i) (rowsQ N R i) N i) j)), (32, .tuple #[uc (carQ (rowF (wdg R i) (rowsQ N R i) N i) (j + 1)), uc ((wdg R i * wdg N j + wdg (rowsQ N R i) (i + j) + carQ (rowF (wdg R i) (rowsQ N R i) N i) j) % 18446744073709551616)]), (18, .tuple #[uc (carQ (rowF (wdg R i) (rowsQ N R i) N i) (j + 1)), uc ((wdg R i * wdg N j + wdg (rowsQ N R i) (i + j) + carQ (rowF (wdg R i) (rowsQ N R i) N i) j) % 18446744073709551616)]), (33, uc (carQ (rowF (wdg R i) (rowsQ N R i) N i) (j + 1))), (34, uc ((wdg R i * wdg N j + wdg (rowsQ N R i) (i + j) + carQ (rowF (wdg R i) (rowsQ N R i) N i) j) % 18446744073709551616)), (8, uc (carQ (rowF (wdg R i) (rowsQ N R i) N i) (j + 1))), (35, .pointer (some ⟨g4, i + j, none⟩)), (9, .int .i64 ((j : Nat) : Int)), (17, .int .i64 ((j : Nat) : Int)), (16, .bool true), (15, .int .i64 ((j : Nat) : Int)), (7, uc ((wdg R) i)), (6, .int .i64 ((i : Nat) : Int)), (11, .int .i64 ((i : Nat) : Int)), (10, .agg (nv 3 (wdg R))), (5, .pointer (some ⟨g4, 0, none⟩)), (4, .pointer (some ⟨g3, 0, none⟩)), (2, .pointer (some ⟨g1, 0, none⟩))] [(g4, 83, nv 6 (inQ (wdg R i) (rowsQ N R i) N i (j + 1))), (g3, 62, nv 3 n0s), (g2, 62, nv 3 (wdg R)), (g1, 62, nv 3 (wdg N))] := H
      refine blk_normal ?_
      refine hK14 _ _ ?_
      clear hK14
      refine rg_plain ?_
      refine pl_does (does_binOp rfl rfl rfl (i_addE (k := j) (m := 1) rfl (by omega) _ _)) rfl rfl rfl rfl H ?_
      try clear H a W
      intro a W H
      replace H : St 44 w a W [(36, .int .i64 ((j + 1 : Nat) : Int)), (19, .int .i64 ((i : Nat) : Int)), (20, .int .i64 ((j : Nat) : Int)), (21, .int .i64 ((i + j : Nat) : Int)), (22, uc ((wdg R) i)), (23, .int .i64 ((j : Nat) : Int)), (24, .pointer (some ⟨g1, j, none⟩)), (25, uc ((wdg N) j)), (26, .int .i64 ((i : Nat) : Int)), (27, .int .i64 ((j : Nat) : Int)), (28, .int .i64 ((i + j : Nat) : Int)), (29, .pointer (some ⟨g4, i + j, none⟩)), (30, uc (wdg (rowsQ N R i) (i + j))), (31, uc (carQ (rowF (wdg R i) (rowsQ N R i) N i) j)), (32, .tuple #[uc (carQ (rowF (wdg R i) (rowsQ N R i) N i) (j + 1)), uc ((wdg R i * wdg N j + wdg (rowsQ N R i) (i + j) + carQ (rowF (wdg R i) (rowsQ N R i) N i) j) % 18446744073709551616)]), (18, .tuple #[uc (carQ (rowF (wdg R i) (rowsQ N R i) N i) (j + 1)), uc ((wdg R i * wdg N j + wdg (rowsQ N R i) (i + j) + carQ (rowF (wdg R i) (rowsQ N R i) N i) j) % 18446744073709551616)]), (33, uc (carQ (rowF (wdg R i) (rowsQ N R i) N i) (j + 1))), (34, uc ((wdg R i * wdg N j + wdg (rowsQ N R i) (i + j) + carQ (rowF (wdg R i) (rowsQ N R i) N i) j) % 18446744073709551616)), (8, uc (carQ (rowF (wdg R i) (rowsQ N R i) N i) (j + 1))), (35, .pointer (some ⟨g4, i + j, none⟩)), (9, .int .i64 ((j : Nat) : Int)), (17, .int .i64 ((j : Nat) : Int)), (16, .bool true), (7, uc ((wdg R) i)), (6, .int .i64 ((i : Nat) : Int)), (11, .int .i64 ((i : Nat) : Int)), (10, .agg (nv 3 (wdg R))), (5, .pointer (some ⟨g4, 0, none⟩)), (4, .pointer (some ⟨g3, 0, none⟩)), (2, .pointer (some ⟨g1, 0, none⟩))] [(g4, 83, nv 6 (inQ (wdg R i) (rowsQ N R i) N i (j + 1))), (g3, 62, nv 3 n0s), (g2, 62, nv 3 (wdg R)), (g1, 62, nv 3 (wdg N))] := H.pick [0, 1, 2, 3, 4, 5, 6, 7, 8, 9, 10, 11, 12, 13, 14, 15, 16, 17, 18, 19, 20, 21, 22, 24, 25, 26, 27, 28, 29, 30] [0, 1, 2, 3] rfl
      refine pl_does (does_move rfl rfl) rfl rfl rfl rfl H ?_
      try clear H a W
      intro a W H
      refine pl_end ?_
      refine ⟨j + 1, by omega, by omega, ?_⟩
      show St 44 w a W [(15, .int .i64 ((j + 1 : Nat) : Int)), (8, uc (carQ (rowF (wdg R i) (rowsQ N R i) N i) (j + 1))), (7, uc ((wdg R) i)), (6, .int .i64 ((i : Nat) : Int)), (11, .int .i64 ((i : Nat) : Int)), (10, .agg (nv 3 (wdg R))), (5, .pointer (some ⟨g4, 0, none⟩)), (4, .pointer (some ⟨g3, 0, none⟩)), (2, .pointer (some ⟨g1, 0, none⟩))] [(g4, 83, nv 6 (inQ (wdg R i) (rowsQ N R i) N i (j + 1))), (g3, 62, nv 3 n0s), (g2, 62, nv 3 (wdg R)), (g1, 62, nv 3 (wdg N))]
      exact H.pick [0, 19, 24, 25, 26, 27, 28, 29, 30] [0, 1, 2, 3] rfl
    · obtain rfl : 3 = j := by omega
      refine wp_seq_k (fun K16 hK16 => ?_)
      refine rg_plain ?_
      refine pl_does (does_binOp rfl rfl rfl (i_lss_no (k := 3) (m := 3) (by omega) _ _)) rfl rfl rfl rfl H ?_
      try clear H a W
      intro a W H
      refine pl_end ?_
      refine hK16 _ _ ?_
      clear hK16
      refine wp_seq_k (fun K17 hK17 => ?_)
      refine wp_cond_false (H.ev rfl) ?_
      refine wp_exit ?_
      repeat (with_reducible refine then_exit ?_)
      refine blk_exit ?_
      refine hK10 _ _ ?_
      clear hK10
      refine rg_plain ?_
      refine pl_does (does_move rfl rfl) rfl rfl rfl rfl H ?_
      try clear H a W
      intro a W H
      refine pl_does (does_binOp rfl rfl rfl (i_addE (k := i) (m := 3) rfl (by omega) _ _)) rfl rfl rfl rfl H ?_
      try clear H a W
      intro a W H
      refine pl_does (does_move rfl rfl) rfl rfl rfl rfl H ?_
      try clear H a W
      intro a W H
      refine pl_does (does_indexAddr rfl rfl rfl (ia_n6 (j := (i + 3)) (by omega))) rfl rfl rfl rfl H ?_
      try clear H a W
      intro a W H
      refine pl_storeAt rfl rfl rfl (k := 0) rfl (st_nv (by omega)) (sv_nv rfl) rfl rfl H ?_
      try clear H a W
      intro a W H
      refine pl_end ?_
      refine blk_normal ?_
      refine hK7 _ _ ?_
      clear hK7
      refine rg_plain ?_
      refine pl_does (does_binOp rfl rfl rfl (i_addE (k := i) (m := 1) rfl (by omega) _ _)) rfl rfl rfl rfl H ?_
      try clear H a W
      intro a W H
      replace H : St 44 w a W [(41, .int .i64 ((i + 1 : Nat) : Int)), (40, .pointer (some ⟨g4, i + 3, none⟩)), (39, uc (carQ (rowF (wdg R i) (rowsQ N R i) N i) 3)), (38, .int .i64 ((i + 3 : Nat) : Int)), (37, .int .i64 ((i : Nat) : Int)), (16, .bool false), (15, .int .i64 ((3 : Nat) : Int)), (8, uc (carQ (rowF (wdg R i) (rowsQ N R i) N i) 3)), (7, uc ((wdg R) i)), (6, .int .i64 ((i : Nat) : Int)), (10, .agg (nv 3 (wdg R))), (5, .pointer (some ⟨g4, 0, none⟩)), (4, .pointer (some ⟨g3, 0, none⟩)), (2, .pointer (some ⟨g1, 0, none⟩))] [(g4, 83, nv 6 (updN (inQ (wdg R i) (rowsQ N R i) N i 3) (i + 3) (carQ (rowF (wdg R i) (rowsQ N R i) N i) 3))), (g3, 62, nv 3 n0s), (g2, 62, nv 3 (wdg R)), (g1, 62, nv 3 (wdg N))] := H.pick [0, 1, 2, 3, 4, 5, 6, 7, 8, 9, 11, 12, 13, 14] [0, 1, 2, 3] rfl
      refine pl_does (does_move rfl rfl) rfl rfl rfl rfl H ?_
      try clear H a W
      intro a W H
      refine pl_end ?_
      refine ⟨i + 1, by omega, by omega, ?_⟩
      show St 44 w a W [(11, .int .i64 ((i + 1 : Nat) : Int)), (10, .agg (nv 3 (wdg R))), (5, .pointer (some ⟨g4, 0, none⟩)), (4, .pointer (some ⟨g3, 0, none⟩)), (2, .pointer (some ⟨g1, 0, none⟩))] [(g4, 83, nv 6 (wdg (rowsQ N R (i + 1)))), (g3, 62, nv 3 n0s), (g2, 62, nv 3 (wdg R)), (g1, 62, nv 3 (wdg N))]
      rw [rows_1 hN] at H
      exact H.pick [0, 11, 12, 13, 14] [0, 1, 2, 3] rfl
  · obtain rfl : 3 = i := by omega
    refine wp_seq_k (fun K18 hK18 => ?_)
    refine rg_plain ?_
    refine pl_does (does_binOp rfl rfl rfl (i_lss_no (k := 3) (m := 3) (by omega) _ _)) rfl rfl rfl rfl H ?_
    try clear H a W
    intro a W H
    refine pl_end ?_
    refine hK18 _ _ ?_
    clear hK18
    refine wp_seq_k (fun K19 hK19 => ?_)
    refine wp_cond_false (H.ev rfl) ?_
    refine wp_exit ?_
    repeat (with_reducible refine then_exit ?_)
    refine blk_exit ?_
    rw [rowsQ_3 hR] at H
    refine hK3 _ _ ?_
    clear hK3
    refine wp_seq_k (fun K20 hK20 => ?_)
    refine rg_plain ?_
    refine pl_does (does_load rfl rfl (k := 0) rfl Tryd.underlying83 rfl (info_n6 _)) rfl rfl rfl rfl H ?_
    try clear H a W
    intro a W H
    refine pl_does (does_call rfl ⟨_, Tryd.func45, by kernel_rfl⟩ rfl (fun W hb => folded_any hu W (hpg.ext hb))) rfl rfl rfl rfl H ?_
    try clear H a W
    intro a W H
    refine pl_store rfl rfl rfl (k := 1) rfl (info_n3 _) (size_nv _ _ _) (nv_one _ _) rfl rfl H ?_
    try clear H a W
    intro a W H
    refine pl_end ?_
    replace H : St 44 w a W [(4, .pointer (some ⟨g3, 0, none⟩))] [(g4, 83, nv 6 (wdg (N * R))), (g3, 62, nv 3 (wdg (fold5 (N * R)))), (g2, 62, nv 3 (wdg R)), (g1, 62, nv 3 (wdg N))] := H.pick [6] [0, 1, 2, 3] rfl
    refine hK20 _ _ ?_
    clear hK20
    refine wp_ret ?_
    repeat (first | (with_reducible refine then_ret ?_) | (with_reducible refine blk_ret ?_))
    refine end_cell (p := 4) rfl rfl (k := 1) rfl Tryd.underlying62 rfl (info_n3 _) H (fun hb => ?_)
    exact ⟨rfl, hb⟩
theorem PM2_lt : PM + PM < 6277101735386680763835789423207666416102355444464034512896 := by decide +kernel
theorem least_yes {N : Nat} (hN : N < PM + PM) (hb : borQ (wdg N) (wdg PM) 3 = 1) : wdg N = wdg (N % PM) := by
  have hl := PM2_lt
  have h := (dif_res (N := N) (M := PM) (by omega) PM_lt).1.1 hb
  rw [Nat.mod_eq_of_lt h]
theorem least_no {N : Nat} (hN : N < PM + PM) (hb : ¬ borQ (wdg N) (wdg PM) 3 = 1) : nv 3 (mapK (difQ (wdg N) (wdg PM)) (wdg N) 3) = nv 3 (wdg (N % PM)) := by
  have hl := PM2_lt
  have h : ¬ N < PM := fun h => hb ((dif_res (N := N) (M := PM) (by omega) PM_lt).1.2 h)
  rw [dif_all (by omega) (by omega), Nat.mod_eq_sub_mod (by omega), Nat.mod_eq_of_lt (by omega)]
set_option maxHeartbeats 4000000 in
theorem least_any {N : Nat} (hN : N < PM + PM) (w : World) (hpg : PG w) : Calls Tryd.prog 35 #[.agg (nv 3 (wdg N))] w (fun rr w' => rr = .returned (.agg (nv 3 (wdg (N % PM)))) ∧ Below w.heap.size w w') := by
  refine calls_st (vs := [.agg (nv 3 (wdg N))]) 28 Tryd.func35 rfl Tryd.ntmps35 rfl (fun a W H => ?_)
  replace H : St 28 w a W [(0, .agg (nv 3 (wdg N)))] [] := H
  refine wp_seq_k (fun K1 hK1 => ?_)
  refine rg_plain ?_
  refine pl_box rfl rfl (bx_n3 (wdg N)) rfl rfl rfl rfl H ?_
  try clear H a W
  intro g1 a W H
  refine pl_new (news_of rfl al_n3) rfl rfl rfl rfl H ?_
  try clear H a W
  intro g2 a W H
  refine pl_end ?_
  replace H : St 28 w a W [(2, .pointer (some ⟨g2, 0, none⟩)), (1, .pointer (some ⟨g1, 0, none⟩))] [(g2, 62, nv 3 n0s), (g1, 62, nv 3 (wdg N))] := H.pick [0, 1] [0, 1] rfl
  refine hK1 _ _ ?_
  clear hK1
  refine wp_seq_k (fun K2 hK2 => ?_)
  refine rg_plain ?_
  refine pl_does (does_load rfl rfl (k := 1) rfl Tryd.underlying62 rfl (info_n3 _)) rfl rfl rfl rfl H ?_
  try clear H a W
  intro a W H
  refine pl_new (news_of rfl al_n3) rfl rfl rfl rfl H ?_
  try clear H a W
  intro g3 a W H
  refine pl_store rfl rfl rfl (k := 0) rfl (info_n3 _) (size_nv _ _ _) (nv_one _ _) rfl rfl H ?_
  try clear H a W
  intro a W H
  refine pl_end ?_
  replace H : St 28 w a W [(3, .pointer (some ⟨g3, 0, none⟩)), (2, .pointer (some ⟨g2, 0, none⟩)), (1, .pointer (some ⟨g1, 0, none⟩))] [(g3, 62, nv 3 (wdg N)), (g2, 62, nv 3 n0s), (g1, 62, nv 3 (wdg N))] := H.pick [0, 2, 3] [0, 1, 2] rfl
  refine hK2 _ _ ?_
  clear hK2
  refine wp_seq_k (fun K3 hK3 => ?_)
  refine rg_plain ?_
  refine pl_does (does_assign rfl rfl) rfl rfl rfl rfl H ?_
  try clear H a W
  intro a W H
  refine pl_end ?_
  refine hK3 _ _ ?_
  clear hK3
  refine wp_seq_k (fun K4 hK4 => ?_)
  refine wp_seq_k (fun K5 hK5 => ?_)
  refine rg_plain ?_
  refine pl_does (does_move rfl rfl) rfl rfl rfl rfl H ?_
  try clear H a W
  intro a W H
  refine pl_end ?_
  refine hK5 _ _ ?_
  clear hK5
  replace H : St 28 w a W [(7, .int .i64 0), (4, uc (borQ (wdg N) (wdg PM) 0)), (3, .pointer (some ⟨g3, 0, none⟩)), (2, .pointer (some ⟨g2, 0, none⟩)), (1, .pointer (some ⟨g1, 0, none⟩))] [(g3, 62, nv 3 (mapK (difQ (wdg N) (wdg PM)) (wdg N) 0)), (g2, 62, nv 3 n0s), (g1, 62, nv 3 (wdg N))] := by rw [mapK_0, borQ_0]; exact H
  refine wp_block ?_
  replace H : St 28 w a W [(7, .int .i64 ((0 : Nat) : Int)), (4, uc (borQ (wdg N) (wdg PM) 0)), (3, .pointer (some ⟨g3, 0, none⟩)), (2, .pointer (some ⟨g2, 0, none⟩)), (1, .pointer (some ⟨g1, 0, none⟩))] [(g3, 62, nv 3 (mapK (difQ (wdg N) (wdg PM)) (wdg N) 0)), (g2, 62, nv 3 n0s), (g1, 62, nv 3 (wdg N))] := H.pick [0, 1, 2, 3, 4] [0, 1, 2] rfl
  refine wp_rounds 3 (fun k a W => St 28 w a W [(7, .int .i64 ((k : Nat) : Int)), (4, uc (borQ (wdg N) (wdg PM) k)), (3, .pointer (some ⟨g3, 0, none⟩)), (2, .pointer (some ⟨g2, 0, none⟩)), (1, .pointer (some ⟨g1, 0, none⟩))] [(g3, 62, nv 3 (mapK (difQ (wdg N) (wdg PM)) (wdg N) k)), (g2, 62, nv 3 n0s), (g1, 62, nv 3 (wdg N))]) (k0 := 0) H (by omega) ?_
  try clear H a W
  intro k a W hk H
  by_cases hk2 : k < 3
  · refine wp_seq_k (fun K6 hK6 => ?_)
    refine rg_plain ?_
    refine pl_does (does_binOp rfl rfl rfl (i_lss_yes (k := k) (m := 3) (by omega) _ _)) rfl rfl rfl rfl H ?_
    try clear H a W
    intro a W H
    refine pl_end ?_
    refine hK6 _ _ ?_
    clear hK6
    refine wp_seq_k (fun K7 hK7 => ?_)
    refine wp_cond_true (H.ev rfl) ?_
    refine wp_skip ?_
    refine hK7 _ _ ?_
    clear hK7
    refine wp_seq_k (fun K8 hK8 => ?_)
    refine wp_block ?_
    refine wp_seq_k (fun K9 hK9 => ?_)
    refine rg_plain ?_
    refine pl_does (does_move rfl rfl) rfl rfl rfl rfl H ?_
    try clear H a W
    intro a W H
    refine pl_does (does_assign rfl rfl) rfl rfl rfl rfl H ?_
    try clear H a W
    intro a W H
    refine pl_end ?_
    refine hK9 _ _ ?_
    clear hK9
    replace H : St 28 w a W [(4, uc (borQ (wdg N) (wdg PM) k)), (5, .int .i64 ((k : Nat) : Int)), (9, .int .i64 ((k : Nat) : Int)), (8, .bool true), (7, .int .i64 ((k : Nat) : Int)), (3, .pointer (some ⟨g3, 0, none⟩)), (2, .pointer (some ⟨g2, 0, none⟩)), (1, .pointer (some ⟨g1, 0, none⟩))] [(g3, 62, nv 3 (mapK (difQ (wdg N) (wdg PM)) (wdg N) k)), (g2, 62, nv 3 n0s), (g1, 62, nv 3 (wdg N))] := H.sub (by simp) (fun _ h => h) H.apart
    refine drawnSO (e := [(5, .int .i64 ((k : Nat) : Int)), (9, .int .i64 ((k : Nat) : Int)), (8, .bool true), (7, .int .i64 ((k : Nat) : Int)), (3, .pointer (some ⟨g3, 0, none⟩)), (2, .pointer (some ⟨g2, 0, none⟩)), (1, .pointer (some ⟨g1, 0, none⟩))]) [(4, uc (borQ (wdg N) (wdg PM) k), 14)] [[(4, uc (borQ (wdg N) (wdg PM) k))], [(4, uc (borQ (wdg N) (wdg PM) k))], [(4, uc (borQ (wdg N) (wdg PM) k))], [(4, uc (borQ (wdg N) (wdg PM) k))], [(4, uc (borQ (wdg N) (wdg PM) k))], [(4, uc (borQ (wdg N) (wdg PM) k))], [(4, uc (borQ (wdg N) (wdg PM) k))], [(4, uc (borQ (wdg N) (wdg PM) k))], [(4, uc (borQ (wdg N) (wdg PM) k))], [(4, uc (borQ (wdg N) (wdg PM) k))], [(4, uc (borQ (wdg N) (wdg PM) k))], [(4, uc (borQ (wdg N) (wdg PM) k))], [(4, uc (borQ (wdg N) (wdg PM) k))], [(4, uc (borQ (wdg N) (wdg PM) k))], [(4, uc (borQ (wdg N) (wdg PM) k))]] [.val 11 (.int .i64 ((k : Nat) : Int)) [] [], .val 12 (.int .i64 ((k : Nat) : Int)) [] [], .val 13 (.pointer (some ⟨g1, k, none⟩)) [1] [], .val 14 (uc ((wdg N) k)) [2] [2], .val 15 (.int .i64 ((k : Nat) : Int)) [] [], .val 16 (.pointer (some ⟨0, k, none⟩)) [4] [], .val 17 (uc (wdg PM k)) [5] [], .val 18 (uc (borQ (wdg N) (wdg PM) k)) [] [], .val 19 (.tuple #[uc (difQ (wdg N) (wdg PM) k), uc (borQ (wdg N) (wdg PM) (k + 1))]) [3, 6, 7] [], .val 10 (.tuple #[uc (difQ (wdg N) (wdg PM) k), uc (borQ (wdg N) (wdg PM) (k + 1))]) [8] [], .val 20 (uc (difQ (wdg N) (wdg PM) k)) [9] [], .val 21 (uc (borQ (wdg N) (wdg PM) (k + 1))) [9] [], .val 22 (.pointer (some ⟨g3, k, none⟩)) [0] [], .sto 0 g3 62 (nv 3 (mapK (difQ (wdg N) (wdg PM)) (wdg N) k)) (nv 3 (mapK (difQ (wdg N) (wdg PM)) (wdg N) (k + 1))) [12, 10], .val 4 (uc (borQ (wdg N) (wdg PM) (k + 1))) [11] []] [0, 0, 2, 4, 0, 16, 32, 0, 200, 256, 512, 512, 2047, 6143, 16383] (by kernel_rfl) (by kernel_rfl) (by kernel_rfl) (by kernel_rfl) (by kernel_rfl) H ⟨⟨does_move rfl rfl, wanted_none rfl⟩, ⟨does_move rfl rfl, wanted_none rfl⟩, ⟨does_indexAddr rfl rfl rfl (ia_n3 (j := k) (by omega)), wanted_none rfl⟩, ⟨does_loadAt (v := uc ((wdg N) k)) rfl rfl (k := 0) rfl (ld_nv (by omega) (rfl)), wanted_none rfl⟩, ⟨does_move rfl rfl, wanted_none rfl⟩, ⟨does_indexAddr rfl rfl rfl (ia_n3 (j := k) (by omega)), wanted_none rfl⟩, ⟨does_loadCell (v := uc (wdg PM k)) rfl rfl (hpg.cell k (by omega)) hpg.lt ld_cellU, wanted_none rfl⟩, ⟨does_move rfl rfl, wanted_none rfl⟩, ⟨does_ext rfl rfl (sub64_q (borQ_le _ _ k) (difQ_def _ _ k) (borQ_succ _ _ k).symm), wanted_none rfl⟩, ⟨does_move rfl rfl, wanted_none rfl⟩, ⟨does_extract rfl rfl (fun _ => rfl), wanted_none rfl⟩, ⟨does_extract rfl rfl (fun _ => rfl), wanted_none rfl⟩, ⟨does_indexAddr rfl rfl rfl (ia_n3 (j := k) (by omega)), wanted_none rfl⟩, ⟨rfl, rfl, sto_at rfl rfl rfl (st_nv (by omega)) (sv_nv (mapK_step (difQ (wdg N) (wdg PM)) _ k))⟩, ⟨does_assign rfl rfl, wanted_none rfl⟩, trivial⟩ ?_
    try clear H a W
    intro G4 a W H
    replace H : St 28 w a W [(11, .int .i64 ((k : Nat) : Int)), (12, .int .i64 ((k : Nat) : Int)), (13, .pointer (some ⟨g1, k, none⟩)), (14, uc ((wdg N) k)), (15, .int .i64 ((k : Nat) : Int)), (16, .pointer (some ⟨0, k, none⟩)), (17, uc (wdg PM k)), (18, uc (borQ (wdg N) (wdg PM) k)), (19, .tuple #[uc (difQ (wdg N) (wdg PM) k), uc (borQ (wdg N) (wdg PM) (k + 1))]), (10, .tuple #[uc (difQ (wdg N) (wdg PM) k), uc (borQ (wdg N) (wdg PM) (k + 1))]), (20, uc (difQ (wdg N) (wdg PM) k)), (21, uc (borQ (wdg N) (wdg PM) (k + 1))), (22, .pointer (some ⟨g3, k, none⟩)), (4, uc (borQ (wdg N) (wdg PM) (k + 1))), (5, .int .i64 ((k : Nat) : Int)), (9, .int .i64 ((k : Nat) : Int)), (8, .bool true), (7, .int .i64 ((k : Nat) : Int)), (3, .pointer (some ⟨g3, 0, none⟩)), (2, .pointer (some ⟨g2, 0, none⟩)), (1, .pointer (some ⟨g1, 0, none⟩))] [(g3, 62, nv 3 (mapK (difQ (wdg N) (wdg PM)) (wdg N) (k + 1))), (g2, 62, nv 3 n0s), (g1, 62, nv 3 (wdg N))] := H
    refine blk_normal ?_
    refine hK8 _ _ ?_
    clear hK8
    refine rg_plain ?_
    refine pl_does (does_binOp rfl rfl rfl (i_addE (k := k) (m := 1) rfl (by omega) _ _)) rfl rfl rfl rfl H ?_
    try clear H a W
    intro a W H
    replace H : St 28 w a W [(23, .int .i64 ((k + 1 : Nat) : Int)), (11, .int .i64 ((k : Nat) : Int)), (12, .int .i64 ((k : Nat) : Int)), (13, .pointer (some ⟨g1, k, none⟩)), (14, uc ((wdg N) k)), (15, .int .i64 ((k : Nat) : Int)), (16, .pointer (some ⟨0, k, none⟩)), (17, uc (wdg PM k)), (18, uc (borQ (wdg N) (wdg PM) k)), (19, .tuple #[uc (difQ (wdg N) (wdg PM) k), uc (borQ (wdg N) (wdg PM) (k + 1))]), (10, .tuple #[uc (difQ (wdg N) (wdg PM) k), uc (borQ (wdg N) (wdg PM) (k + 1))]), (20, uc (difQ (wdg N) (wdg PM) k)), (21, uc (borQ (wdg N) (wdg PM) (k + 1))), (22, .pointer (some ⟨g3, k, none⟩)), (4, uc (borQ (wdg N) (wdg PM) (k + 1))), (5, .int .i64 ((k : Nat) : Int)), (9, .int .i64 ((k : Nat) : Int)), (8, .bool true), (3, .pointer (some ⟨g3, 0, none⟩)), (2, .pointer (some ⟨g2, 0, none⟩)), (1, .pointer (some ⟨g1, 0, none⟩))] [(g3, 62, nv 3 (mapK (difQ (wdg N) (wdg PM)) (wdg N) (k + 1))), (g2, 62, nv 3 n0s), (g1, 62, nv 3 (wdg N))] := H.pick [0, 1, 2, 3, 4, 5, 6, 7, 8, 9, 10, 11, 12, 13, 14, 15, 16, 17, 19, 20, 21] [0, 1, 2] rfl
    refine pl_does (does_move rfl rfl) rfl rfl rfl rfl H ?_
    try clear H a W
    intro a W H
    refine pl_end ?_
    refine ⟨k + 1, by omega, by omega, ?_⟩
    show St 28 w a W [(7, .int .i64 ((k + 1 : Nat) : Int)), (4, uc (borQ (wdg N) (wdg PM) (k + 1))), (3, .pointer (some ⟨g3, 0, none⟩)), (2, .pointer (some ⟨g2, 0, none⟩)), (1, .pointer (some ⟨g1, 0, none⟩))] [(g3, 62, nv 3 (mapK (difQ (wdg N) (wdg PM)) (wdg N) (k + 1))), (g2, 62, nv 3 n0s), (g1, 62, nv 3 (wdg N))]
    exact H.pick [0, 15, 19, 20, 21] [0, 1, 2] rfl
  · obtain rfl : 3 = k := by omega
    refine wp_seq_k (fun K10 hK10 => ?_)
    refine rg_plain ?_
    refine pl_does (does_binOp rfl rfl rfl (i_lss_no (k := 3) (m := 3) (by omega) _ _)) rfl rfl rfl rfl H ?_
    try clear H a W
    intro a W H
    refine pl_end ?_
    refine hK10 _ _ ?_
    clear hK10
    refine wp_seq_k (fun K11 hK11 => ?_)
    refine wp_cond_false (H.ev rfl) ?_
    refine wp_exit ?_
    repeat (with_reducible refine then_exit ?_)
    refine blk_exit ?_
    obtain ⟨br, hbr⟩ : ∃ b : Bool, decide (borQ (wdg N) (wdg PM) 3 = 1) = b := ⟨_, rfl⟩
    refine hK4 _ _ ?_
    clear hK4
    refine wp_seq_k (fun K12 hK12 => ?_)
    refine wp_seq_k (fun K13 hK13 => ?_)
    refine rg_plain ?_
    refine pl_does (does_move rfl rfl) rfl rfl rfl rfl H ?_
    try clear H a W
    intro a W H
    refine pl_does (does_binOp rfl rfl rfl (u_eqlB (m := 1) hbr _ _)) rfl rfl rfl rfl H ?_
    try clear H a W
    intro a W H
    refine pl_end ?_
    replace H : St 28 w a W [(25, .bool br), (3, .pointer (some ⟨g3, 0, none⟩)), (2, .pointer (some ⟨g2, 0, none⟩)), (1, .pointer (some ⟨g1, 0, none⟩))] [(g3, 62, nv 3 (mapK (difQ (wdg N) (wdg PM)) (wdg N) 3)), (g2, 62, nv 3 n0s), (g1, 62, nv 3 (wdg N))] := H.pick [0, 5, 6, 7] [0, 1, 2] rfl
    refine hK13 _ _ ?_
    clear hK13
    cases br with
    | true =>
      refine wp_cond_true (H.ev rfl) ?_
      refine wp_seq_k (fun K14 hK14 => ?_)
      refine rg_plain ?_
      refine pl_does (does_load rfl rfl (k := 2) rfl Tryd.underlying62 rfl (info_n3 _)) rfl rfl rfl rfl H ?_
      try clear H a W
      intro a W H
      refine pl_store rfl rfl rfl (k := 1) rfl (info_n3 _) (size_nv _ _ _) (nv_one _ _) rfl rfl H ?_
      try clear H a W
      intro a W H
      refine pl_end ?_
      replace H : St 28 w a W [(3, .pointer (some ⟨g3, 0, none⟩)), (2, .pointer (some ⟨g2, 0, none⟩))] [(g3, 62, nv 3 (mapK (difQ (wdg N) (wdg PM)) (wdg N) 3)), (g2, 62, nv 3 (wdg N)), (g1, 62, nv 3 (wdg N))] := H.pick [2, 3] [0, 1, 2] rfl
      refine hK14 _ _ ?_
      clear hK14
      refine wp_ret ?_
      repeat (first | (with_reducible refine then_ret ?_) | (with_reducible refine blk_ret ?_))
      refine end_cell (p := 2) rfl rfl (k := 1) rfl Tryd.underlying62 rfl (info_n3 _) H (fun hb => ?_)
      exact ⟨by rw [← least_yes hN (of_decide_eq_true hbr)], hb⟩
    | false =>
      refine wp_cond_false (H.ev rfl) ?_
      refine wp_skip ?_
      refine hK12 _ _ ?_
      clear hK12
      refine wp_seq_k (fun K15 hK15 => ?_)
      refine rg_plain ?_
      refine pl_does (does_load rfl rfl (k := 0) rfl Tryd.underlying62 rfl (info_n3 _)) rfl rfl rfl rfl H ?_
      try clear H a W
      intro a W H
      refine pl_store rfl rfl rfl (k := 1) rfl (info_n3 _) (size_nv _ _ _) (nv_one _ _) rfl rfl H ?_
      try clear H a W
      intro a W H
      refine pl_end ?_
      replace H : St 28 w a W [(2, .pointer (some ⟨g2, 0, none⟩))] [(g3, 62, nv 3 (mapK (difQ (wdg N) (wdg PM)) (wdg N) 3)), (g2, 62, nv 3 (mapK (difQ (wdg N) (wdg PM)) (wdg N) 3)), (g1, 62, nv 3 (wdg N))] := H.pick [3] [0, 1, 2] rfl
      refine hK15 _ _ ?_
      clear hK15
      refine wp_ret ?_
      repeat (first | (with_reducible refine then_ret ?_) | (with_reducible refine blk_ret ?_))
      refine end_cell (p := 2) rfl rfl (k := 1) rfl Tryd.underlying62 rfl (info_n3 _) H (fun hb => ?_)
      exact ⟨by rw [least_no hN (of_decide_eq_false hbr)], hb⟩
set_option maxHeartbeats 4000000 in
theorem bytes_any (N : Nat) (w : World) : Calls Tryd.prog 37 #[.agg (nv 3 (wdg N))] w (fun rr w' => rr = .returned (.agg (bvs (rb 16 (bN N)))) ∧ Below w.heap.size w w') := by
  refine calls_st (vs := [.agg (nv 3 (wdg N))]) 21 Tryd.func37 rfl Tryd.ntmps37 rfl (fun a W H => ?_)
  replace H : St 21 w a W [(0, .agg (nv 3 (wdg N)))] [] := H
  refine wp_seq_k (fun K1 hK1 => ?_)
  refine rg_plain ?_
  refine pl_box rfl rfl (bx_n3 (wdg N)) rfl rfl rfl rfl H ?_
  try clear H a W
  intro g1 a W H
  refine pl_new (news_of rfl al_mark) rfl rfl rfl rfl H ?_
  try clear H a W
  intro g2 a W H
  refine pl_end ?_
  replace H : St 21 w a W [(2, .pointer (some ⟨g2, 0, none⟩)), (1, .pointer (some ⟨g1, 0, none⟩))] [(g2, 42, bvs (rb 16 b0s)), (g1, 62, nv 3 (wdg N))] := H.pick [0, 1] [0, 1] rfl
  refine hK1 _ _ ?_
  clear hK1
  refine wp_seq_k (fun K2 hK2 => ?_)
  refine rg_plain ?_
  refine pl_new (news_of rfl al_mark) rfl rfl rfl rfl H ?_
  try clear H a W
  intro g3 a W H
  refine pl_end ?_
  refine hK2 _ _ ?_
  clear hK2
  refine wp_seq_k (fun K3 hK3 => ?_)
  refine wp_seq_k (fun K4 hK4 => ?_)
  refine rg_plain ?_
  refine pl_does (does_move rfl rfl) rfl rfl rfl rfl H ?_
  try clear H a W
  intro a W H
  refine pl_end ?_
  refine hK4 _ _ ?_
  clear hK4
  refine wp_block ?_
  replace H : St 21 w a W [(5, .int .i64 ((0 : Nat) : Int)), (3, .pointer (some ⟨g3, 0, none⟩)), (2, .pointer (some ⟨g2, 0, none⟩)), (1, .pointer (some ⟨g1, 0, none⟩))] [(g3, 42, bvs (rb 16 (mapB (bN N) b0s 0))), (g2, 42, bvs (rb 16 b0s)), (g1, 62, nv 3 (wdg N))] := H.pick [0, 1, 2, 3] [0, 1, 2] rfl
  refine wp_rounds 16 (fun k a W => St 21 w a W [(5, .int .i64 ((k : Nat) : Int)), (3, .pointer (some ⟨g3, 0, none⟩)), (2, .pointer (some ⟨g2, 0, none⟩)), (1, .pointer (some ⟨g1, 0, none⟩))] [(g3, 42, bvs (rb 16 (mapB (bN N) b0s k))), (g2, 42, bvs (rb 16 b0s)), (g1, 62, nv 3 (wdg N))]) (k0 := 0) H (by omega) ?_
  try clear H a W
  intro k a W hk H
  by_cases hk2 : k < 16
  · refine wp_seq_k (fun K5 hK5 => ?_)
    refine rg_plain ?_
    refine pl_does (does_binOp rfl rfl rfl (i_lss_yes (k := k) (m := 16) (by omega) _ _)) rfl rfl rfl rfl H ?_
    try clear H a W
    intro a W H
    refine pl_end ?_
    refine hK5 _ _ ?_
    clear hK5
    refine wp_seq_k (fun K6 hK6 => ?_)
    refine wp_cond_true (H.ev rfl) ?_
    refine wp_skip ?_
    refine hK6 _ _ ?_
    clear hK6
    refine wp_seq_k (fun K7 hK7 => ?_)
    refine wp_block ?_
    refine wp_seq_k (fun K8 hK8 => ?_)
    refine rg_plain ?_
    refine pl_does (does_move rfl rfl) rfl rfl rfl rfl H ?_
    try clear H a W
    intro a W H
    refine pl_does (does_assign rfl rfl) rfl rfl rfl rfl H ?_
    try clear H a W
    intro a W H
    refine pl_end ?_
    refine hK8 _ _ ?_
    clear hK8
    refine rg_plain ?_
    refine pl_does (does_move rfl rfl) rfl rfl rfl rfl H ?_
    try clear H a W
    intro a W H
    refine pl_does (does_move rfl rfl) rfl rfl rfl rfl H ?_
    try clear H a W
    intro a W H
    refine pl_does (does_binOp rfl rfl rfl (i_quoE (k := k) (m := 8) (r := k / 8) rfl (by omega) (by omega) _ _)) rfl rfl rfl rfl H ?_
    try clear H a W
    intro a W H
    refine pl_does (does_indexAddr rfl rfl rfl (ia_n3 (j := (k / 8)) (by omega))) rfl rfl rfl rfl H ?_
    try clear H a W
    intro a W H
    refine pl_does (does_loadAt (v := uc ((wdg N) (k / 8))) rfl rfl (k := 2) rfl (ld_nv (by omega) (rfl))) rfl rfl rfl rfl H ?_
    try clear H a W
    intro a W H
    refine pl_does (does_move rfl rfl) rfl rfl rfl rfl H ?_
    try clear H a W
    intro a W H
    refine pl_does (does_binOp rfl rfl rfl (i_remE (k := k) (m := 8) (r := k % 8) rfl (by omega) _ _)) rfl rfl rfl rfl H ?_
    try clear H a W
    intro a W H
    refine pl_does (does_binOp rfl rfl rfl (i_mulE (k := 8) (m := (k % 8)) (r := 8 * (k % 8)) rfl (by omega) _ _)) rfl rfl rfl rfl H ?_
    try clear H a W
    intro a W H
    refine pl_does (does_binOp rfl rfl rfl (u_shr (s := (8 * (k % 8))) (by omega) _ _)) rfl rfl rfl rfl H ?_
    try clear H a W
    intro a W H
    refine pl_does (does_convert rfl rfl (cv_ub _)) rfl rfl rfl rfl H ?_
    try clear H a W
    intro a W H
    refine pl_does (does_indexAddr rfl rfl rfl (ia_mark (j := k) (by omega))) rfl rfl rfl rfl H ?_
    try clear H a W
    intro a W H
    refine pl_storeAt rfl rfl rfl (k := 0) rfl (st_byte (n := 16) (x := UInt8.ofNat (((wdg N) (k / 8)) / 2 ^ (8 * (k % 8)))) (by omega)) (sv_byte (bN_step N k)) rfl rfl H ?_
    try clear H a W
    intro a W H
    refine pl_end ?_
    refine blk_normal ?_
    refine hK7 _ _ ?_
    clear hK7
    refine rg_plain ?_
    refine pl_does (does_binOp rfl rfl rfl (i_addE (k := k) (m := 1) rfl (by omega) _ _)) rfl rfl rfl rfl H ?_
    try clear H a W
    intro a W H
    replace H : St 21 w a W [(19, .int .i64 ((k + 1 : Nat) : Int)), (18, .pointer (some ⟨g3, k, none⟩)), (17, bv (UInt8.ofNat (((wdg N) (k / 8)) / 2 ^ (8 * (k % 8))))), (16, uc (((wdg N) (k / 8)) / 2 ^ (8 * (k % 8)))), (15, .int .i64 ((8 * (k % 8) : Nat) : Int)), (14, .int .i64 ((k % 8 : Nat) : Int)), (13, .int .i64 ((k : Nat) : Int)), (12, uc ((wdg N) (k / 8))), (11, .pointer (some ⟨g1, k / 8, none⟩)), (10, .int .i64 ((k / 8 : Nat) : Int)), (9, .int .i64 ((k : Nat) : Int)), (8, .int .i64 ((k : Nat) : Int)), (4, .int .i64 ((k : Nat) : Int)), (7, .int .i64 ((k : Nat) : Int)), (6, .bool true), (3, .pointer (some ⟨g3, 0, none⟩)), (2, .pointer (some ⟨g2, 0, none⟩)), (1, .pointer (some ⟨g1, 0, none⟩))] [(g3, 42, bvs (rb 16 (mapB (bN N) b0s (k + 1)))), (g2, 42, bvs (rb 16 b0s)), (g1, 62, nv 3 (wdg N))] := H.pick [0, 1, 2, 3, 4, 5, 6, 7, 8, 9, 10, 11, 12, 13, 14, 16, 17, 18] [0, 1, 2] rfl
    refine pl_does (does_move rfl rfl) rfl rfl rfl rfl H ?_
    try clear H a W
    intro a W H
    refine pl_end ?_
    refine ⟨k + 1, by omega, by omega, ?_⟩
    show St 21 w a W [(5, .int .i64 ((k + 1 : Nat) : Int)), (3, .pointer (some ⟨g3, 0, none⟩)), (2, .pointer (some ⟨g2, 0, none⟩)), (1, .pointer (some ⟨g1, 0, none⟩))] [(g3, 42, bvs (rb 16 (mapB (bN N) b0s (k + 1)))), (g2, 42, bvs (rb 16 b0s)), (g1, 62, nv 3 (wdg N))]
    exact H.pick [0, 16, 17, 18] [0, 1, 2] rfl
  · obtain rfl : 16 = k := by omega
    refine wp_seq_k (fun K9 hK9 => ?_)
    refine rg_plain ?_
    refine pl_does (does_binOp rfl rfl rfl (i_lss_no (k := 16) (m := 16) (by omega) _ _)) rfl rfl rfl rfl H ?_
    try clear H a W
    intro a W H
    refine pl_end ?_
    refine hK9 _ _ ?_
    clear hK9
    refine wp_seq_k (fun K10 hK10 => ?_)
    refine wp_cond_false (H.ev rfl) ?_
    refine wp_exit ?_
    repeat (with_reducible refine then_exit ?_)
    refine blk_exit ?_
    rw [mapB_all] at H
    refine hK3 _ _ ?_
    clear hK3
    refine wp_seq_k (fun K11 hK11 => ?_)
    refine rg_plain ?_
    refine pl_does (does_load rfl rfl (k := 0) rfl Tryd.underlying42 rfl (info_mark _)) rfl rfl rfl rfl H ?_
    try clear H a W
    intro a W H
    refine pl_store rfl rfl rfl (k := 1) rfl (info_mark _) (size_rb _ _ _) (bvs_one _) rfl rfl H ?_
    try clear H a W
    intro a W H
    refine pl_end ?_
    replace H : St 21 w a W [(2, .pointer (some ⟨g2, 0, none⟩))] [(g3, 42, bvs (rb 16 (bN N))), (g2, 42, bvs (rb 16 (bN N))), (g1, 62, nv 3 (wdg N))] := H.pick [4] [0, 1, 2] rfl
    refine hK11 _ _ ?_
    clear hK11
    refine wp_ret ?_
    repeat (first | (with_reducible refine then_ret ?_) | (with_reducible refine blk_ret ?_))
    refine end_cell (p := 2) rfl rfl (k := 1) rfl Tryd.underlying42 rfl (info_mark _) H (fun hb => ?_)
    exact ⟨rfl, hb⟩
set_option maxHeartbeats 4000000 in
theorem put_head {w0 w : World} {g N i : Nat} {b : UInt8} {t : Hep} (hN : N < 256 ^ i) (hi : i < 24) (K : Kn w0 w ((g, 62, nv 3 (wdg N)) :: t)) : Calls Tryd.prog 32 #[.pointer (some ⟨g, 0, none⟩), .int .i64 ((i : Nat) : Int), bv b] w (fun rr w' => rr = .returned (.tuple #[]) ∧ Kn w0 w' ((g, 62, nv 3 (wdg (putN N i b.toNat))) :: t)) := by
  refine calls_kn (vs := [.pointer (some ⟨g, 0, none⟩), .int .i64 ((i : Nat) : Int), bv b]) 21 Tryd.func32 rfl Tryd.ntmps32 rfl K (fun a W H => ?_)
  replace H : St 21 w0 a W [(0, .pointer (some ⟨g, 0, none⟩)), (1, .int .i64 ((i : Nat) : Int)), (2, bv b)] ((g, 62, nv 3 (wdg N)) :: t) := H
  refine drawnR SB SB [⟨6, fun u_ _ => u_ = .pointer (some ⟨g, 0, none⟩), [], none, false⟩, ⟨7, fun u_ _ => u_ = .int .i64 ((i : Nat) : Int), [], none, false⟩, ⟨8, fun u_ _ => u_ = .int .i64 ((i / 8 : Nat) : Int), [1], none, false⟩, ⟨9, fun u_ _ => u_ = .pointer (some ⟨g, 0, none⟩), [0], none, false⟩, ⟨10, fun u_ _ => u_ = .pointer (some ⟨g, i / 8, none⟩), [3, 2], none, false⟩, ⟨11, fun u_ _ => u_ = uc ((wdg N) (i / 8)), [4], none, false⟩, ⟨12, fun u_ _ => u_ = bv b, [], none, false⟩, ⟨13, fun u_ _ => u_ = uc ((b).toNat), [6], none, false⟩, ⟨14, fun u_ _ => u_ = .int .i64 ((i : Nat) : Int), [], none, false⟩, ⟨15, fun u_ _ => u_ = .int .i64 ((i % 8 : Nat) : Int), [8], none, false⟩, ⟨16, fun u_ _ => u_ = .int .i64 ((8 * (i % 8) : Nat) : Int), [9], none, false⟩, ⟨17, fun u_ _ => u_ = uc (((b).toNat) * 2 ^ (8 * (i % 8)) % 18446744073709551616), [7, 10], none, false⟩, ⟨18, fun u_ _ => u_ = uc (wdg N (i / 8) ||| b.toNat * 2 ^ (8 * (i % 8)) % 18446744073709551616), [5, 11], none, false⟩, ⟨19, fun u_ _ => u_ = .pointer (some ⟨g, 0, none⟩), [0], none, false⟩, ⟨20, fun u_ _ => u_ = .pointer (some ⟨g, i / 8, none⟩), [13, 2], none, false⟩] (0 :: 0 :: 2 :: 1 :: 12 :: 16 :: 0 :: 64 :: 0 :: 256 :: 512 :: 1152 :: 2080 :: 1 :: 16383 :: 24575 :: []) [12, 14] sb_st sb_st (by kernel_rfl) (by kernel_rfl) (by kernel_rfl) H ⟨⟨fun a W  H => by exact ob_valS H (wanted_none rfl) (does_move rfl rfl), val_grow, fun _ => val_grow⟩, ⟨fun a W  H => by exact ob_valS H (wanted_none rfl) (does_move rfl rfl), val_grow, fun _ => val_grow⟩, ⟨fun a W y1 hy1 H => by subst hy1; exact ob_valS H (wanted_none rfl) (does_binOp rfl rfl rfl (i_quoE (k := i) (m := 8) (r := i / 8) rfl (by omega) (by omega) _ _)), val_grow, fun _ => val_grow⟩, ⟨fun a W y0 hy0 H => by subst hy0; exact ob_valS H (wanted_none rfl) (does_nilCheck rfl rfl), val_grow, fun _ => val_grow⟩, ⟨fun a W y3 hy3 y2 hy2 H => by subst hy3; subst hy2; exact ob_valS H (wanted_none rfl) (does_indexAddr rfl rfl rfl (ia_n3 (j := (i / 8)) (by omega))), val_grow, fun _ => val_grow⟩, ⟨fun a W y4 hy4 H => by subst hy4; exact ob_valS H (wanted_none rfl) (does_loadAt (v := uc ((wdg N) (i / 8))) rfl rfl (k := 0) rfl (ld_nv (by omega) (rfl))), val_grow, fun _ => val_grow⟩, ⟨fun a W  H => by exact ob_valS H (wanted_none rfl) (does_move rfl rfl), val_grow, fun _ => val_grow⟩, ⟨fun a W y6 hy6 H => by subst hy6; exact ob_valS H (wanted_none rfl) (does_convert rfl rfl (cv_bu _)), val_grow, fun _ => val_grow⟩, ⟨fun a W  H => by exact ob_valS H (wanted_none rfl) (does_move rfl rfl), val_grow, fun _ => val_grow⟩, ⟨fun a W y8 hy8 H => by subst hy8; exact ob_valS H (wanted_none rfl) (does_binOp rfl rfl rfl (i_remE (k := i) (m := 8) (r := i % 8) rfl (by omega) _ _)), val_grow, fun _ => val_grow⟩, ⟨fun a W y9 hy9 H => by subst hy9; exact ob_valS H (wanted_none rfl) (does_binOp rfl rfl rfl (i_mulE (k := 8) (m := (i % 8)) (r := 8 * (i % 8)) rfl (by omega) _ _)), val_grow, fun _ => val_grow⟩, ⟨fun a W y7 hy7 y10 hy10 H => by subst hy7; subst hy10; exact ob_valS H (wanted_none rfl) (does_binOp rfl rfl rfl (u_shl (s := (8 * (i % 8))) (by omega) _ _)), val_grow, fun _ => val_grow⟩, ⟨fun a W y5 hy5 y11 hy11 H => by subst hy5; subst hy11; exact ob_valS H (wanted_none rfl) (does_binOp rfl rfl rfl (u_orE (wdg_lt _ _) (by omega) (rfl) _ _)), val_grow, fun _ => val_grow⟩, ⟨fun a W y0 hy0 H => by subst hy0; exact ob_valS H (wanted_none rfl) (does_nilCheck rfl rfl), val_grow, fun _ => val_grow⟩, ⟨fun a W y13 hy13 y2 hy2 H => by subst hy13; subst hy2; exact ob_valS H (wanted_none rfl) (does_indexAddr rfl rfl rfl (ia_n3 (j := (i / 8)) (by omega))), val_grow, fun _ => val_grow⟩, trivial⟩ (by kernel_rfl) ?_
  try clear H a W
  intro a W
  rintro _ rfl
  rintro _ rfl
  intro H
  replace H : St 21 w0 a W [(20, .pointer (some ⟨g, i / 8, none⟩)), (18, uc (wdg N (i / 8) ||| b.toNat * 2 ^ (8 * (i % 8)) % 18446744073709551616)), (0, .pointer (some ⟨g, 0, none⟩)), (1, .int .i64 ((i : Nat) : Int)), (2, bv b)] ((g, 62, nv 3 (wdg N)) :: t) := H
  refine pl_storeAt rfl rfl rfl (k := 0) rfl (st_nv (by omega)) (sv_nv rfl) rfl rfl H ?_
  try clear H a W
  intro a W H
  refine pl_end ?_
  replace H : St 21 w0 a W [] ((g, 62, nv 3 (updN (wdg N) (i / 8) (wdg N (i / 8) ||| b.toNat * 2 ^ (8 * (i % 8)) % 18446744073709551616))) :: t) := H.pickT (h := [(g, 62, nv 3 (updN (wdg N) (i / 8) (wdg N (i / 8) ||| b.toNat * 2 ^ (8 * (i % 8)) % 18446744073709551616)))]) (t := t) [] [0] rfl
  refine end_none rfl H (fun hk => ?_)
  rw [putU hN] at hk
  exact ⟨rfl, hk⟩
theorem put_mid {w0 w : World} {g N i M : Nat} {b : UInt8} {r t : Hep} (hN : N < 256 ^ i) (hi : i < 24) (e : putN N i b.toNat = M) (K : Kn w0 w (r ++ (g, 62, nv 3 (wdg N)) :: t)) : Calls Tryd.prog 32 #[.pointer (some ⟨g, 0, none⟩), .int .i64 ((i : Nat) : Int), bv b] w (fun rr w' => rr = .returned (.tuple #[]) ∧ Kn w0 w' (r ++ (g, 62, nv 3 (wdg M)) :: t)) := by
  subst e
  refine (put_head hN hi (K.perm List.perm_middle)).mono ?_
  rintro rr w' ⟨h1, h2⟩
  exact ⟨h1, h2.perm List.perm_middle.symm⟩
theorem put_one {w0 w : World} {g N i : Nat} {r t : Hep} (hN : N < 256 ^ i) (hi : i < 24) (K : Kn w0 w (r ++ (g, 62, nv 3 (wdg N)) :: t)) : Calls Tryd.prog 32 #[.pointer (some ⟨g, 0, none⟩), .int .i64 ((i : Nat) : Int), .int .u8 1] w (fun rr w' => rr = .returned (.tuple #[]) ∧ Kn w0 w' (r ++ (g, 62, nv 3 (wdg (putN N i 1))) :: t)) := by
  rw [← bv_1]
  exact put_mid hN hi rfl K
set_option maxHeartbeats 4000000 in
theorem with_any {N M n : Nat} (hM : M < 256 ^ n) (hn : n ≤ 16) (w : World) : Calls Tryd.prog 33 #[.agg (nv 3 (wdg N)), .agg (nv 3 (wdg M)), .int .i64 ((n : Nat) : Int)] w (fun rr w' => rr = .returned (.agg (nv 3 (wdg (N + putN M n 1)))) ∧ Below w.heap.size w w') := by
  refine calls_st (vs := [.agg (nv 3 (wdg N)), .agg (nv 3 (wdg M)), .int .i64 ((n : Nat) : Int)]) 12 Tryd.func33 rfl Tryd.ntmps33 rfl (fun a W H => ?_)
  replace H : St 12 w a W [(0, .agg (nv 3 (wdg N))), (1, .agg (nv 3 (wdg M))), (2, .int .i64 ((n : Nat) : Int))] [] := H
  refine wp_seq_k (fun K1 hK1 => ?_)
  refine rg_plain ?_
  refine pl_box rfl rfl (bx_n3 (wdg N)) rfl rfl rfl rfl H ?_
  try clear H a W
  intro g1 a W H
  refine pl_box rfl rfl (bx_n3 (wdg M)) rfl rfl rfl rfl H ?_
  try clear H a W
  intro g2 a W H
  refine pl_new (news_of rfl al_n3) rfl rfl rfl rfl H ?_
  try clear H a W
  intro g3 a W H
  refine pl_end ?_
  replace H : St 12 w a W [(6, .pointer (some ⟨g3, 0, none⟩)), (4, .pointer (some ⟨g2, 0, none⟩)), (3, .pointer (some ⟨g1, 0, none⟩)), (2, .int .i64 ((n : Nat) : Int))] [(g3, 62, nv 3 n0s), (g2, 62, nv 3 (wdg M)), (g1, 62, nv 3 (wdg N))] := H.pick [0, 1, 2, 5] [0, 1, 2] rfl
  refine hK1 _ _ ?_
  clear hK1
  refine wp_seq_k (fun K2 hK2 => ?_)
  refine rg_plain ?_
  refine pl_does (does_move rfl rfl) rfl rfl rfl rfl H ?_
  try clear H a W
  intro a W H
  refine pl_callK (f := 32) (caps := #[]) (vs' := [.pointer (some ⟨g2, 0, none⟩), .int .i64 ((n : Nat) : Int), .int .u8 1]) rfl ⟨_, Tryd.func32, by kernel_rfl⟩ rfl rfl rfl (fun K_ => put_one (N := M) (r := [(g3, 62, nv 3 n0s)]) (t := [(g1, 62, nv 3 (wdg N))]) hM (by omega) K_) rfl rfl rfl rfl H ?_
  try clear H a W
  intro a W H
  replace H : St 12 w a W [(8, .tuple #[]), (7, .int .i64 ((n : Nat) : Int)), (6, .pointer (some ⟨g3, 0, none⟩)), (4, .pointer (some ⟨g2, 0, none⟩)), (3, .pointer (some ⟨g1, 0, none⟩)), (2, .int .i64 ((n : Nat) : Int))] [(g3, 62, nv 3 n0s), (g2, 62, nv 3 (wdg (putN M n 1))), (g1, 62, nv 3 (wdg N))] := H
  refine pl_end ?_
  replace H : St 12 w a W [(6, .pointer (some ⟨g3, 0, none⟩)), (4, .pointer (some ⟨g2, 0, none⟩)), (3, .pointer (some ⟨g1, 0, none⟩))] [(g3, 62, nv 3 n0s), (g2, 62, nv 3 (wdg (putN M n 1))), (g1, 62, nv 3 (wdg N))] := H.pick [2, 3, 4] [0, 1, 2] rfl
  refine hK2 _ _ ?_
  clear hK2
  refine wp_seq_k (fun K3 hK3 => ?_)
  refine rg_plain ?_
  refine pl_does (does_load rfl rfl (k := 2) rfl Tryd.underlying62 rfl (info_n3 _)) rfl rfl rfl rfl H ?_
  try clear H a W
  intro a W H
  refine pl_does (does_load rfl rfl (k := 1) rfl Tryd.underlying62 rfl (info_n3 _)) rfl rfl rfl rfl H ?_
  try clear H a W
  intro a W H
  refine pl_does (does_call rfl ⟨_, Tryd.func36, by kernel_rfl⟩ rfl (fun W hb => plus_any _ _ W)) rfl rfl rfl rfl H ?_
  try clear H a W
  intro a W H
  refine pl_store rfl rfl rfl (k := 0) rfl (info_n3 _) (size_nv _ _ _) (nv_one _ _) rfl rfl H ?_
  try clear H a W
  intro a W H
  refine pl_end ?_
  replace H : St 12 w a W [(6, .pointer (some ⟨g3, 0, none⟩))] [(g3, 62, nv 3 (wdg (N + (putN M n 1)))), (g2, 62, nv 3 (wdg (putN M n 1))), (g1, 62, nv 3 (wdg N))] := H.pick [3] [0, 1, 2] rfl
  refine hK3 _ _ ?_
  clear hK3
  refine wp_ret ?_
  repeat (first | (with_reducible refine then_ret ?_) | (with_reducible refine blk_ret ?_))
  refine end_cell (p := 6) rfl rfl (k := 0) rfl Tryd.underlying62 rfl (info_n3 _) H (fun hb => ?_)
  exact ⟨rfl, hb⟩
theorem sum_0 (f : Nat → Nat) : nv 3 (wdg 0) = nv 3 (wdg (sumD f 0)) := by unfold sumD; rfl
set_option maxHeartbeats 4000000 in
theorem secrets_any (kk : Nat → UInt8) (w : World) : Calls Tryd.prog 31 #[.agg (bvs (rb 32 kk))] w (fun rr w' => rr = .returned (.tuple #[.agg (nv 3 (wdg (sumD (rD kk) 16))), .agg (nv 3 (wdg (sumD (sD kk) 16)))]) ∧ Below w.heap.size w w') := by
  refine calls_st (vs := [.agg (bvs (rb 32 kk))]) 46 Tryd.func31 rfl Tryd.ntmps31 rfl (fun a W H => ?_)
  replace H : St 46 w a W [(0, .agg (bvs (rb 32 kk)))] [] := H
  refine wp_seq_k (fun K1 hK1 => ?_)
  refine rg_plain ?_
  refine pl_box rfl rfl (bx_key kk) rfl rfl rfl rfl H ?_
  try clear H a W
  intro g1 a W H
  refine pl_new (news_of rfl al_n3) rfl rfl rfl rfl H ?_
  try clear H a W
  intro g2 a W H
  refine pl_new (news_of rfl al_n3) rfl rfl rfl rfl H ?_
  try clear H a W
  intro g3 a W H
  refine pl_end ?_
  replace H : St 46 w a W [(3, .pointer (some ⟨g3, 0, none⟩)), (2, .pointer (some ⟨g2, 0, none⟩)), (1, .pointer (some ⟨g1, 0, none⟩))] [(g3, 62, nv 3 n0s), (g2, 62, nv 3 n0s), (g1, 23, bvs (rb 32 kk))] := H.pick [0, 1, 2] [0, 1, 2] rfl
  refine hK1 _ _ ?_
  clear hK1
  refine wp_seq_k (fun K2 hK2 => ?_)
  refine wp_seq_k (fun K3 hK3 => ?_)
  refine rg_plain ?_
  refine pl_does (does_build rfl rfl bd_c4) rfl rfl rfl rfl H ?_
  try clear H a W
  intro a W H
  refine pl_does (does_move rfl rfl) rfl rfl rfl rfl H ?_
  try clear H a W
  intro a W H
  refine pl_end ?_
  refine hK3 _ _ ?_
  clear hK3
  rw [← cA_0 kk] at H
  refine wp_block ?_
  replace H : St 46 w a W [(10, .int .i64 ((0 : Nat) : Int)), (9, .agg #[.int .i64 3, .int .i64 7, .int .i64 11, .int .i64 15]), (3, .pointer (some ⟨g3, 0, none⟩)), (2, .pointer (some ⟨g2, 0, none⟩)), (1, .pointer (some ⟨g1, 0, none⟩))] [(g3, 62, nv 3 n0s), (g2, 62, nv 3 n0s), (g1, 23, bvs (rb 32 (cA kk 0)))] := H.pick [0, 1, 2, 3, 4] [0, 1, 2] rfl
  refine wp_rounds 4 (fun k a W => St 46 w a W [(10, .int .i64 ((k : Nat) : Int)), (9, .agg #[.int .i64 3, .int .i64 7, .int .i64 11, .int .i64 15]), (3, .pointer (some ⟨g3, 0, none⟩)), (2, .pointer (some ⟨g2, 0, none⟩)), (1, .pointer (some ⟨g1, 0, none⟩))] [(g3, 62, nv 3 n0s), (g2, 62, nv 3 n0s), (g1, 23, bvs (rb 32 (cA kk k)))]) (k0 := 0) H (by omega) ?_
  try clear H a W
  intro k a W hk H
  by_cases hk2 : k < 4
  · refine wp_seq_k (fun K4 hK4 => ?_)
    refine rg_plain ?_
    refine pl_does (does_binOp rfl rfl rfl (i_lss_yes (k := k) (m := 4) (by omega) _ _)) rfl rfl rfl rfl H ?_
    try clear H a W
    intro a W H
    refine pl_end ?_
    refine hK4 _ _ ?_
    clear hK4
    refine wp_seq_k (fun K5 hK5 => ?_)
    refine wp_cond_true (H.ev rfl) ?_
    refine wp_skip ?_
    refine hK5 _ _ ?_
    clear hK5
    refine wp_seq_k (fun K6 hK6 => ?_)
    refine wp_block ?_
    refine wp_seq_k (fun K7 hK7 => ?_)
    refine rg_plain ?_
    refine pl_does (does_index rfl rfl rfl (ix_c4 (j := k) (by omega))) rfl rfl rfl rfl H ?_
    try clear H a W
    intro a W H
    refine pl_does (does_assign rfl rfl) rfl rfl rfl rfl H ?_
    try clear H a W
    intro a W H
    refine pl_end ?_
    refine hK7 _ _ ?_
    clear hK7
    refine rg_plain ?_
    refine pl_does (does_move rfl rfl) rfl rfl rfl rfl H ?_
    try clear H a W
    intro a W H
    refine pl_does (does_indexAddr rfl rfl rfl (ia_key (j := (4 * k + 3)) (by omega))) rfl rfl rfl rfl H ?_
    try clear H a W
    intro a W H
    refine pl_does (does_loadAt (v := bv ((cA kk k) (4 * k + 3))) rfl rfl (k := 2) rfl (ld_byte (by omega))) rfl rfl rfl rfl H ?_
    try clear H a W
    intro a W H
    refine pl_does (does_binOp rfl rfl rfl (b_and15 _ _ _)) rfl rfl rfl rfl H ?_
    try clear H a W
    intro a W H
    refine pl_does (does_indexAddr rfl rfl rfl (ia_key (j := (4 * k + 3)) (by omega))) rfl rfl rfl rfl H ?_
    try clear H a W
    intro a W H
    refine pl_storeAt rfl rfl rfl (k := 2) rfl (st_byte (n := 32) (x := UInt8.ofNat (((cA kk k) (4 * k + 3)).toNat % 16)) (by omega)) (sv_byte (cA_step kk k)) rfl rfl H ?_
    try clear H a W
    intro a W H
    refine pl_end ?_
    refine blk_normal ?_
    refine hK6 _ _ ?_
    clear hK6
    refine rg_plain ?_
    refine pl_does (does_binOp rfl rfl rfl (i_addE (k := k) (m := 1) rfl (by omega) _ _)) rfl rfl rfl rfl H ?_
    try clear H a W
    intro a W H
    replace H : St 46 w a W [(18, .int .i64 ((k + 1 : Nat) : Int)), (17, .pointer (some ⟨g1, 4 * k + 3, none⟩)), (16, bv (UInt8.ofNat (((cA kk k) (4 * k + 3)).toNat % 16))), (15, bv ((cA kk k) (4 * k + 3))), (14, .pointer (some ⟨g1, 4 * k + 3, none⟩)), (13, .int .i64 ((4 * k + 3 : Nat) : Int)), (5, .int .i64 ((4 * k + 3 : Nat) : Int)), (12, .int .i64 ((4 * k + 3 : Nat) : Int)), (11, .bool true), (9, .agg #[.int .i64 3, .int .i64 7, .int .i64 11, .int .i64 15]), (3, .pointer (some ⟨g3, 0, none⟩)), (2, .pointer (some ⟨g2, 0, none⟩)), (1, .pointer (some ⟨g1, 0, none⟩))] [(g3, 62, nv 3 n0s), (g2, 62, nv 3 n0s), (g1, 23, bvs (rb 32 (cA kk (k + 1))))] := H.pick [0, 1, 2, 3, 4, 5, 6, 7, 8, 10, 11, 12, 13] [0, 1, 2] rfl
    refine pl_does (does_move rfl rfl) rfl rfl rfl rfl H ?_
    try clear H a W
    intro a W H
    refine pl_end ?_
    refine ⟨k + 1, by omega, by omega, ?_⟩
    show St 46 w a W [(10, .int .i64 ((k + 1 : Nat) : Int)), (9, .agg #[.int .i64 3, .int .i64 7, .int .i64 11, .int .i64 15]), (3, .pointer (some ⟨g3, 0, none⟩)), (2, .pointer (some ⟨g2, 0, none⟩)), (1, .pointer (some ⟨g1, 0, none⟩))] [(g3, 62, nv 3 n0s), (g2, 62, nv 3 n0s), (g1, 23, bvs (rb 32 (cA kk (k + 1))))]
    exact H.pick [0, 10, 11, 12, 13] [0, 1, 2] rfl
  · obtain rfl : 4 = k := by omega
    refine wp_seq_k (fun K8 hK8 => ?_)
    refine rg_plain ?_
    refine pl_does (does_binOp rfl rfl rfl (i_lss_no (k := 4) (m := 4) (by omega) _ _)) rfl rfl rfl rfl H ?_
    try clear H a W
    intro a W H
    refine pl_end ?_
    refine hK8 _ _ ?_
    clear hK8
    refine wp_seq_k (fun K9 hK9 => ?_)
    refine wp_cond_false (H.ev rfl) ?_
    refine wp_exit ?_
    repeat (with_reducible refine then_exit ?_)
    refine blk_exit ?_
    refine hK2 _ _ ?_
    clear hK2
    refine wp_seq_k (fun K10 hK10 => ?_)
    refine wp_seq_k (fun K11 hK11 => ?_)
    refine rg_plain ?_
    refine pl_does (does_build rfl rfl bd_c3) rfl rfl rfl rfl H ?_
    try clear H a W
    intro a W H
    refine pl_does (does_move rfl rfl) rfl rfl rfl rfl H ?_
    try clear H a W
    intro a W H
    refine pl_end ?_
    replace H : St 46 w a W [(20, .int .i64 0), (19, .agg #[.int .i64 4, .int .i64 8, .int .i64 12]), (3, .pointer (some ⟨g3, 0, none⟩)), (2, .pointer (some ⟨g2, 0, none⟩)), (1, .pointer (some ⟨g1, 0, none⟩))] [(g3, 62, nv 3 n0s), (g2, 62, nv 3 n0s), (g1, 23, bvs (rb 32 (cA kk 4)))] := H.pick [0, 1, 5, 6, 7] [0, 1, 2] rfl
    refine hK11 _ _ ?_
    clear hK11
    rw [← cB_0 kk] at H
    refine wp_block ?_
    replace H : St 46 w a W [(20, .int .i64 ((0 : Nat) : Int)), (19, .agg #[.int .i64 4, .int .i64 8, .int .i64 12]), (3, .pointer (some ⟨g3, 0, none⟩)), (2, .pointer (some ⟨g2, 0, none⟩)), (1, .pointer (some ⟨g1, 0, none⟩))] [(g3, 62, nv 3 n0s), (g2, 62, nv 3 n0s), (g1, 23, bvs (rb 32 (cB kk 0)))] := H.pick [0, 1, 2, 3, 4] [0, 1, 2] rfl
    refine wp_rounds 3 (fun k a W => St 46 w a W [(20, .int .i64 ((k : Nat) : Int)), (19, .agg #[.int .i64 4, .int .i64 8, .int .i64 12]), (3, .pointer (some ⟨g3, 0, none⟩)), (2, .pointer (some ⟨g2, 0, none⟩)), (1, .pointer (some ⟨g1, 0, none⟩))] [(g3, 62, nv 3 n0s), (g2, 62, nv 3 n0s), (g1, 23, bvs (rb 32 (cB kk k)))]) (k0 := 0) H (by omega) ?_
    try clear H a W
    intro k a W hk H
    by_cases hk2 : k < 3
    · refine wp_seq_k (fun K12 hK12 => ?_)
      refine rg_plain ?_
      refine pl_does (does_binOp rfl rfl rfl (i_lss_yes (k := k) (m := 3) (by omega) _ _)) rfl rfl rfl rfl H ?_
      try clear H a W
      intro a W H
      refine pl_end ?_
      refine hK12 _ _ ?_
      clear hK12
      refine wp_seq_k (fun K13 hK13 => ?_)
      refine wp_cond_true (H.ev rfl) ?_
      refine wp_skip ?_
      refine hK13 _ _ ?_
      clear hK13
      refine wp_seq_k (fun K14 hK14 => ?_)
      refine wp_block ?_
      refine wp_seq_k (fun K15 hK15 => ?_)
      refine rg_plain ?_
      refine pl_does (does_index rfl rfl rfl (ix_c3 (j := k) (by omega))) rfl rfl rfl rfl H ?_
      try clear H a W
      intro a W H
      refine pl_does (does_assign rfl rfl) rfl rfl rfl rfl H ?_
      try clear H a W
      intro a W H
      refine pl_end ?_
      refine hK15 _ _ ?_
      clear hK15
      refine rg_plain ?_
      refine pl_does (does_move rfl rfl) rfl rfl rfl rfl H ?_
      try clear H a W
      intro a W H
      refine pl_does (does_indexAddr rfl rfl rfl (ia_key (j := (4 * k + 4)) (by omega))) rfl rfl rfl rfl H ?_
      try clear H a W
      intro a W H
      refine pl_does (does_loadAt (v := bv ((cB kk k) (4 * k + 4))) rfl rfl (k := 2) rfl (ld_byte (by omega))) rfl rfl rfl rfl H ?_
      try clear H a W
      intro a W H
      refine pl_does (does_binOp rfl rfl rfl (b_andNot3 _ _ _)) rfl rfl rfl rfl H ?_
      try clear H a W
      intro a W H
      refine pl_does (does_indexAddr rfl rfl rfl (ia_key (j := (4 * k + 4)) (by omega))) rfl rfl rfl rfl H ?_
      try clear H a W
      intro a W H
      refine pl_storeAt rfl rfl rfl (k := 2) rfl (st_byte (n := 32) (x := UInt8.ofNat (((cB kk k) (4 * k + 4)).toNat / 4 * 4)) (by omega)) (sv_byte (cB_step kk k)) rfl rfl H ?_
      try clear H a W
      intro a W H
      refine pl_end ?_
      refine blk_normal ?_
      refine hK14 _ _ ?_
      clear hK14
      refine rg_plain ?_
      refine pl_does (does_binOp rfl rfl rfl (i_addE (k := k) (m := 1) rfl (by omega) _ _)) rfl rfl rfl rfl H ?_
      try clear H a W
      intro a W H
      replace H : St 46 w a W [(28, .int .i64 ((k + 1 : Nat) : Int)), (27, .pointer (some ⟨g1, 4 * k + 4, none⟩)), (26, bv (UInt8.ofNat (((cB kk k) (4 * k + 4)).toNat / 4 * 4))), (25, bv ((cB kk k) (4 * k + 4))), (24, .pointer (some ⟨g1, 4 * k + 4, none⟩)), (23, .int .i64 ((4 * k + 4 : Nat) : Int)), (7, .int .i64 ((4 * k + 4 : Nat) : Int)), (22, .int .i64 ((4 * k + 4 : Nat) : Int)), (21, .bool true), (19, .agg #[.int .i64 4, .int .i64 8, .int .i64 12]), (3, .pointer (some ⟨g3, 0, none⟩)), (2, .pointer (some ⟨g2, 0, none⟩)), (1, .pointer (some ⟨g1, 0, none⟩))] [(g3, 62, nv 3 n0s), (g2, 62, nv 3 n0s), (g1, 23, bvs (rb 32 (cB kk (k + 1))))] := H.pick [0, 1, 2, 3, 4, 5, 6, 7, 8, 10, 11, 12, 13] [0, 1, 2] rfl
      refine pl_does (does_move rfl rfl) rfl rfl rfl rfl H ?_
      try clear H a W
      intro a W H
      refine pl_end ?_
      refine ⟨k + 1, by omega, by omega, ?_⟩
      show St 46 w a W [(20, .int .i64 ((k + 1 : Nat) : Int)), (19, .agg #[.int .i64 4, .int .i64 8, .int .i64 12]), (3, .pointer (some ⟨g3, 0, none⟩)), (2, .pointer (some ⟨g2, 0, none⟩)), (1, .pointer (some ⟨g1, 0, none⟩))] [(g3, 62, nv 3 n0s), (g2, 62, nv 3 n0s), (g1, 23, bvs (rb 32 (cB kk (k + 1))))]
      exact H.pick [0, 10, 11, 12, 13] [0, 1, 2] rfl
    · obtain rfl : 3 = k := by omega
      refine wp_seq_k (fun K16 hK16 => ?_)
      refine rg_plain ?_
      refine pl_does (does_binOp rfl rfl rfl (i_lss_no (k := 3) (m := 3) (by omega) _ _)) rfl rfl rfl rfl H ?_
      try clear H a W
      intro a W H
      refine pl_end ?_
      refine hK16 _ _ ?_
      clear hK16
      refine wp_seq_k (fun K17 hK17 => ?_)
      refine wp_cond_false (H.ev rfl) ?_
      refine wp_exit ?_
      repeat (with_reducible refine then_exit ?_)
      refine blk_exit ?_
      refine hK10 _ _ ?_
      clear hK10
      refine wp_seq_k (fun K18 hK18 => ?_)
      refine wp_seq_k (fun K19 hK19 => ?_)
      refine rg_plain ?_
      refine pl_does (does_move rfl rfl) rfl rfl rfl rfl H ?_
      try clear H a W
      intro a W H
      refine pl_end ?_
      replace H : St 46 w a W [(29, .int .i64 0), (3, .pointer (some ⟨g3, 0, none⟩)), (2, .pointer (some ⟨g2, 0, none⟩)), (1, .pointer (some ⟨g1, 0, none⟩))] [(g3, 62, nv 3 n0s), (g2, 62, nv 3 n0s), (g1, 23, bvs (rb 32 (cB kk 3)))] := H.pick [0, 4, 5, 6] [0, 1, 2] rfl
      refine hK19 _ _ ?_
      clear hK19
      rw [nv_zero, sum_0 (rD kk)] at H
      have hz : nv 3 (wdg (sumD (rD kk) 0)) = nv 3 (wdg (sumD (sD kk) 0)) := by rw [← sum_0, ← sum_0]
      replace H : St 46 w a W [(29, .int .i64 0), (3, .pointer (some ⟨g3, 0, none⟩)), (2, .pointer (some ⟨g2, 0, none⟩)), (1, .pointer (some ⟨g1, 0, none⟩))] [(g3, 62, nv 3 (wdg (sumD (sD kk) 0))), (g2, 62, nv 3 (wdg (sumD (rD kk) 0))), (g1, 23, bvs (rb 32 (cB kk 3)))] := by rw [← hz]; exact H
      refine wp_block ?_
      replace H : St 46 w a W [(29, .int .i64 ((0 : Nat) : Int)), (3, .pointer (some ⟨g3, 0, none⟩)), (2, .pointer (some ⟨g2, 0, none⟩)), (1, .pointer (some ⟨g1, 0, none⟩))] [(g3, 62, nv 3 (wdg (sumD (sD kk) 0))), (g2, 62, nv 3 (wdg (sumD (rD kk) 0))), (g1, 23, bvs (rb 32 (cB kk 3)))] := H.pick [0, 1, 2, 3] [0, 1, 2] rfl
      refine wp_rounds 16 (fun k a W => St 46 w a W [(29, .int .i64 ((k : Nat) : Int)), (3, .pointer (some ⟨g3, 0, none⟩)), (2, .pointer (some ⟨g2, 0, none⟩)), (1, .pointer (some ⟨g1, 0, none⟩))] [(g3, 62, nv 3 (wdg (sumD (sD kk) k))), (g2, 62, nv 3 (wdg (sumD (rD kk) k))), (g1, 23, bvs (rb 32 (cB kk 3)))]) (k0 := 0) H (by omega) ?_
      try clear H a W
      intro k a W hk H
      by_cases hk2 : k < 16
      · refine wp_seq_k (fun K20 hK20 => ?_)
        refine rg_plain ?_
        refine pl_does (does_binOp rfl rfl rfl (i_lss_yes (k := k) (m := 16) (by omega) _ _)) rfl rfl rfl rfl H ?_
        try clear H a W
        intro a W H
        refine pl_end ?_
        refine hK20 _ _ ?_
        clear hK20
        refine wp_seq_k (fun K21 hK21 => ?_)
        refine wp_cond_true (H.ev rfl) ?_
        refine wp_skip ?_
        refine hK21 _ _ ?_
        clear hK21
        refine wp_seq_k (fun K22 hK22 => ?_)
        refine wp_block ?_
        refine wp_seq_k (fun K23 hK23 => ?_)
        refine rg_plain ?_
        refine pl_does (does_move rfl rfl) rfl rfl rfl rfl H ?_
        try clear H a W
        intro a W H
        refine pl_does (does_assign rfl rfl) rfl rfl rfl rfl H ?_
        try clear H a W
        intro a W H
        refine pl_end ?_
        refine hK23 _ _ ?_
        clear hK23
        refine wp_seq_k (fun K24 hK24 => ?_)
        refine rg_plain ?_
        refine pl_does (does_move rfl rfl) rfl rfl rfl rfl H ?_
        try clear H a W
        intro a W H
        refine pl_does (does_move rfl rfl) rfl rfl rfl rfl H ?_
        try clear H a W
        intro a W H
        refine pl_does (does_indexAddr rfl rfl rfl (ia_key (j := k) (by omega))) rfl rfl rfl rfl H ?_
        try clear H a W
        intro a W H
        refine pl_does (does_loadAt (v := bv ((cB kk 3) k)) rfl rfl (k := 2) rfl (ld_byte (by omega))) rfl rfl rfl rfl H ?_
        try clear H a W
        intro a W H
        refine pl_callK (f := 32) (caps := #[]) (vs' := [.pointer (some ⟨g2, 0, none⟩), .int .i64 ((k : Nat) : Int), bv ((cB kk 3) k)]) rfl ⟨_, Tryd.func32, by kernel_rfl⟩ rfl rfl rfl (fun K_ => put_mid (N := (sumD (rD kk) k)) (r := [(g3, 62, nv 3 (wdg (sumD (sD kk) k)))]) (t := [(g1, 23, bvs (rb 32 (cB kk 3)))]) (sumD_lt fun i _ => rD_lt kk i) (by omega) (put_r kk (by omega)) K_) rfl rfl rfl rfl H ?_
        try clear H a W
        intro a W H
        replace H : St 46 w a W [(36, .tuple #[]), (35, bv ((cB kk 3) k)), (34, .pointer (some ⟨g1, k, none⟩)), (33, .int .i64 ((k : Nat) : Int)), (32, .int .i64 ((k : Nat) : Int)), (8, .int .i64 ((k : Nat) : Int)), (31, .int .i64 ((k : Nat) : Int)), (30, .bool true), (29, .int .i64 ((k : Nat) : Int)), (3, .pointer (some ⟨g3, 0, none⟩)), (2, .pointer (some ⟨g2, 0, none⟩)), (1, .pointer (some ⟨g1, 0, none⟩))] [(g3, 62, nv 3 (wdg (sumD (sD kk) k))), (g2, 62, nv 3 (wdg (sumD (rD kk) (k + 1)))), (g1, 23, bvs (rb 32 (cB kk 3)))] := H
        refine pl_end ?_
        replace H : St 46 w a W [(35, bv ((cB kk 3) k)), (34, .pointer (some ⟨g1, k, none⟩)), (33, .int .i64 ((k : Nat) : Int)), (32, .int .i64 ((k : Nat) : Int)), (8, .int .i64 ((k : Nat) : Int)), (31, .int .i64 ((k : Nat) : Int)), (30, .bool true), (29, .int .i64 ((k : Nat) : Int)), (3, .pointer (some ⟨g3, 0, none⟩)), (2, .pointer (some ⟨g2, 0, none⟩)), (1, .pointer (some ⟨g1, 0, none⟩))] [(g3, 62, nv 3 (wdg (sumD (sD kk) k))), (g2, 62, nv 3 (wdg (sumD (rD kk) (k + 1)))), (g1, 23, bvs (rb 32 (cB kk 3)))] := H.pick [1, 2, 3, 4, 5, 6, 7, 8, 9, 10, 11] [0, 1, 2] rfl
        refine hK24 _ _ ?_
        clear hK24
        refine rg_plain ?_
        refine pl_does (does_move rfl rfl) rfl rfl rfl rfl H ?_
        try clear H a W
        intro a W H
        refine pl_does (does_move rfl rfl) rfl rfl rfl rfl H ?_
        try clear H a W
        intro a W H
        refine pl_does (does_binOp rfl rfl rfl (i_addE (k := 16) (m := k) rfl (by omega) _ _)) rfl rfl rfl rfl H ?_
        try clear H a W
        intro a W H
        refine pl_does (does_indexAddr rfl rfl rfl (ia_key (j := (16 + k)) (by omega))) rfl rfl rfl rfl H ?_
        try clear H a W
        intro a W H
        refine pl_does (does_loadAt (v := bv ((cB kk 3) (16 + k))) rfl rfl (k := 2) rfl (ld_byte (by omega))) rfl rfl rfl rfl H ?_
        try clear H a W
        intro a W H
        refine pl_callK (f := 32) (caps := #[]) (vs' := [.pointer (some ⟨g3, 0, none⟩), .int .i64 ((k : Nat) : Int), bv ((cB kk 3) (16 + k))]) rfl ⟨_, Tryd.func32, by kernel_rfl⟩ rfl rfl rfl (fun K_ => put_mid (N := (sumD (sD kk) k)) (r := []) (t := [(g2, 62, nv 3 (wdg (sumD (rD kk) (k + 1)))), (g1, 23, bvs (rb 32 (cB kk 3)))]) (sumD_lt fun i _ => sD_lt kk i) (by omega) (put_s kk k) K_) rfl rfl rfl rfl H ?_
        try clear H a W
        intro a W H
        replace H : St 46 w a W [(42, .tuple #[]), (41, bv ((cB kk 3) (16 + k))), (40, .pointer (some ⟨g1, 16 + k, none⟩)), (39, .int .i64 ((16 + k : Nat) : Int)), (38, .int .i64 ((k : Nat) : Int)), (37, .int .i64 ((k : Nat) : Int)), (35, bv ((cB kk 3) k)), (34, .pointer (some ⟨g1, k, none⟩)), (33, .int .i64 ((k : Nat) : Int)), (32, .int .i64 ((k : Nat) : Int)), (8, .int .i64 ((k : Nat) : Int)), (31, .int .i64 ((k : Nat) : Int)), (30, .bool true), (29, .int .i64 ((k : Nat) : Int)), (3, .pointer (some ⟨g3, 0, none⟩)), (2, .pointer (some ⟨g2, 0, none⟩)), (1, .pointer (some ⟨g1, 0, none⟩))] [(g3, 62, nv 3 (wdg (sumD (sD kk) (k + 1)))), (g2, 62, nv 3 (wdg (sumD (rD kk) (k + 1)))), (g1, 23, bvs (rb 32 (cB kk 3)))] := H
        refine pl_end ?_
        replace H : St 46 w a W [(41, bv ((cB kk 3) (16 + k))), (40, .pointer (some ⟨g1, 16 + k, none⟩)), (39, .int .i64 ((16 + k : Nat) : Int)), (38, .int .i64 ((k : Nat) : Int)), (37, .int .i64 ((k : Nat) : Int)), (35, bv ((cB kk 3) k)), (34, .pointer (some ⟨g1, k, none⟩)), (33, .int .i64 ((k : Nat) : Int)), (32, .int .i64 ((k : Nat) : Int)), (8, .int .i64 ((k : Nat) : Int)), (31, .int .i64 ((k : Nat) : Int)), (30, .bool true), (29, .int .i64 ((k : Nat) : Int)), (3, .pointer (some ⟨g3, 0, none⟩)), (2, .pointer (some ⟨g2, 0, none⟩)), (1, .pointer (some ⟨g1, 0, none⟩))] [(g3, 62, nv 3 (wdg (sumD (sD kk) (k + 1)))), (g2, 62, nv 3 (wdg (sumD (rD kk) (k + 1)))), (g1, 23, bvs (rb 32 (cB kk 3)))] := H.pick [1, 2, 3, 4, 5, 6, 7, 8, 9, 10, 11, 12, 13, 14, 15, 16] [0, 1, 2] rfl
        refine blk_normal ?_
        refine hK22 _ _ ?_
        clear hK22
        refine rg_plain ?_
        refine pl_does (does_binOp rfl rfl rfl (i_addE (k := k) (m := 1) rfl (by omega) _ _)) rfl rfl rfl rfl H ?_
        try clear H a W
        intro a W H
        replace H : St 46 w a W [(43, .int .i64 ((k + 1 : Nat) : Int)), (41, bv ((cB kk 3) (16 + k))), (40, .pointer (some ⟨g1, 16 + k, none⟩)), (39, .int .i64 ((16 + k : Nat) : Int)), (38, .int .i64 ((k : Nat) : Int)), (37, .int .i64 ((k : Nat) : Int)), (35, bv ((cB kk 3) k)), (34, .pointer (some ⟨g1, k, none⟩)), (33, .int .i64 ((k : Nat) : Int)), (32, .int .i64 ((k : Nat) : Int)), (8, .int .i64 ((k : Nat) : Int)), (31, .int .i64 ((k : Nat) : Int)), (30, .bool true), (3, .pointer (some ⟨g3, 0, none⟩)), (2, .pointer (some ⟨g2, 0, none⟩)), (1, .pointer (some ⟨g1, 0, none⟩))] [(g3, 62, nv 3 (wdg (sumD (sD kk) (k + 1)))), (g2, 62, nv 3 (wdg (sumD (rD kk) (k + 1)))), (g1, 23, bvs (rb 32 (cB kk 3)))] := H.pick [0, 1, 2, 3, 4, 5, 6, 7, 8, 9, 10, 11, 12, 14, 15, 16] [0, 1, 2] rfl
        refine pl_does (does_move rfl rfl) rfl rfl rfl rfl H ?_
        try clear H a W
        intro a W H
        refine pl_end ?_
        refine ⟨k + 1, by omega, by omega, ?_⟩
        show St 46 w a W [(29, .int .i64 ((k + 1 : Nat) : Int)), (3, .pointer (some ⟨g3, 0, none⟩)), (2, .pointer (some ⟨g2, 0, none⟩)), (1, .pointer (some ⟨g1, 0, none⟩))] [(g3, 62, nv 3 (wdg (sumD (sD kk) (k + 1)))), (g2, 62, nv 3 (wdg (sumD (rD kk) (k + 1)))), (g1, 23, bvs (rb 32 (cB kk 3)))]
        exact H.pick [0, 14, 15, 16] [0, 1, 2] rfl
      · obtain rfl : 16 = k := by omega
        refine wp_seq_k (fun K25 hK25 => ?_)
        refine rg_plain ?_
        refine pl_does (does_binOp rfl rfl rfl (i_lss_no (k := 16) (m := 16) (by omega) _ _)) rfl rfl rfl rfl H ?_
        try clear H a W
        intro a W H
        refine pl_end ?_
        refine hK25 _ _ ?_
        clear hK25
        refine wp_seq_k (fun K26 hK26 => ?_)
        refine wp_cond_false (H.ev rfl) ?_
        refine wp_exit ?_
        repeat (with_reducible refine then_exit ?_)
        refine blk_exit ?_
        refine hK18 _ _ ?_
        clear hK18
        refine wp_seq_k (fun K27 hK27 => ?_)
        refine rg_plain ?_
        refine pl_does (does_load rfl rfl (k := 1) rfl Tryd.underlying62 rfl (info_n3 _)) rfl rfl rfl rfl H ?_
        try clear H a W
        intro a W H
        refine pl_does (does_load rfl rfl (k := 0) rfl Tryd.underlying62 rfl (info_n3 _)) rfl rfl rfl rfl H ?_
        try clear H a W
        intro a W H
        refine pl_store rfl rfl rfl (k := 1) rfl (info_n3 _) (size_nv _ _ _) (nv_one _ _) rfl rfl H ?_
        try clear H a W
        intro a W H
        refine pl_store rfl rfl rfl (k := 0) rfl (info_n3 _) (size_nv _ _ _) (nv_one _ _) rfl rfl H ?_
        try clear H a W
        intro a W H
        refine pl_end ?_
        replace H : St 46 w a W [(3, .pointer (some ⟨g3, 0, none⟩)), (2, .pointer (some ⟨g2, 0, none⟩))] [(g3, 62, nv 3 (wdg (sumD (sD kk) 16))), (g2, 62, nv 3 (wdg (sumD (rD kk) 16))), (g1, 23, bvs (rb 32 (cB kk 3)))] := H.pick [4, 5] [0, 1, 2] rfl
        refine hK27 _ _ ?_
        clear hK27
        refine wp_ret ?_
        repeat (first | (with_reducible refine then_ret ?_) | (with_reducible refine blk_ret ?_))
        refine end_cells (p := 2) (q := 3) rfl rfl (k := 1) rfl Tryd.underlying62 rfl (info_n3 _) rfl (k2 := 0) rfl Tryd.underlying62 rfl (info_n3 _) H (fun hb => ?_)
        exact ⟨rfl, hb⟩
set_option maxHeartbeats 4000000 in
theorem equal_any (f g : Nat → UInt8) (w : World) : Calls Tryd.prog 18 #[.agg (bvs (rb 16 f)), .agg (bvs (rb 16 g))] w (fun rr w' => rr = .returned (.bool (decide (rb 16 f = rb 16 g))) ∧ Below w.heap.size w w') := by
  obtain ⟨be, hbe⟩ : ∃ b : Bool, decide (rb 16 f = rb 16 g) = b := ⟨_, rfl⟩
  refine calls_st (vs := [.agg (bvs (rb 16 f)), .agg (bvs (rb 16 g))]) 8 Tryd.func18 rfl Tryd.ntmps18 rfl (fun a W H => ?_)
  replace H : St 8 w a W [(0, .agg (bvs (rb 16 f))), (1, .agg (bvs (rb 16 g)))] [] := H
  refine wp_seq_k (fun K1 hK1 => ?_)
  refine rg_plain ?_
  refine pl_box rfl rfl (bx_mark f) rfl rfl rfl rfl H ?_
  try clear H a W
  intro g1 a W H
  refine pl_box rfl rfl (bx_mark g) rfl rfl rfl rfl H ?_
  try clear H a W
  intro g2 a W H
  refine pl_does (does_assign rfl rfl) rfl rfl rfl rfl H ?_
  try clear H a W
  intro a W H
  refine pl_end ?_
  replace H : St 8 w a W [(4, .bool false), (3, .pointer (some ⟨g2, 0, none⟩)), (2, .pointer (some ⟨g1, 0, none⟩))] [(g2, 42, bvs (rb 16 g)), (g1, 42, bvs (rb 16 f))] := H.pick [0, 1, 2] [0, 1] rfl
  refine hK1 _ _ ?_
  clear hK1
  refine wp_seq_k (fun K2 hK2 => ?_)
  refine rg_plain ?_
  refine pl_does (does_load rfl rfl (k := 1) rfl Tryd.underlying42 rfl (info_mark _)) rfl rfl rfl rfl H ?_
  try clear H a W
  intro a W H
  refine pl_does (does_load rfl rfl (k := 0) rfl Tryd.underlying42 rfl (info_mark _)) rfl rfl rfl rfl H ?_
  try clear H a W
  intro a W H
  refine pl_does (does_binOp rfl rfl rfl (m_eqlB hbe _ _)) rfl rfl rfl rfl H ?_
  try clear H a W
  intro a W H
  replace H : St 8 w a W [(7, .bool be), (6, .agg (bvs (rb 16 g))), (5, .agg (bvs (rb 16 f))), (3, .pointer (some ⟨g2, 0, none⟩)), (2, .pointer (some ⟨g1, 0, none⟩))] [(g2, 42, bvs (rb 16 g)), (g1, 42, bvs (rb 16 f))] := H.pick [0, 1, 2, 4, 5] [0, 1] rfl
  refine pl_does (does_assign rfl rfl) rfl rfl rfl rfl H ?_
  try clear H a W
  intro a W H
  refine pl_end ?_
  replace H : St 8 w a W [(4, .bool be)] [(g2, 42, bvs (rb 16 g)), (g1, 42, bvs (rb 16 f))] := H.pick [0] [0, 1] rfl
  refine hK2 _ _ ?_
  clear hK2
  refine wp_ret ?_
  repeat (first | (with_reducible refine then_ret ?_) | (with_reducible refine blk_ret ?_))
  refine end_tmp (p := 4) rfl rfl H (fun hb => ?_)
  exact ⟨by rw [hbe], hb⟩
end Go.Proofs.YtghbknebaknmjaaDoor
