/- The document's 'small', walked: a number of 34 digits modulo 2^130 - 5. -/
import Derived.Test.YtghbknebaknmjaaDoorQb
namespace Go.Proofs.YtghbknebaknmjaaDoor
set_option linter.unusedVariables false
set_option linter.unusedSimpArgs false
set_option maxRecDepth 100000
open Go Go.RowKit

theorem u_addE {x y r : Nat} (e : x + y = r) (h : r < 18446744073709551616) (p q : Operand) (W : World) : (do eqGuard .add 24 p q (uc x) (uc y); binOp .add 24 (uc x) (uc y) : Sem Value).run Tryd.prog W = .ok (uc r) W := by
  subst e
  exact u_add h p q W
def carF (c : Nat) (g : Nat → Nat) (i : Nat) : Nat := (g i + carC c g i) % 256
theorem carF_step (c : Nat) (g h : Nat → Nat) (k : Nat) : updN (mapK (carF c g) h k) k ((g k + carC c g k) % 256) = mapK (carF c g) h (k + 1) := mapK_step (carF c g) h k
theorem carF_all (c : Nat) (g h : Nat → Nat) {n m : Nat} (hn : n ≤ m) : nv n (mapK (carF c g) h n) = nv n (dig (sumD g m + c)) := by
  rw [mapK_all]
  exact nv_ext fun i hi => carD_dig c g m i (by omega)
theorem nv_up {V : Nat} (h : V < 256 ^ 34) : nv 34 (upK (dig V) 18) = nv 34 (dig (V / 1361129467683753853853498429727072845824)) := nv_ext fun i _ => upK_all h i
theorem nv_lo {V : Nat} (h : V < 256 ^ 34) : nv 34 (loK (dig V) 18) = nv 34 (loD (dig V)) := nv_ext fun i _ => loK_all h i
theorem loD_le (V i : Nat) : loD (dig V) i ≤ 255 := by
  unfold loD
  have h3 := dig_lt V i
  have h4 := dig_lt V 16
  cases Nat.blt i 16 with
  | true => show dig V i ≤ 255; omega
  | false =>
    cases Nat.beq i 16 with
    | true => show dig V 16 % 4 ≤ 255; omega
    | false => exact Nat.zero_le _
/-- The rounds. -/
def itD (f : Nat → Nat) : Nat → Nat → Nat
  | 0 => f
  | q + 1 => roundD (sumD (itD f q) 34)
theorem fold5_le (V : Nat) : fold5 V ≤ V := by
  have h := Nat.mod_add_div V 1361129467683753853853498429727072845824
  unfold fold5
  omega
theorem it_lt {f : Nat → Nat} {B : Nat} (hB : B ≤ 256 ^ 34) (h : sumD f 34 < B) : ∀ q, sumD (itD f q) 34 < B
  | 0 => h
  | q + 1 => by
    have ih := it_lt hB h q
    show sumD (roundD (sumD (itD f q) 34)) 34 < B
    rw [roundD_sum (Nat.lt_of_lt_of_le ih hB)]
    exact Nat.lt_of_le_of_lt (fold5_le _) ih
theorem it_le {f : Nat → Nat} (h : ∀ i, f i ≤ 1099511627776) : ∀ q i, itD f q i ≤ 1099511627776
  | 0, i => h i
  | q + 1, i => by
    have := roundD_le (sumD (itD f q) 34) i
    show roundD (sumD (itD f q) 34) i ≤ _
    omega
theorem it_sum {f : Nat → Nat} (h : sumD f 34 < 256 ^ 34) (q : Nat) : sumD (itD f (q + 1)) 34 = fold5 (sumD (itD f q) 34) := roundD_sum (it_lt (Nat.le_refl _) h q)
theorem lim34 : (7588550360256754183279148073529370729071901715047420004889892225542594864082845696 : Nat) ≤ 256 ^ 34 := by decide +kernel
theorem it_four {f : Nat → Nat} (h : sumD f 34 < 7588550360256754183279148073529370729071901715047420004889892225542594864082845696) : sumD (itD f 4) 34 < 1361129467683753853853498429727072845824 ∧ sumD (itD f 4) 34 % PM = sumD f 34 % PM := by
  have h4 : sumD f 34 < 256 ^ 34 := Nat.lt_of_lt_of_le h lim34
  rw [it_sum h4 3, it_sum h4 2, it_sum h4 1, it_sum h4 0]
  exact ⟨fold5_four h, by rw [fold5_mod, fold5_mod, fold5_mod, fold5_mod]; rfl⟩
theorem three (v k : Nat) : grB v k = false ∨ (grB v k = true ∧ ¬ dig v (1 + k) = 255) ∨ (grB v k = true ∧ dig v (1 + k) = 255) := by
  cases grB v k with
  | false => exact .inl rfl
  | true =>
    by_cases h : dig v (1 + k) = 255
    · exact .inr (.inr ⟨rfl, h⟩)
    · exact .inr (.inl ⟨rfl, h⟩)
theorem gr_a {v k : Nat} (h : grB v k = false) : grB v (k + 1) = false := by
  show (grB v k && _) = false
  rw [h]; rfl
theorem gr_b {v k : Nat} (h : grB v k = true ∧ ¬ dig v (1 + k) = 255) : grB v (k + 1) = false := by
  show (grB v k && decide (dig v (k + 1) = 255)) = false
  rw [h.1, Nat.add_comm k, decide_eq_false h.2]; rfl
theorem gr_c {v k : Nat} (h : grB v k = true ∧ dig v (1 + k) = 255) : grB v (k + 1) = true := by
  show (grB v k && decide (dig v (k + 1) = 255)) = true
  rw [h.1, Nat.add_comm k, decide_eq_true h.2]; rfl
theorem three0 (v : Nat) : ¬ dig v 16 = 3 ∨ (dig v 16 = 3 ∧ ¬ 251 ≤ dig v 0) ∨ (dig v 16 = 3 ∧ 251 ≤ dig v 0) := by omega
theorem g0_a {v : Nat} (h : ¬ dig v 16 = 3) : grB v 0 = false := by
  show (decide (dig v 16 = 3) && _) = false
  rw [decide_eq_false h]; rfl
theorem g0_b {v : Nat} (h : dig v 16 = 3 ∧ ¬ 251 ≤ dig v 0) : grB v 0 = false := by
  show (decide (dig v 16 = 3) && decide (251 ≤ dig v 0)) = false
  rw [decide_eq_true h.1, decide_eq_false h.2]; rfl
theorem g0_c {v : Nat} (h : dig v 16 = 3 ∧ 251 ≤ dig v 0) : grB v 0 = true := by
  show (decide (dig v 16 = 3) && decide (251 ≤ dig v 0)) = true
  rw [decide_eq_true h.1, decide_eq_true h.2]; rfl
theorem p16 : 256 ^ 16 = 340282366920938463463374607431768211456 := by decide +kernel
theorem dig16 {v : Nat} (h : v < 1361129467683753853853498429727072845824) : dig v 16 ≤ 3 := by
  unfold dig
  rw [p16]
  omega
theorem sum_v {v : Nat} (h : v < 1361129467683753853853498429727072845824) : sumD (dig v) 17 = v := (v17 h).symm
theorem last_dig {v : Nat} (h : v < 1361129467683753853853498429727072845824) (hp : PM ≤ v) : dig (v + 5) 16 = 4 ∧ nv 17 (updN (dig (v + 5)) 16 (4 - 4)) = nv 17 (dig (v - PM)) := by
  unfold PM at hp
  have e16 : dig (v + 5) 16 = 4 := by
    unfold dig
    rw [p16]
    omega
  refine ⟨e16, nv_ext fun i hi => ?_⟩
  have hlt : ∀ j, j < 17 → updN (dig (v + 5)) 16 (4 - 4) j < 256 := fun j hj => by
    by_cases hj2 : j = 16
    · subst hj2
      rw [updN_self]
      omega
    · rw [updN_ne hj2]
      exact dig_lt _ _
  have hs : sumD (updN (dig (v + 5)) 16 (4 - 4)) 17 = v - PM := by
    have h2 : sumD (dig (v + 5)) 17 = v + 5 := by
      rw [sumD_dig, Nat.mod_eq_of_lt]
      exact Nat.lt_of_lt_of_le (show v + 5 < 2722258935367507707706996859454145691648 by omega) (by decide)
    rw [sumD_succ, sumD_ext (g := dig (v + 5)) (fun j hj => updN_ne (show j ≠ 16 by omega)), updN_self]
    rw [sumD_succ, e16, p16] at h2
    unfold PM
    omega
  rw [← hs, dig_sumD hlt hi]
theorem mod_yes {v V : Nat} (h : v < 1361129467683753853853498429727072845824) (hp : PM ≤ v) (e : v % PM = V % PM) : v - PM = V % PM := by
  rw [← e]
  unfold PM at hp ⊢
  omega
theorem mod_no {v V : Nat} (hp : ¬ PM ≤ v) (e : v % PM = V % PM) : v = V % PM := by
  rw [← e]
  unfold PM at hp ⊢
  omega
attribute [local irreducible] nv bvs rb bv
set_option maxHeartbeats 4000000 in
theorem small_any (f : Nat → Nat) (hf : ∀ i, f i ≤ 1099511627776) (hV0 : sumD f 34 < 7588550360256754183279148073529370729071901715047420004889892225542594864082845696) (w : World) : Calls Tryd.prog 39 #[.agg (nv 34 f)] w (fun rr w' => rr = .returned (.agg (nv 17 (dig (sumD f 34 % PM)))) ∧ Below w.heap.size w w') := by
  refine calls_st (vs := [.agg (nv 34 f)]) 155 Tryd.func39 rfl Tryd.ntmps39 rfl (fun a W H => ?_)
  replace H : St 155 w a W [(0, .agg (nv 34 f))] [] := H
  refine wp_seq_k (fun K1 hK1 => ?_)
  refine rg_plain ?_
  refine pl_box rfl rfl (bx_d34 f) rfl rfl rfl rfl H ?_
  try clear H a W
  intro g1 a W H
  refine pl_new (news_of rfl al_num9) rfl rfl rfl rfl H ?_
  try clear H a W
  intro g2 a W H
  refine pl_end ?_
  replace H : St 155 w a W [(2, .pointer (some ⟨g2, 0, none⟩)), (1, .pointer (some ⟨g1, 0, none⟩))] [(g2, 73, nv 17 n0s), (g1, 74, nv 34 f)] := H.pick [0, 1] [0, 1] rfl
  refine hK1 _ _ ?_
  clear hK1
  refine wp_seq_k (fun K2 hK2 => ?_)
  refine wp_seq_k (fun K3 hK3 => ?_)
  refine rg_plain ?_
  refine pl_does (does_assign rfl rfl) rfl rfl rfl rfl H ?_
  try clear H a W
  intro a W H
  refine pl_end ?_
  refine hK3 _ _ ?_
  clear hK3
  refine wp_block ?_
  replace H : St 155 w a W [(3, .int .i64 ((0 : Nat) : Int)), (2, .pointer (some ⟨g2, 0, none⟩)), (1, .pointer (some ⟨g1, 0, none⟩))] [(g2, 73, nv 17 n0s), (g1, 74, nv 34 (itD f 0))] := H.pick [0, 1, 2] [0, 1] rfl
  refine wp_rounds 4 (fun q a W => St 155 w a W [(3, .int .i64 ((q : Nat) : Int)), (2, .pointer (some ⟨g2, 0, none⟩)), (1, .pointer (some ⟨g1, 0, none⟩))] [(g2, 73, nv 17 n0s), (g1, 74, nv 34 (itD f q))]) (k0 := 0) H (by omega) ?_
  try clear H a W
  intro q a W hq H
  by_cases hq2 : q < 4
  · obtain ⟨g, hg⟩ : ∃ g, itD f q = g := ⟨_, rfl⟩
    have hgb : ∀ i, g i ≤ 1099511627776 := by rw [← hg]; exact it_le hf q
    have hgs : sumD g 34 < 256 ^ 34 := by rw [← hg]; exact it_lt (Nat.le_refl _) (Nat.lt_of_lt_of_le hV0 lim34) q
    have hgn : roundD (sumD g 34) = itD f (q + 1) := by rw [← hg]; rfl
    rw [hg] at H
    refine wp_seq_k (fun K4 hK4 => ?_)
    refine wp_seq_k (fun K5 hK5 => ?_)
    refine rg_plain ?_
    refine pl_does (does_move rfl rfl) rfl rfl rfl rfl H ?_
    try clear H a W
    intro a W H
    refine pl_does (does_binOp rfl rfl rfl (i_lss_yes (k := q) (m := 4) (by omega) _ _)) rfl rfl rfl rfl H ?_
    try clear H a W
    intro a W H
    refine pl_end ?_
    refine hK5 _ _ ?_
    clear hK5
    refine wp_cond_true (H.ev rfl) ?_
    refine wp_skip ?_
    refine hK4 _ _ ?_
    clear hK4
    refine wp_seq_k (fun K6 hK6 => ?_)
    refine wp_block ?_
    refine wp_seq_k (fun K7 hK7 => ?_)
    refine rg_plain ?_
    refine pl_does (does_assign rfl rfl) rfl rfl rfl rfl H ?_
    try clear H a W
    intro a W H
    refine pl_end ?_
    refine hK7 _ _ ?_
    clear hK7
    refine wp_seq_k (fun K8 hK8 => ?_)
    refine wp_seq_k (fun K9 hK9 => ?_)
    refine rg_plain ?_
    refine pl_does (does_assign rfl rfl) rfl rfl rfl rfl H ?_
    try clear H a W
    intro a W H
    refine pl_end ?_
    refine hK9 _ _ ?_
    clear hK9
    refine wp_block ?_
    replace H : St 155 w a W [(5, .int .i64 ((0 : Nat) : Int)), (4, uc (carC 0 g 0)), (3, .int .i64 ((q : Nat) : Int)), (2, .pointer (some ⟨g2, 0, none⟩)), (1, .pointer (some ⟨g1, 0, none⟩))] [(g2, 73, nv 17 n0s), (g1, 74, nv 34 (mapK (carF 0 g) g 0))] := H.pick [0, 1, 4, 5, 6] [0, 1] rfl
    refine wp_rounds 34 (fun k a W => St 155 w a W [(5, .int .i64 ((k : Nat) : Int)), (4, uc (carC 0 g k)), (3, .int .i64 ((q : Nat) : Int)), (2, .pointer (some ⟨g2, 0, none⟩)), (1, .pointer (some ⟨g1, 0, none⟩))] [(g2, 73, nv 17 n0s), (g1, 74, nv 34 (mapK (carF 0 g) g k))]) (k0 := 0) H (by omega) ?_
    try clear H a W
    intro k a W hk H
    by_cases hk2 : k < 34
    · have b1 := hgb k
      have b2 := carC_le (c := 0) (Nat.zero_le _) hgb k
      refine wp_seq_k (fun K10 hK10 => ?_)
      refine wp_seq_k (fun K11 hK11 => ?_)
      refine rg_plain ?_
      refine pl_does (does_move rfl rfl) rfl rfl rfl rfl H ?_
      try clear H a W
      intro a W H
      refine pl_does (does_binOp rfl rfl rfl (i_lss_yes (k := k) (m := 34) (by omega) _ _)) rfl rfl rfl rfl H ?_
      try clear H a W
      intro a W H
      refine pl_end ?_
      refine hK11 _ _ ?_
      clear hK11
      refine wp_cond_true (H.ev rfl) ?_
      refine wp_skip ?_
      refine hK10 _ _ ?_
      clear hK10
      refine wp_seq_k (fun K12 hK12 => ?_)
      refine wp_block ?_
      refine wp_seq_k (fun K13 hK13 => ?_)
      refine rg_plain ?_
      refine pl_does (does_move rfl rfl) rfl rfl rfl rfl H ?_
      try clear H a W
      intro a W H
      refine pl_does (does_indexAddr rfl rfl rfl (ia_d34 (j := k) (by omega))) rfl rfl rfl rfl H ?_
      try clear H a W
      intro a W H
      refine pl_does (does_loadAt (v := uc (g k)) rfl rfl (k := 1) rfl (ld_nv (by omega) (mapK_same _ _ _))) rfl rfl rfl rfl H ?_
      try clear H a W
      intro a W H
      refine pl_does (does_move rfl rfl) rfl rfl rfl rfl H ?_
      try clear H a W
      intro a W H
      refine pl_does (does_binOp rfl rfl rfl (u_add (x := (g k)) (y := (carC 0 g k)) (by omega) _ _)) rfl rfl rfl rfl H ?_
      try clear H a W
      intro a W H
      refine pl_does (does_assign rfl rfl) rfl rfl rfl rfl H ?_
      try clear H a W
      intro a W H
      refine pl_end ?_
      refine hK13 _ _ ?_
      clear hK13
      refine wp_seq_k (fun K14 hK14 => ?_)
      refine rg_plain ?_
      refine pl_does (does_move rfl rfl) rfl rfl rfl rfl H ?_
      try clear H a W
      intro a W H
      refine pl_does (does_move rfl rfl) rfl rfl rfl rfl H ?_
      try clear H a W
      intro a W H
      refine pl_does (does_binOp rfl rfl rfl (u_rem (x := ((g k) + (carC 0 g k))) (m := 256) (by omega) _ _)) rfl rfl rfl rfl H ?_
      try clear H a W
      intro a W H
      refine pl_does (does_indexAddr rfl rfl rfl (ia_d34 (j := k) (by omega))) rfl rfl rfl rfl H ?_
      try clear H a W
      intro a W H
      refine pl_storeAt rfl rfl rfl (k := 1) rfl (st_nv (by omega)) (sv_nv (carF_step 0 g _ k)) rfl rfl H ?_
      try clear H a W
      intro a W H
      refine pl_end ?_
      refine hK14 _ _ ?_
      clear hK14
      refine rg_plain ?_
      refine pl_does (does_move rfl rfl) rfl rfl rfl rfl H ?_
      try clear H a W
      intro a W H
      refine pl_does (does_binOp rfl rfl rfl (u_quo (x := ((g k) + (carC 0 g k))) (m := 256) (by omega) (by omega) _ _)) rfl rfl rfl rfl H ?_
      try clear H a W
      intro a W H
      replace H : St 155 w a W [(36, uc (((g k) + (carC 0 g k)) / 256)), (35, uc ((g k) + (carC 0 g k))), (34, .pointer (some ⟨g1, k, none⟩)), (33, uc (((g k) + (carC 0 g k)) % 256)), (32, uc ((g k) + (carC 0 g k))), (31, .int .i64 ((k : Nat) : Int)), (6, uc ((g k) + (carC 0 g k))), (30, uc ((g k) + (carC 0 g k))), (29, uc (carC 0 g k)), (28, uc (g k)), (27, .pointer (some ⟨g1, k, none⟩)), (26, .int .i64 ((k : Nat) : Int)), (23, .bool true), (22, .int .i64 ((k : Nat) : Int)), (5, .int .i64 ((k : Nat) : Int)), (3, .int .i64 ((q : Nat) : Int)), (2, .pointer (some ⟨g2, 0, none⟩)), (1, .pointer (some ⟨g1, 0, none⟩))] [(g2, 73, nv 17 n0s), (g1, 74, nv 34 (mapK (carF 0 g) g (k + 1)))] := H.pick [0, 1, 2, 3, 4, 5, 6, 7, 8, 9, 10, 11, 12, 13, 14, 16, 17, 18] [0, 1] rfl
      refine pl_does (does_assign rfl rfl) rfl rfl rfl rfl H ?_
      try clear H a W
      intro a W H
      refine pl_end ?_
      refine blk_normal ?_
      refine hK12 _ _ ?_
      clear hK12
      refine rg_plain ?_
      refine pl_does (does_move rfl rfl) rfl rfl rfl rfl H ?_
      try clear H a W
      intro a W H
      refine pl_does (does_binOp rfl rfl rfl (i_addE (k := k) (m := 1) rfl (by omega) _ _)) rfl rfl rfl rfl H ?_
      try clear H a W
      intro a W H
      replace H : St 155 w a W [(25, .int .i64 ((k + 1 : Nat) : Int)), (24, .int .i64 ((k : Nat) : Int)), (4, uc (((g k) + (carC 0 g k)) / 256)), (36, uc (((g k) + (carC 0 g k)) / 256)), (35, uc ((g k) + (carC 0 g k))), (34, .pointer (some ⟨g1, k, none⟩)), (33, uc (((g k) + (carC 0 g k)) % 256)), (32, uc ((g k) + (carC 0 g k))), (31, .int .i64 ((k : Nat) : Int)), (6, uc ((g k) + (carC 0 g k))), (30, uc ((g k) + (carC 0 g k))), (29, uc (carC 0 g k)), (28, uc (g k)), (27, .pointer (some ⟨g1, k, none⟩)), (26, .int .i64 ((k : Nat) : Int)), (23, .bool true), (22, .int .i64 ((k : Nat) : Int)), (3, .int .i64 ((q : Nat) : Int)), (2, .pointer (some ⟨g2, 0, none⟩)), (1, .pointer (some ⟨g1, 0, none⟩))] [(g2, 73, nv 17 n0s), (g1, 74, nv 34 (mapK (carF 0 g) g (k + 1)))] := H.pick [0, 1, 2, 3, 4, 5, 6, 7, 8, 9, 10, 11, 12, 13, 14, 15, 16, 18, 19, 20] [0, 1] rfl
      refine pl_does (does_assign rfl rfl) rfl rfl rfl rfl H ?_
      try clear H a W
      intro a W H
      refine pl_end ?_
      refine ⟨k + 1, by omega, by omega, ?_⟩
      show St 155 w a W [(5, .int .i64 ((k + 1 : Nat) : Int)), (4, uc (carC 0 g (k + 1))), (3, .int .i64 ((q : Nat) : Int)), (2, .pointer (some ⟨g2, 0, none⟩)), (1, .pointer (some ⟨g1, 0, none⟩))] [(g2, 73, nv 17 n0s), (g1, 74, nv 34 (mapK (carF 0 g) g (k + 1)))]
      exact H.pick [0, 3, 18, 19, 20] [0, 1] rfl
    · obtain rfl : 34 = k := by omega
      refine wp_seq_k (fun K15 hK15 => ?_)
      refine wp_seq_k (fun K16 hK16 => ?_)
      refine rg_plain ?_
      refine pl_does (does_move rfl rfl) rfl rfl rfl rfl H ?_
      try clear H a W
      intro a W H
      refine pl_does (does_binOp rfl rfl rfl (i_lss_no (k := 34) (m := 34) (by omega) _ _)) rfl rfl rfl rfl H ?_
      try clear H a W
      intro a W H
      refine pl_end ?_
      refine hK16 _ _ ?_
      clear hK16
      refine wp_cond_false (H.ev rfl) ?_
      refine wp_exit ?_
      repeat (with_reducible refine then_exit ?_)
      refine blk_exit ?_
      obtain ⟨V, hV⟩ : ∃ V, sumD g 34 = V := ⟨_, rfl⟩
      have hV3 : V < 256 ^ 34 := by rw [← hV]; exact hgs
      rw [carF_all 0 g g (Nat.le_refl 34), Nat.add_zero, hV] at H
      refine hK8 _ _ ?_
      clear hK8
      refine wp_seq_k (fun K17 hK17 => ?_)
      refine rg_plain ?_
      refine pl_new (news_of rfl al_d34) rfl rfl rfl rfl H ?_
      try clear H a W
      intro g3 a W H
      refine pl_end ?_
      refine hK17 _ _ ?_
      clear hK17
      refine wp_seq_k (fun K18 hK18 => ?_)
      refine wp_seq_k (fun K19 hK19 => ?_)
      refine rg_plain ?_
      refine pl_does (does_assign rfl rfl) rfl rfl rfl rfl H ?_
      try clear H a W
      intro a W H
      refine pl_end ?_
      refine hK19 _ _ ?_
      clear hK19
      rw [← loK_0 (dig V)] at H
      refine wp_block ?_
      replace H : St 155 w a W [(8, .int .i64 ((16 + 0 : Nat) : Int)), (7, .pointer (some ⟨g3, 0, none⟩)), (3, .int .i64 ((q : Nat) : Int)), (2, .pointer (some ⟨g2, 0, none⟩)), (1, .pointer (some ⟨g1, 0, none⟩))] [(g3, 74, nv 34 (upK (dig V) 0)), (g2, 73, nv 17 n0s), (g1, 74, nv 34 (loK (dig V) 0))] := H.pick [0, 1, 6, 7, 8] [0, 1, 2] rfl
      refine wp_rounds 18 (fun k a W => St 155 w a W [(8, .int .i64 ((16 + k : Nat) : Int)), (7, .pointer (some ⟨g3, 0, none⟩)), (3, .int .i64 ((q : Nat) : Int)), (2, .pointer (some ⟨g2, 0, none⟩)), (1, .pointer (some ⟨g1, 0, none⟩))] [(g3, 74, nv 34 (upK (dig V) k)), (g2, 73, nv 17 n0s), (g1, 74, nv 34 (loK (dig V) k))]) (k0 := 0) H (by omega) ?_
      try clear H a W
      intro k a W hk H
      by_cases hk2 : k < 18
      · by_cases h0 : k = 0
        · subst h0
          have b1 := dig_lt V (16 + 0)
          refine wp_seq_k (fun K20 hK20 => ?_)
          refine wp_seq_k (fun K21 hK21 => ?_)
          refine rg_plain ?_
          refine pl_does (does_move rfl rfl) rfl rfl rfl rfl H ?_
          try clear H a W
          intro a W H
          refine pl_does (does_binOp rfl rfl rfl (i_lss_yes (k := (16 + 0)) (m := 34) (by omega) _ _)) rfl rfl rfl rfl H ?_
          try clear H a W
          intro a W H
          refine pl_end ?_
          refine hK21 _ _ ?_
          clear hK21
          refine wp_cond_true (H.ev rfl) ?_
          refine wp_skip ?_
          refine hK20 _ _ ?_
          clear hK20
          refine wp_seq_k (fun K22 hK22 => ?_)
          refine wp_block ?_
          refine wp_seq_k (fun K23 hK23 => ?_)
          refine drawnS [.val 41 (.int .i64 ((16 + 0 : Nat) : Int)) [] [], .val 42 (.int .i64 ((0 : Nat) : Int)) [0] [], .val 43 (.int .i64 ((16 + 0 : Nat) : Int)) [] [], .val 44 (.int .i64 ((0 : Nat) : Int)) [2] [], .val 45 (.pointer (some ⟨g3, 0, none⟩)) [3] [], .val 46 (uc 0) [4] [0], .val 47 (.int .i64 ((16 + 0 : Nat) : Int)) [] [], .val 48 (.pointer (some ⟨g1, 16 + 0, none⟩)) [6] [], .val 49 (uc (dig V (16 + 0))) [7] [2], .val 50 (uc ((dig V (16 + 0)) / 4)) [8] [], .val 51 (uc ((dig V (16 + 0)) / 4)) [5, 9] [], .val 52 (.pointer (some ⟨g3, 0, none⟩)) [1] [], .sto 0 g3 74 (nv 34 (upK (dig V) 0)) (nv 34 (upK (dig V) 1)) [11, 10]] [0, 1, 0, 4, 8, 16, 0, 64, 128, 256, 544, 2047, 4095] (by kernel_rfl) (by kernel_rfl) (by kernel_rfl) H ⟨⟨does_move rfl rfl, wanted_none rfl⟩, ⟨does_binOp rfl rfl rfl (i_subE (k := (16 + 0)) (m := 16) (r := 0) (by omega) (by omega) _ _), wanted_none rfl⟩, ⟨does_move rfl rfl, wanted_none rfl⟩, ⟨does_binOp rfl rfl rfl (i_subE (k := (16 + 0)) (m := 16) (r := 0) (by omega) (by omega) _ _), wanted_none rfl⟩, ⟨does_indexAddr rfl rfl rfl (ia_d34 (j := 0) (by omega)), wanted_none rfl⟩, ⟨does_loadAt (v := uc 0) rfl rfl (k := 0) rfl (ld_nv (by omega) (upK_at _ _)), wanted_none rfl⟩, ⟨does_move rfl rfl, wanted_none rfl⟩, ⟨does_indexAddr rfl rfl rfl (ia_d34 (j := (16 + 0)) (by omega)), wanted_none rfl⟩, ⟨does_loadAt (v := uc (dig V (16 + 0))) rfl rfl (k := 0) rfl (ld_nv (by omega) (loK_at _ _)), wanted_none rfl⟩, ⟨does_binOp rfl rfl rfl (u_quo (x := (dig V (16 + 0))) (m := 4) (by omega) (by omega) _ _), wanted_none rfl⟩, ⟨does_binOp rfl rfl rfl (u_addE (Nat.zero_add _) (by omega) _ _), wanted_none rfl⟩, ⟨does_indexAddr rfl rfl rfl (ia_d34 (j := 0) (by omega)), wanted_none rfl⟩, ⟨rfl, rfl, sto_at rfl rfl rfl (st_nv (by omega)) (sv_nv (upK_first _))⟩, trivial⟩ ?_
          try clear H a W
          intro G4 a W H
          replace H : St 155 w a W [(41, .int .i64 ((16 + 0 : Nat) : Int)), (42, .int .i64 ((0 : Nat) : Int)), (43, .int .i64 ((16 + 0 : Nat) : Int)), (44, .int .i64 ((0 : Nat) : Int)), (45, .pointer (some ⟨g3, 0, none⟩)), (46, uc 0), (47, .int .i64 ((16 + 0 : Nat) : Int)), (48, .pointer (some ⟨g1, 16 + 0, none⟩)), (49, uc (dig V (16 + 0))), (50, uc ((dig V (16 + 0)) / 4)), (51, uc ((dig V (16 + 0)) / 4)), (52, .pointer (some ⟨g3, 0, none⟩)), (38, .bool true), (37, .int .i64 ((16 + 0 : Nat) : Int)), (8, .int .i64 ((16 + 0 : Nat) : Int)), (7, .pointer (some ⟨g3, 0, none⟩)), (3, .int .i64 ((q : Nat) : Int)), (2, .pointer (some ⟨g2, 0, none⟩)), (1, .pointer (some ⟨g1, 0, none⟩))] [(g3, 74, nv 34 (upK (dig V) 1)), (g2, 73, nv 17 n0s), (g1, 74, nv 34 (loK (dig V) 0))] := H
          refine hK23 _ _ ?_
          clear hK23
          refine wp_seq_k (fun K24 hK24 => ?_)
          refine rg_plain ?_
          refine pl_does (does_move rfl rfl) rfl rfl rfl rfl H ?_
          try clear H a W
          intro a W H
          refine pl_does (does_binOp rfl rfl rfl (i_gtrB (k := (16 + 0)) (m := 16) (decide_eq_false (by omega)) _ _)) rfl rfl rfl rfl H ?_
          try clear H a W
          intro a W H
          refine pl_end ?_
          refine hK24 _ _ ?_
          clear hK24
          refine wp_cond_false (H.ev rfl) ?_
          refine rg_plain ?_
          refine pl_does (does_move rfl rfl) rfl rfl rfl rfl H ?_
          try clear H a W
          intro a W H
          refine pl_does (does_move rfl rfl) rfl rfl rfl rfl H ?_
          try clear H a W
          intro a W H
          refine pl_does (does_indexAddr rfl rfl rfl (ia_d34 (j := (16 + 0)) (by omega))) rfl rfl rfl rfl H ?_
          try clear H a W
          intro a W H
          refine pl_does (does_loadAt (v := uc (dig V (16 + 0))) rfl rfl (k := 2) rfl (ld_nv (by omega) (loK_at _ _))) rfl rfl rfl rfl H ?_
          try clear H a W
          intro a W H
          refine pl_does (does_binOp rfl rfl rfl (u_rem (x := (dig V (16 + 0))) (m := 4) (by omega) _ _)) rfl rfl rfl rfl H ?_
          try clear H a W
          intro a W H
          refine pl_does (does_indexAddr rfl rfl rfl (ia_d34 (j := (16 + 0)) (by omega))) rfl rfl rfl rfl H ?_
          try clear H a W
          intro a W H
          refine pl_storeAt rfl rfl rfl (k := 2) rfl (st_nv (by omega)) (sv_nv (loK_first _)) rfl rfl H ?_
          try clear H a W
          intro a W H
          refine pl_end ?_
          refine blk_normal ?_
          refine hK22 _ _ ?_
          clear hK22
          refine rg_plain ?_
          refine pl_does (does_move rfl rfl) rfl rfl rfl rfl H ?_
          try clear H a W
          intro a W H
          refine pl_does (does_binOp rfl rfl rfl (i_addE (k := (16 + 0)) (m := 1) rfl (by omega) _ _)) rfl rfl rfl rfl H ?_
          try clear H a W
          intro a W H
          replace H : St 155 w a W [(40, .int .i64 ((16 + 0 + 1 : Nat) : Int)), (39, .int .i64 ((16 + 0 : Nat) : Int)), (75, .pointer (some ⟨g1, 16 + 0, none⟩)), (74, uc ((dig V (16 + 0)) % 4)), (73, uc (dig V (16 + 0))), (72, .pointer (some ⟨g1, 16 + 0, none⟩)), (71, .int .i64 ((16 + 0 : Nat) : Int)), (70, .int .i64 ((16 + 0 : Nat) : Int)), (54, .bool false), (53, .int .i64 ((16 + 0 : Nat) : Int)), (41, .int .i64 ((16 + 0 : Nat) : Int)), (42, .int .i64 ((0 : Nat) : Int)), (43, .int .i64 ((16 + 0 : Nat) : Int)), (44, .int .i64 ((0 : Nat) : Int)), (45, .pointer (some ⟨g3, 0, none⟩)), (46, uc 0), (47, .int .i64 ((16 + 0 : Nat) : Int)), (48, .pointer (some ⟨g1, 16 + 0, none⟩)), (49, uc (dig V (16 + 0))), (50, uc ((dig V (16 + 0)) / 4)), (51, uc ((dig V (16 + 0)) / 4)), (52, .pointer (some ⟨g3, 0, none⟩)), (38, .bool true), (37, .int .i64 ((16 + 0 : Nat) : Int)), (7, .pointer (some ⟨g3, 0, none⟩)), (3, .int .i64 ((q : Nat) : Int)), (2, .pointer (some ⟨g2, 0, none⟩)), (1, .pointer (some ⟨g1, 0, none⟩))] [(g3, 74, nv 34 (upK (dig V) 1)), (g2, 73, nv 17 n0s), (g1, 74, nv 34 (loK (dig V) 1))] := H.pick [0, 1, 2, 3, 4, 5, 6, 7, 8, 9, 10, 11, 12, 13, 14, 15, 16, 17, 18, 19, 20, 21, 22, 23, 25, 26, 27, 28] [0, 1, 2] rfl
          refine pl_does (does_assign rfl rfl) rfl rfl rfl rfl H ?_
          try clear H a W
          intro a W H
          refine pl_end ?_
          refine ⟨0 + 1, by omega, by omega, ?_⟩
          show St 155 w a W [(8, .int .i64 ((16 + (0 + 1) : Nat) : Int)), (7, .pointer (some ⟨g3, 0, none⟩)), (3, .int .i64 ((q : Nat) : Int)), (2, .pointer (some ⟨g2, 0, none⟩)), (1, .pointer (some ⟨g1, 0, none⟩))] [(g3, 74, nv 34 (upK (dig V) (0 + 1))), (g2, 73, nv 17 n0s), (g1, 74, nv 34 (loK (dig V) (0 + 1)))]
          exact H.pick [0, 25, 26, 27, 28] [0, 1, 2] rfl
        · obtain ⟨j, rfl⟩ : ∃ j, k = j + 1 := ⟨k - 1, by omega⟩
          have b1 := dig_lt V (16 + (j + 1))
          have b2 := dig_lt V (16 + j)
          refine wp_seq_k (fun K25 hK25 => ?_)
          refine wp_seq_k (fun K26 hK26 => ?_)
          refine rg_plain ?_
          refine pl_does (does_move rfl rfl) rfl rfl rfl rfl H ?_
          try clear H a W
          intro a W H
          refine pl_does (does_binOp rfl rfl rfl (i_lss_yes (k := (16 + (j + 1))) (m := 34) (by omega) _ _)) rfl rfl rfl rfl H ?_
          try clear H a W
          intro a W H
          refine pl_end ?_
          refine hK26 _ _ ?_
          clear hK26
          refine wp_cond_true (H.ev rfl) ?_
          refine wp_skip ?_
          refine hK25 _ _ ?_
          clear hK25
          refine wp_seq_k (fun K27 hK27 => ?_)
          refine wp_block ?_
          refine wp_seq_k (fun K28 hK28 => ?_)
          refine drawnS [.val 41 (.int .i64 ((16 + (j + 1) : Nat) : Int)) [] [], .val 42 (.int .i64 ((j + 1 : Nat) : Int)) [0] [], .val 43 (.int .i64 ((16 + (j + 1) : Nat) : Int)) [] [], .val 44 (.int .i64 ((j + 1 : Nat) : Int)) [2] [], .val 45 (.pointer (some ⟨g3, j + 1, none⟩)) [3] [], .val 46 (uc 0) [4] [0], .val 47 (.int .i64 ((16 + (j + 1) : Nat) : Int)) [] [], .val 48 (.pointer (some ⟨g1, 16 + (j + 1), none⟩)) [6] [], .val 49 (uc (dig V (16 + (j + 1)))) [7] [2], .val 50 (uc ((dig V (16 + (j + 1))) / 4)) [8] [], .val 51 (uc ((dig V (16 + (j + 1))) / 4)) [5, 9] [], .val 52 (.pointer (some ⟨g3, j + 1, none⟩)) [1] [], .sto 0 g3 74 (nv 34 (upK (dig V) (j + 1))) (nv 34 (updN (upK (dig V) (j + 1)) (j + 1) ((dig V (16 + (j + 1))) / 4))) [11, 10]] [0, 1, 0, 4, 8, 16, 0, 64, 128, 256, 544, 2047, 4095] (by kernel_rfl) (by kernel_rfl) (by kernel_rfl) H ⟨⟨does_move rfl rfl, wanted_none rfl⟩, ⟨does_binOp rfl rfl rfl (i_subE (k := (16 + (j + 1))) (m := 16) (r := (j + 1)) (by omega) (by omega) _ _), wanted_none rfl⟩, ⟨does_move rfl rfl, wanted_none rfl⟩, ⟨does_binOp rfl rfl rfl (i_subE (k := (16 + (j + 1))) (m := 16) (r := (j + 1)) (by omega) (by omega) _ _), wanted_none rfl⟩, ⟨does_indexAddr rfl rfl rfl (ia_d34 (j := (j + 1)) (by omega)), wanted_none rfl⟩, ⟨does_loadAt (v := uc 0) rfl rfl (k := 0) rfl (ld_nv (by omega) (upK_at _ _)), wanted_none rfl⟩, ⟨does_move rfl rfl, wanted_none rfl⟩, ⟨does_indexAddr rfl rfl rfl (ia_d34 (j := (16 + (j + 1))) (by omega)), wanted_none rfl⟩, ⟨does_loadAt (v := uc (dig V (16 + (j + 1)))) rfl rfl (k := 0) rfl (ld_nv (by omega) (loK_at _ _)), wanted_none rfl⟩, ⟨does_binOp rfl rfl rfl (u_quo (x := (dig V (16 + (j + 1)))) (m := 4) (by omega) (by omega) _ _), wanted_none rfl⟩, ⟨does_binOp rfl rfl rfl (u_addE (Nat.zero_add _) (by omega) _ _), wanted_none rfl⟩, ⟨does_indexAddr rfl rfl rfl (ia_d34 (j := (j + 1)) (by omega)), wanted_none rfl⟩, ⟨rfl, rfl, sto_at rfl rfl rfl (st_nv (by omega)) (sv_nv rfl)⟩, trivial⟩ ?_
          try clear H a W
          intro G5 a W H
          replace H : St 155 w a W [(41, .int .i64 ((16 + (j + 1) : Nat) : Int)), (42, .int .i64 ((j + 1 : Nat) : Int)), (43, .int .i64 ((16 + (j + 1) : Nat) : Int)), (44, .int .i64 ((j + 1 : Nat) : Int)), (45, .pointer (some ⟨g3, j + 1, none⟩)), (46, uc 0), (47, .int .i64 ((16 + (j + 1) : Nat) : Int)), (48, .pointer (some ⟨g1, 16 + (j + 1), none⟩)), (49, uc (dig V (16 + (j + 1)))), (50, uc ((dig V (16 + (j + 1))) / 4)), (51, uc ((dig V (16 + (j + 1))) / 4)), (52, .pointer (some ⟨g3, j + 1, none⟩)), (38, .bool true), (37, .int .i64 ((16 + (j + 1) : Nat) : Int)), (8, .int .i64 ((16 + (j + 1) : Nat) : Int)), (7, .pointer (some ⟨g3, 0, none⟩)), (3, .int .i64 ((q : Nat) : Int)), (2, .pointer (some ⟨g2, 0, none⟩)), (1, .pointer (some ⟨g1, 0, none⟩))] [(g3, 74, nv 34 (updN (upK (dig V) (j + 1)) (j + 1) ((dig V (16 + (j + 1))) / 4))), (g2, 73, nv 17 n0s), (g1, 74, nv 34 (loK (dig V) (j + 1)))] := H
          refine hK28 _ _ ?_
          clear hK28
          refine wp_seq_k (fun K29 hK29 => ?_)
          refine rg_plain ?_
          refine pl_does (does_move rfl rfl) rfl rfl rfl rfl H ?_
          try clear H a W
          intro a W H
          refine pl_does (does_binOp rfl rfl rfl (i_gtrB (k := (16 + (j + 1))) (m := 16) (decide_eq_true (by omega)) _ _)) rfl rfl rfl rfl H ?_
          try clear H a W
          intro a W H
          refine pl_end ?_
          refine hK29 _ _ ?_
          clear hK29
          refine wp_cond_true (H.ev rfl) ?_
          refine wp_seq_k (fun K30 hK30 => ?_)
          refine drawnS [.val 55 (.int .i64 ((16 + (j + 1) : Nat) : Int)) [] [], .val 56 (.int .i64 ((j : Nat) : Int)) [0] [], .val 57 (.int .i64 ((16 + (j + 1) : Nat) : Int)) [] [], .val 58 (.int .i64 ((j : Nat) : Int)) [2] [], .val 59 (.pointer (some ⟨g3, j, none⟩)) [3] [], .val 60 (uc (dig V (16 + j) / 4)) [4] [0], .val 61 (.int .i64 ((16 + (j + 1) : Nat) : Int)) [] [], .val 62 (.pointer (some ⟨g1, 16 + (j + 1), none⟩)) [6] [], .val 63 (uc (dig V (16 + (j + 1)))) [7] [2], .val 64 (uc ((dig V (16 + (j + 1))) % 4)) [8] [], .val 65 (uc (((dig V (16 + (j + 1))) % 4) * 64)) [9] [], .val 66 (uc ((dig V (16 + j) / 4) + (((dig V (16 + (j + 1))) % 4) * 64))) [5, 10] [], .val 67 (.pointer (some ⟨g3, j, none⟩)) [1] [], .sto 0 g3 74 (nv 34 (updN (upK (dig V) (j + 1)) (j + 1) ((dig V (16 + (j + 1))) / 4))) (nv 34 (upK (dig V) (j + 2))) [12, 11]] [0, 1, 0, 4, 8, 16, 0, 64, 128, 256, 512, 1056, 4095, 8191] (by kernel_rfl) (by kernel_rfl) (by kernel_rfl) H ⟨⟨does_move rfl rfl, wanted_none rfl⟩, ⟨does_binOp rfl rfl rfl (i_subE (k := (16 + (j + 1))) (m := 17) (r := j) (by omega) (by omega) _ _), wanted_none rfl⟩, ⟨does_move rfl rfl, wanted_none rfl⟩, ⟨does_binOp rfl rfl rfl (i_subE (k := (16 + (j + 1))) (m := 17) (r := j) (by omega) (by omega) _ _), wanted_none rfl⟩, ⟨does_indexAddr rfl rfl rfl (ia_d34 (j := j) (by omega)), wanted_none rfl⟩, ⟨does_loadAt (v := uc (dig V (16 + j) / 4)) rfl rfl (k := 0) rfl (ld_nv (by omega) (upK_low _ _)), wanted_none rfl⟩, ⟨does_move rfl rfl, wanted_none rfl⟩, ⟨does_indexAddr rfl rfl rfl (ia_d34 (j := (16 + (j + 1))) (by omega)), wanted_none rfl⟩, ⟨does_loadAt (v := uc (dig V (16 + (j + 1)))) rfl rfl (k := 0) rfl (ld_nv (by omega) (loK_at _ _)), wanted_none rfl⟩, ⟨does_binOp rfl rfl rfl (u_rem (x := (dig V (16 + (j + 1)))) (m := 4) (by omega) _ _), wanted_none rfl⟩, ⟨does_binOp rfl rfl rfl (u_mul (x := ((dig V (16 + (j + 1))) % 4)) (y := 64) (by omega) _ _), wanted_none rfl⟩, ⟨does_binOp rfl rfl rfl (u_add (x := (dig V (16 + j) / 4)) (y := (((dig V (16 + (j + 1))) % 4) * 64)) (by omega) _ _), wanted_none rfl⟩, ⟨does_indexAddr rfl rfl rfl (ia_d34 (j := j) (by omega)), wanted_none rfl⟩, ⟨rfl, rfl, sto_at rfl rfl rfl (st_nv (by omega)) (sv_nv (upK_next _ _))⟩, trivial⟩ ?_
          try clear H a W
          intro G6 a W H
          replace H : St 155 w a W [(55, .int .i64 ((16 + (j + 1) : Nat) : Int)), (56, .int .i64 ((j : Nat) : Int)), (57, .int .i64 ((16 + (j + 1) : Nat) : Int)), (58, .int .i64 ((j : Nat) : Int)), (59, .pointer (some ⟨g3, j, none⟩)), (60, uc (dig V (16 + j) / 4)), (61, .int .i64 ((16 + (j + 1) : Nat) : Int)), (62, .pointer (some ⟨g1, 16 + (j + 1), none⟩)), (63, uc (dig V (16 + (j + 1)))), (64, uc ((dig V (16 + (j + 1))) % 4)), (65, uc (((dig V (16 + (j + 1))) % 4) * 64)), (66, uc ((dig V (16 + j) / 4) + (((dig V (16 + (j + 1))) % 4) * 64))), (67, .pointer (some ⟨g3, j, none⟩)), (54, .bool true), (53, .int .i64 ((16 + (j + 1) : Nat) : Int)), (41, .int .i64 ((16 + (j + 1) : Nat) : Int)), (42, .int .i64 ((j + 1 : Nat) : Int)), (43, .int .i64 ((16 + (j + 1) : Nat) : Int)), (44, .int .i64 ((j + 1 : Nat) : Int)), (45, .pointer (some ⟨g3, j + 1, none⟩)), (46, uc 0), (47, .int .i64 ((16 + (j + 1) : Nat) : Int)), (48, .pointer (some ⟨g1, 16 + (j + 1), none⟩)), (49, uc (dig V (16 + (j + 1)))), (50, uc ((dig V (16 + (j + 1))) / 4)), (51, uc ((dig V (16 + (j + 1))) / 4)), (52, .pointer (some ⟨g3, j + 1, none⟩)), (38, .bool true), (37, .int .i64 ((16 + (j + 1) : Nat) : Int)), (8, .int .i64 ((16 + (j + 1) : Nat) : Int)), (7, .pointer (some ⟨g3, 0, none⟩)), (3, .int .i64 ((q : Nat) : Int)), (2, .pointer (some ⟨g2, 0, none⟩)), (1, .pointer (some ⟨g1, 0, none⟩))] [(g3, 74, nv 34 (upK (dig V) (j + 2))), (g2, 73, nv 17 n0s), (g1, 74, nv 34 (loK (dig V) (j + 1)))] := H
          refine hK30 _ _ ?_
          clear hK30
          refine rg_plain ?_
          refine pl_does (does_move rfl rfl) rfl rfl rfl rfl H ?_
          try clear H a W
          intro a W H
          refine pl_does (does_indexAddr rfl rfl rfl (ia_d34 (j := (16 + (j + 1))) (by omega))) rfl rfl rfl rfl H ?_
          try clear H a W
          intro a W H
          refine pl_storeAt rfl rfl rfl (k := 2) rfl (st_nv (by omega)) (sv_nv (loK_next _ _)) rfl rfl H ?_
          try clear H a W
          intro a W H
          refine pl_end ?_
          refine blk_normal ?_
          refine hK27 _ _ ?_
          clear hK27
          refine rg_plain ?_
          refine pl_does (does_move rfl rfl) rfl rfl rfl rfl H ?_
          try clear H a W
          intro a W H
          refine pl_does (does_binOp rfl rfl rfl (i_addE (k := (16 + (j + 1))) (m := 1) rfl (by omega) _ _)) rfl rfl rfl rfl H ?_
          try clear H a W
          intro a W H
          replace H : St 155 w a W [(40, .int .i64 ((16 + (j + 1) + 1 : Nat) : Int)), (39, .int .i64 ((16 + (j + 1) : Nat) : Int)), (69, .pointer (some ⟨g1, 16 + (j + 1), none⟩)), (68, .int .i64 ((16 + (j + 1) : Nat) : Int)), (55, .int .i64 ((16 + (j + 1) : Nat) : Int)), (56, .int .i64 ((j : Nat) : Int)), (57, .int .i64 ((16 + (j + 1) : Nat) : Int)), (58, .int .i64 ((j : Nat) : Int)), (59, .pointer (some ⟨g3, j, none⟩)), (60, uc (dig V (16 + j) / 4)), (61, .int .i64 ((16 + (j + 1) : Nat) : Int)), (62, .pointer (some ⟨g1, 16 + (j + 1), none⟩)), (63, uc (dig V (16 + (j + 1)))), (64, uc ((dig V (16 + (j + 1))) % 4)), (65, uc (((dig V (16 + (j + 1))) % 4) * 64)), (66, uc ((dig V (16 + j) / 4) + (((dig V (16 + (j + 1))) % 4) * 64))), (67, .pointer (some ⟨g3, j, none⟩)), (54, .bool true), (53, .int .i64 ((16 + (j + 1) : Nat) : Int)), (41, .int .i64 ((16 + (j + 1) : Nat) : Int)), (42, .int .i64 ((j + 1 : Nat) : Int)), (43, .int .i64 ((16 + (j + 1) : Nat) : Int)), (44, .int .i64 ((j + 1 : Nat) : Int)), (45, .pointer (some ⟨g3, j + 1, none⟩)), (46, uc 0), (47, .int .i64 ((16 + (j + 1) : Nat) : Int)), (48, .pointer (some ⟨g1, 16 + (j + 1), none⟩)), (49, uc (dig V (16 + (j + 1)))), (50, uc ((dig V (16 + (j + 1))) / 4)), (51, uc ((dig V (16 + (j + 1))) / 4)), (52, .pointer (some ⟨g3, j + 1, none⟩)), (38, .bool true), (37, .int .i64 ((16 + (j + 1) : Nat) : Int)), (7, .pointer (some ⟨g3, 0, none⟩)), (3, .int .i64 ((q : Nat) : Int)), (2, .pointer (some ⟨g2, 0, none⟩)), (1, .pointer (some ⟨g1, 0, none⟩))] [(g3, 74, nv 34 (upK (dig V) (j + 2))), (g2, 73, nv 17 n0s), (g1, 74, nv 34 (loK (dig V) (j + 2)))] := H.pick [0, 1, 2, 3, 4, 5, 6, 7, 8, 9, 10, 11, 12, 13, 14, 15, 16, 17, 18, 19, 20, 21, 22, 23, 24, 25, 26, 27, 28, 29, 30, 31, 32, 34, 35, 36, 37] [0, 1, 2] rfl
          refine pl_does (does_assign rfl rfl) rfl rfl rfl rfl H ?_
          try clear H a W
          intro a W H
          refine pl_end ?_
          refine ⟨(j + 1) + 1, by omega, by omega, ?_⟩
          show St 155 w a W [(8, .int .i64 ((16 + ((j + 1) + 1) : Nat) : Int)), (7, .pointer (some ⟨g3, 0, none⟩)), (3, .int .i64 ((q : Nat) : Int)), (2, .pointer (some ⟨g2, 0, none⟩)), (1, .pointer (some ⟨g1, 0, none⟩))] [(g3, 74, nv 34 (upK (dig V) ((j + 1) + 1))), (g2, 73, nv 17 n0s), (g1, 74, nv 34 (loK (dig V) ((j + 1) + 1)))]
          exact H.pick [0, 34, 35, 36, 37] [0, 1, 2] rfl
      · obtain rfl : 18 = k := by omega
        refine wp_seq_k (fun K31 hK31 => ?_)
        refine wp_seq_k (fun K32 hK32 => ?_)
        refine rg_plain ?_
        refine pl_does (does_move rfl rfl) rfl rfl rfl rfl H ?_
        try clear H a W
        intro a W H
        refine pl_does (does_binOp rfl rfl rfl (i_lss_no (k := (16 + 18)) (m := 34) (by omega) _ _)) rfl rfl rfl rfl H ?_
        try clear H a W
        intro a W H
        refine pl_end ?_
        refine hK32 _ _ ?_
        clear hK32
        refine wp_cond_false (H.ev rfl) ?_
        refine wp_exit ?_
        repeat (with_reducible refine then_exit ?_)
        refine blk_exit ?_
        rw [nv_up hV3, nv_lo hV3] at H
        refine hK18 _ _ ?_
        clear hK18
        refine wp_seq_k (fun K33 hK33 => ?_)
        refine rg_plain ?_
        refine pl_does (does_assign rfl rfl) rfl rfl rfl rfl H ?_
        try clear H a W
        intro a W H
        refine pl_end ?_
        refine hK33 _ _ ?_
        clear hK33
        refine wp_block ?_
        replace H : St 155 w a W [(9, .int .i64 ((0 : Nat) : Int)), (7, .pointer (some ⟨g3, 0, none⟩)), (3, .int .i64 ((q : Nat) : Int)), (2, .pointer (some ⟨g2, 0, none⟩)), (1, .pointer (some ⟨g1, 0, none⟩))] [(g3, 74, nv 34 (dig (V / 1361129467683753853853498429727072845824))), (g2, 73, nv 17 n0s), (g1, 74, nv 34 (mapK (roundD V) (loD (dig V)) 0))] := H.pick [0, 4, 5, 6, 7] [0, 1, 2] rfl
        refine wp_rounds 34 (fun k a W => St 155 w a W [(9, .int .i64 ((k : Nat) : Int)), (7, .pointer (some ⟨g3, 0, none⟩)), (3, .int .i64 ((q : Nat) : Int)), (2, .pointer (some ⟨g2, 0, none⟩)), (1, .pointer (some ⟨g1, 0, none⟩))] [(g3, 74, nv 34 (dig (V / 1361129467683753853853498429727072845824))), (g2, 73, nv 17 n0s), (g1, 74, nv 34 (mapK (roundD V) (loD (dig V)) k))]) (k0 := 0) H (by omega) ?_
        try clear H a W
        intro k a W hk H
        by_cases hk2 : k < 34
        · have b1 := loD_le V k
          have b2 := dig_lt (V / 1361129467683753853853498429727072845824) k
          refine wp_seq_k (fun K34 hK34 => ?_)
          refine wp_seq_k (fun K35 hK35 => ?_)
          refine rg_plain ?_
          refine pl_does (does_move rfl rfl) rfl rfl rfl rfl H ?_
          try clear H a W
          intro a W H
          refine pl_does (does_binOp rfl rfl rfl (i_lss_yes (k := k) (m := 34) (by omega) _ _)) rfl rfl rfl rfl H ?_
          try clear H a W
          intro a W H
          refine pl_end ?_
          refine hK35 _ _ ?_
          clear hK35
          refine wp_cond_true (H.ev rfl) ?_
          refine wp_skip ?_
          refine hK34 _ _ ?_
          clear hK34
          refine wp_seq_k (fun K36 hK36 => ?_)
          refine wp_block ?_
          refine drawnS [.val 80 (.int .i64 ((k : Nat) : Int)) [] [], .val 81 (.int .i64 ((k : Nat) : Int)) [] [], .val 82 (.pointer (some ⟨g1, k, none⟩)) [1] [], .val 83 (uc (loD (dig V) k)) [2] [2], .val 84 (.int .i64 ((k : Nat) : Int)) [] [], .val 85 (.pointer (some ⟨g3, k, none⟩)) [4] [], .val 86 (uc ((dig (V / 1361129467683753853853498429727072845824)) k)) [5] [0], .val 87 (uc (5 * ((dig (V / 1361129467683753853853498429727072845824)) k))) [6] [], .val 88 (uc ((loD (dig V) k) + (5 * ((dig (V / 1361129467683753853853498429727072845824)) k)))) [3, 7] [], .val 89 (.pointer (some ⟨g1, k, none⟩)) [0] [], .sto 2 g1 74 (nv 34 (mapK (roundD V) (loD (dig V)) k)) (nv 34 (mapK (roundD V) (loD (dig V)) (k + 1))) [9, 8]] [0, 0, 2, 4, 0, 16, 32, 64, 136, 511, 1023] (by kernel_rfl) (by kernel_rfl) (by kernel_rfl) H ⟨⟨does_move rfl rfl, wanted_none rfl⟩, ⟨does_move rfl rfl, wanted_none rfl⟩, ⟨does_indexAddr rfl rfl rfl (ia_d34 (j := k) (by omega)), wanted_none rfl⟩, ⟨does_loadAt (v := uc (loD (dig V) k)) rfl rfl (k := 0) rfl (ld_nv (by omega) (mapK_same _ _ _)), wanted_none rfl⟩, ⟨does_move rfl rfl, wanted_none rfl⟩, ⟨does_indexAddr rfl rfl rfl (ia_d34 (j := k) (by omega)), wanted_none rfl⟩, ⟨does_loadAt (v := uc ((dig (V / 1361129467683753853853498429727072845824)) k)) rfl rfl (k := 0) rfl (ld_nv (by omega) (rfl)), wanted_none rfl⟩, ⟨does_binOp rfl rfl rfl (u_mul (x := 5) (y := ((dig (V / 1361129467683753853853498429727072845824)) k)) (by omega) _ _), wanted_none rfl⟩, ⟨does_binOp rfl rfl rfl (u_add (x := (loD (dig V) k)) (y := (5 * ((dig (V / 1361129467683753853853498429727072845824)) k))) (by omega) _ _), wanted_none rfl⟩, ⟨does_indexAddr rfl rfl rfl (ia_d34 (j := k) (by omega)), wanted_none rfl⟩, ⟨rfl, rfl, sto_at rfl rfl rfl (st_nv (by omega)) (sv_nv (mapK_step (roundD V) _ k))⟩, trivial⟩ ?_
          try clear H a W
          intro G7 a W H
          replace H : St 155 w a W [(80, .int .i64 ((k : Nat) : Int)), (81, .int .i64 ((k : Nat) : Int)), (82, .pointer (some ⟨g1, k, none⟩)), (83, uc (loD (dig V) k)), (84, .int .i64 ((k : Nat) : Int)), (85, .pointer (some ⟨g3, k, none⟩)), (86, uc ((dig (V / 1361129467683753853853498429727072845824)) k)), (87, uc (5 * ((dig (V / 1361129467683753853853498429727072845824)) k))), (88, uc ((loD (dig V) k) + (5 * ((dig (V / 1361129467683753853853498429727072845824)) k)))), (89, .pointer (some ⟨g1, k, none⟩)), (77, .bool true), (76, .int .i64 ((k : Nat) : Int)), (9, .int .i64 ((k : Nat) : Int)), (7, .pointer (some ⟨g3, 0, none⟩)), (3, .int .i64 ((q : Nat) : Int)), (2, .pointer (some ⟨g2, 0, none⟩)), (1, .pointer (some ⟨g1, 0, none⟩))] [(g3, 74, nv 34 (dig (V / 1361129467683753853853498429727072845824))), (g2, 73, nv 17 n0s), (g1, 74, nv 34 (mapK (roundD V) (loD (dig V)) (k + 1)))] := H
          refine blk_normal ?_
          refine hK36 _ _ ?_
          clear hK36
          refine rg_plain ?_
          refine pl_does (does_move rfl rfl) rfl rfl rfl rfl H ?_
          try clear H a W
          intro a W H
          refine pl_does (does_binOp rfl rfl rfl (i_addE (k := k) (m := 1) rfl (by omega) _ _)) rfl rfl rfl rfl H ?_
          try clear H a W
          intro a W H
          replace H : St 155 w a W [(79, .int .i64 ((k + 1 : Nat) : Int)), (78, .int .i64 ((k : Nat) : Int)), (80, .int .i64 ((k : Nat) : Int)), (81, .int .i64 ((k : Nat) : Int)), (82, .pointer (some ⟨g1, k, none⟩)), (83, uc (loD (dig V) k)), (84, .int .i64 ((k : Nat) : Int)), (85, .pointer (some ⟨g3, k, none⟩)), (86, uc ((dig (V / 1361129467683753853853498429727072845824)) k)), (87, uc (5 * ((dig (V / 1361129467683753853853498429727072845824)) k))), (88, uc ((loD (dig V) k) + (5 * ((dig (V / 1361129467683753853853498429727072845824)) k)))), (89, .pointer (some ⟨g1, k, none⟩)), (77, .bool true), (76, .int .i64 ((k : Nat) : Int)), (7, .pointer (some ⟨g3, 0, none⟩)), (3, .int .i64 ((q : Nat) : Int)), (2, .pointer (some ⟨g2, 0, none⟩)), (1, .pointer (some ⟨g1, 0, none⟩))] [(g3, 74, nv 34 (dig (V / 1361129467683753853853498429727072845824))), (g2, 73, nv 17 n0s), (g1, 74, nv 34 (mapK (roundD V) (loD (dig V)) (k + 1)))] := H.pick [0, 1, 2, 3, 4, 5, 6, 7, 8, 9, 10, 11, 12, 13, 15, 16, 17, 18] [0, 1, 2] rfl
          refine pl_does (does_assign rfl rfl) rfl rfl rfl rfl H ?_
          try clear H a W
          intro a W H
          refine pl_end ?_
          refine ⟨k + 1, by omega, by omega, ?_⟩
          show St 155 w a W [(9, .int .i64 ((k + 1 : Nat) : Int)), (7, .pointer (some ⟨g3, 0, none⟩)), (3, .int .i64 ((q : Nat) : Int)), (2, .pointer (some ⟨g2, 0, none⟩)), (1, .pointer (some ⟨g1, 0, none⟩))] [(g3, 74, nv 34 (dig (V / 1361129467683753853853498429727072845824))), (g2, 73, nv 17 n0s), (g1, 74, nv 34 (mapK (roundD V) (loD (dig V)) (k + 1)))]
          exact H.pick [0, 15, 16, 17, 18] [0, 1, 2] rfl
        · obtain rfl : 34 = k := by omega
          refine wp_seq_k (fun K37 hK37 => ?_)
          refine wp_seq_k (fun K38 hK38 => ?_)
          refine rg_plain ?_
          refine pl_does (does_move rfl rfl) rfl rfl rfl rfl H ?_
          try clear H a W
          intro a W H
          refine pl_does (does_binOp rfl rfl rfl (i_lss_no (k := 34) (m := 34) (by omega) _ _)) rfl rfl rfl rfl H ?_
          try clear H a W
          intro a W H
          refine pl_end ?_
          refine hK38 _ _ ?_
          clear hK38
          refine wp_cond_false (H.ev rfl) ?_
          refine wp_exit ?_
          repeat (with_reducible refine then_exit ?_)
          refine blk_exit ?_
          rw [mapK_all] at H
          refine blk_normal ?_
          refine hK6 _ _ ?_
          clear hK6
          refine rg_plain ?_
          refine pl_does (does_move rfl rfl) rfl rfl rfl rfl H ?_
          try clear H a W
          intro a W H
          refine pl_does (does_binOp rfl rfl rfl (i_addE (k := q) (m := 1) rfl (by omega) _ _)) rfl rfl rfl rfl H ?_
          try clear H a W
          intro a W H
          replace H : St 155 w a W [(21, .int .i64 ((q + 1 : Nat) : Int)), (20, .int .i64 ((q : Nat) : Int)), (77, .bool false), (76, .int .i64 ((34 : Nat) : Int)), (9, .int .i64 ((34 : Nat) : Int)), (7, .pointer (some ⟨g3, 0, none⟩)), (2, .pointer (some ⟨g2, 0, none⟩)), (1, .pointer (some ⟨g1, 0, none⟩))] [(g3, 74, nv 34 (dig (V / 1361129467683753853853498429727072845824))), (g2, 73, nv 17 n0s), (g1, 74, nv 34 (roundD V))] := H.pick [0, 1, 2, 3, 4, 5, 7, 8] [0, 1, 2] rfl
          refine pl_does (does_assign rfl rfl) rfl rfl rfl rfl H ?_
          try clear H a W
          intro a W H
          refine pl_end ?_
          refine ⟨q + 1, by omega, by omega, ?_⟩
          show St 155 w a W [(3, .int .i64 ((q + 1 : Nat) : Int)), (2, .pointer (some ⟨g2, 0, none⟩)), (1, .pointer (some ⟨g1, 0, none⟩))] [(g2, 73, nv 17 n0s), (g1, 74, nv 34 (itD f (q + 1)))]
          rw [← hgn, hV]
          exact H.pick [0, 7, 8] [1, 2] rfl
  · obtain rfl : 4 = q := by omega
    refine wp_seq_k (fun K39 hK39 => ?_)
    refine wp_seq_k (fun K40 hK40 => ?_)
    refine rg_plain ?_
    refine pl_does (does_move rfl rfl) rfl rfl rfl rfl H ?_
    try clear H a W
    intro a W H
    refine pl_does (does_binOp rfl rfl rfl (i_lss_no (k := 4) (m := 4) (by omega) _ _)) rfl rfl rfl rfl H ?_
    try clear H a W
    intro a W H
    refine pl_end ?_
    replace H : St 155 w a W [(19, .bool false), (3, .int .i64 ((4 : Nat) : Int)), (2, .pointer (some ⟨g2, 0, none⟩)), (1, .pointer (some ⟨g1, 0, none⟩))] [(g2, 73, nv 17 n0s), (g1, 74, nv 34 (itD f 4))] := H.pick [0, 2, 3, 4] [0, 1] rfl
    refine hK40 _ _ ?_
    clear hK40
    refine wp_cond_false (H.ev rfl) ?_
    refine wp_exit ?_
    repeat (with_reducible refine then_exit ?_)
    refine blk_exit ?_
    obtain ⟨hv1, hv2⟩ := it_four hV0
    obtain ⟨g, hg⟩ : ∃ g, itD f 4 = g := ⟨_, rfl⟩
    have hgb : ∀ i, g i ≤ 1099511627776 := by rw [← hg]; exact it_le hf 4
    rw [hg] at H hv1 hv2
    obtain ⟨v, hv⟩ : ∃ v, sumD g 34 = v := ⟨_, rfl⟩
    rw [hv] at hv1 hv2
    refine hK2 _ _ ?_
    clear hK2
    refine wp_seq_k (fun K41 hK41 => ?_)
    refine rg_plain ?_
    refine pl_new (news_of rfl al_num9) rfl rfl rfl rfl H ?_
    try clear H a W
    intro g8 a W H
    refine pl_end ?_
    replace H : St 155 w a W [(10, .pointer (some ⟨g8, 0, none⟩)), (2, .pointer (some ⟨g2, 0, none⟩)), (1, .pointer (some ⟨g1, 0, none⟩))] [(g8, 73, nv 17 n0s), (g2, 73, nv 17 n0s), (g1, 74, nv 34 g)] := H.pick [0, 3, 4] [0, 1, 2] rfl
    refine hK41 _ _ ?_
    clear hK41
    refine wp_seq_k (fun K42 hK42 => ?_)
    refine rg_plain ?_
    refine pl_does (does_assign rfl rfl) rfl rfl rfl rfl H ?_
    try clear H a W
    intro a W H
    refine pl_end ?_
    refine hK42 _ _ ?_
    clear hK42
    refine wp_seq_k (fun K43 hK43 => ?_)
    refine wp_seq_k (fun K44 hK44 => ?_)
    refine rg_plain ?_
    refine pl_does (does_assign rfl rfl) rfl rfl rfl rfl H ?_
    try clear H a W
    intro a W H
    refine pl_end ?_
    refine hK44 _ _ ?_
    clear hK44
    refine wp_block ?_
    replace H : St 155 w a W [(12, .int .i64 ((0 : Nat) : Int)), (11, uc (carC 0 g 0)), (10, .pointer (some ⟨g8, 0, none⟩)), (2, .pointer (some ⟨g2, 0, none⟩)), (1, .pointer (some ⟨g1, 0, none⟩))] [(g8, 73, nv 17 (mapK (carF 0 g) n0s 0)), (g2, 73, nv 17 n0s), (g1, 74, nv 34 g)] := H.pick [0, 1, 2, 3, 4] [0, 1, 2] rfl
    refine wp_rounds 17 (fun k a W => St 155 w a W [(12, .int .i64 ((k : Nat) : Int)), (11, uc (carC 0 g k)), (10, .pointer (some ⟨g8, 0, none⟩)), (2, .pointer (some ⟨g2, 0, none⟩)), (1, .pointer (some ⟨g1, 0, none⟩))] [(g8, 73, nv 17 (mapK (carF 0 g) n0s k)), (g2, 73, nv 17 n0s), (g1, 74, nv 34 g)]) (k0 := 0) H (by omega) ?_
    try clear H a W
    intro k a W hk H
    by_cases hk2 : k < 17
    · have b1 := hgb k
      have b2 := carC_le (c := 0) (Nat.zero_le _) hgb k
      refine wp_seq_k (fun K45 hK45 => ?_)
      refine wp_seq_k (fun K46 hK46 => ?_)
      refine rg_plain ?_
      refine pl_does (does_move rfl rfl) rfl rfl rfl rfl H ?_
      try clear H a W
      intro a W H
      refine pl_does (does_binOp rfl rfl rfl (i_lss_yes (k := k) (m := 17) (by omega) _ _)) rfl rfl rfl rfl H ?_
      try clear H a W
      intro a W H
      refine pl_end ?_
      refine hK46 _ _ ?_
      clear hK46
      refine wp_cond_true (H.ev rfl) ?_
      refine wp_skip ?_
      refine hK45 _ _ ?_
      clear hK45
      refine wp_seq_k (fun K47 hK47 => ?_)
      refine wp_block ?_
      refine wp_seq_k (fun K48 hK48 => ?_)
      refine rg_plain ?_
      refine pl_does (does_move rfl rfl) rfl rfl rfl rfl H ?_
      try clear H a W
      intro a W H
      refine pl_does (does_indexAddr rfl rfl rfl (ia_d34 (j := k) (by omega))) rfl rfl rfl rfl H ?_
      try clear H a W
      intro a W H
      refine pl_does (does_loadAt (v := uc (g k)) rfl rfl (k := 2) rfl (ld_nv (by omega) (rfl))) rfl rfl rfl rfl H ?_
      try clear H a W
      intro a W H
      refine pl_does (does_move rfl rfl) rfl rfl rfl rfl H ?_
      try clear H a W
      intro a W H
      refine pl_does (does_binOp rfl rfl rfl (u_add (x := (g k)) (y := (carC 0 g k)) (by omega) _ _)) rfl rfl rfl rfl H ?_
      try clear H a W
      intro a W H
      refine pl_does (does_assign rfl rfl) rfl rfl rfl rfl H ?_
      try clear H a W
      intro a W H
      refine pl_end ?_
      refine hK48 _ _ ?_
      clear hK48
      refine wp_seq_k (fun K49 hK49 => ?_)
      refine rg_plain ?_
      refine pl_does (does_move rfl rfl) rfl rfl rfl rfl H ?_
      try clear H a W
      intro a W H
      refine pl_does (does_move rfl rfl) rfl rfl rfl rfl H ?_
      try clear H a W
      intro a W H
      refine pl_does (does_binOp rfl rfl rfl (u_rem (x := ((g k) + (carC 0 g k))) (m := 256) (by omega) _ _)) rfl rfl rfl rfl H ?_
      try clear H a W
      intro a W H
      refine pl_does (does_indexAddr rfl rfl rfl (ia_num9 (j := k) (by omega))) rfl rfl rfl rfl H ?_
      try clear H a W
      intro a W H
      refine pl_storeAt rfl rfl rfl (k := 0) rfl (st_nv (by omega)) (sv_nv (carF_step 0 g _ k)) rfl rfl H ?_
      try clear H a W
      intro a W H
      refine pl_end ?_
      refine hK49 _ _ ?_
      clear hK49
      refine rg_plain ?_
      refine pl_does (does_move rfl rfl) rfl rfl rfl rfl H ?_
      try clear H a W
      intro a W H
      refine pl_does (does_binOp rfl rfl rfl (u_quo (x := ((g k) + (carC 0 g k))) (m := 256) (by omega) (by omega) _ _)) rfl rfl rfl rfl H ?_
      try clear H a W
      intro a W H
      replace H : St 155 w a W [(104, uc (((g k) + (carC 0 g k)) / 256)), (103, uc ((g k) + (carC 0 g k))), (102, .pointer (some ⟨g8, k, none⟩)), (101, uc (((g k) + (carC 0 g k)) % 256)), (100, uc ((g k) + (carC 0 g k))), (99, .int .i64 ((k : Nat) : Int)), (13, uc ((g k) + (carC 0 g k))), (98, uc ((g k) + (carC 0 g k))), (97, uc (carC 0 g k)), (96, uc (g k)), (95, .pointer (some ⟨g1, k, none⟩)), (94, .int .i64 ((k : Nat) : Int)), (91, .bool true), (90, .int .i64 ((k : Nat) : Int)), (12, .int .i64 ((k : Nat) : Int)), (10, .pointer (some ⟨g8, 0, none⟩)), (2, .pointer (some ⟨g2, 0, none⟩)), (1, .pointer (some ⟨g1, 0, none⟩))] [(g8, 73, nv 17 (mapK (carF 0 g) n0s (k + 1))), (g2, 73, nv 17 n0s), (g1, 74, nv 34 g)] := H.pick [0, 1, 2, 3, 4, 5, 6, 7, 8, 9, 10, 11, 12, 13, 14, 16, 17, 18] [0, 1, 2] rfl
      refine pl_does (does_assign rfl rfl) rfl rfl rfl rfl H ?_
      try clear H a W
      intro a W H
      refine pl_end ?_
      refine blk_normal ?_
      refine hK47 _ _ ?_
      clear hK47
      refine rg_plain ?_
      refine pl_does (does_move rfl rfl) rfl rfl rfl rfl H ?_
      try clear H a W
      intro a W H
      refine pl_does (does_binOp rfl rfl rfl (i_addE (k := k) (m := 1) rfl (by omega) _ _)) rfl rfl rfl rfl H ?_
      try clear H a W
      intro a W H
      replace H : St 155 w a W [(93, .int .i64 ((k + 1 : Nat) : Int)), (92, .int .i64 ((k : Nat) : Int)), (11, uc (((g k) + (carC 0 g k)) / 256)), (104, uc (((g k) + (carC 0 g k)) / 256)), (103, uc ((g k) + (carC 0 g k))), (102, .pointer (some ⟨g8, k, none⟩)), (101, uc (((g k) + (carC 0 g k)) % 256)), (100, uc ((g k) + (carC 0 g k))), (99, .int .i64 ((k : Nat) : Int)), (13, uc ((g k) + (carC 0 g k))), (98, uc ((g k) + (carC 0 g k))), (97, uc (carC 0 g k)), (96, uc (g k)), (95, .pointer (some ⟨g1, k, none⟩)), (94, .int .i64 ((k : Nat) : Int)), (91, .bool true), (90, .int .i64 ((k : Nat) : Int)), (10, .pointer (some ⟨g8, 0, none⟩)), (2, .pointer (some ⟨g2, 0, none⟩)), (1, .pointer (some ⟨g1, 0, none⟩))] [(g8, 73, nv 17 (mapK (carF 0 g) n0s (k + 1))), (g2, 73, nv 17 n0s), (g1, 74, nv 34 g)] := H.pick [0, 1, 2, 3, 4, 5, 6, 7, 8, 9, 10, 11, 12, 13, 14, 15, 16, 18, 19, 20] [0, 1, 2] rfl
      refine pl_does (does_assign rfl rfl) rfl rfl rfl rfl H ?_
      try clear H a W
      intro a W H
      refine pl_end ?_
      refine ⟨k + 1, by omega, by omega, ?_⟩
      show St 155 w a W [(12, .int .i64 ((k + 1 : Nat) : Int)), (11, uc (carC 0 g (k + 1))), (10, .pointer (some ⟨g8, 0, none⟩)), (2, .pointer (some ⟨g2, 0, none⟩)), (1, .pointer (some ⟨g1, 0, none⟩))] [(g8, 73, nv 17 (mapK (carF 0 g) n0s (k + 1))), (g2, 73, nv 17 n0s), (g1, 74, nv 34 g)]
      exact H.pick [0, 3, 18, 19, 20] [0, 1, 2] rfl
    · obtain rfl : 17 = k := by omega
      refine wp_seq_k (fun K50 hK50 => ?_)
      refine wp_seq_k (fun K51 hK51 => ?_)
      refine rg_plain ?_
      refine pl_does (does_move rfl rfl) rfl rfl rfl rfl H ?_
      try clear H a W
      intro a W H
      refine pl_does (does_binOp rfl rfl rfl (i_lss_no (k := 17) (m := 17) (by omega) _ _)) rfl rfl rfl rfl H ?_
      try clear H a W
      intro a W H
      refine pl_end ?_
      replace H : St 155 w a W [(91, .bool false), (12, .int .i64 ((17 : Nat) : Int)), (11, uc (carC 0 g 17)), (10, .pointer (some ⟨g8, 0, none⟩)), (2, .pointer (some ⟨g2, 0, none⟩)), (1, .pointer (some ⟨g1, 0, none⟩))] [(g8, 73, nv 17 (mapK (carF 0 g) n0s 17)), (g2, 73, nv 17 n0s), (g1, 74, nv 34 g)] := H.pick [0, 2, 3, 4, 5, 6] [0, 1, 2] rfl
      refine hK51 _ _ ?_
      clear hK51
      refine wp_cond_false (H.ev rfl) ?_
      refine wp_exit ?_
      repeat (with_reducible refine then_exit ?_)
      refine blk_exit ?_
      rw [carF_all 0 g n0s (show 17 ≤ 34 by omega), Nat.add_zero, hv] at H
      have h16 := dig16 hv1
      refine hK43 _ _ ?_
      clear hK43
      refine wp_seq_k (fun K52 hK52 => ?_)
      have J52 : ∀ a W, St 155 w a W [(14, .bool (grB v 0)), (10, .pointer (some ⟨g8, 0, none⟩)), (2, .pointer (some ⟨g2, 0, none⟩))] [(g8, 73, nv 17 (dig v)), (g2, 73, nv 17 n0s), (g1, 74, nv 34 g)] → K52 a W := by
        try clear H a W
        intro a W H
        refine hK52 _ _ ?_
        clear hK52
        refine wp_seq_k (fun K53 hK53 => ?_)
        refine wp_seq_k (fun K54 hK54 => ?_)
        refine rg_plain ?_
        refine pl_does (does_assign rfl rfl) rfl rfl rfl rfl H ?_
        try clear H a W
        intro a W H
        refine pl_end ?_
        refine hK54 _ _ ?_
        clear hK54
        refine wp_block ?_
        replace H : St 155 w a W [(15, .int .i64 ((1 + 0 : Nat) : Int)), (14, .bool (grB v 0)), (10, .pointer (some ⟨g8, 0, none⟩)), (2, .pointer (some ⟨g2, 0, none⟩))] [(g8, 73, nv 17 (dig v)), (g2, 73, nv 17 n0s), (g1, 74, nv 34 g)] := H.pick [0, 1, 2, 3] [0, 1, 2] rfl
        refine wp_rounds 15 (fun k a W => St 155 w a W [(15, .int .i64 ((1 + k : Nat) : Int)), (14, .bool (grB v k)), (10, .pointer (some ⟨g8, 0, none⟩)), (2, .pointer (some ⟨g2, 0, none⟩))] [(g8, 73, nv 17 (dig v)), (g2, 73, nv 17 n0s), (g1, 74, nv 34 g)]) (k0 := 0) H (by omega) ?_
        try clear H a W
        intro k a W hk H
        by_cases hk2 : k < 15
        · rcases three v k with h3 | h3 | h3
          · have hgn := gr_a h3
            rw [h3] at H
            have h255 := h3
            refine wp_seq_k (fun K55 hK55 => ?_)
            refine wp_seq_k (fun K56 hK56 => ?_)
            refine rg_plain ?_
            refine pl_does (does_move rfl rfl) rfl rfl rfl rfl H ?_
            try clear H a W
            intro a W H
            refine pl_does (does_binOp rfl rfl rfl (i_lss_yes (k := (1 + k)) (m := 16) (by omega) _ _)) rfl rfl rfl rfl H ?_
            try clear H a W
            intro a W H
            refine pl_end ?_
            refine hK56 _ _ ?_
            clear hK56
            refine wp_cond_true (H.ev rfl) ?_
            refine wp_skip ?_
            refine hK55 _ _ ?_
            clear hK55
            refine wp_seq_k (fun K57 hK57 => ?_)
            refine wp_block ?_
            refine rg_plain ?_
            refine pl_does (does_move rfl rfl) rfl rfl rfl rfl H ?_
            try clear H a W
            intro a W H
            refine pl_does (does_move rfl rfl) rfl rfl rfl rfl H ?_
            try clear H a W
            intro a W H
            refine pl_skip (wanted_some rfl rfl rfl rfl rfl) rfl rfl rfl H ?_
            try clear H a W
            intro a W H
            refine pl_skip (wanted_some rfl rfl rfl rfl rfl) rfl rfl rfl H ?_
            try clear H a W
            intro a W H
            refine pl_skip (wanted_some rfl rfl rfl rfl rfl) rfl rfl rfl H ?_
            try clear H a W
            intro a W H
            refine pl_skip (wanted_some rfl rfl rfl rfl rfl) rfl rfl rfl H ?_
            try clear H a W
            intro a W H
            refine pl_skip (wanted_some rfl rfl rfl rfl rfl) rfl rfl rfl H ?_
            try clear H a W
            intro a W H
            refine pl_skip (wanted_off rfl rfl rfl rfl) rfl rfl rfl H ?_
            try clear H a W
            intro a W H
            refine pl_skip (wanted_off rfl rfl rfl rfl) rfl rfl rfl H ?_
            try clear H a W
            intro a W H
            refine pl_skip (wanted_off rfl rfl rfl rfl) rfl rfl rfl H ?_
            try clear H a W
            intro a W H
            refine pl_skip (wanted_some rfl rfl rfl rfl rfl) rfl rfl rfl H ?_
            try clear H a W
            intro a W H
            refine pl_does (does_pick rfl rfl (fun hb => by cases hb) (fun _ => rfl)) rfl rfl rfl rfl H ?_
            try clear H a W
            intro a W H
            replace H : St 155 w a W [(133, .bool false), (132, undef), (131, undef), (130, undef), (129, undef), (128, undef), (127, undef), (126, undef), (125, undef), (124, undef), (123, .bool false), (122, .bool false), (119, .bool true), (118, .int .i64 ((1 + k : Nat) : Int)), (15, .int .i64 ((1 + k : Nat) : Int)), (10, .pointer (some ⟨g8, 0, none⟩)), (2, .pointer (some ⟨g2, 0, none⟩))] [(g8, 73, nv 17 (dig v)), (g2, 73, nv 17 n0s), (g1, 74, nv 34 g)] := H.pick [0, 1, 2, 3, 4, 5, 6, 7, 8, 9, 10, 11, 12, 13, 14, 16, 17] [0, 1, 2] rfl
            refine pl_does (does_assign rfl rfl) rfl rfl rfl rfl H ?_
            try clear H a W
            intro a W H
            refine pl_end ?_
            refine blk_normal ?_
            refine hK57 _ _ ?_
            clear hK57
            refine rg_plain ?_
            refine pl_does (does_move rfl rfl) rfl rfl rfl rfl H ?_
            try clear H a W
            intro a W H
            refine pl_does (does_binOp rfl rfl rfl (i_addE (k := (1 + k)) (m := 1) rfl (by omega) _ _)) rfl rfl rfl rfl H ?_
            try clear H a W
            intro a W H
            replace H : St 155 w a W [(121, .int .i64 ((1 + k + 1 : Nat) : Int)), (120, .int .i64 ((1 + k : Nat) : Int)), (14, .bool false), (133, .bool false), (132, undef), (131, undef), (130, undef), (129, undef), (128, undef), (127, undef), (126, undef), (125, undef), (124, undef), (123, .bool false), (122, .bool false), (119, .bool true), (118, .int .i64 ((1 + k : Nat) : Int)), (10, .pointer (some ⟨g8, 0, none⟩)), (2, .pointer (some ⟨g2, 0, none⟩))] [(g8, 73, nv 17 (dig v)), (g2, 73, nv 17 n0s), (g1, 74, nv 34 g)] := H.pick [0, 1, 2, 3, 4, 5, 6, 7, 8, 9, 10, 11, 12, 13, 14, 15, 16, 18, 19] [0, 1, 2] rfl
            refine pl_does (does_assign rfl rfl) rfl rfl rfl rfl H ?_
            try clear H a W
            intro a W H
            refine pl_end ?_
            refine ⟨k + 1, by omega, by omega, ?_⟩
            show St 155 w a W [(15, .int .i64 ((1 + (k + 1) : Nat) : Int)), (14, .bool (grB v (k + 1))), (10, .pointer (some ⟨g8, 0, none⟩)), (2, .pointer (some ⟨g2, 0, none⟩))] [(g8, 73, nv 17 (dig v)), (g2, 73, nv 17 n0s), (g1, 74, nv 34 g)]
            rw [hgn]
            exact H.pick [0, 3, 18, 19] [0, 1, 2] rfl
          · have hgn := gr_b h3
            rw [h3.1] at H
            have h255 := h3.2
            refine wp_seq_k (fun K58 hK58 => ?_)
            refine wp_seq_k (fun K59 hK59 => ?_)
            refine rg_plain ?_
            refine pl_does (does_move rfl rfl) rfl rfl rfl rfl H ?_
            try clear H a W
            intro a W H
            refine pl_does (does_binOp rfl rfl rfl (i_lss_yes (k := (1 + k)) (m := 16) (by omega) _ _)) rfl rfl rfl rfl H ?_
            try clear H a W
            intro a W H
            refine pl_end ?_
            refine hK59 _ _ ?_
            clear hK59
            refine wp_cond_true (H.ev rfl) ?_
            refine wp_skip ?_
            refine hK58 _ _ ?_
            clear hK58
            refine wp_seq_k (fun K60 hK60 => ?_)
            refine wp_block ?_
            refine rg_plain ?_
            refine pl_does (does_move rfl rfl) rfl rfl rfl rfl H ?_
            try clear H a W
            intro a W H
            refine pl_does (does_move rfl rfl) rfl rfl rfl rfl H ?_
            try clear H a W
            intro a W H
            refine pl_does_g (does_move rfl rfl) (wanted_some rfl rfl rfl rfl rfl) rfl rfl rfl H ?_
            try clear H a W
            intro a W H
            refine pl_does_g (does_indexAddr rfl rfl rfl (ia_num9 (j := (1 + k)) (by omega))) (wanted_some rfl rfl rfl rfl rfl) rfl rfl rfl H ?_
            try clear H a W
            intro a W H
            refine pl_does_g (does_loadAt (v := uc ((dig v) (1 + k))) rfl rfl (k := 0) rfl (ld_nv (by omega) (rfl))) (wanted_some rfl rfl rfl rfl rfl) rfl rfl rfl H ?_
            try clear H a W
            intro a W H
            refine pl_does_g (does_binOp rfl rfl rfl (u_eqlB (x := ((dig v) (1 + k))) (m := 255) (decide_eq_false (by omega)) _ _)) (wanted_some rfl rfl rfl rfl rfl) rfl rfl rfl H ?_
            try clear H a W
            intro a W H
            refine pl_does_g (does_move rfl rfl) (wanted_some rfl rfl rfl rfl rfl) rfl rfl rfl H ?_
            try clear H a W
            intro a W H
            refine pl_does_g (does_indexAddr rfl rfl rfl (ia_num9 (j := 16) (by omega))) (wanted_some rfl rfl rfl rfl rfl) rfl rfl rfl H ?_
            try clear H a W
            intro a W H
            refine pl_does_g (does_loadAt (v := uc ((dig v) 16)) rfl rfl (k := 0) rfl (ld_nv (by omega) (rfl))) (wanted_some rfl rfl rfl rfl rfl) rfl rfl rfl H ?_
            try clear H a W
            intro a W H
            refine pl_does_g (does_binOp rfl rfl rfl (u_gtrB (x := ((dig v) 16)) (m := 3) (decide_eq_false (by omega)) _ _)) (wanted_some rfl rfl rfl rfl rfl) rfl rfl rfl H ?_
            try clear H a W
            intro a W H
            refine pl_does_g (does_pick rfl rfl (fun hb => by cases hb) (fun _ => rfl)) (wanted_some rfl rfl rfl rfl rfl) rfl rfl rfl H ?_
            try clear H a W
            intro a W H
            refine pl_does (does_pick rfl rfl (fun _ => rfl) (fun hb => by cases hb)) rfl rfl rfl rfl H ?_
            try clear H a W
            intro a W H
            replace H : St 155 w a W [(133, .bool false), (132, .bool false), (131, .bool false), (130, uc ((dig v) 16)), (129, .pointer (some ⟨g8, 16, none⟩)), (128, .bool false), (127, .bool false), (126, uc ((dig v) (1 + k))), (125, .pointer (some ⟨g8, 1 + k, none⟩)), (124, .int .i64 ((1 + k : Nat) : Int)), (123, .bool true), (122, .bool true), (119, .bool true), (118, .int .i64 ((1 + k : Nat) : Int)), (15, .int .i64 ((1 + k : Nat) : Int)), (10, .pointer (some ⟨g8, 0, none⟩)), (2, .pointer (some ⟨g2, 0, none⟩))] [(g8, 73, nv 17 (dig v)), (g2, 73, nv 17 n0s), (g1, 74, nv 34 g)] := H.pick [0, 1, 2, 3, 4, 5, 6, 7, 8, 9, 10, 11, 12, 13, 14, 16, 17] [0, 1, 2] rfl
            refine pl_does (does_assign rfl rfl) rfl rfl rfl rfl H ?_
            try clear H a W
            intro a W H
            refine pl_end ?_
            refine blk_normal ?_
            refine hK60 _ _ ?_
            clear hK60
            refine rg_plain ?_
            refine pl_does (does_move rfl rfl) rfl rfl rfl rfl H ?_
            try clear H a W
            intro a W H
            refine pl_does (does_binOp rfl rfl rfl (i_addE (k := (1 + k)) (m := 1) rfl (by omega) _ _)) rfl rfl rfl rfl H ?_
            try clear H a W
            intro a W H
            replace H : St 155 w a W [(121, .int .i64 ((1 + k + 1 : Nat) : Int)), (120, .int .i64 ((1 + k : Nat) : Int)), (14, .bool false), (133, .bool false), (132, .bool false), (131, .bool false), (130, uc ((dig v) 16)), (129, .pointer (some ⟨g8, 16, none⟩)), (128, .bool false), (127, .bool false), (126, uc ((dig v) (1 + k))), (125, .pointer (some ⟨g8, 1 + k, none⟩)), (124, .int .i64 ((1 + k : Nat) : Int)), (123, .bool true), (122, .bool true), (119, .bool true), (118, .int .i64 ((1 + k : Nat) : Int)), (10, .pointer (some ⟨g8, 0, none⟩)), (2, .pointer (some ⟨g2, 0, none⟩))] [(g8, 73, nv 17 (dig v)), (g2, 73, nv 17 n0s), (g1, 74, nv 34 g)] := H.pick [0, 1, 2, 3, 4, 5, 6, 7, 8, 9, 10, 11, 12, 13, 14, 15, 16, 18, 19] [0, 1, 2] rfl
            refine pl_does (does_assign rfl rfl) rfl rfl rfl rfl H ?_
            try clear H a W
            intro a W H
            refine pl_end ?_
            refine ⟨k + 1, by omega, by omega, ?_⟩
            show St 155 w a W [(15, .int .i64 ((1 + (k + 1) : Nat) : Int)), (14, .bool (grB v (k + 1))), (10, .pointer (some ⟨g8, 0, none⟩)), (2, .pointer (some ⟨g2, 0, none⟩))] [(g8, 73, nv 17 (dig v)), (g2, 73, nv 17 n0s), (g1, 74, nv 34 g)]
            rw [hgn]
            exact H.pick [0, 3, 18, 19] [0, 1, 2] rfl
          · have hgn := gr_c h3
            rw [h3.1] at H
            have h255 := h3.2
            refine wp_seq_k (fun K61 hK61 => ?_)
            refine wp_seq_k (fun K62 hK62 => ?_)
            refine rg_plain ?_
            refine pl_does (does_move rfl rfl) rfl rfl rfl rfl H ?_
            try clear H a W
            intro a W H
            refine pl_does (does_binOp rfl rfl rfl (i_lss_yes (k := (1 + k)) (m := 16) (by omega) _ _)) rfl rfl rfl rfl H ?_
            try clear H a W
            intro a W H
            refine pl_end ?_
            refine hK62 _ _ ?_
            clear hK62
            refine wp_cond_true (H.ev rfl) ?_
            refine wp_skip ?_
            refine hK61 _ _ ?_
            clear hK61
            refine wp_seq_k (fun K63 hK63 => ?_)
            refine wp_block ?_
            refine rg_plain ?_
            refine pl_does (does_move rfl rfl) rfl rfl rfl rfl H ?_
            try clear H a W
            intro a W H
            refine pl_does (does_move rfl rfl) rfl rfl rfl rfl H ?_
            try clear H a W
            intro a W H
            refine pl_does_g (does_move rfl rfl) (wanted_some rfl rfl rfl rfl rfl) rfl rfl rfl H ?_
            try clear H a W
            intro a W H
            refine pl_does_g (does_indexAddr rfl rfl rfl (ia_num9 (j := (1 + k)) (by omega))) (wanted_some rfl rfl rfl rfl rfl) rfl rfl rfl H ?_
            try clear H a W
            intro a W H
            refine pl_does_g (does_loadAt (v := uc ((dig v) (1 + k))) rfl rfl (k := 0) rfl (ld_nv (by omega) (rfl))) (wanted_some rfl rfl rfl rfl rfl) rfl rfl rfl H ?_
            try clear H a W
            intro a W H
            refine pl_does_g (does_binOp rfl rfl rfl (u_eqlB (x := ((dig v) (1 + k))) (m := 255) (decide_eq_true (by omega)) _ _)) (wanted_some rfl rfl rfl rfl rfl) rfl rfl rfl H ?_
            try clear H a W
            intro a W H
            refine pl_does_g (does_move rfl rfl) (wanted_some rfl rfl rfl rfl rfl) rfl rfl rfl H ?_
            try clear H a W
            intro a W H
            refine pl_skip (wanted_some rfl rfl rfl rfl rfl) rfl rfl rfl H ?_
            try clear H a W
            intro a W H
            refine pl_skip (wanted_some rfl rfl rfl rfl rfl) rfl rfl rfl H ?_
            try clear H a W
            intro a W H
            refine pl_skip (wanted_some rfl rfl rfl rfl rfl) rfl rfl rfl H ?_
            try clear H a W
            intro a W H
            refine pl_does_g (does_pick rfl rfl (fun _ => rfl) (fun hb => by cases hb)) (wanted_some rfl rfl rfl rfl rfl) rfl rfl rfl H ?_
            try clear H a W
            intro a W H
            refine pl_does (does_pick rfl rfl (fun _ => rfl) (fun hb => by cases hb)) rfl rfl rfl rfl H ?_
            try clear H a W
            intro a W H
            replace H : St 155 w a W [(133, .bool true), (132, .bool true), (131, undef), (130, undef), (129, undef), (128, .bool true), (127, .bool true), (126, uc ((dig v) (1 + k))), (125, .pointer (some ⟨g8, 1 + k, none⟩)), (124, .int .i64 ((1 + k : Nat) : Int)), (123, .bool true), (122, .bool true), (119, .bool true), (118, .int .i64 ((1 + k : Nat) : Int)), (15, .int .i64 ((1 + k : Nat) : Int)), (10, .pointer (some ⟨g8, 0, none⟩)), (2, .pointer (some ⟨g2, 0, none⟩))] [(g8, 73, nv 17 (dig v)), (g2, 73, nv 17 n0s), (g1, 74, nv 34 g)] := H.pick [0, 1, 2, 3, 4, 5, 6, 7, 8, 9, 10, 11, 12, 13, 14, 16, 17] [0, 1, 2] rfl
            refine pl_does (does_assign rfl rfl) rfl rfl rfl rfl H ?_
            try clear H a W
            intro a W H
            refine pl_end ?_
            refine blk_normal ?_
            refine hK63 _ _ ?_
            clear hK63
            refine rg_plain ?_
            refine pl_does (does_move rfl rfl) rfl rfl rfl rfl H ?_
            try clear H a W
            intro a W H
            refine pl_does (does_binOp rfl rfl rfl (i_addE (k := (1 + k)) (m := 1) rfl (by omega) _ _)) rfl rfl rfl rfl H ?_
            try clear H a W
            intro a W H
            replace H : St 155 w a W [(121, .int .i64 ((1 + k + 1 : Nat) : Int)), (120, .int .i64 ((1 + k : Nat) : Int)), (14, .bool true), (133, .bool true), (132, .bool true), (131, undef), (130, undef), (129, undef), (128, .bool true), (127, .bool true), (126, uc ((dig v) (1 + k))), (125, .pointer (some ⟨g8, 1 + k, none⟩)), (124, .int .i64 ((1 + k : Nat) : Int)), (123, .bool true), (122, .bool true), (119, .bool true), (118, .int .i64 ((1 + k : Nat) : Int)), (10, .pointer (some ⟨g8, 0, none⟩)), (2, .pointer (some ⟨g2, 0, none⟩))] [(g8, 73, nv 17 (dig v)), (g2, 73, nv 17 n0s), (g1, 74, nv 34 g)] := H.pick [0, 1, 2, 3, 4, 5, 6, 7, 8, 9, 10, 11, 12, 13, 14, 15, 16, 18, 19] [0, 1, 2] rfl
            refine pl_does (does_assign rfl rfl) rfl rfl rfl rfl H ?_
            try clear H a W
            intro a W H
            refine pl_end ?_
            refine ⟨k + 1, by omega, by omega, ?_⟩
            show St 155 w a W [(15, .int .i64 ((1 + (k + 1) : Nat) : Int)), (14, .bool (grB v (k + 1))), (10, .pointer (some ⟨g8, 0, none⟩)), (2, .pointer (some ⟨g2, 0, none⟩))] [(g8, 73, nv 17 (dig v)), (g2, 73, nv 17 n0s), (g1, 74, nv 34 g)]
            rw [hgn]
            exact H.pick [0, 3, 18, 19] [0, 1, 2] rfl
        · obtain rfl : 15 = k := by omega
          refine wp_seq_k (fun K64 hK64 => ?_)
          refine wp_seq_k (fun K65 hK65 => ?_)
          refine rg_plain ?_
          refine pl_does (does_move rfl rfl) rfl rfl rfl rfl H ?_
          try clear H a W
          intro a W H
          refine pl_does (does_binOp rfl rfl rfl (i_lss_no (k := (1 + 15)) (m := 16) (by omega) _ _)) rfl rfl rfl rfl H ?_
          try clear H a W
          intro a W H
          refine pl_end ?_
          replace H : St 155 w a W [(119, .bool false), (15, .int .i64 ((1 + 15 : Nat) : Int)), (14, .bool (grB v 15)), (10, .pointer (some ⟨g8, 0, none⟩)), (2, .pointer (some ⟨g2, 0, none⟩))] [(g8, 73, nv 17 (dig v)), (g2, 73, nv 17 n0s), (g1, 74, nv 34 g)] := H.pick [0, 2, 3, 4, 5] [0, 1, 2] rfl
          refine hK65 _ _ ?_
          clear hK65
          refine wp_cond_false (H.ev rfl) ?_
          refine wp_exit ?_
          repeat (with_reducible refine then_exit ?_)
          refine blk_exit ?_
          obtain ⟨gr, hgr⟩ : ∃ b, grB v 15 = b := ⟨_, rfl⟩
          rw [hgr] at H
          refine hK53 _ _ ?_
          clear hK53
          refine wp_seq_k (fun K66 hK66 => ?_)
          refine wp_seq_k (fun K67 hK67 => ?_)
          refine rg_plain ?_
          refine pl_does (does_move rfl rfl) rfl rfl rfl rfl H ?_
          try clear H a W
          intro a W H
          refine pl_end ?_
          replace H : St 155 w a W [(134, .bool gr), (10, .pointer (some ⟨g8, 0, none⟩)), (2, .pointer (some ⟨g2, 0, none⟩))] [(g8, 73, nv 17 (dig v)), (g2, 73, nv 17 n0s), (g1, 74, nv 34 g)] := H.pick [0, 4, 5] [0, 1, 2] rfl
          refine hK67 _ _ ?_
          clear hK67
          cases gr with
          | true =>
            refine wp_cond_true (H.ev rfl) ?_
            refine wp_seq_k (fun K68 hK68 => ?_)
            refine rg_plain ?_
            refine pl_does (does_assign rfl rfl) rfl rfl rfl rfl H ?_
            try clear H a W
            intro a W H
            refine pl_end ?_
            replace H : St 155 w a W [(11, .int .u64 5), (10, .pointer (some ⟨g8, 0, none⟩)), (2, .pointer (some ⟨g2, 0, none⟩))] [(g8, 73, nv 17 (dig v)), (g2, 73, nv 17 n0s), (g1, 74, nv 34 g)] := H.pick [0, 2, 3] [0, 1, 2] rfl
            refine hK68 _ _ ?_
            clear hK68
            refine wp_seq_k (fun K69 hK69 => ?_)
            refine wp_seq_k (fun K70 hK70 => ?_)
            refine rg_plain ?_
            refine pl_does (does_assign rfl rfl) rfl rfl rfl rfl H ?_
            try clear H a W
            intro a W H
            refine pl_end ?_
            refine hK70 _ _ ?_
            clear hK70
            have hpm : PM ≤ v := (great_iff hv1).1 hgr
            have hl := last_dig hv1 hpm
            refine wp_block ?_
            replace H : St 155 w a W [(16, .int .i64 ((0 : Nat) : Int)), (11, uc (carC 5 (dig v) 0)), (10, .pointer (some ⟨g8, 0, none⟩)), (2, .pointer (some ⟨g2, 0, none⟩))] [(g8, 73, nv 17 (mapK (carF 5 (dig v)) (dig v) 0)), (g2, 73, nv 17 n0s), (g1, 74, nv 34 g)] := H.pick [0, 1, 2, 3] [0, 1, 2] rfl
            refine wp_rounds 17 (fun k a W => St 155 w a W [(16, .int .i64 ((k : Nat) : Int)), (11, uc (carC 5 (dig v) k)), (10, .pointer (some ⟨g8, 0, none⟩)), (2, .pointer (some ⟨g2, 0, none⟩))] [(g8, 73, nv 17 (mapK (carF 5 (dig v)) (dig v) k)), (g2, 73, nv 17 n0s), (g1, 74, nv 34 g)]) (k0 := 0) H (by omega) ?_
            try clear H a W
            intro k a W hk H
            by_cases hk2 : k < 17
            · have b1 := dig_lt v k
              have b2 := carC_le (c := 5) (b := 256) (f := dig v) (by omega) (fun i => Nat.le_of_lt (dig_lt v i)) k
              refine wp_seq_k (fun K71 hK71 => ?_)
              refine wp_seq_k (fun K72 hK72 => ?_)
              refine rg_plain ?_
              refine pl_does (does_move rfl rfl) rfl rfl rfl rfl H ?_
              try clear H a W
              intro a W H
              refine pl_does (does_binOp rfl rfl rfl (i_lss_yes (k := k) (m := 17) (by omega) _ _)) rfl rfl rfl rfl H ?_
              try clear H a W
              intro a W H
              refine pl_end ?_
              refine hK72 _ _ ?_
              clear hK72
              refine wp_cond_true (H.ev rfl) ?_
              refine wp_skip ?_
              refine hK71 _ _ ?_
              clear hK71
              refine wp_seq_k (fun K73 hK73 => ?_)
              refine wp_block ?_
              refine wp_seq_k (fun K74 hK74 => ?_)
              refine rg_plain ?_
              refine pl_does (does_move rfl rfl) rfl rfl rfl rfl H ?_
              try clear H a W
              intro a W H
              refine pl_does (does_indexAddr rfl rfl rfl (ia_num9 (j := k) (by omega))) rfl rfl rfl rfl H ?_
              try clear H a W
              intro a W H
              refine pl_does (does_loadAt (v := uc (dig v k)) rfl rfl (k := 0) rfl (ld_nv (by omega) (mapK_same _ _ _))) rfl rfl rfl rfl H ?_
              try clear H a W
              intro a W H
              refine pl_does (does_move rfl rfl) rfl rfl rfl rfl H ?_
              try clear H a W
              intro a W H
              refine pl_does (does_binOp rfl rfl rfl (u_add (x := (dig v k)) (y := (carC 5 (dig v) k)) (by omega) _ _)) rfl rfl rfl rfl H ?_
              try clear H a W
              intro a W H
              refine pl_does (does_assign rfl rfl) rfl rfl rfl rfl H ?_
              try clear H a W
              intro a W H
              refine pl_end ?_
              refine hK74 _ _ ?_
              clear hK74
              refine wp_seq_k (fun K75 hK75 => ?_)
              refine rg_plain ?_
              refine pl_does (does_move rfl rfl) rfl rfl rfl rfl H ?_
              try clear H a W
              intro a W H
              refine pl_does (does_move rfl rfl) rfl rfl rfl rfl H ?_
              try clear H a W
              intro a W H
              refine pl_does (does_binOp rfl rfl rfl (u_rem (x := ((dig v k) + (carC 5 (dig v) k))) (m := 256) (by omega) _ _)) rfl rfl rfl rfl H ?_
              try clear H a W
              intro a W H
              refine pl_does (does_indexAddr rfl rfl rfl (ia_num9 (j := k) (by omega))) rfl rfl rfl rfl H ?_
              try clear H a W
              intro a W H
              refine pl_storeAt rfl rfl rfl (k := 0) rfl (st_nv (by omega)) (sv_nv (carF_step 5 (dig v) _ k)) rfl rfl H ?_
              try clear H a W
              intro a W H
              refine pl_end ?_
              refine hK75 _ _ ?_
              clear hK75
              refine rg_plain ?_
              refine pl_does (does_move rfl rfl) rfl rfl rfl rfl H ?_
              try clear H a W
              intro a W H
              refine pl_does (does_binOp rfl rfl rfl (u_quo (x := ((dig v k) + (carC 5 (dig v) k))) (m := 256) (by omega) (by omega) _ _)) rfl rfl rfl rfl H ?_
              try clear H a W
              intro a W H
              replace H : St 155 w a W [(149, uc (((dig v k) + (carC 5 (dig v) k)) / 256)), (148, uc ((dig v k) + (carC 5 (dig v) k))), (147, .pointer (some ⟨g8, k, none⟩)), (146, uc (((dig v k) + (carC 5 (dig v) k)) % 256)), (145, uc ((dig v k) + (carC 5 (dig v) k))), (144, .int .i64 ((k : Nat) : Int)), (17, uc ((dig v k) + (carC 5 (dig v) k))), (143, uc ((dig v k) + (carC 5 (dig v) k))), (142, uc (carC 5 (dig v) k)), (141, uc (dig v k)), (140, .pointer (some ⟨g8, k, none⟩)), (139, .int .i64 ((k : Nat) : Int)), (136, .bool true), (135, .int .i64 ((k : Nat) : Int)), (16, .int .i64 ((k : Nat) : Int)), (10, .pointer (some ⟨g8, 0, none⟩)), (2, .pointer (some ⟨g2, 0, none⟩))] [(g8, 73, nv 17 (mapK (carF 5 (dig v)) (dig v) (k + 1))), (g2, 73, nv 17 n0s), (g1, 74, nv 34 g)] := H.pick [0, 1, 2, 3, 4, 5, 6, 7, 8, 9, 10, 11, 12, 13, 14, 16, 17] [0, 1, 2] rfl
              refine pl_does (does_assign rfl rfl) rfl rfl rfl rfl H ?_
              try clear H a W
              intro a W H
              refine pl_end ?_
              refine blk_normal ?_
              refine hK73 _ _ ?_
              clear hK73
              refine rg_plain ?_
              refine pl_does (does_move rfl rfl) rfl rfl rfl rfl H ?_
              try clear H a W
              intro a W H
              refine pl_does (does_binOp rfl rfl rfl (i_addE (k := k) (m := 1) rfl (by omega) _ _)) rfl rfl rfl rfl H ?_
              try clear H a W
              intro a W H
              replace H : St 155 w a W [(138, .int .i64 ((k + 1 : Nat) : Int)), (137, .int .i64 ((k : Nat) : Int)), (11, uc (((dig v k) + (carC 5 (dig v) k)) / 256)), (149, uc (((dig v k) + (carC 5 (dig v) k)) / 256)), (148, uc ((dig v k) + (carC 5 (dig v) k))), (147, .pointer (some ⟨g8, k, none⟩)), (146, uc (((dig v k) + (carC 5 (dig v) k)) % 256)), (145, uc ((dig v k) + (carC 5 (dig v) k))), (144, .int .i64 ((k : Nat) : Int)), (17, uc ((dig v k) + (carC 5 (dig v) k))), (143, uc ((dig v k) + (carC 5 (dig v) k))), (142, uc (carC 5 (dig v) k)), (141, uc (dig v k)), (140, .pointer (some ⟨g8, k, none⟩)), (139, .int .i64 ((k : Nat) : Int)), (136, .bool true), (135, .int .i64 ((k : Nat) : Int)), (10, .pointer (some ⟨g8, 0, none⟩)), (2, .pointer (some ⟨g2, 0, none⟩))] [(g8, 73, nv 17 (mapK (carF 5 (dig v)) (dig v) (k + 1))), (g2, 73, nv 17 n0s), (g1, 74, nv 34 g)] := H.pick [0, 1, 2, 3, 4, 5, 6, 7, 8, 9, 10, 11, 12, 13, 14, 15, 16, 18, 19] [0, 1, 2] rfl
              refine pl_does (does_assign rfl rfl) rfl rfl rfl rfl H ?_
              try clear H a W
              intro a W H
              refine pl_end ?_
              refine ⟨k + 1, by omega, by omega, ?_⟩
              show St 155 w a W [(16, .int .i64 ((k + 1 : Nat) : Int)), (11, uc (carC 5 (dig v) (k + 1))), (10, .pointer (some ⟨g8, 0, none⟩)), (2, .pointer (some ⟨g2, 0, none⟩))] [(g8, 73, nv 17 (mapK (carF 5 (dig v)) (dig v) (k + 1))), (g2, 73, nv 17 n0s), (g1, 74, nv 34 g)]
              exact H.pick [0, 3, 18, 19] [0, 1, 2] rfl
            · obtain rfl : 17 = k := by omega
              refine wp_seq_k (fun K76 hK76 => ?_)
              refine wp_seq_k (fun K77 hK77 => ?_)
              refine rg_plain ?_
              refine pl_does (does_move rfl rfl) rfl rfl rfl rfl H ?_
              try clear H a W
              intro a W H
              refine pl_does (does_binOp rfl rfl rfl (i_lss_no (k := 17) (m := 17) (by omega) _ _)) rfl rfl rfl rfl H ?_
              try clear H a W
              intro a W H
              refine pl_end ?_
              replace H : St 155 w a W [(136, .bool false), (16, .int .i64 ((17 : Nat) : Int)), (11, uc (carC 5 (dig v) 17)), (10, .pointer (some ⟨g8, 0, none⟩)), (2, .pointer (some ⟨g2, 0, none⟩))] [(g8, 73, nv 17 (mapK (carF 5 (dig v)) (dig v) 17)), (g2, 73, nv 17 n0s), (g1, 74, nv 34 g)] := H.pick [0, 2, 3, 4, 5] [0, 1, 2] rfl
              refine hK77 _ _ ?_
              clear hK77
              refine wp_cond_false (H.ev rfl) ?_
              refine wp_exit ?_
              repeat (with_reducible refine then_exit ?_)
              refine blk_exit ?_
              rw [carF_all 5 (dig v) (dig v) (Nat.le_refl 17), sum_v hv1] at H
              refine hK69 _ _ ?_
              clear hK69
              refine rg_plain ?_
              refine pl_does (does_indexAddr rfl rfl rfl (ia_num9 (j := 16) (by omega))) rfl rfl rfl rfl H ?_
              try clear H a W
              intro a W H
              refine pl_does (does_loadAt (v := uc 4) rfl rfl (k := 0) rfl (ld_nv (by omega) (hl.1))) rfl rfl rfl rfl H ?_
              try clear H a W
              intro a W H
              refine pl_does (does_binOp rfl rfl rfl (u_sub (x := 4) (y := 4) (by omega) (by omega) _ _)) rfl rfl rfl rfl H ?_
              try clear H a W
              intro a W H
              refine pl_does (does_indexAddr rfl rfl rfl (ia_num9 (j := 16) (by omega))) rfl rfl rfl rfl H ?_
              try clear H a W
              intro a W H
              refine pl_storeAt rfl rfl rfl (k := 0) rfl (st_nv (by omega)) (sv_nv rfl) rfl rfl H ?_
              try clear H a W
              intro a W H
              refine pl_end ?_
              replace H : St 155 w a W [(10, .pointer (some ⟨g8, 0, none⟩)), (2, .pointer (some ⟨g2, 0, none⟩))] [(g8, 73, nv 17 (updN (dig (v + 5)) 16 (4 - 4))), (g2, 73, nv 17 n0s), (g1, 74, nv 34 g)] := H.pick [7, 8] [0, 1, 2] rfl
              refine hK66 _ _ ?_
              clear hK66
              refine wp_seq_k (fun K78 hK78 => ?_)
              refine rg_plain ?_
              refine pl_does (does_load rfl rfl (k := 0) rfl Tryd.underlying73 rfl (info_num9 _)) rfl rfl rfl rfl H ?_
              try clear H a W
              intro a W H
              refine pl_store rfl rfl rfl (k := 1) rfl (info_num9 _) (size_nv _ _ _) (nv_one _ _) rfl rfl H ?_
              try clear H a W
              intro a W H
              refine pl_end ?_
              replace H : St 155 w a W [(2, .pointer (some ⟨g2, 0, none⟩))] [(g8, 73, nv 17 (updN (dig (v + 5)) 16 (4 - 4))), (g2, 73, nv 17 (updN (dig (v + 5)) 16 (4 - 4))), (g1, 74, nv 34 g)] := H.pick [2] [0, 1, 2] rfl
              refine hK78 _ _ ?_
              clear hK78
              refine wp_ret ?_
              repeat (first | (with_reducible refine then_ret ?_) | (with_reducible refine blk_ret ?_))
              refine end_cell (p := 2) rfl rfl (k := 1) rfl Tryd.underlying73 rfl (info_num9 _) H (fun hb => ?_)
              exact ⟨by rw [hl.2, mod_yes hv1 hpm hv2], hb⟩
          | false =>
            refine wp_cond_false (H.ev rfl) ?_
            refine wp_skip ?_
            refine hK66 _ _ ?_
            clear hK66
            refine wp_seq_k (fun K79 hK79 => ?_)
            refine rg_plain ?_
            refine pl_does (does_load rfl rfl (k := 0) rfl Tryd.underlying73 rfl (info_num9 _)) rfl rfl rfl rfl H ?_
            try clear H a W
            intro a W H
            refine pl_store rfl rfl rfl (k := 1) rfl (info_num9 _) (size_nv _ _ _) (nv_one _ _) rfl rfl H ?_
            try clear H a W
            intro a W H
            refine pl_end ?_
            replace H : St 155 w a W [(2, .pointer (some ⟨g2, 0, none⟩))] [(g8, 73, nv 17 (dig v)), (g2, 73, nv 17 (dig v)), (g1, 74, nv 34 g)] := H.pick [3] [0, 1, 2] rfl
            refine hK79 _ _ ?_
            clear hK79
            refine wp_ret ?_
            repeat (first | (with_reducible refine then_ret ?_) | (with_reducible refine blk_ret ?_))
            refine end_cell (p := 2) rfl rfl (k := 1) rfl Tryd.underlying73 rfl (info_num9 _) H (fun hb => ?_)
            exact ⟨by rw [← mod_no (fun h => absurd ((great_iff hv1).2 h) (by rw [hgr]; decide)) hv2], hb⟩
      clear hK52
      rcases three0 v with h0 | h0 | h0
      · have hg0 := g0_a h0
        refine rg_plain ?_
        refine pl_does (does_indexAddr rfl rfl rfl (ia_num9 (j := 16) (by omega))) rfl rfl rfl rfl H ?_
        try clear H a W
        intro a W H
        refine pl_does (does_loadAt (v := uc ((dig v) 16)) rfl rfl (k := 0) rfl (ld_nv (by omega) (rfl))) rfl rfl rfl rfl H ?_
        try clear H a W
        intro a W H
        refine pl_does (does_binOp rfl rfl rfl (u_eqlB (x := ((dig v) 16)) (m := 3) (decide_eq_false (by omega)) _ _)) rfl rfl rfl rfl H ?_
        try clear H a W
        intro a W H
        refine pl_does (does_move rfl rfl) rfl rfl rfl rfl H ?_
        try clear H a W
        intro a W H
        refine pl_skip (wanted_some rfl rfl rfl rfl rfl) rfl rfl rfl H ?_
        try clear H a W
        intro a W H
        refine pl_skip (wanted_some rfl rfl rfl rfl rfl) rfl rfl rfl H ?_
        try clear H a W
        intro a W H
        refine pl_skip (wanted_some rfl rfl rfl rfl rfl) rfl rfl rfl H ?_
        try clear H a W
        intro a W H
        refine pl_does (does_pick rfl rfl (fun hb => by cases hb) (fun _ => rfl)) rfl rfl rfl rfl H ?_
        try clear H a W
        intro a W H
        refine pl_does (does_move rfl rfl) rfl rfl rfl rfl H ?_
        try clear H a W
        intro a W H
        refine pl_does_g (does_indexAddr rfl rfl rfl (ia_num9 (j := 16) (by omega))) (wanted_some rfl rfl rfl rfl rfl) rfl rfl rfl H ?_
        try clear H a W
        intro a W H
        refine pl_does_g (does_loadAt (v := uc ((dig v) 16)) rfl rfl (k := 0) rfl (ld_nv (by omega) (rfl))) (wanted_some rfl rfl rfl rfl rfl) rfl rfl rfl H ?_
        try clear H a W
        intro a W H
        refine pl_does_g (does_binOp rfl rfl rfl (u_gtrB (x := ((dig v) 16)) (m := 3) (decide_eq_false (by omega)) _ _)) (wanted_some rfl rfl rfl rfl rfl) rfl rfl rfl H ?_
        try clear H a W
        intro a W H
        refine pl_does (does_pick rfl rfl (fun hb => by cases hb) (fun _ => rfl)) rfl rfl rfl rfl H ?_
        try clear H a W
        intro a W H
        refine pl_does (does_assign rfl rfl) rfl rfl rfl rfl H ?_
        try clear H a W
        intro a W H
        refine pl_end ?_
        replace H : St 155 w a W [(14, .bool false), (11, uc (carC 0 g 17)), (10, .pointer (some ⟨g8, 0, none⟩)), (2, .pointer (some ⟨g2, 0, none⟩))] [(g8, 73, nv 17 (dig v)), (g2, 73, nv 17 n0s), (g1, 74, nv 34 g)] := H.pick [0, 16, 17, 18] [0, 1, 2] rfl
        exact J52 _ _ (by rw [hg0]; exact H.pick [0, 2, 3] [0, 1, 2] rfl)
      · have hg0 := g0_b h0
        refine rg_plain ?_
        refine pl_does (does_indexAddr rfl rfl rfl (ia_num9 (j := 16) (by omega))) rfl rfl rfl rfl H ?_
        try clear H a W
        intro a W H
        refine pl_does (does_loadAt (v := uc ((dig v) 16)) rfl rfl (k := 0) rfl (ld_nv (by omega) (rfl))) rfl rfl rfl rfl H ?_
        try clear H a W
        intro a W H
        refine pl_does (does_binOp rfl rfl rfl (u_eqlB (x := ((dig v) 16)) (m := 3) (decide_eq_true (by omega)) _ _)) rfl rfl rfl rfl H ?_
        try clear H a W
        intro a W H
        refine pl_does (does_move rfl rfl) rfl rfl rfl rfl H ?_
        try clear H a W
        intro a W H
        refine pl_does_g (does_indexAddr rfl rfl rfl (ia_num9 (j := 0) (by omega))) (wanted_some rfl rfl rfl rfl rfl) rfl rfl rfl H ?_
        try clear H a W
        intro a W H
        refine pl_does_g (does_loadAt (v := uc ((dig v) 0)) rfl rfl (k := 0) rfl (ld_nv (by omega) (rfl))) (wanted_some rfl rfl rfl rfl rfl) rfl rfl rfl H ?_
        try clear H a W
        intro a W H
        refine pl_does_g (does_binOp rfl rfl rfl (u_geqB (x := ((dig v) 0)) (m := 251) (decide_eq_false (by omega)) _ _)) (wanted_some rfl rfl rfl rfl rfl) rfl rfl rfl H ?_
        try clear H a W
        intro a W H
        refine pl_does (does_pick rfl rfl (fun _ => rfl) (fun hb => by cases hb)) rfl rfl rfl rfl H ?_
        try clear H a W
        intro a W H
        refine pl_does (does_move rfl rfl) rfl rfl rfl rfl H ?_
        try clear H a W
        intro a W H
        refine pl_does_g (does_indexAddr rfl rfl rfl (ia_num9 (j := 16) (by omega))) (wanted_some rfl rfl rfl rfl rfl) rfl rfl rfl H ?_
        try clear H a W
        intro a W H
        refine pl_does_g (does_loadAt (v := uc ((dig v) 16)) rfl rfl (k := 0) rfl (ld_nv (by omega) (rfl))) (wanted_some rfl rfl rfl rfl rfl) rfl rfl rfl H ?_
        try clear H a W
        intro a W H
        refine pl_does_g (does_binOp rfl rfl rfl (u_gtrB (x := ((dig v) 16)) (m := 3) (decide_eq_false (by omega)) _ _)) (wanted_some rfl rfl rfl rfl rfl) rfl rfl rfl H ?_
        try clear H a W
        intro a W H
        refine pl_does (does_pick rfl rfl (fun hb => by cases hb) (fun _ => rfl)) rfl rfl rfl rfl H ?_
        try clear H a W
        intro a W H
        refine pl_does (does_assign rfl rfl) rfl rfl rfl rfl H ?_
        try clear H a W
        intro a W H
        refine pl_end ?_
        replace H : St 155 w a W [(14, .bool false), (11, uc (carC 0 g 17)), (10, .pointer (some ⟨g8, 0, none⟩)), (2, .pointer (some ⟨g2, 0, none⟩))] [(g8, 73, nv 17 (dig v)), (g2, 73, nv 17 n0s), (g1, 74, nv 34 g)] := H.pick [0, 16, 17, 18] [0, 1, 2] rfl
        exact J52 _ _ (by rw [hg0]; exact H.pick [0, 2, 3] [0, 1, 2] rfl)
      · have hg0 := g0_c h0
        refine rg_plain ?_
        refine pl_does (does_indexAddr rfl rfl rfl (ia_num9 (j := 16) (by omega))) rfl rfl rfl rfl H ?_
        try clear H a W
        intro a W H
        refine pl_does (does_loadAt (v := uc ((dig v) 16)) rfl rfl (k := 0) rfl (ld_nv (by omega) (rfl))) rfl rfl rfl rfl H ?_
        try clear H a W
        intro a W H
        refine pl_does (does_binOp rfl rfl rfl (u_eqlB (x := ((dig v) 16)) (m := 3) (decide_eq_true (by omega)) _ _)) rfl rfl rfl rfl H ?_
        try clear H a W
        intro a W H
        refine pl_does (does_move rfl rfl) rfl rfl rfl rfl H ?_
        try clear H a W
        intro a W H
        refine pl_does_g (does_indexAddr rfl rfl rfl (ia_num9 (j := 0) (by omega))) (wanted_some rfl rfl rfl rfl rfl) rfl rfl rfl H ?_
        try clear H a W
        intro a W H
        refine pl_does_g (does_loadAt (v := uc ((dig v) 0)) rfl rfl (k := 0) rfl (ld_nv (by omega) (rfl))) (wanted_some rfl rfl rfl rfl rfl) rfl rfl rfl H ?_
        try clear H a W
        intro a W H
        refine pl_does_g (does_binOp rfl rfl rfl (u_geqB (x := ((dig v) 0)) (m := 251) (decide_eq_true (by omega)) _ _)) (wanted_some rfl rfl rfl rfl rfl) rfl rfl rfl H ?_
        try clear H a W
        intro a W H
        refine pl_does (does_pick rfl rfl (fun _ => rfl) (fun hb => by cases hb)) rfl rfl rfl rfl H ?_
        try clear H a W
        intro a W H
        refine pl_does (does_move rfl rfl) rfl rfl rfl rfl H ?_
        try clear H a W
        intro a W H
        refine pl_skip (wanted_some rfl rfl rfl rfl rfl) rfl rfl rfl H ?_
        try clear H a W
        intro a W H
        refine pl_skip (wanted_some rfl rfl rfl rfl rfl) rfl rfl rfl H ?_
        try clear H a W
        intro a W H
        refine pl_skip (wanted_some rfl rfl rfl rfl rfl) rfl rfl rfl H ?_
        try clear H a W
        intro a W H
        refine pl_does (does_pick rfl rfl (fun _ => rfl) (fun hb => by cases hb)) rfl rfl rfl rfl H ?_
        try clear H a W
        intro a W H
        refine pl_does (does_assign rfl rfl) rfl rfl rfl rfl H ?_
        try clear H a W
        intro a W H
        refine pl_end ?_
        replace H : St 155 w a W [(14, .bool true), (11, uc (carC 0 g 17)), (10, .pointer (some ⟨g8, 0, none⟩)), (2, .pointer (some ⟨g2, 0, none⟩))] [(g8, 73, nv 17 (dig v)), (g2, 73, nv 17 n0s), (g1, 74, nv 34 g)] := H.pick [0, 16, 17, 18] [0, 1, 2] rfl
        exact J52 _ _ (by rw [hg0]; exact H.pick [0, 2, 3] [0, 1, 2] rfl)
end Go.Proofs.YtghbknebaknmjaaDoor
