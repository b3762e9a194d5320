/- Package poly's Tag, walked: the mark of all parts. -/
import Derived.Test.YtghbknebaknmjaaDoorQi
import Derived.Test.YtghbknebaknmjaaDoorQe
namespace Go.Proofs.YtghbknebaknmjaaDoor
set_option linter.unusedVariables false
set_option linter.unusedSimpArgs false
set_option maxRecDepth 100000
open Go Go.RowKit

/-! Purely. -/
/-- The program's number behind j pieces: not always below 2^130 - 5. -/
def pa (kk bb : Nat → UInt8) (n : Nat) : Nat → Nat
  | 0 => 0
  | j + 1 => fold5 ((pa kk bb n j + sumD (cD bb j (min 16 (n - 16 * j))) 17) * sumD (rD kk) 16)
theorem pa_mod (kk bb : Nat → UInt8) (n : Nat) : ∀ j, pa kk bb n j % PM = acc kk bb n j
  | 0 => by
    show 0 % PM = 0
    rw [Nat.zero_mod]
  | j + 1 => by
    show fold5 ((pa kk bb n j + _) * _) % PM = ((acc kk bb n j + _) * _) % PM
    rw [fold5_mod, Nat.mul_mod, Nat.add_mod, pa_mod kk bb n j, ← Nat.mod_eq_of_lt (acc_lt kk bb n j), ← Nat.add_mod, ← Nat.mul_mod, Nat.mod_eq_of_lt (acc_lt kk bb n j)]
def TOP : Nat := 1361129467683753853853498429727072845824 + 340282366920938463463374607431768211456
theorem r_lt (kk : Nat → UInt8) : sumD (rD kk) 16 < 21267647932558653966460912964485513216 := by
  have h := sumD_lt (f := rD kk) (k := 15) (fun i _ => rD_lt kk i)
  have h2 : rD kk 15 ≤ 15 := by
    rw [rD_a (by decide)]
    have := (kk 15).toNat_lt
    omega
  have h3 := Nat.mul_le_mul_right (256 ^ 15) h2
  rw [sumD_succ]
  have e : (256 : Nat) ^ 15 = 1329227995784915872903807060280344576 := by decide +kernel
  rw [e] at h h3 ⊢
  omega
theorem piece_lt (bb : Nat → UInt8) (j : Nat) {R : Nat} (hR : R ≤ 16) : sumD (cD bb j R) 17 < 680564733841876926926749214863536422912 := by
  have h := sumD_lt (f := cD bb j R) (k := 16) (fun i _ => by have := cD_le bb j R i; omega)
  have h2 : cD bb j R 16 ≤ 1 := by
    unfold cD
    rw [if_neg (by omega)]
    split <;> omega
  have h3 := Nat.mul_le_mul_right (256 ^ 16) h2
  rw [sumD_succ]
  rw [p16] at h h3 ⊢
  omega
theorem fold_top {x r : Nat} (hx : x < 2722258935367507707706996859454145691648) (hr : r < 21267647932558653966460912964485513216) : fold5 (x * r) < TOP ∧ upQ (x * r) < 6277101735386680763835789423207666416102355444464034512896 := by
  have h : x * r ≤ 2722258935367507707706996859454145691648 * 21267647932558653966460912964485513216 := Nat.mul_le_mul (by omega) (by omega)
  unfold fold5 upQ TOP
  generalize x * r = V at h
  omega
theorem pa_lt (kk bb : Nat → UInt8) (n : Nat) : ∀ j, pa kk bb n j < TOP
  | 0 => by show 0 < TOP; decide
  | j + 1 => (fold_top (by have h1 := pa_lt kk bb n j; have h2 := piece_lt bb j (R := min 16 (n - 16 * j)) (by omega); unfold TOP at h1; omega) (r_lt kk)).1
theorem pa_big (kk bb : Nat → UInt8) (n j R : Nat) (hR : R ≤ 16) : pa kk bb n j + sumD (cD bb j R) 17 < 2722258935367507707706996859454145691648 := by
  have h1 := pa_lt kk bb n j
  have h2 := piece_lt bb j hR
  unfold TOP at h1
  omega
theorem top_two : TOP < PM + PM := by decide +kernel
/-- A piece's bytes. -/
def bD (bb : Nat → UInt8) (j i : Nat) : Nat := (bb (16 * j + i)).toNat
theorem bD_lt (bb : Nat → UInt8) (j i : Nat) : bD bb j i < 256 := (bb (16 * j + i)).toNat_lt
theorem piece_sum (bb : Nat → UInt8) (j : Nat) {R : Nat} (hR : R ≤ 16) : putN (sumD (bD bb j) R) R 1 = sumD (cD bb j R) 17 := by
  have e : cD bb j R R = 1 := by
    unfold cD
    rw [if_neg (by omega), if_pos rfl]
  rw [sumD_zero (f := cD bb j R) (n := R + 1) (k := 17) (by omega) (fun i h1 h2 => by unfold cD; rw [if_neg (by omega), if_neg (by omega)]), sumD_succ, e, sumD_ext (f := cD bb j R) (g := bD bb j) (k := R) (fun i hi => if_pos hi)]
  rfl
theorem pa_step (kk bb : Nat → UInt8) (n j R : Nat) (hR : R = min 16 (n - 16 * j)) : fold5 ((pa kk bb n j + putN (sumD (bD bb j) R) R 1) * sumD (rD kk) 16) = pa kk bb n (j + 1) := by
  rw [piece_sum bb j (by omega), hR]
  rfl
/-- Where a part begins. -/
def pos (L : List (List UInt8)) (k : Nat) : Nat := ((L.take k).flatten).length
theorem pos_0 (L : List (List UInt8)) : pos L 0 = 0 := rfl
theorem pos_succ {L : List (List UInt8)} {k : Nat} {l : List UInt8} (h : L[k]? = some l) : pos L (k + 1) = pos L k + l.length := by
  unfold pos
  rw [List.take_add_one, h]
  simp
theorem pos_all (L : List (List UInt8)) : pos L L.length = L.flatten.length := by
  unfold pos
  rw [List.take_length]
theorem pos_byte {L : List (List UInt8)} {k i : Nat} {l : List UInt8} {x : UInt8} (h : L[k]? = some l) (hx : l[i]? = some x) : L.flatten.getD (pos L k + i) 0 = x := by
  have e : L.flatten = (L.take k).flatten ++ (l ++ (L.drop (k + 1)).flatten) := by
    have hk : k < L.length := (List.getElem?_eq_some_iff.1 h).1
    have hl : L[k] = l := by
      rw [List.getElem?_eq_getElem hk] at h
      exact Option.some.inj h
    conv => lhs; rw [← List.take_append_drop k L, List.drop_eq_getElem_cons hk, List.flatten_append, List.flatten_cons, hl]
  have hi : i < l.length := (List.getElem?_eq_some_iff.1 hx).1
  rw [e, List.getD_eq_getElem?_getD, List.getElem?_append_right (by unfold pos; omega)]
  unfold pos
  rw [Nat.add_sub_cancel_left, List.getElem?_append_left hi, hx]
  rfl
theorem pos_le {L : List (List UInt8)} {k : Nat} {l : List UInt8} (h : L[k]? = some l) : pos L k + l.length ≤ L.flatten.length := by
  have hk : k < L.length := (List.getElem?_eq_some_iff.1 h).1
  rw [← pos_succ h, ← pos_all L]
  unfold pos
  have e : L.take L.length = L.take (k + 1) ++ (L.drop (k + 1)) := by rw [List.take_length, List.take_append_drop]
  rw [e, List.flatten_append, List.length_append]
  omega
theorem mark_out (kk : Nat → UInt8) (A : Nat) : bvs (rb 16 (bN (A + sumD (sD kk) 16))) = bvs (rb 16 (markF kk A)) := by
  unfold bN markF
  rfl
theorem bD_0 (bb : Nat → UInt8) (j : Nat) : nv 3 n0s = nv 3 (wdg (sumD (bD bb j) 0)) := by
  rw [nv_zero]
  rfl
theorem pa_0 (kk bb : Nat → UInt8) (n : Nat) : nv 3 n0s = nv 3 (wdg (pa kk bb n 0)) := by
  rw [nv_zero]
  rfl
theorem bD_put (bb : Nat → UInt8) {j f m : Nat} (h : 16 * j + f = m) : putN (sumD (bD bb j) f) f (bb m).toNat = sumD (bD bb j) (f + 1) := by
  subst h
  rfl
attribute [local irreducible] nv bvs rb bv wdg sumD rD sD fold5 PM putN bN pa bD acc TOP pos
theorem times_z {kk bb : Nat → UInt8} {n j R : Nat} (hR : R ≤ 16) (hn : R = min 16 (n - 16 * j)) (w : World) (hpg : PG w) : Calls Tryd.prog 34 #[.agg (nv 3 (wdg (pa kk bb n j + putN (sumD (bD bb j) R) R 1))), .agg (nv 3 (wdg (sumD (rD kk) 16)))] w (fun rr w' => rr = .returned (.agg (nv 3 (wdg (pa kk bb n (j + 1))))) ∧ Below w.heap.size w w') := by
  have hb := pa_big kk bb n j R hR
  rw [← piece_sum bb j hR] at hb
  have hr := r_lt kk
  rw [← pa_step kk bb n j R hn]
  exact times_any (by omega) (by omega) (fold_top hb hr).2 w hpg
theorem least_z (kk bb : Nat → UInt8) (n j : Nat) (w : World) (hpg : PG w) : Calls Tryd.prog 35 #[.agg (nv 3 (wdg (pa kk bb n j)))] w (fun rr w' => rr = .returned (.agg (nv 3 (wdg (acc kk bb n j)))) ∧ Below w.heap.size w w') := by
  rw [← pa_mod]
  exact least_any (Nat.lt_trans (pa_lt kk bb n j) top_two) w hpg
theorem bytes_z (kk : Nat → UInt8) (A : Nat) (w : World) : Calls Tryd.prog 37 #[.agg (nv 3 (wdg (A + sumD (sD kk) 16)))] w (fun rr w' => rr = .returned (.agg (bvs (rb 16 (markF kk A)))) ∧ Below w.heap.size w w') := by
  rw [← mark_out]
  exact bytes_any _ w
set_option maxHeartbeats 4000000 in
theorem tag_any {v : Value} {L : List (List UInt8)} (kk : Nat → UInt8) (w : World) (hpg : PG w) (hv : RF L v w) (h1 : L.flatten.length ≤ 100000) (h2 : L.length ≤ 1000) : Calls Tryd.prog 23 #[.agg (bvs (rb 32 kk)), v] w (fun rr w' => rr = .returned (.agg (bvs (rb 16 (tagF kk L.flatten)))) ∧ Below w.heap.size w w') := by
  obtain ⟨A, nn, cap, rfl, hrs⟩ := hv
  have hnn := hrs.len
  unfold tagF
  obtain ⟨n, hLn⟩ : ∃ n, L.flatten.length = n := ⟨_, rfl⟩
  rw [hLn] at h1 ⊢
  obtain ⟨bb, hbb⟩ : ∃ f : Nat → UInt8, f = fun i => L.flatten.getD i 0 := ⟨_, rfl⟩
  rw [← hbb]
  refine calls_st (vs := [.agg (bvs (rb 32 kk)), .slice A nn cap]) 60 Tryd.func23 rfl Tryd.ntmps23 rfl (fun a W H => ?_)
  replace H : St 60 w a W [(0, .agg (bvs (rb 32 kk))), (1, .slice A nn cap)] [] := H
  refine wp_seq_k (fun K1 hK1 => ?_)
  refine rg_plain ?_
  refine pl_box rfl rfl (bx_key kk) rfl rfl rfl rfl H ?_
  try clear H a W
  intro g1 a W H
  refine pl_new (news_of rfl al_mark) rfl rfl rfl rfl H ?_
  try clear H a W
  intro g2 a W H
  refine pl_end ?_
  replace H : St 60 w a W [(4, .pointer (some ⟨g2, 0, none⟩)), (2, .pointer (some ⟨g1, 0, none⟩)), (1, .slice A nn cap)] [(g2, 42, bvs (rb 16 b0s)), (g1, 23, bvs (rb 32 kk))] := H.pick [0, 1, 3] [0, 1] rfl
  refine hK1 _ _ ?_
  clear hK1
  refine wp_seq_k (fun K2 hK2 => ?_)
  refine rg_plain ?_
  refine pl_does (does_load rfl rfl (k := 1) rfl Tryd.underlying23 rfl (info_key _)) rfl rfl rfl rfl H ?_
  try clear H a W
  intro a W H
  refine pl_does (does_call rfl ⟨_, Tryd.func31, by kernel_rfl⟩ rfl (fun W hb => secrets_any kk W)) rfl rfl rfl rfl H ?_
  try clear H a W
  intro a W H
  refine pl_does (does_move rfl rfl) rfl rfl rfl rfl H ?_
  try clear H a W
  intro a W H
  refine pl_does (does_extract rfl rfl (fun _ => rfl)) rfl rfl rfl rfl H ?_
  try clear H a W
  intro a W H
  refine pl_does (does_extract rfl rfl (fun _ => rfl)) rfl rfl rfl rfl H ?_
  try clear H a W
  intro a W H
  refine pl_new (news_of rfl al_n3) rfl rfl rfl rfl H ?_
  try clear H a W
  intro g3 a W H
  refine pl_new (news_of rfl al_n3) rfl rfl rfl rfl H ?_
  try clear H a W
  intro g4 a W H
  refine pl_store rfl rfl rfl (k := 1) rfl (info_n3 _) (size_nv _ _ _) (nv_one _ _) rfl rfl H ?_
  try clear H a W
  intro a W H
  refine pl_store rfl rfl rfl (k := 0) rfl (info_n3 _) (size_nv _ _ _) (nv_one _ _) rfl rfl H ?_
  try clear H a W
  intro a W H
  refine pl_end ?_
  replace H : St 60 w a W [(6, .pointer (some ⟨g4, 0, none⟩)), (5, .pointer (some ⟨g3, 0, none⟩)), (4, .pointer (some ⟨g2, 0, none⟩)), (1, .slice A nn cap)] [(g4, 62, nv 3 (wdg (sumD (sD kk) 16))), (g3, 62, nv 3 (wdg (sumD (rD kk) 16))), (g2, 42, bvs (rb 16 b0s)), (g1, 23, bvs (rb 32 kk))] := H.pick [0, 1, 7, 9] [0, 1, 2, 3] rfl
  refine hK2 _ _ ?_
  clear hK2
  refine wp_seq_k (fun K3 hK3 => ?_)
  refine rg_plain ?_
  refine pl_new (news_of rfl al_n3) rfl rfl rfl rfl H ?_
  try clear H a W
  intro g5 a W H
  refine pl_new (news_of rfl al_n3) rfl rfl rfl rfl H ?_
  try clear H a W
  intro g6 a W H
  refine pl_end ?_
  refine hK3 _ _ ?_
  clear hK3
  refine wp_seq_k (fun K4 hK4 => ?_)
  refine rg_plain ?_
  refine pl_does (does_assign rfl rfl) rfl rfl rfl rfl H ?_
  try clear H a W
  intro a W H
  refine pl_end ?_
  refine hK4 _ _ ?_
  clear hK4
  refine wp_seq_k (fun K5 hK5 => ?_)
  refine wp_seq_k (fun K6 hK6 => ?_)
  refine rg_plain ?_
  refine pl_does (does_move rfl rfl) rfl rfl rfl rfl H ?_
  try clear H a W
  intro a W H
  refine pl_does (does_len Tryd.underlying51 rfl rfl) rfl rfl rfl rfl H ?_
  try clear H a W
  intro a W H
  refine pl_does (does_move rfl rfl) rfl rfl rfl rfl H ?_
  try clear H a W
  intro a W H
  refine pl_end ?_
  replace H : St 60 w a W [(21, .int .i64 0), (20, .int .i64 ((nn : Nat) : Int)), (19, .slice A nn cap), (9, .int .i64 0), (8, .pointer (some ⟨g6, 0, none⟩)), (7, .pointer (some ⟨g5, 0, none⟩)), (6, .pointer (some ⟨g4, 0, none⟩)), (5, .pointer (some ⟨g3, 0, none⟩)), (4, .pointer (some ⟨g2, 0, none⟩))] [(g6, 62, nv 3 n0s), (g5, 62, nv 3 n0s), (g4, 62, nv 3 (wdg (sumD (sD kk) 16))), (g3, 62, nv 3 (wdg (sumD (rD kk) 16))), (g2, 42, bvs (rb 16 b0s)), (g1, 23, bvs (rb 32 kk))] := H.pick [0, 1, 2, 3, 4, 5, 6, 7, 8] [0, 1, 2, 3, 4, 5] rfl
  refine hK6 _ _ ?_
  clear hK6
  have e7 := pa_0 kk bb n
  have e8 := bD_0 bb 0
  replace H : St 60 w a W [(21, .int .i64 0), (20, .int .i64 ((nn : Nat) : Int)), (19, .slice A nn cap), (9, .int .i64 ((pos L 0 % 16 : Nat) : Int)), (8, .pointer (some ⟨g6, 0, none⟩)), (7, .pointer (some ⟨g5, 0, none⟩)), (6, .pointer (some ⟨g4, 0, none⟩)), (5, .pointer (some ⟨g3, 0, none⟩)), (4, .pointer (some ⟨g2, 0, none⟩))] [(g6, 62, nv 3 (wdg (sumD (bD bb (pos L 0 / 16)) (pos L 0 % 16)))), (g5, 62, nv 3 (wdg (pa kk bb n (pos L 0 / 16)))), (g4, 62, nv 3 (wdg (sumD (sD kk) 16))), (g3, 62, nv 3 (wdg (sumD (rD kk) 16))), (g2, 42, bvs (rb 16 b0s)), (g1, 23, bvs (rb 32 kk))] := by rw [pos_0, show 0 / 16 = 0 from rfl, show 0 % 16 = 0 from rfl, ← pa_0, ← bD_0]; exact H
  refine wp_block ?_
  replace H : St 60 w a W [(21, .int .i64 ((0 : Nat) : Int)), (20, .int .i64 ((nn : Nat) : Int)), (19, .slice A nn cap), (9, .int .i64 ((pos L 0 % 16 : Nat) : Int)), (8, .pointer (some ⟨g6, 0, none⟩)), (7, .pointer (some ⟨g5, 0, none⟩)), (6, .pointer (some ⟨g4, 0, none⟩)), (5, .pointer (some ⟨g3, 0, none⟩)), (4, .pointer (some ⟨g2, 0, none⟩))] [(g6, 62, nv 3 (wdg (sumD (bD bb (pos L 0 / 16)) (pos L 0 % 16)))), (g5, 62, nv 3 (wdg (pa kk bb n (pos L 0 / 16)))), (g4, 62, nv 3 (wdg (sumD (sD kk) 16))), (g3, 62, nv 3 (wdg (sumD (rD kk) 16))), (g2, 42, bvs (rb 16 b0s)), (g1, 23, bvs (rb 32 kk))] := H.pick [0, 1, 2, 3, 4, 5, 6, 7, 8] [0, 1, 2, 3, 4, 5] rfl
  refine wp_rounds nn (fun k a W => St 60 w a W [(21, .int .i64 ((k : Nat) : Int)), (20, .int .i64 ((nn : Nat) : Int)), (19, .slice A nn cap), (9, .int .i64 ((pos L k % 16 : Nat) : Int)), (8, .pointer (some ⟨g6, 0, none⟩)), (7, .pointer (some ⟨g5, 0, none⟩)), (6, .pointer (some ⟨g4, 0, none⟩)), (5, .pointer (some ⟨g3, 0, none⟩)), (4, .pointer (some ⟨g2, 0, none⟩))] [(g6, 62, nv 3 (wdg (sumD (bD bb (pos L k / 16)) (pos L k % 16)))), (g5, 62, nv 3 (wdg (pa kk bb n (pos L k / 16)))), (g4, 62, nv 3 (wdg (sumD (sD kk) 16))), (g3, 62, nv 3 (wdg (sumD (rD kk) 16))), (g2, 42, bvs (rb 16 b0s)), (g1, 23, bvs (rb 32 kk))]) (k0 := 0) H (by omega) ?_
  try clear H a W
  intro k a W hk H
  by_cases hk2 : k < nn
  · obtain ⟨gp, op, lp, Ab, lb, cb, rfl, hgp, hLk, hpart, hbp⟩ := hrs.at' (k := k) hk2
    have hlb := hbp.len
    have hple := pos_le hLk
    rw [hlb, hLn] at hple
    obtain ⟨q, hq⟩ : ∃ q, pos L k = q := ⟨_, rfl⟩
    rw [hq] at H hple
    refine wp_seq_k (fun K7 hK7 => ?_)
    refine rg_plain ?_
    refine pl_does (does_binOp rfl rfl rfl (i_lss_yes (k := k) (m := nn) (by omega) _ _)) rfl rfl rfl rfl H ?_
    try clear H a W
    intro a W H
    refine pl_end ?_
    refine hK7 _ _ ?_
    clear hK7
    refine wp_seq_k (fun K8 hK8 => ?_)
    refine wp_cond_true (H.ev rfl) ?_
    refine wp_skip ?_
    refine hK8 _ _ ?_
    clear hK8
    refine wp_seq_k (fun K9 hK9 => ?_)
    refine wp_block ?_
    refine wp_seq_k (fun K10 hK10 => ?_)
    refine rg_plain ?_
    refine pl_does (does_indexAddr rfl rfl rfl (ia_rows (j := k) hk2)) rfl rfl rfl rfl H ?_
    try clear H a W
    intro a W H
    refine pl_does (does_loadCell rfl rfl hpart hgp ld_cellS) rfl rfl rfl rfl H ?_
    try clear H a W
    intro a W H
    refine pl_does (does_assign rfl rfl) rfl rfl rfl rfl H ?_
    try clear H a W
    intro a W H
    refine pl_end ?_
    refine hK10 _ _ ?_
    clear hK10
    refine wp_seq_k (fun K11 hK11 => ?_)
    refine rg_plain ?_
    refine pl_does (does_move rfl rfl) rfl rfl rfl rfl H ?_
    try clear H a W
    intro a W H
    refine pl_does (does_len Tryd.underlying25 rfl rfl) rfl rfl rfl rfl H ?_
    try clear H a W
    intro a W H
    refine pl_does (does_move rfl rfl) rfl rfl rfl rfl H ?_
    try clear H a W
    intro a W H
    refine pl_end ?_
    refine hK11 _ _ ?_
    clear hK11
    refine wp_block ?_
    replace H : St 60 w a W [(27, .int .i64 ((0 : Nat) : Int)), (26, .int .i64 ((lb : Nat) : Int)), (25, .slice Ab lb cb), (21, .int .i64 ((k : Nat) : Int)), (20, .int .i64 ((nn : Nat) : Int)), (19, .slice (some ⟨gp, op, none⟩) nn cap), (9, .int .i64 (((q + 0) % 16 : Nat) : Int)), (8, .pointer (some ⟨g6, 0, none⟩)), (7, .pointer (some ⟨g5, 0, none⟩)), (6, .pointer (some ⟨g4, 0, none⟩)), (5, .pointer (some ⟨g3, 0, none⟩)), (4, .pointer (some ⟨g2, 0, none⟩))] [(g6, 62, nv 3 (wdg (sumD (bD bb ((q + 0) / 16)) ((q + 0) % 16)))), (g5, 62, nv 3 (wdg (pa kk bb n ((q + 0) / 16)))), (g4, 62, nv 3 (wdg (sumD (sD kk) 16))), (g3, 62, nv 3 (wdg (sumD (rD kk) 16))), (g2, 42, bvs (rb 16 b0s)), (g1, 23, bvs (rb 32 kk))] := H.pick [0, 1, 2, 7, 8, 9, 10, 11, 12, 13, 14, 15] [0, 1, 2, 3, 4, 5] rfl
    refine wp_rounds lb (fun i a W => St 60 w a W [(27, .int .i64 ((i : Nat) : Int)), (26, .int .i64 ((lb : Nat) : Int)), (25, .slice Ab lb cb), (21, .int .i64 ((k : Nat) : Int)), (20, .int .i64 ((nn : Nat) : Int)), (19, .slice (some ⟨gp, op, none⟩) nn cap), (9, .int .i64 (((q + i) % 16 : Nat) : Int)), (8, .pointer (some ⟨g6, 0, none⟩)), (7, .pointer (some ⟨g5, 0, none⟩)), (6, .pointer (some ⟨g4, 0, none⟩)), (5, .pointer (some ⟨g3, 0, none⟩)), (4, .pointer (some ⟨g2, 0, none⟩))] [(g6, 62, nv 3 (wdg (sumD (bD bb ((q + i) / 16)) ((q + i) % 16)))), (g5, 62, nv 3 (wdg (pa kk bb n ((q + i) / 16)))), (g4, 62, nv 3 (wdg (sumD (sD kk) 16))), (g3, 62, nv 3 (wdg (sumD (rD kk) 16))), (g2, 42, bvs (rb 16 b0s)), (g1, 23, bvs (rb 32 kk))]) (k0 := 0) H (by omega) ?_
    try clear H a W
    intro i a W hi H
    by_cases hi2 : i < lb
    · obtain ⟨gb, ob, xb, rfl, hgb, hx, hbyte⟩ := hbp.at' (k := i) hi2
      have hxb := pos_byte hLk hx
      rw [hq] at hxb
      obtain rfl : xb = bb (q + i) := by rw [hbb]; exact hxb.symm
      rw [← bv_def] at hbyte
      obtain ⟨j, hj⟩ : ∃ j, (q + i) / 16 = j := ⟨_, rfl⟩
      obtain ⟨f, hf⟩ : ∃ f, (q + i) % 16 = f := ⟨_, rfl⟩
      have hm : 16 * j + f = q + i := by omega
      rw [hj, hf] at H
      by_cases h15 : f = 15
      · have hn16 : f + 1 = min 16 (n - 16 * j) := by omega
        refine wp_seq_k (fun K12 hK12 => ?_)
        refine rg_plain ?_
        refine pl_does (does_binOp rfl rfl rfl (i_lss_yes (k := i) (m := lb) (by omega) _ _)) rfl rfl rfl rfl H ?_
        try clear H a W
        intro a W H
        refine pl_end ?_
        refine hK12 _ _ ?_
        clear hK12
        refine wp_seq_k (fun K13 hK13 => ?_)
        refine wp_cond_true (H.ev rfl) ?_
        refine wp_skip ?_
        refine hK13 _ _ ?_
        clear hK13
        refine wp_seq_k (fun K14 hK14 => ?_)
        refine wp_block ?_
        refine wp_seq_k (fun K15 hK15 => ?_)
        refine rg_plain ?_
        refine pl_does (does_indexAddr rfl rfl rfl (ia_bytes (j := i) hi2)) rfl rfl rfl rfl H ?_
        try clear H a W
        intro a W H
        refine pl_does (does_loadCell (v := bv (bb (q + i))) rfl rfl hbyte hgb ld_cellB) rfl rfl rfl rfl H ?_
        try clear H a W
        intro a W H
        refine pl_does (does_assign rfl rfl) rfl rfl rfl rfl H ?_
        try clear H a W
        intro a W H
        refine pl_end ?_
        refine hK15 _ _ ?_
        clear hK15
        refine wp_seq_k (fun K16 hK16 => ?_)
        refine rg_plain ?_
        refine pl_does (does_move rfl rfl) rfl rfl rfl rfl H ?_
        try clear H a W
        intro a W H
        refine pl_does (does_move rfl rfl) rfl rfl rfl rfl H ?_
        try clear H a W
        intro a W H
        refine pl_callK (f := 32) (caps := #[]) (vs' := [.pointer (some ⟨g6, 0, none⟩), .int .i64 ((f : Nat) : Int), bv (bb (q + i))]) rfl ⟨_, Tryd.func32, by kernel_rfl⟩ rfl rfl rfl (fun K_ => put_mid (N := (sumD (bD bb j) f)) (r := []) (t := [(g5, 62, nv 3 (wdg (pa kk bb n j))), (g4, 62, nv 3 (wdg (sumD (sD kk) 16))), (g3, 62, nv 3 (wdg (sumD (rD kk) 16))), (g2, 42, bvs (rb 16 b0s)), (g1, 23, bvs (rb 32 kk))]) (sumD_lt fun i _ => bD_lt bb _ i) (by omega) (bD_put bb hm) K_) rfl rfl rfl rfl H ?_
        try clear H a W
        intro a W H
        replace H : St 60 w a W [(33, .tuple #[]), (32, bv (bb (q + i))), (31, .int .i64 ((f : Nat) : Int)), (13, bv (bb (q + i))), (30, bv (bb (q + i))), (29, .pointer (some ⟨gb, ob + i, none⟩)), (28, .bool true), (27, .int .i64 ((i : Nat) : Int)), (26, .int .i64 ((lb : Nat) : Int)), (25, .slice (some ⟨gb, ob, none⟩) lb cb), (21, .int .i64 ((k : Nat) : Int)), (20, .int .i64 ((nn : Nat) : Int)), (19, .slice (some ⟨gp, op, none⟩) nn cap), (9, .int .i64 ((f : Nat) : Int)), (8, .pointer (some ⟨g6, 0, none⟩)), (7, .pointer (some ⟨g5, 0, none⟩)), (6, .pointer (some ⟨g4, 0, none⟩)), (5, .pointer (some ⟨g3, 0, none⟩)), (4, .pointer (some ⟨g2, 0, none⟩))] [(g6, 62, nv 3 (wdg (sumD (bD bb j) (f + 1)))), (g5, 62, nv 3 (wdg (pa kk bb n j))), (g4, 62, nv 3 (wdg (sumD (sD kk) 16))), (g3, 62, nv 3 (wdg (sumD (rD kk) 16))), (g2, 42, bvs (rb 16 b0s)), (g1, 23, bvs (rb 32 kk))] := H
        refine pl_end ?_
        replace H : St 60 w a W [(32, bv (bb (q + i))), (31, .int .i64 ((f : Nat) : Int)), (13, bv (bb (q + i))), (30, bv (bb (q + i))), (29, .pointer (some ⟨gb, ob + i, none⟩)), (28, .bool true), (27, .int .i64 ((i : Nat) : Int)), (26, .int .i64 ((lb : Nat) : Int)), (25, .slice (some ⟨gb, ob, none⟩) lb cb), (21, .int .i64 ((k : Nat) : Int)), (20, .int .i64 ((nn : Nat) : Int)), (19, .slice (some ⟨gp, op, none⟩) nn cap), (9, .int .i64 ((f : Nat) : Int)), (8, .pointer (some ⟨g6, 0, none⟩)), (7, .pointer (some ⟨g5, 0, none⟩)), (6, .pointer (some ⟨g4, 0, none⟩)), (5, .pointer (some ⟨g3, 0, none⟩)), (4, .pointer (some ⟨g2, 0, none⟩))] [(g6, 62, nv 3 (wdg (sumD (bD bb j) (f + 1)))), (g5, 62, nv 3 (wdg (pa kk bb n j))), (g4, 62, nv 3 (wdg (sumD (sD kk) 16))), (g3, 62, nv 3 (wdg (sumD (rD kk) 16))), (g2, 42, bvs (rb 16 b0s)), (g1, 23, bvs (rb 32 kk))] := H.pick [1, 2, 3, 4, 5, 6, 7, 8, 9, 10, 11, 12, 13, 14, 15, 16, 17, 18] [0, 1, 2, 3, 4, 5] rfl
        refine hK16 _ _ ?_
        clear hK16
        refine wp_seq_k (fun K17 hK17 => ?_)
        refine rg_plain ?_
        refine pl_does (does_move rfl rfl) rfl rfl rfl rfl H ?_
        try clear H a W
        intro a W H
        refine pl_does (does_binOp rfl rfl rfl (i_addE (k := f) (m := 1) rfl (by omega) _ _)) rfl rfl rfl rfl H ?_
        try clear H a W
        intro a W H
        replace H : St 60 w a W [(35, .int .i64 ((f + 1 : Nat) : Int)), (34, .int .i64 ((f : Nat) : Int)), (32, bv (bb (q + i))), (31, .int .i64 ((f : Nat) : Int)), (13, bv (bb (q + i))), (30, bv (bb (q + i))), (29, .pointer (some ⟨gb, ob + i, none⟩)), (28, .bool true), (27, .int .i64 ((i : Nat) : Int)), (26, .int .i64 ((lb : Nat) : Int)), (25, .slice (some ⟨gb, ob, none⟩) lb cb), (21, .int .i64 ((k : Nat) : Int)), (20, .int .i64 ((nn : Nat) : Int)), (19, .slice (some ⟨gp, op, none⟩) nn cap), (8, .pointer (some ⟨g6, 0, none⟩)), (7, .pointer (some ⟨g5, 0, none⟩)), (6, .pointer (some ⟨g4, 0, none⟩)), (5, .pointer (some ⟨g3, 0, none⟩)), (4, .pointer (some ⟨g2, 0, none⟩))] [(g6, 62, nv 3 (wdg (sumD (bD bb j) (f + 1)))), (g5, 62, nv 3 (wdg (pa kk bb n j))), (g4, 62, nv 3 (wdg (sumD (sD kk) 16))), (g3, 62, nv 3 (wdg (sumD (rD kk) 16))), (g2, 42, bvs (rb 16 b0s)), (g1, 23, bvs (rb 32 kk))] := H.pick [0, 1, 2, 3, 4, 5, 6, 7, 8, 9, 10, 11, 12, 13, 15, 16, 17, 18, 19] [0, 1, 2, 3, 4, 5] rfl
        refine pl_does (does_assign rfl rfl) rfl rfl rfl rfl H ?_
        try clear H a W
        intro a W H
        refine pl_end ?_
        refine hK17 _ _ ?_
        clear hK17
        refine wp_seq_k (fun K18 hK18 => ?_)
        refine rg_plain ?_
        refine pl_does (does_move rfl rfl) rfl rfl rfl rfl H ?_
        try clear H a W
        intro a W H
        refine pl_does (does_binOp rfl rfl rfl (i_eqlB (k := (f + 1)) (m := 16) (decide_eq_true (by omega)) _ _)) rfl rfl rfl rfl H ?_
        try clear H a W
        intro a W H
        refine pl_end ?_
        refine hK18 _ _ ?_
        clear hK18
        refine wp_cond_true (H.ev rfl) ?_
        refine wp_seq_k (fun K19 hK19 => ?_)
        refine drawnS [.val 38 (.agg (nv 3 (wdg (pa kk bb n j)))) [] [1], .val 39 (.agg (nv 3 (wdg (sumD (bD bb j) (f + 1))))) [] [0], .val 40 (.int .i64 ((f + 1 : Nat) : Int)) [] [], .val 41 (.agg (nv 3 (wdg ((pa kk bb n j) + putN (sumD (bD bb j) (f + 1)) (f + 1) 1)))) [0, 1, 2] [], .val 42 (.agg (nv 3 (wdg (sumD (rD kk) 16)))) [] [3], .val 43 (.agg (nv 3 (wdg (pa kk bb n (j + 1))))) [3, 4] [], .sto 1 g5 62 (nv 3 (wdg (pa kk bb n j))) (nv 3 (wdg (pa kk bb n (j + 1)))) [5]] [0, 0, 0, 7, 0, 24, 63] (by kernel_rfl) (by kernel_rfl) (by kernel_rfl) H ⟨⟨does_load rfl rfl (k := 0) rfl Tryd.underlying62 rfl (info_n3 _), wanted_none rfl⟩, ⟨does_load rfl rfl (k := 0) rfl Tryd.underlying62 rfl (info_n3 _), wanted_none rfl⟩, ⟨does_move rfl rfl, wanted_none rfl⟩, ⟨does_call rfl ⟨_, Tryd.func33, by kernel_rfl⟩ rfl (fun W hb => with_any (N := (pa kk bb n j)) (M := (sumD (bD bb j) (f + 1))) (n := (f + 1)) (sumD_lt fun i _ => bD_lt bb _ i) (by omega) W), wanted_none rfl⟩, ⟨does_load rfl rfl (k := 0) rfl Tryd.underlying62 rfl (info_n3 _), wanted_none rfl⟩, ⟨does_call rfl ⟨_, Tryd.func34, by kernel_rfl⟩ rfl (fun W hb => times_z (by omega) hn16 W (hpg.ext hb)), wanted_none rfl⟩, ⟨rfl, rfl, sto_row rfl rfl rfl (info_n3 _) (size_nv _ _ _) (nv_one _ _)⟩, trivial⟩ ?_
        try clear H a W
        intro G7 a W H
        replace H : St 60 w a W [(38, .agg (nv 3 (wdg (pa kk bb n j)))), (39, .agg (nv 3 (wdg (sumD (bD bb j) (f + 1))))), (40, .int .i64 ((f + 1 : Nat) : Int)), (41, .agg (nv 3 (wdg ((pa kk bb n j) + putN (sumD (bD bb j) (f + 1)) (f + 1) 1)))), (42, .agg (nv 3 (wdg (sumD (rD kk) 16)))), (43, .agg (nv 3 (wdg (pa kk bb n (j + 1))))), (37, .bool true), (36, .int .i64 ((f + 1 : Nat) : Int)), (9, .int .i64 ((f + 1 : Nat) : Int)), (35, .int .i64 ((f + 1 : Nat) : Int)), (34, .int .i64 ((f : Nat) : Int)), (32, bv (bb (q + i))), (31, .int .i64 ((f : Nat) : Int)), (13, bv (bb (q + i))), (30, bv (bb (q + i))), (29, .pointer (some ⟨gb, ob + i, none⟩)), (28, .bool true), (27, .int .i64 ((i : Nat) : Int)), (26, .int .i64 ((lb : Nat) : Int)), (25, .slice (some ⟨gb, ob, none⟩) lb cb), (21, .int .i64 ((k : Nat) : Int)), (20, .int .i64 ((nn : Nat) : Int)), (19, .slice (some ⟨gp, op, none⟩) nn cap), (8, .pointer (some ⟨g6, 0, none⟩)), (7, .pointer (some ⟨g5, 0, none⟩)), (6, .pointer (some ⟨g4, 0, none⟩)), (5, .pointer (some ⟨g3, 0, none⟩)), (4, .pointer (some ⟨g2, 0, none⟩))] [(g6, 62, nv 3 (wdg (sumD (bD bb j) (f + 1)))), (g5, 62, nv 3 (wdg (pa kk bb n (j + 1)))), (g4, 62, nv 3 (wdg (sumD (sD kk) 16))), (g3, 62, nv 3 (wdg (sumD (rD kk) 16))), (g2, 42, bvs (rb 16 b0s)), (g1, 23, bvs (rb 32 kk))] := H
        refine hK19 _ _ ?_
        clear hK19
        refine rg_plain ?_
        refine pl_does (does_build (ps := []) rfl rfl bd_n3) rfl rfl rfl rfl H ?_
        try clear H a W
        intro a W H
        refine pl_store rfl rfl rfl (k := 0) rfl (info_n3 _) (size_nv _ _ _) (nv_one _ _) rfl rfl H ?_
        try clear H a W
        intro a W H
        replace H : St 60 w a W [(44, .agg (nv 3 n0s)), (38, .agg (nv 3 (wdg (pa kk bb n j)))), (39, .agg (nv 3 (wdg (sumD (bD bb j) (f + 1))))), (40, .int .i64 ((f + 1 : Nat) : Int)), (41, .agg (nv 3 (wdg ((pa kk bb n j) + putN (sumD (bD bb j) (f + 1)) (f + 1) 1)))), (42, .agg (nv 3 (wdg (sumD (rD kk) 16)))), (43, .agg (nv 3 (wdg (pa kk bb n (j + 1))))), (37, .bool true), (36, .int .i64 ((f + 1 : Nat) : Int)), (35, .int .i64 ((f + 1 : Nat) : Int)), (34, .int .i64 ((f : Nat) : Int)), (32, bv (bb (q + i))), (31, .int .i64 ((f : Nat) : Int)), (13, bv (bb (q + i))), (30, bv (bb (q + i))), (29, .pointer (some ⟨gb, ob + i, none⟩)), (28, .bool true), (27, .int .i64 ((i : Nat) : Int)), (26, .int .i64 ((lb : Nat) : Int)), (25, .slice (some ⟨gb, ob, none⟩) lb cb), (21, .int .i64 ((k : Nat) : Int)), (20, .int .i64 ((nn : Nat) : Int)), (19, .slice (some ⟨gp, op, none⟩) nn cap), (8, .pointer (some ⟨g6, 0, none⟩)), (7, .pointer (some ⟨g5, 0, none⟩)), (6, .pointer (some ⟨g4, 0, none⟩)), (5, .pointer (some ⟨g3, 0, none⟩)), (4, .pointer (some ⟨g2, 0, none⟩))] [(g6, 62, nv 3 n0s), (g5, 62, nv 3 (wdg (pa kk bb n (j + 1)))), (g4, 62, nv 3 (wdg (sumD (sD kk) 16))), (g3, 62, nv 3 (wdg (sumD (rD kk) 16))), (g2, 42, bvs (rb 16 b0s)), (g1, 23, bvs (rb 32 kk))] := H.pick [0, 1, 2, 3, 4, 5, 6, 7, 8, 10, 11, 12, 13, 14, 15, 16, 17, 18, 19, 20, 21, 22, 23, 24, 25, 26, 27, 28] [0, 1, 2, 3, 4, 5] rfl
        refine pl_does (does_assign rfl rfl) rfl rfl rfl rfl H ?_
        try clear H a W
        intro a W H
        refine pl_end ?_
        refine blk_normal ?_
        refine hK14 _ _ ?_
        clear hK14
        refine rg_plain ?_
        refine pl_does (does_binOp rfl rfl rfl (i_addE (k := i) (m := 1) rfl (by omega) _ _)) rfl rfl rfl rfl H ?_
        try clear H a W
        intro a W H
        replace H : St 60 w a W [(45, .int .i64 ((i + 1 : Nat) : Int)), (9, .int .i64 0), (44, .agg (nv 3 n0s)), (38, .agg (nv 3 (wdg (pa kk bb n j)))), (39, .agg (nv 3 (wdg (sumD (bD bb j) (f + 1))))), (40, .int .i64 ((f + 1 : Nat) : Int)), (41, .agg (nv 3 (wdg ((pa kk bb n j) + putN (sumD (bD bb j) (f + 1)) (f + 1) 1)))), (42, .agg (nv 3 (wdg (sumD (rD kk) 16)))), (43, .agg (nv 3 (wdg (pa kk bb n (j + 1))))), (37, .bool true), (36, .int .i64 ((f + 1 : Nat) : Int)), (35, .int .i64 ((f + 1 : Nat) : Int)), (34, .int .i64 ((f : Nat) : Int)), (32, bv (bb (q + i))), (31, .int .i64 ((f : Nat) : Int)), (13, bv (bb (q + i))), (30, bv (bb (q + i))), (29, .pointer (some ⟨gb, ob + i, none⟩)), (28, .bool true), (26, .int .i64 ((lb : Nat) : Int)), (25, .slice (some ⟨gb, ob, none⟩) lb cb), (21, .int .i64 ((k : Nat) : Int)), (20, .int .i64 ((nn : Nat) : Int)), (19, .slice (some ⟨gp, op, none⟩) nn cap), (8, .pointer (some ⟨g6, 0, none⟩)), (7, .pointer (some ⟨g5, 0, none⟩)), (6, .pointer (some ⟨g4, 0, none⟩)), (5, .pointer (some ⟨g3, 0, none⟩)), (4, .pointer (some ⟨g2, 0, none⟩))] [(g6, 62, nv 3 n0s), (g5, 62, nv 3 (wdg (pa kk bb n (j + 1)))), (g4, 62, nv 3 (wdg (sumD (sD kk) 16))), (g3, 62, nv 3 (wdg (sumD (rD kk) 16))), (g2, 42, bvs (rb 16 b0s)), (g1, 23, bvs (rb 32 kk))] := H.pick [0, 1, 2, 3, 4, 5, 6, 7, 8, 9, 10, 11, 12, 13, 14, 15, 16, 17, 18, 20, 21, 22, 23, 24, 25, 26, 27, 28, 29] [0, 1, 2, 3, 4, 5] rfl
        refine pl_does (does_move rfl rfl) rfl rfl rfl rfl H ?_
        try clear H a W
        intro a W H
        refine pl_end ?_
        refine ⟨i + 1, by omega, by omega, ?_⟩
        show St 60 w a W [(27, .int .i64 ((i + 1 : Nat) : Int)), (26, .int .i64 ((lb : Nat) : Int)), (25, .slice (some ⟨gb, ob, none⟩) lb cb), (21, .int .i64 ((k : Nat) : Int)), (20, .int .i64 ((nn : Nat) : Int)), (19, .slice (some ⟨gp, op, none⟩) nn cap), (9, .int .i64 (((q + (i + 1)) % 16 : Nat) : Int)), (8, .pointer (some ⟨g6, 0, none⟩)), (7, .pointer (some ⟨g5, 0, none⟩)), (6, .pointer (some ⟨g4, 0, none⟩)), (5, .pointer (some ⟨g3, 0, none⟩)), (4, .pointer (some ⟨g2, 0, none⟩))] [(g6, 62, nv 3 (wdg (sumD (bD bb ((q + (i + 1)) / 16)) ((q + (i + 1)) % 16)))), (g5, 62, nv 3 (wdg (pa kk bb n ((q + (i + 1)) / 16)))), (g4, 62, nv 3 (wdg (sumD (sD kk) 16))), (g3, 62, nv 3 (wdg (sumD (rD kk) 16))), (g2, 42, bvs (rb 16 b0s)), (g1, 23, bvs (rb 32 kk))]
        have e1 : (q + (i + 1)) / 16 = j + 1 := by omega
        have e2 : (q + (i + 1)) % 16 = 0 := by omega
        rw [e1, e2, ← bD_0]
        exact H.pick [0, 20, 21, 22, 23, 24, 2, 25, 26, 27, 28, 29] [0, 1, 2, 3, 4, 5] rfl
      · skip
        refine wp_seq_k (fun K20 hK20 => ?_)
        refine rg_plain ?_
        refine pl_does (does_binOp rfl rfl rfl (i_lss_yes (k := i) (m := lb) (by omega) _ _)) rfl rfl rfl rfl H ?_
        try clear H a W
        intro a W H
        refine pl_end ?_
        refine hK20 _ _ ?_
        clear hK20
        refine wp_seq_k (fun K21 hK21 => ?_)
        refine wp_cond_true (H.ev rfl) ?_
        refine wp_skip ?_
        refine hK21 _ _ ?_
        clear hK21
        refine wp_seq_k (fun K22 hK22 => ?_)
        refine wp_block ?_
        refine wp_seq_k (fun K23 hK23 => ?_)
        refine rg_plain ?_
        refine pl_does (does_indexAddr rfl rfl rfl (ia_bytes (j := i) hi2)) rfl rfl rfl rfl H ?_
        try clear H a W
        intro a W H
        refine pl_does (does_loadCell (v := bv (bb (q + i))) rfl rfl hbyte hgb ld_cellB) rfl rfl rfl rfl H ?_
        try clear H a W
        intro a W H
        refine pl_does (does_assign rfl rfl) rfl rfl rfl rfl H ?_
        try clear H a W
        intro a W H
        refine pl_end ?_
        refine hK23 _ _ ?_
        clear hK23
        refine wp_seq_k (fun K24 hK24 => ?_)
        refine rg_plain ?_
        refine pl_does (does_move rfl rfl) rfl rfl rfl rfl H ?_
        try clear H a W
        intro a W H
        refine pl_does (does_move rfl rfl) rfl rfl rfl rfl H ?_
        try clear H a W
        intro a W H
        refine pl_callK (f := 32) (caps := #[]) (vs' := [.pointer (some ⟨g6, 0, none⟩), .int .i64 ((f : Nat) : Int), bv (bb (q + i))]) rfl ⟨_, Tryd.func32, by kernel_rfl⟩ rfl rfl rfl (fun K_ => put_mid (N := (sumD (bD bb j) f)) (r := []) (t := [(g5, 62, nv 3 (wdg (pa kk bb n j))), (g4, 62, nv 3 (wdg (sumD (sD kk) 16))), (g3, 62, nv 3 (wdg (sumD (rD kk) 16))), (g2, 42, bvs (rb 16 b0s)), (g1, 23, bvs (rb 32 kk))]) (sumD_lt fun i _ => bD_lt bb _ i) (by omega) (bD_put bb hm) K_) rfl rfl rfl rfl H ?_
        try clear H a W
        intro a W H
        replace H : St 60 w a W [(33, .tuple #[]), (32, bv (bb (q + i))), (31, .int .i64 ((f : Nat) : Int)), (13, bv (bb (q + i))), (30, bv (bb (q + i))), (29, .pointer (some ⟨gb, ob + i, none⟩)), (28, .bool true), (27, .int .i64 ((i : Nat) : Int)), (26, .int .i64 ((lb : Nat) : Int)), (25, .slice (some ⟨gb, ob, none⟩) lb cb), (21, .int .i64 ((k : Nat) : Int)), (20, .int .i64 ((nn : Nat) : Int)), (19, .slice (some ⟨gp, op, none⟩) nn cap), (9, .int .i64 ((f : Nat) : Int)), (8, .pointer (some ⟨g6, 0, none⟩)), (7, .pointer (some ⟨g5, 0, none⟩)), (6, .pointer (some ⟨g4, 0, none⟩)), (5, .pointer (some ⟨g3, 0, none⟩)), (4, .pointer (some ⟨g2, 0, none⟩))] [(g6, 62, nv 3 (wdg (sumD (bD bb j) (f + 1)))), (g5, 62, nv 3 (wdg (pa kk bb n j))), (g4, 62, nv 3 (wdg (sumD (sD kk) 16))), (g3, 62, nv 3 (wdg (sumD (rD kk) 16))), (g2, 42, bvs (rb 16 b0s)), (g1, 23, bvs (rb 32 kk))] := H
        refine pl_end ?_
        replace H : St 60 w a W [(32, bv (bb (q + i))), (31, .int .i64 ((f : Nat) : Int)), (13, bv (bb (q + i))), (30, bv (bb (q + i))), (29, .pointer (some ⟨gb, ob + i, none⟩)), (28, .bool true), (27, .int .i64 ((i : Nat) : Int)), (26, .int .i64 ((lb : Nat) : Int)), (25, .slice (some ⟨gb, ob, none⟩) lb cb), (21, .int .i64 ((k : Nat) : Int)), (20, .int .i64 ((nn : Nat) : Int)), (19, .slice (some ⟨gp, op, none⟩) nn cap), (9, .int .i64 ((f : Nat) : Int)), (8, .pointer (some ⟨g6, 0, none⟩)), (7, .pointer (some ⟨g5, 0, none⟩)), (6, .pointer (some ⟨g4, 0, none⟩)), (5, .pointer (some ⟨g3, 0, none⟩)), (4, .pointer (some ⟨g2, 0, none⟩))] [(g6, 62, nv 3 (wdg (sumD (bD bb j) (f + 1)))), (g5, 62, nv 3 (wdg (pa kk bb n j))), (g4, 62, nv 3 (wdg (sumD (sD kk) 16))), (g3, 62, nv 3 (wdg (sumD (rD kk) 16))), (g2, 42, bvs (rb 16 b0s)), (g1, 23, bvs (rb 32 kk))] := H.pick [1, 2, 3, 4, 5, 6, 7, 8, 9, 10, 11, 12, 13, 14, 15, 16, 17, 18] [0, 1, 2, 3, 4, 5] rfl
        refine hK24 _ _ ?_
        clear hK24
        refine wp_seq_k (fun K25 hK25 => ?_)
        refine rg_plain ?_
        refine pl_does (does_move rfl rfl) rfl rfl rfl rfl H ?_
        try clear H a W
        intro a W H
        refine pl_does (does_binOp rfl rfl rfl (i_addE (k := f) (m := 1) rfl (by omega) _ _)) rfl rfl rfl rfl H ?_
        try clear H a W
        intro a W H
        replace H : St 60 w a W [(35, .int .i64 ((f + 1 : Nat) : Int)), (34, .int .i64 ((f : Nat) : Int)), (32, bv (bb (q + i))), (31, .int .i64 ((f : Nat) : Int)), (13, bv (bb (q + i))), (30, bv (bb (q + i))), (29, .pointer (some ⟨gb, ob + i, none⟩)), (28, .bool true), (27, .int .i64 ((i : Nat) : Int)), (26, .int .i64 ((lb : Nat) : Int)), (25, .slice (some ⟨gb, ob, none⟩) lb cb), (21, .int .i64 ((k : Nat) : Int)), (20, .int .i64 ((nn : Nat) : Int)), (19, .slice (some ⟨gp, op, none⟩) nn cap), (8, .pointer (some ⟨g6, 0, none⟩)), (7, .pointer (some ⟨g5, 0, none⟩)), (6, .pointer (some ⟨g4, 0, none⟩)), (5, .pointer (some ⟨g3, 0, none⟩)), (4, .pointer (some ⟨g2, 0, none⟩))] [(g6, 62, nv 3 (wdg (sumD (bD bb j) (f + 1)))), (g5, 62, nv 3 (wdg (pa kk bb n j))), (g4, 62, nv 3 (wdg (sumD (sD kk) 16))), (g3, 62, nv 3 (wdg (sumD (rD kk) 16))), (g2, 42, bvs (rb 16 b0s)), (g1, 23, bvs (rb 32 kk))] := H.pick [0, 1, 2, 3, 4, 5, 6, 7, 8, 9, 10, 11, 12, 13, 15, 16, 17, 18, 19] [0, 1, 2, 3, 4, 5] rfl
        refine pl_does (does_assign rfl rfl) rfl rfl rfl rfl H ?_
        try clear H a W
        intro a W H
        refine pl_end ?_
        refine hK25 _ _ ?_
        clear hK25
        refine wp_seq_k (fun K26 hK26 => ?_)
        refine rg_plain ?_
        refine pl_does (does_move rfl rfl) rfl rfl rfl rfl H ?_
        try clear H a W
        intro a W H
        refine pl_does (does_binOp rfl rfl rfl (i_eqlB (k := (f + 1)) (m := 16) (decide_eq_false (by omega)) _ _)) rfl rfl rfl rfl H ?_
        try clear H a W
        intro a W H
        refine pl_end ?_
        refine hK26 _ _ ?_
        clear hK26
        refine wp_cond_false (H.ev rfl) ?_
        refine wp_skip ?_
        refine blk_normal ?_
        refine hK22 _ _ ?_
        clear hK22
        refine rg_plain ?_
        refine pl_does (does_binOp rfl rfl rfl (i_addE (k := i) (m := 1) rfl (by omega) _ _)) rfl rfl rfl rfl H ?_
        try clear H a W
        intro a W H
        replace H : St 60 w a W [(45, .int .i64 ((i + 1 : Nat) : Int)), (37, .bool false), (36, .int .i64 ((f + 1 : Nat) : Int)), (9, .int .i64 ((f + 1 : Nat) : Int)), (35, .int .i64 ((f + 1 : Nat) : Int)), (34, .int .i64 ((f : Nat) : Int)), (32, bv (bb (q + i))), (31, .int .i64 ((f : Nat) : Int)), (13, bv (bb (q + i))), (30, bv (bb (q + i))), (29, .pointer (some ⟨gb, ob + i, none⟩)), (28, .bool true), (26, .int .i64 ((lb : Nat) : Int)), (25, .slice (some ⟨gb, ob, none⟩) lb cb), (21, .int .i64 ((k : Nat) : Int)), (20, .int .i64 ((nn : Nat) : Int)), (19, .slice (some ⟨gp, op, none⟩) nn cap), (8, .pointer (some ⟨g6, 0, none⟩)), (7, .pointer (some ⟨g5, 0, none⟩)), (6, .pointer (some ⟨g4, 0, none⟩)), (5, .pointer (some ⟨g3, 0, none⟩)), (4, .pointer (some ⟨g2, 0, none⟩))] [(g6, 62, nv 3 (wdg (sumD (bD bb j) (f + 1)))), (g5, 62, nv 3 (wdg (pa kk bb n j))), (g4, 62, nv 3 (wdg (sumD (sD kk) 16))), (g3, 62, nv 3 (wdg (sumD (rD kk) 16))), (g2, 42, bvs (rb 16 b0s)), (g1, 23, bvs (rb 32 kk))] := H.pick [0, 1, 2, 3, 4, 5, 6, 7, 8, 9, 10, 11, 13, 14, 15, 16, 17, 18, 19, 20, 21, 22] [0, 1, 2, 3, 4, 5] rfl
        refine pl_does (does_move rfl rfl) rfl rfl rfl rfl H ?_
        try clear H a W
        intro a W H
        refine pl_end ?_
        refine ⟨i + 1, by omega, by omega, ?_⟩
        show St 60 w a W [(27, .int .i64 ((i + 1 : Nat) : Int)), (26, .int .i64 ((lb : Nat) : Int)), (25, .slice (some ⟨gb, ob, none⟩) lb cb), (21, .int .i64 ((k : Nat) : Int)), (20, .int .i64 ((nn : Nat) : Int)), (19, .slice (some ⟨gp, op, none⟩) nn cap), (9, .int .i64 (((q + (i + 1)) % 16 : Nat) : Int)), (8, .pointer (some ⟨g6, 0, none⟩)), (7, .pointer (some ⟨g5, 0, none⟩)), (6, .pointer (some ⟨g4, 0, none⟩)), (5, .pointer (some ⟨g3, 0, none⟩)), (4, .pointer (some ⟨g2, 0, none⟩))] [(g6, 62, nv 3 (wdg (sumD (bD bb ((q + (i + 1)) / 16)) ((q + (i + 1)) % 16)))), (g5, 62, nv 3 (wdg (pa kk bb n ((q + (i + 1)) / 16)))), (g4, 62, nv 3 (wdg (sumD (sD kk) 16))), (g3, 62, nv 3 (wdg (sumD (rD kk) 16))), (g2, 42, bvs (rb 16 b0s)), (g1, 23, bvs (rb 32 kk))]
        have e1 : (q + (i + 1)) / 16 = j := by omega
        have e2 : (q + (i + 1)) % 16 = f + 1 := by omega
        rw [e1, e2]
        exact H.pick [0, 13, 14, 15, 16, 17, 4, 18, 19, 20, 21, 22] [0, 1, 2, 3, 4, 5] rfl
    · obtain rfl : lb = i := by omega
      refine wp_seq_k (fun K27 hK27 => ?_)
      refine rg_plain ?_
      refine pl_does (does_binOp rfl rfl rfl (i_lss_no (k := lb) (m := lb) (by omega) _ _)) rfl rfl rfl rfl H ?_
      try clear H a W
      intro a W H
      refine pl_end ?_
      refine hK27 _ _ ?_
      clear hK27
      refine wp_seq_k (fun K28 hK28 => ?_)
      refine wp_cond_false (H.ev rfl) ?_
      refine wp_exit ?_
      repeat (with_reducible refine then_exit ?_)
      refine blk_exit ?_
      refine blk_normal ?_
      refine hK9 _ _ ?_
      clear hK9
      refine rg_plain ?_
      refine pl_does (does_binOp rfl rfl rfl (i_addE (k := k) (m := 1) rfl (by omega) _ _)) rfl rfl rfl rfl H ?_
      try clear H a W
      intro a W H
      replace H : St 60 w a W [(46, .int .i64 ((k + 1 : Nat) : Int)), (28, .bool false), (27, .int .i64 ((lb : Nat) : Int)), (26, .int .i64 ((lb : Nat) : Int)), (25, .slice Ab lb cb), (20, .int .i64 ((nn : Nat) : Int)), (19, .slice (some ⟨gp, op, none⟩) nn cap), (9, .int .i64 (((q + lb) % 16 : Nat) : Int)), (8, .pointer (some ⟨g6, 0, none⟩)), (7, .pointer (some ⟨g5, 0, none⟩)), (6, .pointer (some ⟨g4, 0, none⟩)), (5, .pointer (some ⟨g3, 0, none⟩)), (4, .pointer (some ⟨g2, 0, none⟩))] [(g6, 62, nv 3 (wdg (sumD (bD bb ((q + lb) / 16)) ((q + lb) % 16)))), (g5, 62, nv 3 (wdg (pa kk bb n ((q + lb) / 16)))), (g4, 62, nv 3 (wdg (sumD (sD kk) 16))), (g3, 62, nv 3 (wdg (sumD (rD kk) 16))), (g2, 42, bvs (rb 16 b0s)), (g1, 23, bvs (rb 32 kk))] := H.pick [0, 1, 2, 3, 4, 6, 7, 8, 9, 10, 11, 12, 13] [0, 1, 2, 3, 4, 5] rfl
      refine pl_does (does_move rfl rfl) rfl rfl rfl rfl H ?_
      try clear H a W
      intro a W H
      refine pl_end ?_
      refine ⟨k + 1, by omega, by omega, ?_⟩
      show St 60 w a W [(21, .int .i64 ((k + 1 : Nat) : Int)), (20, .int .i64 ((nn : Nat) : Int)), (19, .slice (some ⟨gp, op, none⟩) nn cap), (9, .int .i64 ((pos L (k + 1) % 16 : Nat) : Int)), (8, .pointer (some ⟨g6, 0, none⟩)), (7, .pointer (some ⟨g5, 0, none⟩)), (6, .pointer (some ⟨g4, 0, none⟩)), (5, .pointer (some ⟨g3, 0, none⟩)), (4, .pointer (some ⟨g2, 0, none⟩))] [(g6, 62, nv 3 (wdg (sumD (bD bb (pos L (k + 1) / 16)) (pos L (k + 1) % 16)))), (g5, 62, nv 3 (wdg (pa kk bb n (pos L (k + 1) / 16)))), (g4, 62, nv 3 (wdg (sumD (sD kk) 16))), (g3, 62, nv 3 (wdg (sumD (rD kk) 16))), (g2, 42, bvs (rb 16 b0s)), (g1, 23, bvs (rb 32 kk))]
      have hnext : pos L (k + 1) = q + lb := by rw [pos_succ hLk, hlb, hq]
      rw [hnext]
      exact H.pick [0, 6, 7, 8, 9, 10, 11, 12, 13] [0, 1, 2, 3, 4, 5] rfl
  · obtain rfl : nn = k := by omega
    refine wp_seq_k (fun K29 hK29 => ?_)
    refine rg_plain ?_
    refine pl_does (does_binOp rfl rfl rfl (i_lss_no (k := nn) (m := nn) (by omega) _ _)) rfl rfl rfl rfl H ?_
    try clear H a W
    intro a W H
    refine pl_end ?_
    replace H : St 60 w a W [(22, .bool false), (21, .int .i64 ((nn : Nat) : Int)), (19, .slice A nn cap), (9, .int .i64 ((pos L nn % 16 : Nat) : Int)), (8, .pointer (some ⟨g6, 0, none⟩)), (7, .pointer (some ⟨g5, 0, none⟩)), (6, .pointer (some ⟨g4, 0, none⟩)), (5, .pointer (some ⟨g3, 0, none⟩)), (4, .pointer (some ⟨g2, 0, none⟩))] [(g6, 62, nv 3 (wdg (sumD (bD bb (pos L nn / 16)) (pos L nn % 16)))), (g5, 62, nv 3 (wdg (pa kk bb n (pos L nn / 16)))), (g4, 62, nv 3 (wdg (sumD (sD kk) 16))), (g3, 62, nv 3 (wdg (sumD (rD kk) 16))), (g2, 42, bvs (rb 16 b0s)), (g1, 23, bvs (rb 32 kk))] := H.pick [0, 1, 3, 4, 5, 6, 7, 8, 9] [0, 1, 2, 3, 4, 5] rfl
    refine hK29 _ _ ?_
    clear hK29
    refine wp_seq_k (fun K30 hK30 => ?_)
    refine wp_cond_false (H.ev rfl) ?_
    refine wp_exit ?_
    repeat (with_reducible refine then_exit ?_)
    refine blk_exit ?_
    have hend : pos L nn = n := by rw [← hnn, pos_all, hLn]
    rw [hend] at H
    refine hK5 _ _ ?_
    clear hK5
    refine wp_seq_k (fun K31 hK31 => ?_)
    have J31 : ∀ a W, St 60 w a W [(7, .pointer (some ⟨g5, 0, none⟩)), (6, .pointer (some ⟨g4, 0, none⟩)), (4, .pointer (some ⟨g2, 0, none⟩))] [(g5, 62, nv 3 (wdg (pa kk bb n ((n + 15) / 16)))), (g4, 62, nv 3 (wdg (sumD (sD kk) 16))), (g3, 62, nv 3 (wdg (sumD (rD kk) 16))), (g2, 42, bvs (rb 16 b0s)), (g1, 23, bvs (rb 32 kk))] → K31 a W := by
      try clear H a W
      intro a W H
      refine hK31 _ _ ?_
      clear hK31
      refine wp_seq_k (fun K32 hK32 => ?_)
      refine drawnS [.val 55 (.agg (nv 3 (wdg (pa kk bb n ((n + 15) / 16))))) [] [0], .val 56 (.agg (nv 3 (wdg (acc kk bb n ((n + 15) / 16))))) [0] [], .val 57 (.agg (nv 3 (wdg (sumD (sD kk) 16)))) [] [1], .val 58 (.agg (nv 3 (wdg (acc kk bb n ((n + 15) / 16) + sumD (sD kk) 16)))) [1, 2] [], .val 59 (.agg (bvs (rb 16 (markF kk (acc kk bb n ((n + 15) / 16)))))) [3] [], .sto 3 g2 42 (bvs (rb 16 b0s)) (bvs (rb 16 (markF kk (acc kk bb n ((n + 15) / 16))))) [4]] [0, 1, 0, 6, 8, 31] (by kernel_rfl) (by kernel_rfl) (by kernel_rfl) H ⟨⟨does_load rfl rfl (k := 0) rfl Tryd.underlying62 rfl (info_n3 _), wanted_none rfl⟩, ⟨does_call rfl ⟨_, Tryd.func35, by kernel_rfl⟩ rfl (fun W hb => least_z kk bb n _ W (hpg.ext hb)), wanted_none rfl⟩, ⟨does_load rfl rfl (k := 0) rfl Tryd.underlying62 rfl (info_n3 _), wanted_none rfl⟩, ⟨does_call rfl ⟨_, Tryd.func36, by kernel_rfl⟩ rfl (fun W hb => plus_any _ _ W), wanted_none rfl⟩, ⟨does_call rfl ⟨_, Tryd.func37, by kernel_rfl⟩ rfl (fun W hb => bytes_z kk _ W), wanted_none rfl⟩, ⟨rfl, rfl, sto_row rfl rfl rfl (info_mark _) (size_rb _ _ _) (bvs_one _)⟩, trivial⟩ ?_
      try clear H a W
      intro G8 a W H
      replace H : St 60 w a W [(55, .agg (nv 3 (wdg (pa kk bb n ((n + 15) / 16))))), (56, .agg (nv 3 (wdg (acc kk bb n ((n + 15) / 16))))), (57, .agg (nv 3 (wdg (sumD (sD kk) 16)))), (58, .agg (nv 3 (wdg (acc kk bb n ((n + 15) / 16) + sumD (sD kk) 16)))), (59, .agg (bvs (rb 16 (markF kk (acc kk bb n ((n + 15) / 16)))))), (7, .pointer (some ⟨g5, 0, none⟩)), (6, .pointer (some ⟨g4, 0, none⟩)), (4, .pointer (some ⟨g2, 0, none⟩))] [(g5, 62, nv 3 (wdg (pa kk bb n ((n + 15) / 16)))), (g4, 62, nv 3 (wdg (sumD (sD kk) 16))), (g3, 62, nv 3 (wdg (sumD (rD kk) 16))), (g2, 42, bvs (rb 16 (markF kk (acc kk bb n ((n + 15) / 16))))), (g1, 23, bvs (rb 32 kk))] := H
      replace H : St 60 w a W [(4, .pointer (some ⟨g2, 0, none⟩))] [(g5, 62, nv 3 (wdg (pa kk bb n ((n + 15) / 16)))), (g4, 62, nv 3 (wdg (sumD (sD kk) 16))), (g3, 62, nv 3 (wdg (sumD (rD kk) 16))), (g2, 42, bvs (rb 16 (markF kk (acc kk bb n ((n + 15) / 16))))), (g1, 23, bvs (rb 32 kk))] := H.pick [7] [0, 1, 2, 3, 4] rfl
      refine hK32 _ _ ?_
      clear hK32
      refine wp_ret ?_
      repeat (first | (with_reducible refine then_ret ?_) | (with_reducible refine blk_ret ?_))
      refine end_cell (p := 4) rfl rfl (k := 3) rfl Tryd.underlying42 rfl (info_mark _) H (fun hb => ?_)
      exact ⟨rfl, hb⟩
    clear hK31
    by_cases h0 : 0 < n % 16
    · obtain ⟨j, hj⟩ : ∃ j, n / 16 = j := ⟨_, rfl⟩
      obtain ⟨f, hf⟩ : ∃ f, n % 16 = f := ⟨_, rfl⟩
      have hpe : (n + 15) / 16 = j + 1 := by omega
      have hn16 : f = min 16 (n - 16 * j) := by omega
      rw [hj, hf] at H
      refine wp_seq_k (fun K33 hK33 => ?_)
      refine rg_plain ?_
      refine pl_does (does_move rfl rfl) rfl rfl rfl rfl H ?_
      try clear H a W
      intro a W H
      refine pl_does (does_binOp rfl rfl rfl (i_gtrB (k := f) (m := 0) (decide_eq_true (by omega)) _ _)) rfl rfl rfl rfl H ?_
      try clear H a W
      intro a W H
      refine pl_end ?_
      replace H : St 60 w a W [(48, .bool true), (9, .int .i64 ((f : Nat) : Int)), (8, .pointer (some ⟨g6, 0, none⟩)), (7, .pointer (some ⟨g5, 0, none⟩)), (6, .pointer (some ⟨g4, 0, none⟩)), (5, .pointer (some ⟨g3, 0, none⟩)), (4, .pointer (some ⟨g2, 0, none⟩))] [(g6, 62, nv 3 (wdg (sumD (bD bb j) f))), (g5, 62, nv 3 (wdg (pa kk bb n j))), (g4, 62, nv 3 (wdg (sumD (sD kk) 16))), (g3, 62, nv 3 (wdg (sumD (rD kk) 16))), (g2, 42, bvs (rb 16 b0s)), (g1, 23, bvs (rb 32 kk))] := H.pick [0, 5, 6, 7, 8, 9, 10] [0, 1, 2, 3, 4, 5] rfl
      refine hK33 _ _ ?_
      clear hK33
      refine wp_cond_true (H.ev rfl) ?_
      refine drawnS [.val 49 (.agg (nv 3 (wdg (pa kk bb n j)))) [] [1], .val 50 (.agg (nv 3 (wdg (sumD (bD bb j) f)))) [] [0], .val 51 (.int .i64 ((f : Nat) : Int)) [] [], .val 52 (.agg (nv 3 (wdg ((pa kk bb n j) + putN (sumD (bD bb j) f) f 1)))) [0, 1, 2] [], .val 53 (.agg (nv 3 (wdg (sumD (rD kk) 16)))) [] [3], .val 54 (.agg (nv 3 (wdg (pa kk bb n (j + 1))))) [3, 4] [], .sto 1 g5 62 (nv 3 (wdg (pa kk bb n j))) (nv 3 (wdg (pa kk bb n (j + 1)))) [5]] [0, 0, 0, 7, 0, 24, 63] (by kernel_rfl) (by kernel_rfl) (by kernel_rfl) H ⟨⟨does_load rfl rfl (k := 0) rfl Tryd.underlying62 rfl (info_n3 _), wanted_none rfl⟩, ⟨does_load rfl rfl (k := 0) rfl Tryd.underlying62 rfl (info_n3 _), wanted_none rfl⟩, ⟨does_move rfl rfl, wanted_none rfl⟩, ⟨does_call rfl ⟨_, Tryd.func33, by kernel_rfl⟩ rfl (fun W hb => with_any (N := (pa kk bb n j)) (M := (sumD (bD bb j) f)) (n := f) (sumD_lt fun i _ => bD_lt bb _ i) (by omega) W), wanted_none rfl⟩, ⟨does_load rfl rfl (k := 0) rfl Tryd.underlying62 rfl (info_n3 _), wanted_none rfl⟩, ⟨does_call rfl ⟨_, Tryd.func34, by kernel_rfl⟩ rfl (fun W hb => times_z (by omega) hn16 W (hpg.ext hb)), wanted_none rfl⟩, ⟨rfl, rfl, sto_row rfl rfl rfl (info_n3 _) (size_nv _ _ _) (nv_one _ _)⟩, trivial⟩ ?_
      try clear H a W
      intro G9 a W H
      replace H : St 60 w a W [(49, .agg (nv 3 (wdg (pa kk bb n j)))), (50, .agg (nv 3 (wdg (sumD (bD bb j) f)))), (51, .int .i64 ((f : Nat) : Int)), (52, .agg (nv 3 (wdg ((pa kk bb n j) + putN (sumD (bD bb j) f) f 1)))), (53, .agg (nv 3 (wdg (sumD (rD kk) 16)))), (54, .agg (nv 3 (wdg (pa kk bb n (j + 1))))), (48, .bool true), (9, .int .i64 ((f : Nat) : Int)), (8, .pointer (some ⟨g6, 0, none⟩)), (7, .pointer (some ⟨g5, 0, none⟩)), (6, .pointer (some ⟨g4, 0, none⟩)), (5, .pointer (some ⟨g3, 0, none⟩)), (4, .pointer (some ⟨g2, 0, none⟩))] [(g6, 62, nv 3 (wdg (sumD (bD bb j) f))), (g5, 62, nv 3 (wdg (pa kk bb n (j + 1)))), (g4, 62, nv 3 (wdg (sumD (sD kk) 16))), (g3, 62, nv 3 (wdg (sumD (rD kk) 16))), (g2, 42, bvs (rb 16 b0s)), (g1, 23, bvs (rb 32 kk))] := H
      replace H : St 60 w a W [(7, .pointer (some ⟨g5, 0, none⟩)), (6, .pointer (some ⟨g4, 0, none⟩)), (4, .pointer (some ⟨g2, 0, none⟩))] [(g6, 62, nv 3 (wdg (sumD (bD bb j) f))), (g5, 62, nv 3 (wdg (pa kk bb n (j + 1)))), (g4, 62, nv 3 (wdg (sumD (sD kk) 16))), (g3, 62, nv 3 (wdg (sumD (rD kk) 16))), (g2, 42, bvs (rb 16 b0s)), (g1, 23, bvs (rb 32 kk))] := H.pick [9, 10, 12] [0, 1, 2, 3, 4, 5] rfl
      exact J31 _ _ (by rw [hpe]; exact H.pick [0, 1, 2] [1, 2, 3, 4, 5] rfl)
    · have hpe : (n + 15) / 16 = n / 16 := by omega
      refine wp_seq_k (fun K34 hK34 => ?_)
      refine rg_plain ?_
      refine pl_does (does_move rfl rfl) rfl rfl rfl rfl H ?_
      try clear H a W
      intro a W H
      refine pl_does (does_binOp rfl rfl rfl (i_gtrB (k := (n % 16)) (m := 0) (decide_eq_false (by omega)) _ _)) rfl rfl rfl rfl H ?_
      try clear H a W
      intro a W H
      refine pl_end ?_
      replace H : St 60 w a W [(48, .bool false), (9, .int .i64 ((n % 16 : Nat) : Int)), (8, .pointer (some ⟨g6, 0, none⟩)), (7, .pointer (some ⟨g5, 0, none⟩)), (6, .pointer (some ⟨g4, 0, none⟩)), (5, .pointer (some ⟨g3, 0, none⟩)), (4, .pointer (some ⟨g2, 0, none⟩))] [(g6, 62, nv 3 (wdg (sumD (bD bb (n / 16)) (n % 16)))), (g5, 62, nv 3 (wdg (pa kk bb n (n / 16)))), (g4, 62, nv 3 (wdg (sumD (sD kk) 16))), (g3, 62, nv 3 (wdg (sumD (rD kk) 16))), (g2, 42, bvs (rb 16 b0s)), (g1, 23, bvs (rb 32 kk))] := H.pick [0, 5, 6, 7, 8, 9, 10] [0, 1, 2, 3, 4, 5] rfl
      refine hK34 _ _ ?_
      clear hK34
      refine wp_cond_false (H.ev rfl) ?_
      refine wp_skip ?_
      exact J31 _ _ (by rw [hpe]; exact H.pick [3, 4, 6] [1, 2, 3, 4, 5] rfl)
end Go.Proofs.YtghbknebaknmjaaDoor
