/- Words, contracts and walks (Uf, Xt, Ug, Uh, Lj), laid together. No condition. -/
import Derived.Test.YtonhkclkddobhaaDoorYd
namespace Go.Proofs.YtonhkclkddobhaaDoor
set_option linter.unusedVariables false
set_option linter.unusedSimpArgs false
set_option maxRecDepth 100000
open Go Go.RowKit
attribute [local irreducible] bvs byteD rb
set_option maxHeartbeats 4000000 in
theorem copied_walk {xl : SL} {Ts : List DT} (w : World) (hx : LV w xl Ts) (hsm : ∀ T ∈ Ts, SmT T) (hN : nodesL Ts ≤ 9000) : Calls Tryd.prog 11 #[.slice xl.A xl.n xl.c] w (fun rr w' => ∃ (A : Option Addr) (c : Nat) (hs : List DH) (t r : Hep), rr = .returned (.slice A xl.n c) ∧ Below w.heap.size w w' ∧ NR w.heap.size r w' ∧ (∀ p ∈ t, p ∈ r) ∧ hs.length = Ts.length ∧ OutD 27 7 t (.slice A xl.n c) hs.length (kidV hs) ∧ ∀ (i : Nat) (U : DT) (y : DH), Ts[i]? = some U → hs[i]? = some y → DC (TN r) U y) := by
  obtain ⟨xs0, hxl0, hxd0, hck0⟩ := hx.cfk
  have hnn := nodesL_len Ts
  have hxn := hx.len
  refine calls_st (vs := [.slice xl.A xl.n xl.c]) 109 Tryd.func11 rfl Tryd.ntmps11 rfl (fun a W H => ?_)
  replace H : St 109 w a W [(0, .slice xl.A xl.n xl.c)] [] := H
  refine sqR H gs0 fun Z_ z_ => rS 1 rfl <| rN0 z_ ?_
  try clear H a W
  intro a W H
  refine wp_seq_k (fun K2 hK2 => ?_)
  refine rgP H gs0 (rS 1 rfl <| rI0 ?_)
  try clear H a W
  intro a W H
  refine pl_callOwn (E := 27) (sz := 7) (k := xl.n) (xs := kidV xs0) rfl ⟨_, Tryd.func20, by kernel_rfl⟩ rfl (cloneD_walk (na := xl.n) _ (Lasts.lasts (F := CF 7 xl.n (kidV xs0) (.slice xl.A xl.n xl.c)) _ _ hck0 H.below) (by omega)) rfl rfl rfl rfl H ?_
  try clear H a W
  intro v0 t0 a W hO0 H
  obtain ⟨A0, c0, rfl, _⟩ := hO0.form
  replace H : St 109 w a W [(12, .slice A0 xl.n c0), (11, .slice xl.A xl.n xl.c), (2, .slice none 0 0), (0, .slice xl.A xl.n xl.c)] (t0) := H
  refine rgO H gs0 (rS 1 rfl <| rK [1, 0, 0, 1, 0] [] [] <| rZ0 ?_)
  try clear H a W
  intro a W H
  refine hK2 _ _ ?_
  clear hK2
  refine wp_seq_k (fun K3 hK3 => ?_)
  refine rgP H gs0 (rS 1 rfl <| rV rfl (does_build rfl rfl (bd_cstep0 _ _ _)) <| rI0 ?_)
  try clear H a W
  intro a W H
  refine pl_madeC (F := fun g => .slice (some ⟨g, 0, none⟩) 1 1) (made_evD (F := fun g => .slice (some ⟨g, 0, none⟩) 1 1) rfl rfl run_cstep1) rfl rfl rfl rfl H ?_
  try clear H a W
  intro gp a W H
  replace H : St 109 w a W [(15, .slice (some ⟨gp, 0, none⟩) 1 1), (14, .agg ((Fc.mk (none, 0) (.slice A0 xl.n c0) [] 0 []).cs.toArray)), (13, .slice A0 xl.n c0), (3, .slice A0 xl.n c0), (2, .slice none 0 0)] ((gp, 53, (Fc.mk (none, 0) (.slice A0 xl.n c0) [] 0 []).cs.toArray) :: t0) := H
  refine rgO H gs0 (rS 1 rfl <| rK [1, 0, 0, 0] [] [] <| rZ0 ?_)
  try clear H a W
  intro a W H
  refine hK3 _ _ ?_
  clear hK3
  refine wp_seq_k (fun K4 hK4 => ?_)
  refine rg_plain ?_
  refine pl_makeMap rfl rfl rfl rfl rfl H ?_
  try clear H a W
  intro gm a W H
  rw [show (Tid.map (entsI []) 0) = Tid.map (entsJ []) 0 from rfl] at H
  replace H : St 109 w a W [(16, .map (some gm)), (4, .slice (some ⟨gp, 0, none⟩) 1 1), (3, .slice A0 xl.n c0), (2, .slice none 0 0)] ((gm, .map (entsJ []) 0, #[]) :: (gp, 53, (Fc.mk (none, 0) (.slice A0 xl.n c0) [] 0 []).cs.toArray) :: t0) := H
  refine rgO H gs0 (rS 1 rfl <| rK [1, 0] [] [] <| rZ0 ?_)
  try clear H a W
  intro a W H
  refine hK4 _ _ ?_
  clear hK4
  refine wp_seq_k (fun K5 hK5 => ?_)
  refine wp_block ?_
  obtain ⟨f0, hf0⟩ : ∃ f0 : Fc, f0 = Fc.mk (none, 0) (.slice A0 xl.n c0) xs0 0 t0 := ⟨_, rfl⟩
  have hF0 : FcOk f0 := by
    rw [hf0]
    refine ⟨?_, ?_⟩
    · show OutD 27 7 t0 (.slice A0 xl.n c0) xs0.length (kidV xs0)
      rw [hxl0, hx.len]
      exact hO0
    · show xs0.length ≤ 100000
      omega
  have hCS0 : CS 109 w 3 4 5 gm (.slice A0 xl.n c0) [] ([] ++ [f0]) [] a W := by
    refine ⟨fun g hg => by rw [List.nil_append] at hg; rw [List.mem_singleton.1 hg]; exact hF0, [(gp, .ty 53, (Fc.mk (none, 0) (.slice A0 xl.n c0) [] 0 []).cs.toArray)], some ⟨gp, 0, none⟩, 1, [], 0, .inr ⟨gp, 1, _, rfl, rfl, Nat.le_refl _, by unfold maxLen; omega, rfl, by rw [hf0]; rfl⟩, rfl, ?_⟩
    have hr_ : fcRows ([] ++ [f0]) ++ ([] ++ []) = t0 := by rw [hf0]; simp [fcRows]
    rw [hr_]
    exact H.pickF (h := [(gm, .map (entsJ []) 0, #[]), (gp, 53, (Fc.mk (none, 0) (.slice A0 xl.n c0) [] 0 []).cs.toArray)]) (t := t0) [2, 1, 0] [0, 1] rfl
  have hc0_ : OutD 27 7 t0 (.slice A0 xl.n c0) xs0.length (kidV xs0) := by rw [hxl0, hx.len]; exact hO0
  refine loopAt_wp (copied_go (n := 109) (w0 := w) (s3 := 3) (s4 := 4) (s5 := 5) (gm := gm) (vall := .slice A0 xl.n c0) (hh := []) ?_ ?_ (nodesL Ts) Ts (Nat.le_refl _) hsm [] f0 [] xs0 [] _ _ (by rw [hf0]; rfl) (by rw [hf0]; rfl) hxl0 hxd0 (.inl ⟨rfl, by rw [hf0]⟩) (by rw [hf0]; intro p_ hp_; cases hp_) (fun E hE => ?_) (fun _ g hg => ?_) ?_ hCS0 ?_)
  · clear hCS0 H a W
    intro fs f rest a W hat hroot hkey hok hcs
    obtain ⟨hokf, tp, A, cap, E, cl, hOD, hAb, H⟩ := hcs
    obtain ⟨hfa, hfb⟩ := hokf f (by simp)
    obtain ⟨Af, cf, hvf, hcf⟩ := hfa.form
    obtain ⟨gp, cp, rfl, rfl, hcp⟩ := hOD.at_ (by simp)
    obtain ⟨_, _, e_, hcap⟩ := hOD.form
    injection e_ with _ _ e_
    subst e_
    have hfs := hOD.max
    have hfs2 : (fs ++ [f]).length = fs.length + 1 := by simp
    obtain ⟨E1, hl1, hA1⟩ := above_pop hAb
    obtain ⟨hkn, hkE⟩ := hkey E1 hA1
    have hc0 := hcp _ _ (fcV_at (fs := fs) (f := f) (j := 0) rfl)
    have hc1 := hcp _ _ (fcV_at (fs := fs) (f := f) (j := 1) rfl)
    have hc2 : cp[fs.length * 4 + 2]? = some (.slice Af f.hs.length cf) := hcp _ _ (fcV_at (fs := fs) (f := f) (by rw [← hvf]; rfl))
    have hc3 : cp[fs.length * 4 + 3]? = some (.int .i64 ((f.hs.length : Nat) : Int)) := hcp _ _ (fcV_at (fs := fs) (f := f) (by rw [← hat]; rfl))
    obtain ⟨tl, htl⟩ : ∃ tl : Hep, tl = fcRows (fs ++ [f]) ++ (rest ++ []) := ⟨_, rfl⟩
    rw [← htl] at H
    replace H : St 109 w a W [(3, .slice A0 xl.n c0), (4, .slice (some ⟨gp, 0, none⟩) ((fs ++ [f]).length) cap), (5, .map (some gm))] ((gm, .map (entsJ E) cl, #[]) :: (gp, 53, cp) :: tl) := H
    refine wp_seq_k (fun K6 hK6 => ?_)
    refine sqR H gs0 fun Z_ z_ => rS 1 rfl <| rV rfl (does_len Tryd.underlying54 rfl rfl) <| rV rfl (does_binOp rfl rfl rfl (z_cmp.2.1 (decide_eq_true (by simp only [List.length_append, List.length_cons, List.length_nil]; omega)) _ _)) <| rN0 z_ ?_
    try clear H a W
    intro a W H
    refine wp_cond_true (H.ev rfl) ?_
    refine wp_skip ?_
    refine hK6 _ _ ?_
    clear hK6
    refine wp_block ?_
    refine sqR H gs0 fun Z_ z_ => rS 2 rfl <| rV rfl (does_len Tryd.underlying54 rfl rfl) <| rV rfl (does_binOp rfl rfl rfl (zd_subC (by simp only [List.length_append, List.length_cons, List.length_nil]; omega) (by omega) _ _)) <| rV rfl (does_indexAddr rfl rfl rfl (ia_cstep (j := fs.length) (by simp))) <| rS 1 rfl <| rN0 z_ ?_
    try clear H a W
    intro a W H
    refine wp_seq_k (fun K9 hK9 => ?_)
    refine sqD [.v 25 _ [], .v 26 _ [0], .v 27 _ [1], .v 28 _ [2], .v 29 _ [], .v 30 _ [4], .v 31 _ [5], .v 32 _ [6], .v 33 _ [7], .v 34 _ [3, 8]] (by kernel_rfl) (by kernel_rfl) H gs0 (fun _ => ⟨oS rfl rfl, oV rfl (does_nilCheckQ rfl rfl), oV rfl (does_fieldAddr rfl rfl fa_cstep2), oV rfl (does_loadAt (v := .int .i64 ((f.hs.length : Nat) : Int)) rfl rfl (k := 1) rfl (ld_intC hc3)), oS rfl rfl, oV rfl (does_nilCheckQ rfl rfl), oV rfl (does_fieldAddr rfl rfl fa_cstep1), oV rfl (does_loadAt (v := .slice Af f.hs.length cf) rfl rfl (k := 1) rfl (ld_dersC hc2)), oV rfl (does_len Tryd.underlying25 rfl rfl), oV rfl (does_binOp rfl rfl rfl (z_cmp.2.2.1 (decide_eq_true (by omega)) _ _)), trivial⟩) fun Z_ z_ => rN0 z_ ?_
    try clear H a W
    intro a W H
    refine wp_cond_true (H.ev rfl) ?_
    refine wp_seq_k (fun K11 hK11 => ?_)
    refine rgP H gs0 (rS 2 rfl <| rV rfl (does_nilCheckQ rfl rfl) <| rV rfl (does_fieldAddr rfl rfl fa_cstep0) <| rV rfl (does_loadAt (v := .agg ((keyC f.κ))) rfl rfl (k := 1) rfl (ld_listC hc0 hc1)) <| rI0 ?_)
    try clear H a W
    intro a W H
    refine pl_delJ (κ := f.κ) (k := 0) rfl rfl rfl rfl hok hkE hkn hl1 rfl rfl H ?_
    try clear H a W
    intro a W H
    replace H : St 109 w a W [(39, .agg ((keyC f.κ))), (38, .pointer (some ⟨gp, fs.length * 4, none⟩)), (37, .pointer (some ⟨gp, fs.length * 4, none⟩)), (36, .pointer (some ⟨gp, fs.length * 4, none⟩)), (35, .map (some gm)), (34, .bool true), (33, .int .i64 ((f.hs.length : Nat) : Int)), (32, .slice Af f.hs.length cf), (31, .pointer (some ⟨gp, fs.length * 4 + 2, none⟩)), (30, .pointer (some ⟨gp, fs.length * 4, none⟩)), (29, .pointer (some ⟨gp, fs.length * 4, none⟩)), (28, .int .i64 ((f.hs.length : Nat) : Int)), (27, .pointer (some ⟨gp, fs.length * 4 + 3, none⟩)), (26, .pointer (some ⟨gp, fs.length * 4, none⟩)), (25, .pointer (some ⟨gp, fs.length * 4, none⟩)), (6, .pointer (some ⟨gp, fs.length * 4, none⟩)), (24, .pointer (some ⟨gp, fs.length * 4, none⟩)), (23, .int .i64 ((fs.length : Nat) : Int)), (22, .int .i64 (((fs ++ [f]).length : Nat) : Int)), (21, .slice (some ⟨gp, 0, none⟩) ((fs ++ [f]).length) cap), (20, .slice (some ⟨gp, 0, none⟩) ((fs ++ [f]).length) cap), (19, .bool true), (18, .int .i64 (((fs ++ [f]).length : Nat) : Int)), (17, .slice (some ⟨gp, 0, none⟩) ((fs ++ [f]).length) cap), (3, .slice A0 xl.n c0), (4, .slice (some ⟨gp, 0, none⟩) ((fs ++ [f]).length) cap), (5, .map (some gm))] ((gm, .map (entsJ E1) cl, #[]) :: (gp, 53, cp) :: tl) := H
    refine rgO H gs0 (rZ0 ?_)
    try clear H a W
    intro a W H
    refine hK11 _ _ ?_
    clear hK11
    refine sqR H gs0 fun Z_ z_ => rS 2 rfl <| rV rfl (does_len Tryd.underlying54 rfl rfl) <| rV rfl (does_binOp rfl rfl rfl (zd_subC (by simp only [List.length_append, List.length_cons, List.length_nil]; omega) (by omega) _ _)) <| rV rfl (does_slice rfl rfl (vl := none) (vh := some (.int .i64 ((fs.length : Nat) : Int))) rfl rfl (sl_csteps (by simp) hcap)) <| rK [1, 1, 1, 1, 1, 1, 1, 1, 1, 1, 1, 1, 1, 1, 1, 1, 1, 1, 1, 1, 1, 1, 1, 1, 1, 1, 1, 1, 1, 1, 0] [] [] <| rS 1 rfl <| rN0 z_ ?_
    try clear H a W
    intro a W H
    refine wp_exit ?_
    repeat (first | (with_reducible refine then_exit ?_) | (with_reducible refine blk_pass (by decide) ?_))
    refine blk_exit ?_
    refine ⟨fun g hg => hokf g (List.mem_append_left _ hg), [(gp, .ty 53, cp)], some ⟨gp, 0, none⟩, cap, E1, cl, out_pop hOD rfl, hA1, ?_⟩
    have hr_ : tl = fcRows fs ++ ((f.t ++ rest) ++ []) := by rw [htl, fcRows_snoc, List.append_assoc, ← List.append_assoc f.t rest]
    rw [← hr_]
    exact H.pickF (h := [(gm, .map (entsJ E1) cl, #[]), (gp, 53, cp)]) (t := tl) [30, 0, 31] [0, 1] rfl
  · clear hCS0 H a W
    clear hx hsm hN hxl0 hxd0 hck0 hO0 hF0 hc0_ hf0
    intro fs f rest T x done todo a W hfh hat hdy hsm hkeys hlen hkl hcs
    obtain ⟨hokf, tp, A, cap, E, cl, hOD, hAb, H⟩ := hcs
    obtain ⟨hfa, hfb⟩ := hokf f (by simp)
    obtain ⟨Af, cf, hvf, hcf⟩ := hfa.form
    have hfl : f.hs.length = done.length + (todo.length + 1) := by rw [hfh]; simp
    rw [hvf] at hfa
    obtain ⟨gt, ct, htf, rfl, hct⟩ := hfa.at_ (by omega)
    obtain ⟨gp, cp, rfl, rfl, hcp⟩ := hOD.at_ (by simp)
    rw [hfh] at hct
    obtain ⟨hkn, hkE⟩ := hkeys E hAb
    have hfs2 : (fs ++ [f]).length = fs.length + 1 := by simp
    have hc2 : cp[fs.length * 4 + 2]? = some (.slice (some ⟨gt, 0, none⟩) f.hs.length cf) := hcp _ _ (fcV_at (fs := fs) (f := f) (by rw [← hvf]; rfl))
    have hc3 : cp[fs.length * 4 + 3]? = some (.int .i64 ((done.length : Nat) : Int)) := hcp _ _ (fcV_at (fs := fs) (f := f) (by rw [← hat]; rfl))
    have hx3 : ct[done.length * 7 + 3]? = some (.slice x.b.A x.b.n x.b.c) := hct _ _ (kid_at rfl)
    have hx5 : ct[done.length * 7 + 5]? = some (.slice x.a.A x.a.n x.a.c) := hct _ _ (kid_at rfl)
    have hx6 : ct[done.length * 7 + 6]? = some (.slice x.ks.A x.ks.n x.ks.c) := hct _ _ (kid_at rfl)
    have hok2 : okK w (keyOf x.ks) := hdy.lv.okK
    obtain ⟨subs, hsl, hsd, hck9⟩ := hdy.lv.cfk
    have hkn2 := hdy.lv.len
    obtain ⟨b, na, ks, rfl, hk_, hn_, hm_, hbs, hns⟩ := hdy.inv
    obtain ⟨hsb, hsa⟩ : b.length ≤ 100000 ∧ na.length ≤ 100000 := by cases hsm with | mk h1 h2 _ => exact ⟨h1, h2⟩
    have hcb := hbs.cfb
    have hca := hns.cfn
    have hbl := hbs.len
    have hal := hns.len
    replace hkl : ks.length ≤ 100000 := hkl
    replace hkn2 : ks.length = x.ks.n := hkn2
    replace hsl : subs.length = ks.length := hsl
    rw [fcRows_snoc, htf] at H
    replace H := H.perm' (perm_in _ _ _ _ _)
    obtain ⟨tl, htl⟩ : ∃ tl : Hep, tl = fcRows fs ++ (rest ++ []) := ⟨_, rfl⟩
    rw [← htl] at H
    replace H : St 109 w a W [(3, .slice A0 xl.n c0), (4, .slice (some ⟨gp, 0, none⟩) ((fs ++ [f]).length) cap), (5, .map (some gm))] ((gm, .map (entsJ E) cl, #[]) :: (gp, 53, cp) :: (gt, 27, ct) :: tl) := H
    refine wp_seq_k (fun K13 hK13 => ?_)
    refine sqR H gs0 fun Z_ z_ => rS 1 rfl <| rV rfl (does_len Tryd.underlying54 rfl rfl) <| rV rfl (does_binOp rfl rfl rfl (z_cmp.2.1 (decide_eq_true (by simp only [List.length_append, List.length_cons, List.length_nil]; omega)) _ _)) <| rN0 z_ ?_
    try clear H a W
    intro a W H
    refine wp_cond_true (H.ev rfl) ?_
    refine wp_skip ?_
    refine hK13 _ _ ?_
    clear hK13
    refine wp_block ?_
    refine sqR H gs0 fun Z_ z_ => rS 2 rfl <| rV rfl (does_len Tryd.underlying54 rfl rfl) <| rV rfl (does_binOp rfl rfl rfl (zd_subC (by simp only [List.length_append, List.length_cons, List.length_nil]; omega) (by omega) _ _)) <| rV rfl (does_indexAddr rfl rfl rfl (ia_cstep (j := fs.length) (by simp))) <| rS 1 rfl <| rN0 z_ ?_
    try clear H a W
    intro a W H
    refine wp_seq_k (fun K16 hK16 => ?_)
    refine sqD [.v 25 _ [], .v 26 _ [0], .v 27 _ [1], .v 28 _ [2], .v 29 _ [], .v 30 _ [4], .v 31 _ [5], .v 32 _ [6], .v 33 _ [7], .v 34 _ [3, 8]] (by kernel_rfl) (by kernel_rfl) H gs0 (fun _ => ⟨oS rfl rfl, oV rfl (does_nilCheckQ rfl rfl), oV rfl (does_fieldAddr rfl rfl fa_cstep2), oV rfl (does_loadAt (v := .int .i64 ((done.length : Nat) : Int)) rfl rfl (k := 1) rfl (ld_intC hc3)), oS rfl rfl, oV rfl (does_nilCheckQ rfl rfl), oV rfl (does_fieldAddr rfl rfl fa_cstep1), oV rfl (does_loadAt (v := .slice (some ⟨gt, 0, none⟩) f.hs.length cf) rfl rfl (k := 1) rfl (ld_dersC hc2)), oV rfl (does_len Tryd.underlying25 rfl rfl), oV rfl (does_binOp rfl rfl rfl (z_cmp.2.2.1 (decide_eq_false (by omega)) _ _)), trivial⟩) fun Z_ z_ => rN0 z_ ?_
    try clear H a W
    intro a W H
    refine wp_cond_false (H.ev rfl) ?_
    refine wp_skip ?_
    refine hK16 _ _ ?_
    clear hK16
    refine sqD [.v 45 _ [], .v 46 _ [0], .v 47 _ [1], .v 48 _ [2], .v 49 _ [], .v 50 _ [4], .v 51 _ [5], .v 52 _ [6], .v 53 _ [3, 7]] (by kernel_rfl) (by kernel_rfl) H gs0 (fun _ => ⟨oS rfl rfl, oV rfl (does_nilCheckQ rfl rfl), oV rfl (does_fieldAddr rfl rfl fa_cstep1), oV rfl (does_loadAt (v := .slice (some ⟨gt, 0, none⟩) f.hs.length cf) rfl rfl (k := 1) rfl (ld_dersC hc2)), oS rfl rfl, oV rfl (does_nilCheckQ rfl rfl), oV rfl (does_fieldAddr rfl rfl fa_cstep2), oV rfl (does_loadAt (v := .int .i64 ((done.length : Nat) : Int)) rfl rfl (k := 1) rfl (ld_intC hc3)), oV rfl (does_indexAddr rfl rfl rfl (ia_derC (j := done.length) (by omega))), trivial⟩) fun Z_ z_ => rS 1 rfl <| rN0 z_ ?_
    try clear H a W
    intro a W H
    refine sqR H gs0 fun Z_ z_ => rS 1 rfl <| rV rfl (does_nilCheckQ rfl rfl) <| rV rfl (does_fieldAddr rfl rfl fa_cstep2) <| rV rfl (does_loadAt (v := .int .i64 ((done.length : Nat) : Int)) rfl rfl (k := 1) rfl (ld_intC hc3)) <| rV rfl (does_binOp rfl rfl rfl (zd_addI (by omega) (by omega) _ _)) <| rV rfl (does_nilCheckQ rfl rfl) <| rV rfl (does_fieldAddr rfl rfl fa_cstep2) <| rX [0, 1] (c := (setV cp (fs.length * 4 + 3) [.int .i64 (((done.length + 1) : Nat) : Int)])) ⟨rfl, rfl⟩ rfl rfl rfl (st_intC hc3) rfl <| rN0 z_ ?_
    try clear H a W
    intro a W H
    refine wp_seq_k (fun K20 hK20 => ?_)
    refine d2P [.v 61 _ [], .v 62 _ [], .v 63 _ [], .v 64 _ [2], .v 65 _ [3], .v 66 _ [4], .f 67 _ [5], .v 68 _ [], .v 69 _ [7], .v 70 _ [8], .v 71 _ [9], .f 72 _ [10]] 1 rfl rfl rfl (runP H rfl) (by kernel_rfl) (fun _ _ _ _ _ h => h) (by kernel_rfl) (by kernel_rfl) H gs0 ⟨oS rfl rfl, oS rfl rfl, oS rfl rfl, oV rfl (does_nilCheckQ rfl rfl), oV rfl (does_fieldAddr rfl rfl fa_kid3), oV rfl (does_loadAt (v := .slice x.b.A x.b.n x.b.c) rfl rfl (k := 2) rfl (ld_bytesC hx3)), ⟨fun a W  H _ => ob_callS H (wanted_none rfl) rfl ⟨_, Tryd.func14, by kernel_rfl⟩ rfl ((cloneB_walk (na := x.b.n) _ (Lasts.lasts (F := CF 1 x.b.n (b.map bv) (.slice x.b.A x.b.n x.b.c)) _ _ hcb H.below) (by omega)).mono (fun r_ W_ ⟨v_, e_, hb_, ho_⟩ => ⟨v_, e_, hb_, og_of H ho_⟩)), fun _ => inferInstance⟩, oS rfl rfl, oV rfl (does_nilCheckQ rfl rfl), oV rfl (does_fieldAddr rfl rfl fa_kid5), oV rfl (does_loadAt (v := .slice x.a.A x.a.n x.a.c) rfl rfl (k := 2) rfl (ld_u64sC hx5)), ⟨fun a W  H _ => ob_callS H (wanted_none rfl) rfl ⟨_, Tryd.func18, by kernel_rfl⟩ rfl ((cloneN_walk (na := x.a.n) _ (Lasts.lasts (F := CF 1 x.a.n (na.map nvD) (.slice x.a.A x.a.n x.a.c)) _ _ hca H.below) (by omega)).mono (fun r_ W_ ⟨v_, e_, hb_, ho_⟩ => ⟨v_, e_, hb_, og_of H ho_⟩)), fun _ => inferInstance⟩, trivial⟩ (fun v67 v72 => rI ?_)
    try clear H a W
    rintro a W H ⟨hv72, hv67, -⟩
    obtain ⟨t1, t2, hO1, hO2, H⟩ := og_two H (by decide) hv67 hv72
    obtain ⟨A1, c1, rfl, _⟩ := hO1.form
    obtain ⟨A2, c2, rfl, _⟩ := hO2.form
    replace H : St 109 w a W [(72, .slice A2 x.a.n c2), (71, .slice x.a.A x.a.n x.a.c), (70, .pointer (some ⟨gt, done.length * 7 + 5, none⟩)), (69, .pointer (some ⟨gt, done.length * 7, none⟩)), (68, .pointer (some ⟨gt, done.length * 7, none⟩)), (67, .slice A1 x.b.n c1), (66, .slice x.b.A x.b.n x.b.c), (65, .pointer (some ⟨gt, done.length * 7 + 3, none⟩)), (64, .pointer (some ⟨gt, done.length * 7, none⟩)), (63, .pointer (some ⟨gt, done.length * 7, none⟩)), (62, .pointer (some ⟨gt, done.length * 7, none⟩)), (61, .pointer (some ⟨gt, done.length * 7, none⟩)), (60, .pointer (some ⟨gp, fs.length * 4 + 3, none⟩)), (59, .pointer (some ⟨gp, fs.length * 4, none⟩)), (58, .int .i64 (((done.length + 1) : Nat) : Int)), (57, .int .i64 ((done.length : Nat) : Int)), (56, .pointer (some ⟨gp, fs.length * 4 + 3, none⟩)), (55, .pointer (some ⟨gp, fs.length * 4, none⟩)), (54, .pointer (some ⟨gp, fs.length * 4, none⟩)), (7, .pointer (some ⟨gt, done.length * 7, none⟩)), (53, .pointer (some ⟨gt, done.length * 7, none⟩)), (52, .int .i64 ((done.length : Nat) : Int)), (51, .pointer (some ⟨gp, fs.length * 4 + 3, none⟩)), (50, .pointer (some ⟨gp, fs.length * 4, none⟩)), (49, .pointer (some ⟨gp, fs.length * 4, none⟩)), (48, .slice (some ⟨gt, 0, none⟩) f.hs.length cf), (47, .pointer (some ⟨gp, fs.length * 4 + 2, none⟩)), (46, .pointer (some ⟨gp, fs.length * 4, none⟩)), (45, .pointer (some ⟨gp, fs.length * 4, none⟩)), (34, .bool false), (33, .int .i64 ((f.hs.length : Nat) : Int)), (32, .slice (some ⟨gt, 0, none⟩) f.hs.length cf), (31, .pointer (some ⟨gp, fs.length * 4 + 2, none⟩)), (30, .pointer (some ⟨gp, fs.length * 4, none⟩)), (29, .pointer (some ⟨gp, fs.length * 4, none⟩)), (28, .int .i64 ((done.length : Nat) : Int)), (27, .pointer (some ⟨gp, fs.length * 4 + 3, none⟩)), (26, .pointer (some ⟨gp, fs.length * 4, none⟩)), (25, .pointer (some ⟨gp, fs.length * 4, none⟩)), (6, .pointer (some ⟨gp, fs.length * 4, none⟩)), (24, .pointer (some ⟨gp, fs.length * 4, none⟩)), (23, .int .i64 ((fs.length : Nat) : Int)), (22, .int .i64 (((fs ++ [f]).length : Nat) : Int)), (21, .slice (some ⟨gp, 0, none⟩) ((fs ++ [f]).length) cap), (20, .slice (some ⟨gp, 0, none⟩) ((fs ++ [f]).length) cap), (19, .bool true), (18, .int .i64 (((fs ++ [f]).length : Nat) : Int)), (17, .slice (some ⟨gp, 0, none⟩) ((fs ++ [f]).length) cap), (3, .slice A0 xl.n c0), (4, .slice (some ⟨gp, 0, none⟩) ((fs ++ [f]).length) cap), (5, .map (some gm))] ((gm, .map (entsJ E) cl, #[]) :: (gp, 53, (setV cp (fs.length * 4 + 3) [.int .i64 (((done.length + 1) : Nat) : Int)])) :: (gt, 27, ct) :: (tl ++ (t1 ++ t2))) := H
    refine rgO H gs0 (rV rfl (does_nilCheckQ rfl rfl) <| rV rfl (does_fieldAddr rfl rfl fa_kid3) <| rX [0, 0, 1] (c := (setV ct (done.length * 7 + 3) [.slice A1 x.b.n c1])) ⟨rfl, rfl⟩ rfl rfl rfl (st_bytesC hx3) rfl <| rV rfl (does_nilCheckQ rfl rfl) <| rV rfl (does_fieldAddr rfl rfl fa_kid5) <| rX [0, 0, 1] (c := (setV (setV ct (done.length * 7 + 3) [.slice A1 x.b.n c1]) (done.length * 7 + 5) [.slice A2 x.a.n c2])) ⟨rfl, rfl⟩ rfl rfl rfl (st_u64sC ((set_ne (by omega)).trans hx5)) rfl <| rZ0 ?_)
    try clear H a W
    intro a W H
    obtain ⟨ct2, hct2⟩ : ∃ c_, c_ = (setV (setV ct (done.length * 7 + 3) [.slice A1 x.b.n c1]) (done.length * 7 + 5) [.slice A2 x.a.n c2]) := ⟨_, rfl⟩
    rw [← hct2] at H
    replace hx6 : ct2[done.length * 7 + 6]? = some (.slice x.ks.A x.ks.n x.ks.c) := by rw [hct2, set_ne (by omega), set_ne (by omega)]; exact hx6
    replace H : St 109 w a W [(76, .pointer (some ⟨gt, done.length * 7 + 5, none⟩)), (75, .pointer (some ⟨gt, done.length * 7, none⟩)), (74, .pointer (some ⟨gt, done.length * 7 + 3, none⟩)), (73, .pointer (some ⟨gt, done.length * 7, none⟩)), (72, .slice A2 x.a.n c2), (71, .slice x.a.A x.a.n x.a.c), (70, .pointer (some ⟨gt, done.length * 7 + 5, none⟩)), (69, .pointer (some ⟨gt, done.length * 7, none⟩)), (68, .pointer (some ⟨gt, done.length * 7, none⟩)), (67, .slice A1 x.b.n c1), (66, .slice x.b.A x.b.n x.b.c), (65, .pointer (some ⟨gt, done.length * 7 + 3, none⟩)), (64, .pointer (some ⟨gt, done.length * 7, none⟩)), (63, .pointer (some ⟨gt, done.length * 7, none⟩)), (62, .pointer (some ⟨gt, done.length * 7, none⟩)), (61, .pointer (some ⟨gt, done.length * 7, none⟩)), (60, .pointer (some ⟨gp, fs.length * 4 + 3, none⟩)), (59, .pointer (some ⟨gp, fs.length * 4, none⟩)), (58, .int .i64 (((done.length + 1) : Nat) : Int)), (57, .int .i64 ((done.length : Nat) : Int)), (56, .pointer (some ⟨gp, fs.length * 4 + 3, none⟩)), (55, .pointer (some ⟨gp, fs.length * 4, none⟩)), (54, .pointer (some ⟨gp, fs.length * 4, none⟩)), (7, .pointer (some ⟨gt, done.length * 7, none⟩)), (53, .pointer (some ⟨gt, done.length * 7, none⟩)), (52, .int .i64 ((done.length : Nat) : Int)), (51, .pointer (some ⟨gp, fs.length * 4 + 3, none⟩)), (50, .pointer (some ⟨gp, fs.length * 4, none⟩)), (49, .pointer (some ⟨gp, fs.length * 4, none⟩)), (48, .slice (some ⟨gt, 0, none⟩) f.hs.length cf), (47, .pointer (some ⟨gp, fs.length * 4 + 2, none⟩)), (46, .pointer (some ⟨gp, fs.length * 4, none⟩)), (45, .pointer (some ⟨gp, fs.length * 4, none⟩)), (34, .bool false), (33, .int .i64 ((f.hs.length : Nat) : Int)), (32, .slice (some ⟨gt, 0, none⟩) f.hs.length cf), (31, .pointer (some ⟨gp, fs.length * 4 + 2, none⟩)), (30, .pointer (some ⟨gp, fs.length * 4, none⟩)), (29, .pointer (some ⟨gp, fs.length * 4, none⟩)), (28, .int .i64 ((done.length : Nat) : Int)), (27, .pointer (some ⟨gp, fs.length * 4 + 3, none⟩)), (26, .pointer (some ⟨gp, fs.length * 4, none⟩)), (25, .pointer (some ⟨gp, fs.length * 4, none⟩)), (6, .pointer (some ⟨gp, fs.length * 4, none⟩)), (24, .pointer (some ⟨gp, fs.length * 4, none⟩)), (23, .int .i64 ((fs.length : Nat) : Int)), (22, .int .i64 (((fs ++ [f]).length : Nat) : Int)), (21, .slice (some ⟨gp, 0, none⟩) ((fs ++ [f]).length) cap), (20, .slice (some ⟨gp, 0, none⟩) ((fs ++ [f]).length) cap), (19, .bool true), (18, .int .i64 (((fs ++ [f]).length : Nat) : Int)), (17, .slice (some ⟨gp, 0, none⟩) ((fs ++ [f]).length) cap), (3, .slice A0 xl.n c0), (4, .slice (some ⟨gp, 0, none⟩) ((fs ++ [f]).length) cap), (5, .map (some gm))] ((gm, .map (entsJ E) cl, #[]) :: (gp, 53, (setV cp (fs.length * 4 + 3) [.int .i64 (((done.length + 1) : Nat) : Int)])) :: (gt, 27, ct2) :: (tl ++ (t1 ++ t2))) := H
    refine hK20 _ _ ?_
    clear hK20
    refine sqR H gs0 fun Z_ z_ => rS 1 rfl <| rV rfl (does_nilCheckQ rfl rfl) <| rV rfl (does_fieldAddr rfl rfl fa_kid6) <| rV rfl (does_loadAt (v := .slice x.ks.A x.ks.n x.ks.c) rfl rfl (k := 2) rfl (ld_dersC hx6)) <| rV rfl (does_call rfl ⟨_, Tryd.func21, by kernel_rfl⟩ rfl (fun W hb => list_of (hdy.lv.lasts hb))) <| rA rfl rfl al_list fun g1 => rW [1] ⟨rfl, rfl⟩ rfl rfl rfl (info_list (keyOf x.ks)) (size_list _ _) (keyC_one _) <| rN0 z_ ?_
    try clear H a W
    intro a W H
    refine sqR H gs0 fun Z_ z_ => rS 1 rfl <| rV rfl (does_load rfl rfl (k := 0) rfl Tryd.underlying51 rfl (info_list (keyOf x.ks))) <| rV rfl (does_lookJ (κ := keyOf x.ks) (k := 1) rfl rfl rfl rfl hok2 hkE hkn) <| rS 5 rfl <| rN0 z_ ?_
    try clear H a W
    intro a W H
    refine wp_seq_k (fun K23 hK23 => ?_)
    refine sqR H gs0 fun Z_ z_ => rS 2 rfl <| rN0 z_ ?_
    try clear H a W
    intro a W H
    refine wp_cond_true (H.ev rfl) ?_
    refine wp_seq_k (fun K25 hK25 => ?_)
    refine rgP H gs0 (rS 1 rfl <| rV rfl (does_nilCheckQ rfl rfl) <| rV rfl (does_fieldAddr rfl rfl fa_kid6) <| rV rfl (does_loadAt (v := .slice x.ks.A x.ks.n x.ks.c) rfl rfl (k := 3) rfl (ld_dersC hx6)) <| rI0 ?_)
    try clear H a W
    intro a W H
    refine pl_callOwn (E := 27) (sz := 7) (k := x.ks.n) (xs := kidV subs) rfl ⟨_, Tryd.func20, by kernel_rfl⟩ rfl (cloneD_walk (na := x.ks.n) _ (Lasts.lasts (F := CF 7 x.ks.n (kidV subs) (.slice x.ks.A x.ks.n x.ks.c)) _ _ hck9 H.below) (by omega)) rfl rfl rfl rfl H ?_
    try clear H a W
    intro v9 t9 a W hO9 H
    obtain ⟨A9, c9, rfl, _⟩ := hO9.form
    replace H : St 109 w a W [(94, .slice A9 x.ks.n c9), (93, .slice x.ks.A x.ks.n x.ks.c), (92, .pointer (some ⟨gt, done.length * 7 + 6, none⟩)), (91, .pointer (some ⟨gt, done.length * 7, none⟩)), (90, .pointer (some ⟨gt, done.length * 7, none⟩)), (89, .bool true), (88, .bool false), (10, .bool false), (9, .slice none 0 0), (87, .bool false), (86, .slice none 0 0), (82, .tuple #[.slice none 0 0, .bool false]), (85, .tuple #[.slice none 0 0, .bool false]), (84, .agg ((keyC (keyOf x.ks)))), (83, .map (some gm)), (8, .pointer (some ⟨g1, 0, none⟩)), (81, .agg ((keyC (keyOf x.ks)))), (80, .slice x.ks.A x.ks.n x.ks.c), (79, .pointer (some ⟨gt, done.length * 7 + 6, none⟩)), (78, .pointer (some ⟨gt, done.length * 7, none⟩)), (77, .pointer (some ⟨gt, done.length * 7, none⟩)), (76, .pointer (some ⟨gt, done.length * 7 + 5, none⟩)), (75, .pointer (some ⟨gt, done.length * 7, none⟩)), (74, .pointer (some ⟨gt, done.length * 7 + 3, none⟩)), (73, .pointer (some ⟨gt, done.length * 7, none⟩)), (72, .slice A2 x.a.n c2), (71, .slice x.a.A x.a.n x.a.c), (70, .pointer (some ⟨gt, done.length * 7 + 5, none⟩)), (69, .pointer (some ⟨gt, done.length * 7, none⟩)), (68, .pointer (some ⟨gt, done.length * 7, none⟩)), (67, .slice A1 x.b.n c1), (66, .slice x.b.A x.b.n x.b.c), (65, .pointer (some ⟨gt, done.length * 7 + 3, none⟩)), (64, .pointer (some ⟨gt, done.length * 7, none⟩)), (63, .pointer (some ⟨gt, done.length * 7, none⟩)), (62, .pointer (some ⟨gt, done.length * 7, none⟩)), (61, .pointer (some ⟨gt, done.length * 7, none⟩)), (60, .pointer (some ⟨gp, fs.length * 4 + 3, none⟩)), (59, .pointer (some ⟨gp, fs.length * 4, none⟩)), (58, .int .i64 (((done.length + 1) : Nat) : Int)), (57, .int .i64 ((done.length : Nat) : Int)), (56, .pointer (some ⟨gp, fs.length * 4 + 3, none⟩)), (55, .pointer (some ⟨gp, fs.length * 4, none⟩)), (54, .pointer (some ⟨gp, fs.length * 4, none⟩)), (7, .pointer (some ⟨gt, done.length * 7, none⟩)), (53, .pointer (some ⟨gt, done.length * 7, none⟩)), (52, .int .i64 ((done.length : Nat) : Int)), (51, .pointer (some ⟨gp, fs.length * 4 + 3, none⟩)), (50, .pointer (some ⟨gp, fs.length * 4, none⟩)), (49, .pointer (some ⟨gp, fs.length * 4, none⟩)), (48, .slice (some ⟨gt, 0, none⟩) f.hs.length cf), (47, .pointer (some ⟨gp, fs.length * 4 + 2, none⟩)), (46, .pointer (some ⟨gp, fs.length * 4, none⟩)), (45, .pointer (some ⟨gp, fs.length * 4, none⟩)), (34, .bool false), (33, .int .i64 ((f.hs.length : Nat) : Int)), (32, .slice (some ⟨gt, 0, none⟩) f.hs.length cf), (31, .pointer (some ⟨gp, fs.length * 4 + 2, none⟩)), (30, .pointer (some ⟨gp, fs.length * 4, none⟩)), (29, .pointer (some ⟨gp, fs.length * 4, none⟩)), (28, .int .i64 ((done.length : Nat) : Int)), (27, .pointer (some ⟨gp, fs.length * 4 + 3, none⟩)), (26, .pointer (some ⟨gp, fs.length * 4, none⟩)), (25, .pointer (some ⟨gp, fs.length * 4, none⟩)), (6, .pointer (some ⟨gp, fs.length * 4, none⟩)), (24, .pointer (some ⟨gp, fs.length * 4, none⟩)), (23, .int .i64 ((fs.length : Nat) : Int)), (22, .int .i64 (((fs ++ [f]).length : Nat) : Int)), (21, .slice (some ⟨gp, 0, none⟩) ((fs ++ [f]).length) cap), (20, .slice (some ⟨gp, 0, none⟩) ((fs ++ [f]).length) cap), (19, .bool true), (18, .int .i64 (((fs ++ [f]).length : Nat) : Int)), (17, .slice (some ⟨gp, 0, none⟩) ((fs ++ [f]).length) cap), (3, .slice A0 xl.n c0), (4, .slice (some ⟨gp, 0, none⟩) ((fs ++ [f]).length) cap), (5, .map (some gm))] ((g1, 51, (keyC (keyOf x.ks))) :: (gm, .map (entsJ E) cl, #[]) :: (gp, 53, (setV cp (fs.length * 4 + 3) [.int .i64 (((done.length + 1) : Nat) : Int)])) :: (gt, 27, ct2) :: ((tl ++ (t1 ++ t2)) ++ t9)) := H
    refine rgO H gs0 (rK [1, 1, 1, 1, 1, 1, 1, 1, 0] [] [] <| rS 1 rfl <| rZ0 ?_)
    try clear H a W
    intro a W H
    refine hK25 _ _ ?_
    clear hK25
    refine wp_seq_k (fun K26 hK26 => ?_)
    refine rgP H gs0 (rS 1 rfl <| rV rfl (does_load rfl rfl (k := 0) rfl Tryd.underlying51 rfl (info_list (keyOf x.ks))) <| rS 1 rfl <| rI0 ?_)
    try clear H a W
    intro a W H
    refine pl_setJ (κ := keyOf x.ks) (k := 1) rfl rfl rfl rfl rfl hok2 hkE hkn rfl rfl H ?_
    try clear H a W
    intro a W H
    replace H : St 109 w a W [(97, .slice A9 x.ks.n c9), (96, .agg ((keyC (keyOf x.ks)))), (95, .map (some gm)), (9, .slice A9 x.ks.n c9), (94, .slice A9 x.ks.n c9), (93, .slice x.ks.A x.ks.n x.ks.c), (92, .pointer (some ⟨gt, done.length * 7 + 6, none⟩)), (91, .pointer (some ⟨gt, done.length * 7, none⟩)), (90, .pointer (some ⟨gt, done.length * 7, none⟩)), (89, .bool true), (88, .bool false), (10, .bool false), (87, .bool false), (86, .slice none 0 0), (82, .tuple #[.slice none 0 0, .bool false]), (85, .tuple #[.slice none 0 0, .bool false]), (84, .agg ((keyC (keyOf x.ks)))), (83, .map (some gm)), (8, .pointer (some ⟨g1, 0, none⟩)), (81, .agg ((keyC (keyOf x.ks)))), (80, .slice x.ks.A x.ks.n x.ks.c), (79, .pointer (some ⟨gt, done.length * 7 + 6, none⟩)), (78, .pointer (some ⟨gt, done.length * 7, none⟩)), (77, .pointer (some ⟨gt, done.length * 7, none⟩)), (76, .pointer (some ⟨gt, done.length * 7 + 5, none⟩)), (75, .pointer (some ⟨gt, done.length * 7, none⟩)), (74, .pointer (some ⟨gt, done.length * 7 + 3, none⟩)), (73, .pointer (some ⟨gt, done.length * 7, none⟩)), (72, .slice A2 x.a.n c2), (71, .slice x.a.A x.a.n x.a.c), (70, .pointer (some ⟨gt, done.length * 7 + 5, none⟩)), (69, .pointer (some ⟨gt, done.length * 7, none⟩)), (68, .pointer (some ⟨gt, done.length * 7, none⟩)), (67, .slice A1 x.b.n c1), (66, .slice x.b.A x.b.n x.b.c), (65, .pointer (some ⟨gt, done.length * 7 + 3, none⟩)), (64, .pointer (some ⟨gt, done.length * 7, none⟩)), (63, .pointer (some ⟨gt, done.length * 7, none⟩)), (62, .pointer (some ⟨gt, done.length * 7, none⟩)), (61, .pointer (some ⟨gt, done.length * 7, none⟩)), (60, .pointer (some ⟨gp, fs.length * 4 + 3, none⟩)), (59, .pointer (some ⟨gp, fs.length * 4, none⟩)), (58, .int .i64 (((done.length + 1) : Nat) : Int)), (57, .int .i64 ((done.length : Nat) : Int)), (56, .pointer (some ⟨gp, fs.length * 4 + 3, none⟩)), (55, .pointer (some ⟨gp, fs.length * 4, none⟩)), (54, .pointer (some ⟨gp, fs.length * 4, none⟩)), (7, .pointer (some ⟨gt, done.length * 7, none⟩)), (53, .pointer (some ⟨gt, done.length * 7, none⟩)), (52, .int .i64 ((done.length : Nat) : Int)), (51, .pointer (some ⟨gp, fs.length * 4 + 3, none⟩)), (50, .pointer (some ⟨gp, fs.length * 4, none⟩)), (49, .pointer (some ⟨gp, fs.length * 4, none⟩)), (48, .slice (some ⟨gt, 0, none⟩) f.hs.length cf), (47, .pointer (some ⟨gp, fs.length * 4 + 2, none⟩)), (46, .pointer (some ⟨gp, fs.length * 4, none⟩)), (45, .pointer (some ⟨gp, fs.length * 4, none⟩)), (34, .bool false), (33, .int .i64 ((f.hs.length : Nat) : Int)), (32, .slice (some ⟨gt, 0, none⟩) f.hs.length cf), (31, .pointer (some ⟨gp, fs.length * 4 + 2, none⟩)), (30, .pointer (some ⟨gp, fs.length * 4, none⟩)), (29, .pointer (some ⟨gp, fs.length * 4, none⟩)), (28, .int .i64 ((done.length : Nat) : Int)), (27, .pointer (some ⟨gp, fs.length * 4 + 3, none⟩)), (26, .pointer (some ⟨gp, fs.length * 4, none⟩)), (25, .pointer (some ⟨gp, fs.length * 4, none⟩)), (6, .pointer (some ⟨gp, fs.length * 4, none⟩)), (24, .pointer (some ⟨gp, fs.length * 4, none⟩)), (23, .int .i64 ((fs.length : Nat) : Int)), (22, .int .i64 (((fs ++ [f]).length : Nat) : Int)), (21, .slice (some ⟨gp, 0, none⟩) ((fs ++ [f]).length) cap), (20, .slice (some ⟨gp, 0, none⟩) ((fs ++ [f]).length) cap), (19, .bool true), (18, .int .i64 (((fs ++ [f]).length : Nat) : Int)), (17, .slice (some ⟨gp, 0, none⟩) ((fs ++ [f]).length) cap), (3, .slice A0 xl.n c0), (4, .slice (some ⟨gp, 0, none⟩) ((fs ++ [f]).length) cap), (5, .map (some gm))] ((g1, 51, (keyC (keyOf x.ks))) :: (gm, .map (entsJ (E ++ [(keyOf x.ks, Value.slice A9 x.ks.n c9, cl)])) (cl + 1), #[]) :: (gp, 53, (setV cp (fs.length * 4 + 3) [.int .i64 (((done.length + 1) : Nat) : Int)])) :: (gt, 27, ct2) :: ((tl ++ (t1 ++ t2)) ++ t9)) := H
    refine rgO H gs0 (rZ0 ?_)
    try clear H a W
    intro a W H
    refine hK26 _ _ ?_
    clear hK26
    refine rgP H gs0 (rS 1 rfl <| rV rfl (does_load rfl rfl (k := 0) rfl Tryd.underlying51 rfl (info_list (keyOf x.ks))) <| rS 1 rfl <| rV rfl (does_build rfl rfl (bd_cstep (keyOf x.ks) _ _ _)) <| rI0 ?_)
    try clear H a W
    intro a W H
    refine pl_madeC (F := fun g => .slice (some ⟨g, 0, none⟩) 1 1) (made_evD (F := fun g => .slice (some ⟨g, 0, none⟩) 1 1) rfl rfl run_cstep1) rfl rfl rfl rfl H ?_
    try clear H a W
    intro gx a W H
    replace H : St 109 w a W [(102, .slice (some ⟨gx, 0, none⟩) 1 1), (101, .agg ((Fc.mk (keyOf x.ks) (.slice A9 x.ks.n c9) [] 0 []).cs.toArray)), (100, .slice A9 x.ks.n c9), (99, .agg ((keyC (keyOf x.ks)))), (98, .slice (some ⟨gp, 0, none⟩) ((fs ++ [f]).length) cap), (97, .slice A9 x.ks.n c9), (96, .agg ((keyC (keyOf x.ks)))), (95, .map (some gm)), (9, .slice A9 x.ks.n c9), (94, .slice A9 x.ks.n c9), (93, .slice x.ks.A x.ks.n x.ks.c), (92, .pointer (some ⟨gt, done.length * 7 + 6, none⟩)), (91, .pointer (some ⟨gt, done.length * 7, none⟩)), (90, .pointer (some ⟨gt, done.length * 7, none⟩)), (89, .bool true), (88, .bool false), (10, .bool false), (87, .bool false), (86, .slice none 0 0), (82, .tuple #[.slice none 0 0, .bool false]), (85, .tuple #[.slice none 0 0, .bool false]), (84, .agg ((keyC (keyOf x.ks)))), (83, .map (some gm)), (8, .pointer (some ⟨g1, 0, none⟩)), (81, .agg ((keyC (keyOf x.ks)))), (80, .slice x.ks.A x.ks.n x.ks.c), (79, .pointer (some ⟨gt, done.length * 7 + 6, none⟩)), (78, .pointer (some ⟨gt, done.length * 7, none⟩)), (77, .pointer (some ⟨gt, done.length * 7, none⟩)), (76, .pointer (some ⟨gt, done.length * 7 + 5, none⟩)), (75, .pointer (some ⟨gt, done.length * 7, none⟩)), (74, .pointer (some ⟨gt, done.length * 7 + 3, none⟩)), (73, .pointer (some ⟨gt, done.length * 7, none⟩)), (72, .slice A2 x.a.n c2), (71, .slice x.a.A x.a.n x.a.c), (70, .pointer (some ⟨gt, done.length * 7 + 5, none⟩)), (69, .pointer (some ⟨gt, done.length * 7, none⟩)), (68, .pointer (some ⟨gt, done.length * 7, none⟩)), (67, .slice A1 x.b.n c1), (66, .slice x.b.A x.b.n x.b.c), (65, .pointer (some ⟨gt, done.length * 7 + 3, none⟩)), (64, .pointer (some ⟨gt, done.length * 7, none⟩)), (63, .pointer (some ⟨gt, done.length * 7, none⟩)), (62, .pointer (some ⟨gt, done.length * 7, none⟩)), (61, .pointer (some ⟨gt, done.length * 7, none⟩)), (60, .pointer (some ⟨gp, fs.length * 4 + 3, none⟩)), (59, .pointer (some ⟨gp, fs.length * 4, none⟩)), (58, .int .i64 (((done.length + 1) : Nat) : Int)), (57, .int .i64 ((done.length : Nat) : Int)), (56, .pointer (some ⟨gp, fs.length * 4 + 3, none⟩)), (55, .pointer (some ⟨gp, fs.length * 4, none⟩)), (54, .pointer (some ⟨gp, fs.length * 4, none⟩)), (7, .pointer (some ⟨gt, done.length * 7, none⟩)), (53, .pointer (some ⟨gt, done.length * 7, none⟩)), (52, .int .i64 ((done.length : Nat) : Int)), (51, .pointer (some ⟨gp, fs.length * 4 + 3, none⟩)), (50, .pointer (some ⟨gp, fs.length * 4, none⟩)), (49, .pointer (some ⟨gp, fs.length * 4, none⟩)), (48, .slice (some ⟨gt, 0, none⟩) f.hs.length cf), (47, .pointer (some ⟨gp, fs.length * 4 + 2, none⟩)), (46, .pointer (some ⟨gp, fs.length * 4, none⟩)), (45, .pointer (some ⟨gp, fs.length * 4, none⟩)), (34, .bool false), (33, .int .i64 ((f.hs.length : Nat) : Int)), (32, .slice (some ⟨gt, 0, none⟩) f.hs.length cf), (31, .pointer (some ⟨gp, fs.length * 4 + 2, none⟩)), (30, .pointer (some ⟨gp, fs.length * 4, none⟩)), (29, .pointer (some ⟨gp, fs.length * 4, none⟩)), (28, .int .i64 ((done.length : Nat) : Int)), (27, .pointer (some ⟨gp, fs.length * 4 + 3, none⟩)), (26, .pointer (some ⟨gp, fs.length * 4, none⟩)), (25, .pointer (some ⟨gp, fs.length * 4, none⟩)), (6, .pointer (some ⟨gp, fs.length * 4, none⟩)), (24, .pointer (some ⟨gp, fs.length * 4, none⟩)), (23, .int .i64 ((fs.length : Nat) : Int)), (22, .int .i64 (((fs ++ [f]).length : Nat) : Int)), (21, .slice (some ⟨gp, 0, none⟩) ((fs ++ [f]).length) cap), (20, .slice (some ⟨gp, 0, none⟩) ((fs ++ [f]).length) cap), (19, .bool true), (18, .int .i64 (((fs ++ [f]).length : Nat) : Int)), (17, .slice (some ⟨gp, 0, none⟩) ((fs ++ [f]).length) cap), (3, .slice A0 xl.n c0), (4, .slice (some ⟨gp, 0, none⟩) ((fs ++ [f]).length) cap), (5, .map (some gm))] ((gx, 53, (Fc.mk (keyOf x.ks) (.slice A9 x.ks.n c9) [] 0 []).cs.toArray) :: (g1, 51, (keyC (keyOf x.ks))) :: (gm, .map (entsJ (E ++ [(keyOf x.ks, Value.slice A9 x.ks.n c9, cl)])) (cl + 1), #[]) :: (gp, 53, (setV cp (fs.length * 4 + 3) [.int .i64 (((done.length + 1) : Nat) : Int)])) :: (gt, 27, ct2) :: ((tl ++ (t1 ++ t2)) ++ t9)) := H
    have hp_ : List.Perm (α := Nat × Tid × Array Value) ((gx, 53, (Fc.mk (keyOf x.ks) (.slice A9 x.ks.n c9) [] 0 []).cs.toArray) :: (g1, 51, (keyC (keyOf x.ks))) :: (gm, .map (entsJ (E ++ [(keyOf x.ks, Value.slice A9 x.ks.n c9, cl)])) (cl + 1), #[]) :: (gp, 53, (setV cp (fs.length * 4 + 3) [.int .i64 (((done.length + 1) : Nat) : Int)])) :: (gt, 27, ct2) :: ((tl ++ (t1 ++ t2)) ++ t9)) ((([(gx, .ty 53, (Fc.mk (keyOf x.ks) (.slice A9 x.ks.n c9) [] 0 []).cs.toArray), (g1, .ty 51, (keyC (keyOf x.ks))), (gm, .map (entsJ (E ++ [(keyOf x.ks, Value.slice A9 x.ks.n c9, cl)])) (cl + 1), #[])] : Hep) ++ (([(gt, .ty 27, ct2)] : Hep) ++ ((tl ++ (t1 ++ t2)) ++ t9))) ++ [(gp, .ty 53, (setV cp (fs.length * 4 + 3) [.int .i64 (((done.length + 1) : Nat) : Int)]))]) := (@List.perm_middle (Nat × Tid × Array Value) (gp, .ty 53, (setV cp (fs.length * 4 + 3) [.int .i64 (((done.length + 1) : Nat) : Int)])) ([(gx, .ty 53, (Fc.mk (keyOf x.ks) (.slice A9 x.ks.n c9) [] 0 []).cs.toArray), (g1, .ty 51, (keyC (keyOf x.ks))), (gm, .map (entsJ (E ++ [(keyOf x.ks, Value.slice A9 x.ks.n c9, cl)])) (cl + 1), #[])] : Hep) (([(gt, .ty 27, ct2)] : Hep) ++ ((tl ++ (t1 ++ t2)) ++ t9))).trans (List.perm_append_singleton _ _).symm
    replace H := H.perm' hp_
    clear hp_
    obtain ⟨f1, hf1⟩ : ∃ f1 : Fc, f1 = { f with at_ := done.length + 1 } := ⟨_, rfl⟩
    obtain ⟨f2, hf2⟩ : ∃ f2 : Fc, f2 = Fc.mk (keyOf x.ks) (.slice A9 x.ks.n c9) [] 0 [] := ⟨_, rfl⟩
    have hOD1 : OutD 53 4 [(gp, .ty 53, (setV cp (fs.length * 4 + 3) [.int .i64 (((done.length + 1) : Nat) : Int)]))] (.slice (some ⟨gp, 0, none⟩) (fs ++ [f]).length cap) (fs ++ [f1]).length (fcV (fs ++ [f1])) := by
      have h_ := hOD.putN (j := fs.length * 4 + 3) (u := .int .i64 ((done.length + 1 : Nat) : Int))
      rw [fcV_set (f' := f1) (by omega) (by rw [hf1]; rfl)] at h_
      rw [show (fs ++ [f1]).length = (fs ++ [f]).length by simp]
      exact h_
    refine pl_pushC (h := (([(gx, .ty 53, (Fc.mk (keyOf x.ks) (.slice A9 x.ks.n c9) [] 0 []).cs.toArray), (g1, .ty 51, (keyC (keyOf x.ks))), (gm, .map (entsJ (E ++ [(keyOf x.ks, Value.slice A9 x.ks.n c9, cl)])) (cl + 1), #[])] : Hep) ++ (([(gt, .ty 27, ct2)] : Hep) ++ ((tl ++ (t1 ++ t2)) ++ t9)))) (t := [(gp, .ty 53, (setV cp (fs.length * 4 + 3) [.int .i64 (((done.length + 1) : Nat) : Int)]))]) (fs := fs ++ [f1]) (f := f2) rfl rfl rfl (by rw [hf2]; simp) (by rw [hf2]; rfl) hOD1 (by simp only [List.length_append, List.length_cons, List.length_nil] at hlen ⊢; omega) rfl rfl rfl rfl H ?_
    try clear H a W
    intro A10 c10 t10 a W hO10 H
    replace H : St 109 w a W [(103, .slice A10 ((fs ++ [f1] ++ [f2]).length) c10), (102, .slice (some ⟨gx, 0, none⟩) 1 1), (101, .agg ((Fc.mk (keyOf x.ks) (.slice A9 x.ks.n c9) [] 0 []).cs.toArray)), (100, .slice A9 x.ks.n c9), (99, .agg ((keyC (keyOf x.ks)))), (98, .slice (some ⟨gp, 0, none⟩) ((fs ++ [f]).length) cap), (97, .slice A9 x.ks.n c9), (96, .agg ((keyC (keyOf x.ks)))), (95, .map (some gm)), (9, .slice A9 x.ks.n c9), (94, .slice A9 x.ks.n c9), (93, .slice x.ks.A x.ks.n x.ks.c), (92, .pointer (some ⟨gt, done.length * 7 + 6, none⟩)), (91, .pointer (some ⟨gt, done.length * 7, none⟩)), (90, .pointer (some ⟨gt, done.length * 7, none⟩)), (89, .bool true), (88, .bool false), (10, .bool false), (87, .bool false), (86, .slice none 0 0), (82, .tuple #[.slice none 0 0, .bool false]), (85, .tuple #[.slice none 0 0, .bool false]), (84, .agg ((keyC (keyOf x.ks)))), (83, .map (some gm)), (8, .pointer (some ⟨g1, 0, none⟩)), (81, .agg ((keyC (keyOf x.ks)))), (80, .slice x.ks.A x.ks.n x.ks.c), (79, .pointer (some ⟨gt, done.length * 7 + 6, none⟩)), (78, .pointer (some ⟨gt, done.length * 7, none⟩)), (77, .pointer (some ⟨gt, done.length * 7, none⟩)), (76, .pointer (some ⟨gt, done.length * 7 + 5, none⟩)), (75, .pointer (some ⟨gt, done.length * 7, none⟩)), (74, .pointer (some ⟨gt, done.length * 7 + 3, none⟩)), (73, .pointer (some ⟨gt, done.length * 7, none⟩)), (72, .slice A2 x.a.n c2), (71, .slice x.a.A x.a.n x.a.c), (70, .pointer (some ⟨gt, done.length * 7 + 5, none⟩)), (69, .pointer (some ⟨gt, done.length * 7, none⟩)), (68, .pointer (some ⟨gt, done.length * 7, none⟩)), (67, .slice A1 x.b.n c1), (66, .slice x.b.A x.b.n x.b.c), (65, .pointer (some ⟨gt, done.length * 7 + 3, none⟩)), (64, .pointer (some ⟨gt, done.length * 7, none⟩)), (63, .pointer (some ⟨gt, done.length * 7, none⟩)), (62, .pointer (some ⟨gt, done.length * 7, none⟩)), (61, .pointer (some ⟨gt, done.length * 7, none⟩)), (60, .pointer (some ⟨gp, fs.length * 4 + 3, none⟩)), (59, .pointer (some ⟨gp, fs.length * 4, none⟩)), (58, .int .i64 (((done.length + 1) : Nat) : Int)), (57, .int .i64 ((done.length : Nat) : Int)), (56, .pointer (some ⟨gp, fs.length * 4 + 3, none⟩)), (55, .pointer (some ⟨gp, fs.length * 4, none⟩)), (54, .pointer (some ⟨gp, fs.length * 4, none⟩)), (7, .pointer (some ⟨gt, done.length * 7, none⟩)), (53, .pointer (some ⟨gt, done.length * 7, none⟩)), (52, .int .i64 ((done.length : Nat) : Int)), (51, .pointer (some ⟨gp, fs.length * 4 + 3, none⟩)), (50, .pointer (some ⟨gp, fs.length * 4, none⟩)), (49, .pointer (some ⟨gp, fs.length * 4, none⟩)), (48, .slice (some ⟨gt, 0, none⟩) f.hs.length cf), (47, .pointer (some ⟨gp, fs.length * 4 + 2, none⟩)), (46, .pointer (some ⟨gp, fs.length * 4, none⟩)), (45, .pointer (some ⟨gp, fs.length * 4, none⟩)), (34, .bool false), (33, .int .i64 ((f.hs.length : Nat) : Int)), (32, .slice (some ⟨gt, 0, none⟩) f.hs.length cf), (31, .pointer (some ⟨gp, fs.length * 4 + 2, none⟩)), (30, .pointer (some ⟨gp, fs.length * 4, none⟩)), (29, .pointer (some ⟨gp, fs.length * 4, none⟩)), (28, .int .i64 ((done.length : Nat) : Int)), (27, .pointer (some ⟨gp, fs.length * 4 + 3, none⟩)), (26, .pointer (some ⟨gp, fs.length * 4, none⟩)), (25, .pointer (some ⟨gp, fs.length * 4, none⟩)), (6, .pointer (some ⟨gp, fs.length * 4, none⟩)), (24, .pointer (some ⟨gp, fs.length * 4, none⟩)), (23, .int .i64 ((fs.length : Nat) : Int)), (22, .int .i64 (((fs ++ [f]).length : Nat) : Int)), (21, .slice (some ⟨gp, 0, none⟩) ((fs ++ [f]).length) cap), (20, .slice (some ⟨gp, 0, none⟩) ((fs ++ [f]).length) cap), (19, .bool true), (18, .int .i64 (((fs ++ [f]).length : Nat) : Int)), (17, .slice (some ⟨gp, 0, none⟩) ((fs ++ [f]).length) cap), (3, .slice A0 xl.n c0), (4, .slice (some ⟨gp, 0, none⟩) ((fs ++ [f]).length) cap), (5, .map (some gm))] ((gx, 53, (Fc.mk (keyOf x.ks) (.slice A9 x.ks.n c9) [] 0 []).cs.toArray) :: (g1, 51, (keyC (keyOf x.ks))) :: (gm, .map (entsJ (E ++ [(keyOf x.ks, Value.slice A9 x.ks.n c9, cl)])) (cl + 1), #[]) :: (gt, 27, ct2) :: (((tl ++ (t1 ++ t2)) ++ t9) ++ t10)) := H
    refine rgO H gs0 (rK [1, 1, 1, 1, 1, 1, 1, 1, 1, 1, 1, 1, 1, 1, 1, 1, 1, 1, 1, 1, 1, 1, 1, 1, 1, 1, 1, 1, 1, 1, 1, 1, 1, 1, 1, 1, 1, 1, 1, 1, 1, 1, 1, 1, 1, 1, 1, 1, 1, 1, 1, 1, 1, 1, 1, 1, 1, 1, 1, 1, 1, 1, 1, 1, 1, 1, 1, 1, 1, 1, 1, 1, 1, 1, 1, 1, 1, 1, 1, 1, 1, 1, 1, 0] [] [] <| rS 1 rfl <| rZ0 ?_)
    try clear H a W
    intro a W H
    refine hK23 _ _ ?_
    clear hK23
    refine rgP H gs0 (rS 2 rfl <| rV rfl (does_nilCheckQ rfl rfl) <| rV rfl (does_fieldAddr rfl rfl fa_kid6) <| rX [0, 0, 0, 1] (c := (setV ct2 (done.length * 7 + 6) [.slice A9 x.ks.n c9])) ⟨rfl, rfl⟩ rfl rfl rfl (st_dersC hx6) rfl <| rZ0 ?_)
    try clear H a W
    intro a W H
    refine blk_normal ?_
    refine ⟨{ x with b := ⟨A1, x.b.n, c1⟩, a := ⟨A2, x.a.n, c2⟩, ks := ⟨A9, x.ks.n, c9⟩ }, [(gt, .ty 27, (setV ct2 (done.length * 7 + 6) [.slice A9 x.ks.n c9]))], ⟨keyOf x.ks, .slice A9 x.ks.n c9, subs, 0, t9⟩, subs, rest ++ (t1 ++ t2), fun p hp => List.mem_append_left _ hp, rfl, rfl, rfl, hsl, hsd, fun r t9' hs2 hr ht hl hO hd => ?_, ?_⟩
    · exact item_dc hk_ hn_ hm_ hbl hal hns.lt hkn2 hO1 hO2 hO hl (fun p hp => hr p (List.mem_append_right _ (List.mem_append_left _ hp))) (fun p hp => hr p (List.mem_append_right _ (List.mem_append_right _ hp))) ht hd
    · refine ⟨fun g hg => ?_, t10, A10, c10, E ++ [(keyOf x.ks, .slice A9 x.ks.n c9, cl)], cl + 1, ?_, above_more (f1 := { f with hs := done ++ { x with b := ⟨A1, x.b.n, c1⟩, a := ⟨A2, x.a.n, c2⟩, ks := ⟨A9, x.ks.n, c9⟩ } :: todo, at_ := done.length + 1, t := [(gt, .ty 27, (setV ct2 (done.length * 7 + 6) [.slice A9 x.ks.n c9]))] }) (f2 := ⟨keyOf x.ks, .slice A9 x.ks.n c9, subs, 0, t9⟩) hAb rfl rfl, ?_⟩
      · rcases List.mem_append.1 hg with hg | hg
        · rcases List.mem_append.1 hg with hg | hg
          · exact hokf g (List.mem_append_left _ hg)
          · rw [List.mem_singleton.1 hg]
            refine ⟨?_, by show (done ++ { x with b := ⟨A1, x.b.n, c1⟩, a := ⟨A2, x.a.n, c2⟩, ks := ⟨A9, x.ks.n, c9⟩ } :: todo).length ≤ 100000; simp only [List.length_append, List.length_cons]; omega⟩
            show OutD 27 7 [(gt, .ty 27, (setV ct2 (done.length * 7 + 6) [.slice A9 x.ks.n c9]))] f.v (done ++ { x with b := ⟨A1, x.b.n, c1⟩, a := ⟨A2, x.a.n, c2⟩, ks := ⟨A9, x.ks.n, c9⟩ } :: todo).length (kidV (done ++ { x with b := ⟨A1, x.b.n, c1⟩, a := ⟨A2, x.a.n, c2⟩, ks := ⟨A9, x.ks.n, c9⟩ } :: todo))
            rw [htf] at hfa
            have h_ := ((hfa.putN (j := done.length * 7 + 3) (u := .slice A1 x.b.n c1)).putN (j := done.length * 7 + 5) (u := .slice A2 x.a.n c2)).putN (j := done.length * 7 + 6) (u := .slice A9 x.ks.n c9)
            rw [hfh, kid_set (x' := { x with b := ⟨A1, x.b.n, c1⟩ }) (by omega) rfl, kid_set (x' := { x with b := ⟨A1, x.b.n, c1⟩, a := ⟨A2, x.a.n, c2⟩ }) (by omega) rfl, kid_set (x' := { x with b := ⟨A1, x.b.n, c1⟩, a := ⟨A2, x.a.n, c2⟩, ks := ⟨A9, x.ks.n, c9⟩ }) (by omega) rfl, ← hct2] at h_
            rw [hvf, hfh, show (done ++ { x with b := ⟨A1, x.b.n, c1⟩, a := ⟨A2, x.a.n, c2⟩, ks := ⟨A9, x.ks.n, c9⟩ } :: todo).length = (done ++ x :: todo).length by simp]
            exact h_
        · rw [List.mem_singleton.1 hg]
          refine ⟨?_, by show subs.length ≤ 100000; omega⟩
          show OutD 27 7 t9 (.slice A9 x.ks.n c9) subs.length (kidV subs)
          rw [show subs.length = x.ks.n by omega]
          exact hO9
      · have e1 : ∀ g1 g2 : Fc, g1.cs = f1.cs → g2.cs = f2.cs → fcV (fs ++ [g1] ++ [g2]) = fcV (fs ++ [f1] ++ [f2]) := fun g1 g2 h1 h2 => by rw [fcV_snoc, fcV_snoc, fcV_snoc (fs ++ [f1]), fcV_snoc, h1, h2]
        rw [e1 _ _ (by rw [hf1]; rfl) (by rw [hf2]; rfl)]
        have e2 : ∀ g1 g2 : Fc, (fs ++ [g1] ++ [g2]).length = (fs ++ [f1] ++ [f2]).length := fun _ _ => by simp
        rw [e2]
        exact hO10
      · have e2 : ∀ g1 g2 : Fc, (fs ++ [g1] ++ [g2]).length = (fs ++ [f1] ++ [f2]).length := fun _ _ => by simp
        rw [e2, fcRows_snoc, fcRows_snoc]
        have H_ : St 109 w a W [(3, .slice A0 xl.n c0), (4, .slice A10 (fs ++ [f1] ++ [f2]).length c10), (5, .map (some gm))] ((gm, .map (entsJ (E ++ [(keyOf x.ks, Value.slice A9 x.ks.n c9, cl)])) (cl + 1), #[]) :: (gt, .ty 27, (setV ct2 (done.length * 7 + 6) [.slice A9 x.ks.n c9])) :: (((fcRows fs ++ (rest ++ [])) ++ (t1 ++ t2)) ++ t9 ++ t10)) := by
          rw [← htl]
          exact H.pickF (h := [(gx, 53, (Fc.mk (keyOf x.ks) (.slice A9 x.ks.n c9) [] 0 []).cs.toArray), (g1, 51, (keyC (keyOf x.ks))), (gm, .map (entsJ (E ++ [(keyOf x.ks, Value.slice A9 x.ks.n c9, cl)])) (cl + 1), #[]), (gt, 27, (setV ct2 (done.length * 7 + 6) [.slice A9 x.ks.n c9]))]) (t := (((tl ++ (t1 ++ t2)) ++ t9) ++ t10)) [87, 4, 88] [2, 3] rfl
        exact H_.perm' (perm_item _ _ _ _ _ _ _ _)
  · have e_ : E = [] := by simpa [Above] using hE
    subst e_
    exact ⟨fun y hy => (by cases hy), fun y hy => (by cases hy)⟩
  · cases hg
  · simp only [List.length_append, List.length_cons, List.length_nil]; omega
  · clear hCS0 H a W
    intro a W hs' t' rest' hr ht hl hO hd hcs
    obtain ⟨hokf, tp, A, cap, E, cl, hOD, hAb, H⟩ := hcs
    refine loopAt_round ?_
    obtain ⟨tl, htl⟩ : ∃ tl : Hep, tl = tp ++ (fcRows [] ++ (rest' ++ [])) := ⟨_, rfl⟩
    rw [← htl] at H
    replace H : St 109 w a W [(3, .slice A0 xl.n c0), (4, .slice A (([] : List Fc).length) cap), (5, .map (some gm))] ((gm, .map (entsJ E) cl, #[]) :: tl) := H
    refine wp_seq_k (fun K27 hK27 => ?_)
    refine sqR H gs0 fun Z_ z_ => rS 1 rfl <| rV rfl (does_len Tryd.underlying54 rfl rfl) <| rV rfl (does_binOp rfl rfl rfl (z_cmp.2.1 (decide_eq_false (by simp)) _ _)) <| rK [1, 0, 0] [] [] <| rN0 z_ ?_
    try clear H a W
    intro a W H
    refine wp_cond_false (H.ev rfl) ?_
    refine wp_exit ?_
    repeat (first | (with_reducible refine then_exit ?_) | (with_reducible refine blk_pass (by decide) ?_))
    refine blk_exit ?_
    refine hK5 _ _ ?_
    clear hK5
    refine sqR H gs0 fun Z_ z_ => rS 2 rfl <| rK [1, 0, 0, 0, 0, 0] [] [] <| rN0 z_ ?_
    try clear H a W
    intro a W H
    refine wp_ret ?_
    repeat (first | (with_reducible refine then_ret ?_) | (with_reducible refine blk_ret ?_))
    refine end_tmp (p := 2) rfl rfl H (fun hb => ?_)
    have e_ : tl = tp ++ rest' := by rw [htl]; simp [fcRows]
    rw [e_] at H
    have hsub : rest'.Sublist ((gm, .map (entsJ E) cl, #[]) :: (tp ++ rest')) := (List.sublist_append_right tp rest').cons _
    rw [List.nil_append] at hO
    rw [hf0] at hO
    exact ⟨A0, c0, hs', t', rest', rfl, hb, ⟨fun p hp => H.heap p (hsub.mem hp), fun p hp => H.own p (hsub.mem hp), H.apart.sublist hsub⟩, ht, hl, hO, hd⟩
end Go.Proofs.YtonhkclkddobhaaDoor
namespace Go.Proofs.YtonhkclkddobhaaDoor
set_option linter.unusedVariables false
set_option linter.unusedSimpArgs false
set_option maxRecDepth 100000
open Go Go.RowKit
theorem run_newB0 (W : World) : (Instr.buildSlice 23 0 #[]).run Tryd.prog W = .ok (.slice (some ⟨W.heap.size, 0, none⟩) 0 0) (W.alloc (.cells #[] 5)) := by kernel_rfl
theorem bd_derB (k : Int) (A : Option Addr) (m c : Nat) (W : World) : (Instr.build 27 [(0, .int .i64 k), (3, .slice A m c)].toArray).run Tryd.prog W = .ok (.agg (DH.mk k false 0 (SL.mk A m c) [] SL.no SL.no).cs) W := by kernel_rfl
theorem sl_isnilB {A : Option Addr} {m c : Nat} {b : Bool} (h : A.isNone = b) (p q : Operand) (W : World) : (do eqGuard .eql 23 p q (.slice A m c) (.slice none 0 0); binOp .eql 23 (.slice A m c) (.slice none 0 0) : Sem Value).run Tryd.prog W = .ok (.bool b) W := by
  subst h
  cases A <;> kernel_rfl
section
variable {n : Nat} {w0 w : World} {a : Act} {e : Env} {h : Hep} {Q : Exit → Act → World → Prop} {ops : Array Oper} {rest : List Oper} {o o2 o3 : Oper}
/-- A copy of bytes. -/
theorem pl_cloneB {d d2 d3 : Nat} {y : Operand} {v : Value} {l : List UInt8} (ho : o.op = .buildSlice 23 0 #[]) (hg : o.guard = none) (hd : o.dst = some d) (ho2 : o2.op = .move y) (hg2 : o2.guard = none) (hd2 : o2.dst = some d2) (ho3 : o3.op = .call { callee := .builtin .append, args := #[.tmp d, .tmp d2], argTypes := #[23, 23] }) (hg3 : o3.guard = none) (hd3 : o3.dst = some d3)
    (hy : ∀ u, sev ((d, u) :: e) y = some v) (hv : BF l v w) (hs : l.length ≤ 900000) (hl : Nat.blt d n = true) (hl2 : Nat.blt d2 n = true) (hl3 : Nat.blt d3 n = true) (hne : Nat.beq d d2 = false ∧ Nat.beq d2 d3 = false ∧ Nat.beq d d3 = false) (hf : e.all (fun p => !Nat.beq p.1 d) = true) (hf2 : e.all (fun p => !Nat.beq p.1 d2) = true) (hf3 : e.all (fun p => !Nat.beq p.1 d3) = true) (H : St n w0 a w e h)
    (next : ∀ A c t a w', OutD 5 1 t (.slice A l.length c) l.length (l.map bv) → St n w0 a w' ((d3, .slice A l.length c) :: e) (h ++ t) → wpList Tryd.prog ops Q rest a w') : wpList Tryd.prog ops Q (o :: o2 :: o3 :: rest) a w :=
  wpList_plain hg fun K hK => by
    have e1 : (execOp a.eval o).run Tryd.prog w = .ok (.value (.slice (some ⟨w.heap.size, 0, none⟩) 0 0)) (w.alloc (.cells #[] 5)) := by
      simp [execOp, ho, run_newB0, Result.andThen]
    have hb1 : Below w.heap.size w (w.alloc (.cells #[] 5)) := (Below.refl _ _).alloc (Nat.le_refl _) _
    have B1 : Blk (w.alloc (.cells #[] 5)) w.heap.size 5 #[] := Blk.new _ _ _
    have H1 : St n w0 (a.put (some d) (.slice (some ⟨w.heap.size, 0, none⟩) 0 0)) (w.alloc (.cells #[] 5)) ((d, .slice (some ⟨w.heap.size, 0, none⟩) 0 0) :: e) h := (H.call hb1).put _ hl hf
    have hv1 : BF l v (w.alloc (.cells #[] 5)) := Lasts.lasts (F := BF l v) _ _ hv hb1
    have hown : (w.alloc (.cells #[] 5)).ownsRow w.heap.size 5 1 (.slice (some ⟨w.heap.size, 0, none⟩) 0 0) 0 [] := ⟨rfl, .inr ⟨w.heap.size, 0, #[], rfl, Nat.le_refl _, B1, Nat.le_refl _, Nat.zero_le _, rfl, rfl⟩⟩
    unfold Oper.wp
    rw [e1]
    refine hK _ _ ?_
    rw [hd]
    generalize w.alloc (.cells #[] 5) = w1 at *
    refine wpList_plain hg2 fun K hK => ?_
    have e2 : (execOp (a.put (some d) (.slice (some ⟨w.heap.size, 0, none⟩) 0 0)).eval o2).run Tryd.prog w1 = .ok (.value v) w1 := by
      simp [execOp, ho2, H1.ev (hy _)]
    unfold Oper.wp
    rw [e2]
    refine hK _ _ ?_
    rw [hd2]
    have H2 := H1.put (d := d2) v hl2 (by simp only [List.all_cons, hf2, Bool.and_true, Bool.not_eq_true']; exact hne.1)
    refine wpList_plain hg3 fun K hK => ?_
    obtain ⟨A, k, c, rfl, hr⟩ := hv1
    have hk := hr.len
    subst hk
    obtain ⟨v', w', h1, h2, h3, h4⟩ := run_app_own (P := Tryd.prog) (w := w1) 23 o3.type 5 Tryd.underlying23 u8_info w.heap.size (.slice (some ⟨w.heap.size, 0, none⟩) 0 0) [] hown _ l.length c A l hr (by simp only [List.length_nil]; omega) hb1.size
    have hown2 : w'.ownsRow w.heap.size 5 1 v' l.length (l.map bv) := by simpa [OwnB] using h2
    have h3' : Below w.heap.size w w' := hb1.grown h3 hb1.size (fun j hj => by
      injection hj with hj
      rw [← hj]
      exact Nat.le_refl _)
    obtain ⟨t, ht, H'⟩ := own_told (B := 0) H h3' hown2
    obtain ⟨A', c', rfl, _⟩ := ht.form
    have x1 := H2.ev (x := .tmp d) (v := .slice (some ⟨w.heap.size, 0, none⟩) 0 0) (by
      have h_ : Nat.beq d2 d = false := by
        cases hq_ : Nat.beq d2 d with
        | false => rfl
        | true =>
          have e_ := Nat.eq_of_beq_eq_true hq_
          have h1_ := hne.1
          rw [e_, Nat.beq_refl] at h1_
          cases h1_
      simp [sev, look, h_])
    have x2 := H2.ev (x := .tmp d2) (v := .slice A l.length c) (by simp [sev, look])
    unfold Oper.wp
    simp [execOp, ho3, resolve, invoke, builtin, x1, x2, h1, Result.andThen]
    refine hK _ _ (next A' c' t _ _ ht ?_)
    rw [hd3]
    have H3 : St n w0 _ w' ((d2, .slice A l.length c) :: (d, .slice (some ⟨w.heap.size, 0, none⟩) 0 0) :: e) (h ++ t) := (H'.put (d := d) (.slice (some ⟨w.heap.size, 0, none⟩) 0 0) hl hf).put (d := d2) (.slice A l.length c) hl2 (by simp only [List.all_cons, hf2, Bool.and_true, Bool.not_eq_true']; exact hne.1)
    have H4 := H3.put (d := d3) (.slice A' l.length c') hl3 (by simp only [List.all_cons, hf3, Bool.and_true, Bool.and_eq_true, Bool.not_eq_true']; exact ⟨hne.2.1, hne.2.2⟩)
    exact H4.sub (fun p hp => by
      rcases List.mem_cons.1 hp with rfl | hp
      · exact List.mem_cons_self
      · exact List.mem_cons_of_mem _ (List.mem_cons_of_mem _ (List.mem_cons_of_mem _ hp))) (fun _ h => h) H4.apart
end
attribute [local irreducible] bvs byteD rb
set_option maxHeartbeats 4000000 in
theorem cloneO_walk {Ab : Option Addr} {nb cb : Nat} {lb : List UInt8} (w : World) (hbb : BS w w.heap.size Ab nb cb lb) (hlb : lb.length ≤ 900000) : Calls Tryd.prog 14 #[.slice Ab nb cb] w (fun rr w' => ∃ v, rr = .returned v ∧ Below w.heap.size w w' ∧ w'.ownsRow w.heap.size 5 1 v lb.length (lb.map bv)) := by
  have hFb : BF lb (.slice Ab nb cb) w := ⟨_, _, _, rfl, hbb⟩
  refine calls_st (vs := [.slice Ab nb cb]) 8 Tryd.func14 rfl Tryd.ntmps14 rfl (fun a W H => ?_)
  replace H : St 8 w a W [(0, .slice Ab nb cb)] [] := H
  refine sqR H gs0 fun Z_ z_ => rS 1 rfl <| rN0 z_ ?_
  try clear H a W
  intro a W H
  refine wp_seq_k (fun K2 hK2 => ?_)
  refine sqR H gs0 fun Z_ z_ => rS 1 rfl <| rV rfl (does_binOp rfl rfl rfl (sl_isnilB rfl _ _)) <| rK [1, 0] [] [] <| rN0 z_ ?_
  try clear H a W
  intro a W H
  cases hq1 : Ab.isNone with
  | true =>
    rw [hq1] at H
    refine wp_cond_true (H.ev rfl) ?_
    refine sqR H gs0 fun Z_ z_ => rK [1, 0] [] [] <| rS 1 rfl <| rK [1, 0] [] [] <| rN0 z_ ?_
    try clear H a W
    intro a W H
    refine wp_ret ?_
    repeat (first | (with_reducible refine then_ret ?_) | (with_reducible refine blk_ret ?_))
    refine end_tmp (p := 2) rfl rfl H (fun hb => ?_)
    have hA_ : Ab = none := Option.isNone_iff_eq_none.1 hq1
    have h0_ : lb = [] := List.eq_nil_of_length_eq_zero (by have := hbb.nil_ hA_; have := hbb.cap; have := hbb.len; omega)
    refine ⟨_, rfl, hb, ?_⟩
    rw [h0_]
    exact World.ownsRow_nil _ _ _ _
  | false =>
    rw [hq1] at H
    refine wp_cond_false (H.ev rfl) ?_
    refine wp_skip ?_
    refine hK2 _ _ ?_
    clear hK2
    refine wp_seq_k (fun K5 hK5 => ?_)
    refine rg_plain ?_
    refine pl_cloneB rfl rfl rfl rfl rfl rfl rfl rfl rfl (fun _ => rfl) (bf_old hFb H) (by omega) rfl rfl rfl ⟨rfl, rfl, rfl⟩ rfl rfl rfl H ?_
    try clear H a W
    intro A8 c8 t8 a W hO H
    replace H : St 8 w a W [(7, .slice A8 lb.length c8), (4, .bool false), (2, .slice none 0 0), (0, .slice Ab nb cb)] (t8) := H
    refine rgO H gs0 (rK [1, 1, 0] [] [] <| rS 1 rfl <| rK [1, 0, 0, 0] [] [] <| rZ0 ?_)
    try clear H a W
    intro a W H
    refine hK5 _ _ ?_
    clear hK5
    refine wp_ret ?_
    repeat (first | (with_reducible refine then_ret ?_) | (with_reducible refine blk_ret ?_))
    refine end_tmp (p := 2) rfl rfl H (fun hb => ?_)
    exact ⟨_, rfl, hb, hO.owns (h := []) H⟩
theorem cloneB_any {v : Value} {l : List UInt8} (w : World) (hv : BF l v w) (hl : l.length ≤ 900000) : Calls Tryd.prog 14 #[v] w (fun rr w' => ∃ v, rr = .returned v ∧ Below w.heap.size w w' ∧ w'.ownsRow w.heap.size 5 1 v l.length (l.map bv)) := by
  obtain ⟨A, n, c, rfl, h⟩ := hv
  exact cloneO_walk w h hl
set_option maxHeartbeats 4000000 in
theorem deroct_walk {v0 : Value} {lb : List UInt8} (w : World) (hFv : BF lb v0 w) (hlb : lb.length ≤ 900000) : Calls Tryd.prog 6 #[v0] w (fun rr w' => ∃ v t, rr = .returned v ∧ Below w.heap.size w w' ∧ NR w.heap.size t w' ∧ ∃ x : DH, v = .agg x.cs ∧ DC (TN t) (.mk 4 false 0 lb [] [] []) x) := by
  refine calls_st (vs := [v0]) 6 Tryd.func6 rfl Tryd.ntmps6 rfl (fun a W H => ?_)
  replace H : St 6 w a W [(0, v0)] [] := H
  refine sqR H gs0 fun Z_ z_ => rA rfl rfl al_der fun g1 => rN0 z_ ?_
  try clear H a W
  intro a W H
  refine wp_seq_k (fun K2 hK2 => ?_)
  refine rgP H gs0 (rS 1 rfl <| rI0 ?_)
  try clear H a W
  intro a W H
  refine pl_callOwn rfl ⟨_, Tryd.func14, by kernel_rfl⟩ rfl (cloneB_any _ (hFv.below H.below) hlb) rfl rfl rfl rfl H ?_
  try clear H a W
  intro v9 t9 a W hO H
  obtain ⟨A9, c9, rfl, hc9_⟩ := hO.form
  replace H : St 6 w a W [(4, .slice A9 lb.length c9), (3, v0), (2, .pointer (some ⟨g1, 0, none⟩)), (0, v0)] ((g1, 27, DH.no.cs) :: t9) := H
  refine rgO H gs0 (rV rfl (does_build rfl rfl (bd_derB 4 _ _ _)) <| rW [1] ⟨rfl, rfl⟩ rfl rfl rfl (info_der (DH.mk 4 false 0 (SL.mk A9 lb.length c9) [] SL.no SL.no)) (size_der DH.no (DH.mk 4 false 0 (SL.mk A9 lb.length c9) [] SL.no SL.no)) (DH.mk 4 false 0 (SL.mk A9 lb.length c9) [] SL.no SL.no).one <| rK [0, 0, 0, 1, 0] [] [] <| rZ0 ?_)
  try clear H a W
  intro a W H
  refine hK2 _ _ ?_
  clear hK2
  refine wp_ret ?_
  repeat (first | (with_reducible refine then_ret ?_) | (with_reducible refine blk_ret ?_))
  refine end_cell (p := 2) rfl rfl (k := 0) rfl Tryd.underlying27 rfl (info_der _) H (fun hb => ?_)
  have H2 : St 6 w a W [(2, .pointer (some ⟨g1, 0, none⟩))] ([(g1, .ty 27, (DH.mk 4 false 0 (SL.mk A9 lb.length c9) [] SL.no SL.no).cs)] ++ t9) := H
  exact ⟨_, t9, rfl, hb, H2.nr, (DH.mk 4 false 0 (SL.mk A9 lb.length c9) [] SL.no SL.no), rfl, dc_B (by decide) (by decide) (by omega) hO⟩
end Go.Proofs.YtonhkclkddobhaaDoor
namespace Go.Proofs.YtonhkclkddobhaaDoor
set_option linter.unusedVariables false
set_option linter.unusedSimpArgs false
set_option maxRecDepth 100000
open Go Go.RowKit
def octT (l : List UInt8) : DT := .mk 4 false 0 l [] [] []
/-- A list of values. -/
def LVS (Ts : List DT) (v : Value) (w : World) : Prop := ∃ sl : SL, v = .slice sl.A sl.n sl.c ∧ LV w sl Ts
instance {Ts : List DT} {v : Value} : Lasts (LVS Ts v) := ⟨fun w w' ⟨sl, e, h⟩ hb => ⟨sl, e, h.lasts hb⟩⟩
theorem lvs_nil (w : World) : LVS [] (.slice none 0 0) w := ⟨⟨none, 0, 0⟩, rfl, rfl, Nat.le_refl _, by decide, fun _ => DH.no, fun h => absurd h (by decide), fun i T h => by simp at h⟩
theorem lvs_blk {w : World} {g : Nat} {xs : List DH} {Ts : List DT} {cs : Array Value} (hc : cs = (kidV xs).toArray) (hb : Blk w g 27 cs) (hl : Ts.length = xs.length) (hmax : xs.length ≤ 1000) (hd : ∀ (i : Nat) (U : DT) (y : DH), Ts[i]? = some U → xs[i]? = some y → DY w U y) : LVS Ts (.slice (some ⟨g, 0, none⟩) xs.length xs.length) w := by
  refine ⟨⟨some ⟨g, 0, none⟩, xs.length, xs.length⟩, rfl, hl, Nat.le_refl _, by show xs.length < _; omega, fun i => xs.getD i DH.no, fun h0 => ⟨g, 0, rfl, ⟨cs, 27, hb⟩, fun i hi j u hu => ?_⟩, fun i U hU => ?_⟩
  · have hi : i < xs.length := hi
    dsimp only at hu
    rw [List.getD_eq_getElem?_getD, List.getElem?_eq_getElem hi] at hu
    rw [Nat.zero_add, hb.cell, hc, List.getElem?_toArray]
    exact kidV_get (List.getElem?_eq_getElem hi) hu
  · have hlt : i < xs.length := by have := (List.getElem?_eq_some_iff.1 hU).1; omega
    dsimp only
    rw [List.getD_eq_getElem?_getD, List.getElem?_eq_getElem hlt]
    exact hd i U _ hU (List.getElem?_eq_getElem hlt)
theorem bd_derL (A : Option Addr) (m c : Nat) (W : World) : (Instr.build 27 [(0, .int .i64 7), (6, .slice A m c)].toArray).run Tryd.prog W = .ok (.agg (DH.mk 7 false 0 SL.no [] SL.no (SL.mk A m c)).cs) W := by kernel_rfl
theorem dc_seq {A : Option Addr} {c n : Nat} {t r : Hep} {hs : List DH} {Ts : List DT} (hO : OutD 27 7 t (.slice A n c) hs.length (kidV hs)) (hn : Ts.length = n) (hmax : n < 9223372036854775808) (ht : ∀ p ∈ t, p ∈ r) (hl : hs.length = Ts.length) (hd : ∀ (i : Nat) (U : DT) (y : DH), Ts[i]? = some U → hs[i]? = some y → DC (TN r) U y) : DC (TN r) (seqT Ts) (DH.mk 7 false 0 SL.no [] SL.no (SL.mk A n c)) := by
  rw [show hs.length = n by omega] at hO
  obtain ⟨k1, k2, k3⟩ := out_cells hO ht
  refine DC.mk (x := DH.mk 7 false 0 SL.no [] SL.no (SL.mk A n c)) (fun i => hs.getD i DH.no) (by show -9223372036854775808 ≤ (7 : Int) ∧ (7 : Int) < _; omega) (by show -9223372036854775808 ≤ (0 : Int) ∧ (0 : Int) < _; omega) ⟨by show 0 < _; omega, by show 0 < _; omega, by show 0 < _; omega, hmax⟩ rfl (Nat.le_refl _) (fun _ => rfl) (fun h => absurd (show 0 < 0 from h) (by decide)) rfl (Nat.le_refl _) (fun _ => rfl) (fun y hy => by cases hy) (fun h => absurd (show 0 < 0 from h) (by decide)) hn k1 (fun h0 => ?_) (fun i U hU => ?_)
  · obtain ⟨g, o, e, hc⟩ := k3 h0
    refine ⟨g, o, e, fun i hi j u hu => ?_⟩
    have hi : i < n := hi
    have hlt : i < hs.length := by omega
    rw [Nat.add_assoc]
    refine hc _ _ (kidV_get (List.getElem?_eq_getElem hlt) ?_)
    rw [List.getD_eq_getElem?_getD, List.getElem?_eq_getElem hlt] at hu
    exact hu
  · have hlt : i < hs.length := by have := (List.getElem?_eq_some_iff.1 hU).1; omega
    rw [List.getD_eq_getElem?_getD, List.getElem?_eq_getElem hlt]
    exact hd i U _ hU (List.getElem?_eq_getElem hlt)
section
variable {P : Program} {n : Nat} {w0 w w' : World} {a : Act} {e : Env} {h : Hep} {Q : Exit → Act → World → Prop} {ops : Array Oper} {rest : List Oper} {o : Oper}
/-- A call whose new rows are told from now on. -/
theorem pl_callNew {ι : Type} {vf : ι → Value} {tf : ι → Hep} {F : ι → Prop} {d : Nat} {f : FuncId} {args : List Operand} {tys : Array TypeId} {vs : List Value} (ho : o.op = .call { callee := .value (.func f), args := args.toArray, argTypes := tys }) (hf : Ours P f) (hx : sevs e args = some vs)
    (hc : Calls P f vs.toArray w (fun r W' => ∃ i, r = .returned (vf i) ∧ Below w.heap.size w W' ∧ NR w.heap.size (tf i) W' ∧ F i)) (hg : o.guard = none) (hdst : o.dst = some d) (hl : Nat.blt d n = true) (hfr : e.all (fun p => !Nat.beq p.1 d) = true) (H : St n w0 a w e h)
    (next : ∀ i a w, F i → St n w0 a w ((d, vf i) :: e) (h ++ tf i) → wpList P ops Q rest a w) : wpList P ops Q (o :: rest) a w :=
  wpList_plain hg fun K hK => by
    unfold Oper.wp
    rw [run_call ho hf rfl, H.evs hx, Oper.upon_enter]
    refine hc.mono ?_
    rintro r W' ⟨i, rfl, hb, hn, hF⟩
    refine hK _ _ (next i _ _ hF ?_)
    rw [hdst]
    exact (H.news hb hn).put _ hl hfr
end
/-- What is told of a call that answers a value with rows of its own. -/
def MadeY (f : FuncId) (vs : Array Value) (T : DT) (w : World) : Prop := Calls Tryd.prog f vs w (fun rr w' => ∃ i : DH × Hep, rr = .returned (.agg i.1.cs) ∧ Below w.heap.size w w' ∧ NR w.heap.size i.2 w' ∧ DC (TN i.2) T i.1)
theorem MadeY.dyf {f : FuncId} {vs : Array Value} {T : DT} {w : World} (h : MadeY f vs T w) : Calls Tryd.prog f vs w (fun rr w' => ∃ t, rr = .returned t ∧ Below w.heap.size w w' ∧ DYF T t w') := by
  unfold MadeY at h
  refine h.mono ?_
  rintro rr W ⟨⟨x, t⟩, rfl, hb, hn, hd⟩
  exact ⟨_, rfl, hb, x, rfl, hd.dy fun g k v hc => hc.plain hn.heap⟩
attribute [local irreducible] bvs byteD rb
set_option maxHeartbeats 4000000 in
theorem seq_walk {xl : SL} {Ts : List DT} (w : World) (hx : LV w xl Ts) (hsm : ∀ T ∈ Ts, SmT T) (hN : nodesL Ts ≤ 9000) : Calls Tryd.prog 4 #[.slice xl.A xl.n xl.c] w (fun rr w' => ∃ i : DH × Hep, rr = .returned (.agg i.1.cs) ∧ Below w.heap.size w w' ∧ NR w.heap.size i.2 w' ∧ DC (TN i.2) (seqT Ts) i.1) := by
  refine calls_st (vs := [.slice xl.A xl.n xl.c]) 6 Tryd.func4 rfl Tryd.ntmps4 rfl (fun a W H => ?_)
  replace H : St 6 w a W [(0, .slice xl.A xl.n xl.c)] [] := H
  refine sqR H gs0 fun Z_ z_ => rA rfl rfl al_der fun g1 => rN0 z_ ?_
  try clear H a W
  intro a W H
  refine wp_seq_k (fun K2 hK2 => ?_)
  refine rgP H gs0 (rS 1 rfl <| rI0 ?_)
  try clear H a W
  intro a W H
  refine pl_callNew (ι := Option Addr × Nat × List DH × Hep × Hep) (vf := fun i => .slice i.1 xl.n i.2.1) (tf := fun i => i.2.2.2.2) (F := fun i => (∀ p ∈ i.2.2.2.1, p ∈ i.2.2.2.2) ∧ i.2.2.1.length = Ts.length ∧ OutD 27 7 i.2.2.2.1 (.slice i.1 xl.n i.2.1) i.2.2.1.length (kidV i.2.2.1) ∧ ∀ (j : Nat) (U : DT) (y : DH), Ts[j]? = some U → i.2.2.1[j]? = some y → DC (TN i.2.2.2.2) U y) rfl ⟨_, Tryd.func11, by kernel_rfl⟩ rfl ((copied_walk _ (hx.lasts H.below) hsm hN).mono fun rr_ w_ ⟨A_, c_, hs_, t_, r_, e_, hb_, hn_, h_⟩ => ⟨⟨A_, c_, hs_, t_, r_⟩, e_, hb_, hn_, h_⟩) rfl rfl rfl rfl H ?_
  try clear H a W
  rintro ⟨A9, c9, hs9, t9, r9⟩ a W ⟨ht9, hl9, hO9, hd9⟩ H
  dsimp only at ht9 hl9 hO9 hd9 H
  replace H : St 6 w a W [(4, .slice A9 xl.n c9), (3, .slice xl.A xl.n xl.c), (2, .pointer (some ⟨g1, 0, none⟩)), (0, .slice xl.A xl.n xl.c)] ((g1, 27, DH.no.cs) :: r9) := H
  refine rgO H gs0 (rV rfl (does_build rfl rfl (bd_derL _ _ _)) <| rW [1] ⟨rfl, rfl⟩ rfl rfl rfl (info_der (DH.mk 7 false 0 SL.no [] SL.no (SL.mk A9 xl.n c9))) (size_der DH.no (DH.mk 7 false 0 SL.no [] SL.no (SL.mk A9 xl.n c9))) (DH.mk 7 false 0 SL.no [] SL.no (SL.mk A9 xl.n c9)).one <| rK [0, 0, 0, 1, 0] [] [] <| rZ0 ?_)
  try clear H a W
  intro a W H
  refine hK2 _ _ ?_
  clear hK2
  refine wp_ret ?_
  repeat (first | (with_reducible refine then_ret ?_) | (with_reducible refine blk_ret ?_))
  refine end_cell (p := 2) rfl rfl (k := 0) rfl Tryd.underlying27 rfl (info_der _) H (fun hb => ?_)
  have H2 : St 6 w a W [(2, .pointer (some ⟨g1, 0, none⟩))] ([(g1, .ty 27, (DH.mk 7 false 0 SL.no [] SL.no (SL.mk A9 xl.n c9)).cs)] ++ r9) := H
  exact ⟨((DH.mk 7 false 0 SL.no [] SL.no (SL.mk A9 xl.n c9)), r9), rfl, hb, H2.nr, dc_seq hO9 hx.len hx.max ht9 hl9 hd9⟩
theorem seq_made {Ts : List DT} {v : Value} (w : World) (hv : LVS Ts v w) (hsm : ∀ T ∈ Ts, SmT T) (hN : nodesL Ts ≤ 9000) : MadeY 4 #[v] (seqT Ts) w := by
  obtain ⟨sl, rfl, h⟩ := hv
  exact seq_walk w h hsm hN
theorem oct_made {l : List UInt8} {v : Value} (w : World) (hv : BF l v w) (hl : l.length ≤ 900000) : MadeY 6 #[v] (octT l) w := by
  unfold MadeY
  refine (deroct_walk w hv hl).mono ?_
  rintro rr W ⟨v, t, rfl, hb, hn, x, rfl, hd⟩
  exact ⟨(x, t), rfl, hb, hn, hd⟩
theorem oid_dyf {l : List Nat} {v : Value} (w : World) (hv : NSF l v w) (hl : l.length ≤ 100000) : Calls Tryd.prog 8 #[v] w (fun rr w' => ∃ t, rr = .returned t ∧ Below w.heap.size w w' ∧ DYF (oidT l) t w') := by
  refine (deroid_walk w hv hl).mono ?_
  rintro rr W ⟨t, rfl, hb, x, rfl, hd⟩
  exact ⟨_, rfl, hb, x, rfl, DY.leaf hd⟩
/-- A value's bytes, in every world behind w. -/
def DKY (u8 : List UInt8 → Bool) (w : World) : Prop := ∀ W, Below w.heap.size w W → ∀ {x : DH} {T : DT}, DY W T x → nodesD T ≤ 1000000 → leafOk 12 T → BytesOk 5 u8 T (.agg x.cs) W
theorem dky_is {u8 : List UInt8 → Bool} {w : World} (hu8 : UV u8 w) (hpg : PGt w) : DKY u8 w := fun W hb {x T} hx hN hl => derbytes_walk u8 W (hu8.ext hb) (hpg.ext hb) hx hN hl
theorem DKY.ext {u8 : List UInt8 → Bool} {w W : World} (h : DKY u8 w) (hb : Below w.heap.size w W) : DKY u8 W := fun W2 hb2 {x T} hx hN hl => h W2 (hb.trans (hb2.mono hb.size)) hx hN hl
end Go.Proofs.YtonhkclkddobhaaDoor
namespace Go.Proofs.YtonhkclkddobhaaDoor
set_option linter.unusedVariables false
set_option linter.unusedSimpArgs false
set_option maxRecDepth 100000
open Go Go.RowKit
theorem bytes_zero {u8 : List UInt8 → Bool} {T : DT} (h : bytesE u8 T = 0) : mayD u8 12 T = true ∧ (packD 12 T).length ≤ 65000 ∧ bytesB u8 T = packD 12 T := by
  have hm : mayD u8 12 T = true := by
    cases e : mayD u8 12 T with
    | true => rfl
    | false => have := (bytes_is.1 e).1; omega
  have hl : (packD 12 T).length ≤ 65000 := by
    by_cases hl : 65000 < (packD 12 T).length
    · have := (bytes_is.2.1 hm hl).1
      omega
    · omega
  exact ⟨hm, hl, (bytes_is.2.2 hm hl).2⟩
theorem bytesB_le (u8 : List UInt8 → Bool) (T : DT) : (bytesB u8 T).length ≤ 65000 := by
  by_cases h : bytesE u8 T = 0
  · obtain ⟨_, h1, h2⟩ := bytes_zero h
    rw [h2]
    exact h1
  · unfold bytesB
    rw [if_neg h]
    simp
theorem bytes_okY {u8 : List UInt8 → Bool} {T : DT} (h : bytesE u8 T = 0) : okD u8 (bytesB u8 T) = true ∧ ofT u8 (bytesB u8 T) = T := by
  obtain ⟨h1, h2, h3⟩ := bytes_zero h
  unfold okD ofT
  rw [h3, of_pack h1 h2]
  exact ⟨rfl, rfl⟩
def nestT : Nat → DT
  | 0 => seqT []
  | k + 1 => seqT [nestT k]
theorem oct_may (u8 : List UInt8 → Bool) (l : List UInt8) : mayD u8 12 (octT l) = true := by cases l <;> rfl
theorem oct_pack (l : List UInt8) : packD 12 (octT l) = headD 4 l := by
  show headD 4 (l ++ []) = _
  rw [List.append_nil]
theorem oct_len {l : List UInt8} (h : 256 ≤ l.length) : (packD 12 (octT l)).length = l.length + 4 := by
  rw [oct_pack, head_len]
  unfold lenD
  rw [if_neg (by omega), if_neg (by omega)]
  simp only [List.length_cons, List.length_nil]
  omega
theorem oct_yes (u8 : List UInt8 → Bool) {l : List UInt8} (h : l.length = 64996) : bytesE u8 (octT l) = 0 ∧ (bytesB u8 (octT l)).length = 65000 := by
  have hl := oct_len (l := l) (by omega)
  obtain ⟨h1, h2⟩ := bytes_is.2.2 (oct_may u8 l) (by omega)
  exact ⟨h1, by rw [h2]; omega⟩
theorem oct_no (u8 : List UInt8 → Bool) {l : List UInt8} (h : l.length = 64997) : bytesE u8 (octT l) = 3 :=
  (bytes_is.2.1 (oct_may u8 l) (by have hl := oct_len (l := l) (by omega); omega)).1
theorem big_may (u8 : List UInt8 → Bool) (l : List UInt8) : mayD u8 12 (seqT [octT l, octT l, octT l]) = true := by cases l <;> rfl
theorem big_len (u8 : List UInt8 → Bool) {l : List UInt8} (h : l.length = 60000) : 180000 ≤ (packD 12 (seqT [octT l, octT l, octT l])).length ∧ (packD 12 (seqT [octT l, octT l, octT l])).length ≤ 190000 := by
  have h1 := oct_len (l := l) (by omega)
  have e : ([octT l, octT l, octT l].flatMap (packD 12)).length = 180012 := by
    simp only [List.flatMap_cons, List.flatMap_nil, List.length_append, List.length_nil]
    omega
  rw [seq_pack u8 (big_may u8 l)]
  have h2 := head_le 48 ([octT l, octT l, octT l].flatMap (packD 12))
  refine ⟨?_, by omega⟩
  rw [head_len]
  omega
theorem big_no (u8 : List UInt8 → Bool) {l : List UInt8} (h : l.length = 60000) : bytesE u8 (seqT [octT l, octT l, octT l]) = 3 :=
  (bytes_is.2.1 (big_may u8 l) (by have hl := big_len u8 h; omega)).1
theorem nest_may (u8 : List UInt8 → Bool) : mayD u8 12 (nestT 11) = true := by kernel_rfl
theorem nest_no (u8 : List UInt8 → Bool) : mayD u8 12 (seqT [nestT 11]) = false := by kernel_rfl
theorem nest_len : (packD 12 (nestT 11)).length = 24 := by kernel_rfl
theorem nest_is (u8 : List UInt8 → Bool) : bytesE u8 (nestT 11) = 0 ∧ bytesE u8 (seqT [nestT 11]) = 2 :=
  ⟨(bytes_is.2.2 (nest_may u8) (by rw [nest_len]; omega)).1, (bytes_is.1 (nest_no u8)).1⟩
theorem oid_le (u8 : List UInt8 → Bool) {l : List Nat} (h : 590 ≤ bigD (oidT l) 600) (hm : mayD u8 12 (oidT l) = true) : (packD 12 (oidT l)).length ≤ 65000 := by
  have := big_pack u8 12 (oidT l) 600 (by omega) (by omega) hm
  omega
theorem oidB_1 (u8 : List UInt8 → Bool) : mayD u8 12 (oidT [1, 39, 2147483647]) = true := by kernel_rfl
theorem oidB_2 (u8 : List UInt8 → Bool) : mayD u8 12 (oidT [1, 40]) = false := by kernel_rfl
theorem oidB_3 (u8 : List UInt8 → Bool) : mayD u8 12 (oidT [2, 2147483647]) = true := by kernel_rfl
theorem oidB_4 (u8 : List UInt8 → Bool) : mayD u8 12 (oidT [3, 1]) = false := by kernel_rfl
theorem oidB_5 (u8 : List UInt8 → Bool) : mayD u8 12 (oidT [2, 2147483648]) = false := by kernel_rfl
theorem big_o1 : bigD (oidT [1, 39, 2147483647]) 600 = 596 := by
  unfold oidT
  rw [bigD]
  rfl
theorem big_o3 : bigD (oidT [2, 2147483647]) 600 = 597 := by
  unfold oidT
  rw [bigD]
  rfl
theorem oids_are (u8 : List UInt8 → Bool) : bytesE u8 (oidT [1, 39, 2147483647]) = 0 ∧ bytesE u8 (oidT [1, 40]) = 2 ∧ bytesE u8 (oidT [2, 2147483647]) = 0 ∧ bytesE u8 (oidT [3, 1]) = 2 ∧ bytesE u8 (oidT [2, 2147483648]) = 2 :=
  ⟨(bytes_is.2.2 (oidB_1 u8) (oid_le u8 (by rw [big_o1]; omega) (oidB_1 u8))).1, (bytes_is.1 (oidB_2 u8)).1, (bytes_is.2.2 (oidB_3 u8) (oid_le u8 (by rw [big_o3]; omega) (oidB_3 u8))).1, (bytes_is.1 (oidB_4 u8)).1, (bytes_is.1 (oidB_5 u8)).1⟩
theorem nest_0 : nestT 0 = seqT [] := rfl
theorem nest_s (k : Nat) : nestT (k + 1) = seqT [nestT k] := rfl
theorem sm_seq {Ts : List DT} (h : ∀ T ∈ Ts, SmT T) : SmT (seqT Ts) := .mk (Nat.zero_le _) (Nat.zero_le _) h
theorem sm_nest : ∀ k : Nat, SmT (nestT k)
  | 0 => sm_seq fun T h => by cases h
  | k + 1 => sm_seq fun T h => by rw [List.mem_singleton.1 h]; exact sm_nest k
theorem sm_oct {l : List UInt8} (h : l.length ≤ 100000) : SmT (octT l) := .mk h (Nat.zero_le _) (fun T h => by cases h)
theorem nodes_seq (Ts : List DT) : nodesD (seqT Ts) = 1 + nodesL Ts := nodes_eq _
theorem nodes_nest : ∀ k : Nat, nodesD (nestT k) = k + 1
  | 0 => by rw [nest_0, nodes_seq, nodesL_nil]
  | k + 1 => by rw [nest_s, nodes_seq, nodesL_one, nodes_nest k]; omega
theorem nodes_oct (l : List UInt8) : nodesD (octT l) = 1 := by
  rw [nodes_eq]
  show 1 + nodesL [] = 1
  rw [nodesL_nil]
theorem nodes_oid (l : List Nat) : nodesD (oidT l) = 1 := by
  rw [nodes_eq]
  show 1 + nodesL [] = 1
  rw [nodesL_nil]
theorem nodes_3 (T : DT) : nodesL [T, T, T] = 3 * nodesD T := by
  show nodesD T + (nodesD T + (nodesD T + 0)) = _
  omega
theorem leaf_seq {d : Nat} {Ts : List DT} (h : ∀ T ∈ Ts, leafOk d T) : leafOk (d + 1) (seqT Ts) := ⟨Nat.zero_le _, Nat.zero_le _, h⟩
theorem leaf_nest : ∀ (d k : Nat), leafOk d (nestT k)
  | 0, _ => trivial
  | d + 1, 0 => leaf_seq fun T h => by cases h
  | d + 1, k + 1 => leaf_seq fun T h => by rw [List.mem_singleton.1 h]; exact leaf_nest d k
theorem leaf_oct {d : Nat} {l : List UInt8} (h : l.length ≤ 100000) : leafOk (d + 1) (octT l) := ⟨h, Nat.zero_le _, fun T h => by cases h⟩
theorem leaf_oid {d : Nat} {l : List Nat} : leafOk (d + 1) (oidT l) := ⟨Nat.zero_le _, Nat.zero_le _, fun T h => by cases h⟩
theorem in3 {P : DT → Prop} {T : DT} (h : P T) : ∀ U ∈ [T, T, T], P U := fun U hU => by
  simp only [List.mem_cons, List.not_mem_nil, or_false] at hU
  rcases hU with rfl | rfl | rfl <;> exact h
theorem in1 {P : DT → Prop} {T : DT} (h : P T) : ∀ U ∈ [T], P U := fun U hU => by rw [List.mem_singleton.1 hU]; exact h
theorem DY.ext {w W : World} {T : DT} {x : DH} (h : DY w T x) (hb : Below w.heap.size w W) : DY W T x := h.lasts hb
theorem dyall1 {w : World} {x : DH} {T : DT} (h : DY w T x) : ∀ (i : Nat) (U : DT) (y : DH), [T][i]? = some U → [x][i]? = some y → DY w U y := fun i U y hU hy => by
  rcases i with _ | i
  · injection hy with hy; injection hU with hU; subst hy hU; exact h
  · cases hy
theorem dyall3 {w : World} {x : DH} {T : DT} (h : DY w T x) : ∀ (i : Nat) (U : DT) (y : DH), [T, T, T][i]? = some U → [x, x, x][i]? = some y → DY w U y := fun i U y hU hy => by
  rcases i with _ | _ | _ | i
  · injection hy with hy; injection hU with hU; subst hy hU; exact h
  · injection hy with hy; injection hU with hU; subst hy hU; exact h
  · injection hy with hy; injection hU with hU; subst hy hU; exact h
  · cases hy
theorem kid1_cs (x : DH) : x.cs = (kidV [x]).toArray := by simp [kidV]
theorem run_der3 (w : World) (x y z : DH) : (Instr.buildSlice 25 3 #[(0, .agg x.cs), (1, .agg y.cs), (2, .agg z.cs)]).run Tryd.prog w = .ok (.slice (some ⟨w.heap.size, 0, none⟩) 3 3) (w.alloc (.cells (kidV [x, y, z]).toArray 27)) := by kernel_rfl
theorem run_newN3 (w : World) (x y z : Nat) : (Instr.buildSlice 24 3 #[(0, .int .u64 (x : Int)), (1, .int .u64 (y : Int)), (2, .int .u64 (z : Int))]).run Tryd.prog w = .ok (.slice (some ⟨w.heap.size, 0, none⟩) 3 3) (w.alloc (.cells #[nvD x, nvD y, nvD z] 36)) := by kernel_rfl
theorem bf_row {W : World} {g k : Nat} {l : List UInt8} (hl : l.length = k) (h : Blk W g 5 (bvs l)) : BF l (.slice (some ⟨g, 0, none⟩) k k) W := ⟨_, _, _, rfl, BS.ofBlk h k hl.symm _ h.lt⟩
section
variable {n : Nat} {w0 w w' : World} {a : Act} {e : Env} {h t t2 : Hep} {Q : Exit → Act → World → Prop} {ops : Array Oper} {rest : List Oper} {o : Oper}
theorem ob_ls1 {y : Operand} {x : DH} {T : DT} (hx : DY w0 T x) (H : St n w0 a w e h) (hw : ∀ a w, St n w0 a w e h → Region.wanted o (yielded ops a.tmps) = true) (ho : o.op = .buildSlice 25 1 #[(0, y)]) (hy : sev e y = some (.agg x.cs)) : ObS Tryd.prog ops Q o a w (LVS [T]) := by
  have hb : Below w.heap.size w (w.alloc (.cells x.cs 27)) := (Below.refl _ _).alloc (Nat.le_refl _) _
  refine ob_runR H hw ⟨_, _, ?_, hb, lvs_blk (xs := [x]) (kid1_cs x) (Blk.new _ _ _) rfl (by simp) (dyall1 ((hx.lasts H.below).lasts hb))⟩
  simp [execOp, ho, H.ev hy, run_der1, Result.andThen]
theorem ob_ls3 {y1 y2 y3 : Operand} {x : DH} {T : DT} (hx : DY w0 T x) (H : St n w0 a w e h) (hw : ∀ a w, St n w0 a w e h → Region.wanted o (yielded ops a.tmps) = true) (ho : o.op = .buildSlice 25 3 #[(0, y1), (1, y2), (2, y3)]) (h1 : sev e y1 = some (.agg x.cs)) (h2 : sev e y2 = some (.agg x.cs)) (h3 : sev e y3 = some (.agg x.cs)) : ObS Tryd.prog ops Q o a w (LVS [T, T, T]) := by
  have hb : Below w.heap.size w (w.alloc (.cells (kidV [x, x, x]).toArray 27)) := (Below.refl _ _).alloc (Nat.le_refl _) _
  refine ob_runR H hw ⟨_, _, ?_, hb, lvs_blk (xs := [x, x, x]) rfl (Blk.new _ _ _) rfl (by simp) (dyall3 ((hx.lasts H.below).lasts hb))⟩
  simp [execOp, ho, H.ev h1, H.ev h2, H.ev h3, run_der3, Result.andThen]
theorem ob_newN3 {y0 y1 y2 : Operand} {x y z : Nat} (hx : x < 18446744073709551616 ∧ y < 18446744073709551616 ∧ z < 18446744073709551616) (H : St n w0 a w e h) (hw : ∀ a w, St n w0 a w e h → Region.wanted o (yielded ops a.tmps) = true) (ho : o.op = .buildSlice 24 3 #[(0, y0), (1, y1), (2, y2)]) (h0 : sev e y0 = some (.int .u64 (x : Int))) (h1 : sev e y1 = some (.int .u64 (y : Int))) (h2 : sev e y2 = some (.int .u64 (z : Int))) : ObS Tryd.prog ops Q o a w (NSF [x, y, z]) := by
  obtain ⟨h4, h5⟩ := nsf_new w [x, y, z] (by simp; omega)
  refine ob_runR H hw ⟨_, _, ?_, h4, h5⟩
  simp [execOp, ho, H.ev h0, H.ev h1, H.ev h2, run_newN3, Result.andThen]
theorem made_zl {x y : Operand} {m : Nat} {l : List UInt8} (hl : l = zeros m) (ho : o.op = .makeSlice 23 x y) (hx : sev e x = some (.int .i64 (m : Int))) (hy : sev e y = some (.int .i64 (m : Int))) (hm : m ≤ 281474976710656) : ∀ a w, St n w0 a w e h → (execOp a.eval o).run Tryd.prog w = .ok (.value ((fun g => .slice (some ⟨g, 0, none⟩) m m) w.heap.size)) (w.alloc (.cells (bvs l) 5)) := fun a w H => by
  unfold execOp
  simp only [ho, H.ev hx, H.ev hy, Sem.run_bind, run_mkb (P := Tryd.prog) 23 5 Tryd.underlying23 u8_info m hm w, Result.andThen_ok, Sem.run_pure, hl]
/-- A new row of one kid, told from now on. -/
theorem pl_kidT {d : Nat} {y : Operand} {x : DH} (ho : o.op = .buildSlice 25 1 #[(0, y)]) (hy : sev e y = some (.agg x.cs)) (hg : o.guard = none) (hdst : o.dst = some d) (hl : Nat.blt d n = true) (hf : e.all (fun p => !Nat.beq p.1 d) = true)
    (H : St n w0 a w e h) (next : ∀ (g : Nat) a w, St n w0 a w ((d, .slice (some ⟨g, 0, none⟩) 1 1) :: e) ((g, 27, x.cs) :: h) → wpList Tryd.prog ops Q rest a w) : wpList Tryd.prog ops Q (o :: rest) a w :=
  wpList_plain hg fun K hK => by
    unfold Oper.wp
    have e1 : (execOp a.eval o).run Tryd.prog w = .ok (.value (.slice (some ⟨w.heap.size, 0, none⟩) 1 1)) (w.alloc (.cells x.cs 27)) := by simp [execOp, ho, H.ev hy, run_der1, Result.andThen]
    rw [e1]
    refine hK _ _ (next w.heap.size _ _ ?_)
    rw [hdst]
    exact (H.alloc _ _).put _ hl hf
end
attribute [local irreducible] rb bvs nestT zeros bytesE bytesB
set_option maxHeartbeats 4000000 in
theorem bounds_walk (u8 : List UInt8 → Bool) (w : World) (hu8 : UV u8 w) (hdk : DKY u8 w) (hkn : HKn w) (hof : OfOk 7 u8 (derE u8) w) : Calls Tryd.prog 3 #[] w (fun rr w' => rr = .returned (.bool true) ∧ Below w.heap.size w w') := by
  obtain ⟨z64996, hz64996⟩ : ∃ l, l = zeros 64996 := ⟨_, rfl⟩
  have hz64996n : z64996.length = 64996 := by rw [hz64996]; exact zeros_len _
  obtain ⟨z64997, hz64997⟩ : ∃ l, l = zeros 64997 := ⟨_, rfl⟩
  have hz64997n : z64997.length = 64997 := by rw [hz64997]; exact zeros_len _
  obtain ⟨z60000, hz60000⟩ : ∃ l, l = zeros 60000 := ⟨_, rfl⟩
  have hz60000n : z60000.length = 60000 := by rw [hz60000]; exact zeros_len _
  obtain ⟨hEn, hEn2⟩ := nest_is u8
  obtain ⟨hEo, hLo⟩ := oct_yes u8 hz64996n
  have hEo2 := oct_no u8 hz64997n
  have hEb := big_no u8 hz60000n
  obtain ⟨hO1, hO2, hO3, hO4, hO5⟩ := oids_are u8
  refine calls_st (vs := []) 165 Tryd.func3 rfl Tryd.ntmps3 rfl (fun a W H => ?_)
  replace H : St 165 w a W [] [] := H
  refine sqR H gs0 fun Z_ z_ => rS 1 rfl <| rN0 z_ ?_
  try clear H a W
  intro a W H
  refine wp_seq_k (fun K2 hK2 => ?_)
  refine rg_plain ?_
  refine pl_callNew (ι := DH × Hep) (vf := fun i => .agg i.1.cs) (tf := fun i => i.2) (F := fun i => DC (TN i.2) (nestT 0) i.1) rfl ⟨_, Tryd.func4, by kernel_rfl⟩ rfl (by rw [nest_0]; exact seq_made _ (lvs_nil _) (fun _ h => by cases h) (by rw [nodesL_nil]; decide)) rfl rfl rfl rfl H ?_
  try clear H a W
  rintro ⟨x, t⟩ a W hdc H
  dsimp only at hdc H
  replace H : St 165 w a W [(26, .agg (x.cs)), (0, .bool false)] (t) := H
  refine rgO H gs0 (rA rfl rfl al_der fun g1 => rW [1] ⟨rfl, rfl⟩ rfl rfl rfl (info_der x) (size_der DH.no x) x.one <| rK [1, 0] [] [] <| rZ0 ?_)
  try clear H a W
  intro a W H
  refine hK2 _ _ ?_
  clear hK2
  refine wp_seq_k (fun K3 hK3 => ?_)
  refine sqR H gs0 fun Z_ z_ => rS 1 rfl <| rN0 z_ ?_
  try clear H a W
  intro a W H
  refine wp_block ?_
  replace H : St 165 w a W [(2, .int .i64 ((0 + 1 : Nat) : Int)), (1, .pointer (some ⟨g1, 0, none⟩)), (0, .bool false)] ((g1, 27, x.cs) :: t) := H.pickF (h := [(g1, 27, x.cs)]) (t := t) [0, 1, 2] [0] rfl
  refine wp_rounds 11 (fun k a W => ∃ x t, DC (TN t) (nestT k) x ∧ St 165 w a W [(2, .int .i64 ((k + 1 : Nat) : Int)), (1, .pointer (some ⟨g1, 0, none⟩)), (0, .bool false)] ((g1, 27, x.cs) :: t)) (k0 := 0) (show ∃ x t, DC (TN t) (nestT 0) x ∧ St 165 w a W [(2, .int .i64 ((0 + 1 : Nat) : Int)), (1, .pointer (some ⟨g1, 0, none⟩)), (0, .bool false)] ((g1, 27, x.cs) :: t) from ⟨x, t, hdc, H⟩) (by omega) ?_
  try clear H a W
  intro k a W hk H_
  obtain ⟨x, t, hout, H⟩ := H_
  by_cases hk2 : k < 11
  · refine wp_seq_k (fun K5 hK5 => ?_)
    refine sqR H gs0 fun Z_ z_ => rS 1 rfl <| rV rfl (does_binOp rfl rfl rfl (zd_lss_int (k := ((k + 1 : Nat) : Int)) (m := 12) (decide_eq_true (by omega)) _ _)) <| rN0 z_ ?_
    try clear H a W
    intro a W H
    refine wp_cond_true (H.ev rfl) ?_
    refine wp_skip ?_
    refine hK5 _ _ ?_
    clear hK5
    refine wp_seq_k (fun K7 hK7 => ?_)
    refine wp_block ?_
    refine rgP H gs0 (rV rfl (does_load rfl rfl (k := 0) rfl Tryd.underlying27 rfl (info_der x)) <| rI0 ?_)
    try clear H a W
    intro a W H
    refine pl_kidT rfl rfl rfl rfl rfl rfl H ?_
    try clear H a W
    intro gk a W H
    replace H : St 165 w a W [(32, .slice (some ⟨gk, 0, none⟩) 1 1), (31, .agg (x.cs)), (28, .bool true), (27, .int .i64 ((k + 1 : Nat) : Int)), (2, .int .i64 ((k + 1 : Nat) : Int)), (1, .pointer (some ⟨g1, 0, none⟩)), (0, .bool false)] ((gk, 27, x.cs) :: (g1, 27, x.cs) :: t) := H
    refine pl_callNew (ι := DH × Hep) (vf := fun i => .agg i.1.cs) (tf := fun i => i.2) (F := fun i => DC (TN i.2) (nestT (k + 1)) i.1) rfl ⟨_, Tryd.func4, by kernel_rfl⟩ rfl (by rw [nest_s]; exact seq_made _ (lvs_blk (xs := [x]) (kid1_cs x) (H.blk (k := 0) rfl) rfl (by simp) (dyall1 (hout.dy fun g k v hc => hc.plain fun p hp => H.heap p (List.mem_cons_of_mem _ (List.mem_cons_of_mem _ hp))))) (in1 (sm_nest k)) (by rw [nodesL_one, nodes_nest]; omega)) rfl rfl rfl rfl H ?_
    try clear H a W
    rintro ⟨x1, t1⟩ a W hd1 H
    dsimp only at hd1 H
    have hs_ : List.Sublist (α := Nat × Tid × Array Value) ((g1, .ty 27, x.cs) :: t1) ((gk, .ty 27, x.cs) :: (g1, .ty 27, x.cs) :: (t ++ t1)) := .cons _ (.cons_cons _ (List.sublist_append_right t t1))
    replace H : St 165 w a W [(33, .agg (x1.cs)), (32, .slice (some ⟨gk, 0, none⟩) 1 1), (31, .agg (x.cs)), (28, .bool true), (27, .int .i64 ((k + 1 : Nat) : Int)), (2, .int .i64 ((k + 1 : Nat) : Int)), (1, .pointer (some ⟨g1, 0, none⟩)), (0, .bool false)] ((g1, 27, x.cs) :: t1) := H.sub (fun _ h => h) (fun _ hp => hs_.mem hp) (H.apart.sublist hs_)
    clear hs_
    refine rgO H gs0 (rW [1] ⟨rfl, rfl⟩ rfl rfl rfl (info_der x1) (size_der x x1) x1.one <| rZ0 ?_)
    try clear H a W
    intro a W H
    refine blk_normal ?_
    refine hK7 _ _ ?_
    clear hK7
    refine rgP H gs0 (rS 1 rfl <| rV rfl (does_binOp rfl rfl rfl (zd_add_int (k := ((k + 1 : Nat) : Int)) (m := 1) (c := ((k + 1 + 1 : Nat) : Int)) (by omega) (by omega) _ _)) <| rK [1, 1, 1, 1, 1, 1, 1, 0] [] [] <| rS 1 rfl <| rZ0 ?_)
    try clear H a W
    intro a W H
    refine ⟨k + 1, by omega, by omega, ?_⟩
    show ∃ x t, DC (TN t) (nestT (k + 1)) x ∧ St 165 w a W [(2, .int .i64 ((k + 1 + 1 : Nat) : Int)), (1, .pointer (some ⟨g1, 0, none⟩)), (0, .bool false)] ((g1, 27, x.cs) :: t)
    refine ⟨x1, t1, hd1, ?_⟩
    exact H.pickF (h := [(g1, 27, x1.cs)]) (t := t1) [0, 8, 9] [0] rfl
  · obtain rfl : 11 = k := by omega
    refine wp_seq_k (fun K8 hK8 => ?_)
    refine sqR H gs0 fun Z_ z_ => rS 1 rfl <| rV rfl (does_binOp rfl rfl rfl (zd_lss_int (k := ((11 + 1 : Nat) : Int)) (m := 12) (decide_eq_false (by omega)) _ _)) <| rK [1, 0] [] [] <| rN0 z_ ?_
    try clear H a W
    intro a W H
    refine wp_cond_false (H.ev rfl) ?_
    refine wp_exit ?_
    repeat (first | (with_reducible refine then_exit ?_) | (with_reducible refine blk_pass (by decide) ?_))
    refine blk_exit ?_
    replace H : St 165 w a W [(1, .pointer (some ⟨g1, 0, none⟩)), (0, .bool false)] ((g1, 27, x.cs) :: t) := H.sub (by simp) (fun _ h => h) H.apart
    obtain ⟨wt1, H, HKt1, hu8, hdk, hkn, hof, hdx, hBg1⟩ : ∃ ws, St 165 ws a W [(1, .pointer (some ⟨g1, 0, none⟩)), (0, .bool false)] [] ∧ Kn w ws ((g1, 27, x.cs) :: t) ∧ UV u8 ws ∧ DKY u8 ws ∧ HKn ws ∧ OfOk 7 u8 (derE u8) ws ∧ DY ws (nestT 11) x ∧ Blk ws g1 27 x.cs := ⟨W, H.rebase, H.kn, hu8.ext H.below, hdk.ext H.below, hkn.ext H.below, hof.ext H.below, (hout.dy fun g k v hc => hc.plain fun p hp => H.heap p (List.mem_cons_of_mem _ hp)), H.blk (k := 0) rfl⟩
    refine hK3 _ _ ?_
    clear hK3
    refine sqR H gs0 fun Z_ z_ => rV rfl (does_loadOld rfl rfl hBg1 Tryd.underlying27 rfl (info_der x)) <| rC rfl rfl ⟨_, Tryd.func5, by kernel_rfl⟩ rfl (fun a W H _ => (hdk _ H.below (hdx.lasts H.below) (by rw [nodes_nest]; decide) (leaf_nest 12 11))) <| rTF fun u1 => rS 5 rfl <| rK [1, 0, 0, 0, 0, 0, 0] [] [0] <| rN0 z_ ?_
    try clear H a W
    intro a W H
    refine wp_seq_k (fun K11 hK11 => ?_)
    refine rgP H gs0 (rV rfl (does_loadOld rfl rfl hBg1 Tryd.underlying27 rfl (info_der x)) <| rO rfl (fun a W H _ => ob_ls1 hdx H (wanted_none rfl) rfl rfl) fun v41 => rI ?_)
    try clear H a W
    rintro a W H ⟨hv41, -⟩
    refine pl_R (R := SB) (F := DYF (seqT [(nestT 11)])) sb_st (ob_callS H (wanted_none rfl) rfl ⟨_, Tryd.func4, by kernel_rfl⟩ rfl ((seq_made _ hv41 (in1 (sm_nest 11)) (by rw [nodesL_one, nodes_nest]; decide)).dyf)) rfl rfl rfl H ?_
    try clear H a W
    rintro _ a W ⟨x1, rfl, hx_⟩ hR_ H
    replace hv41 := Lasts.lasts (F := LVS [(nestT 11)] v41) _ _ hv41 hR_
    obtain ⟨wt2, H, HKt2, hu8, hdk, hkn, hof, hdx, hBg1, hdx1⟩ : ∃ ws, St 165 ws a W [(42, .agg (x1.cs)), (41, v41), (40, .agg (x.cs)), (4, .int .i64 ((bytesE u8 (nestT 11) : Nat) : Int)), (1, .pointer (some ⟨g1, 0, none⟩)), (0, .bool false)] [] ∧ Kn wt1 ws [] ∧ UV u8 ws ∧ DKY u8 ws ∧ HKn ws ∧ OfOk 7 u8 (derE u8) ws ∧ DY ws (nestT 11) x ∧ Blk ws g1 27 x.cs ∧ DY ws (seqT [(nestT 11)]) x1 := ⟨W, H.rebase, H.kn, hu8.ext H.below, hdk.ext H.below, hkn.ext H.below, hof.ext H.below, hdx.ext H.below, hBg1.below H.below hBg1.lt, hx_⟩
    refine rgO H (gsC hv41 gs0) (rC rfl rfl ⟨_, Tryd.func5, by kernel_rfl⟩ rfl (fun a W H _ => (hdk _ H.below (hdx1.lasts H.below) (by rw [nodes_seq, nodesL_one, nodes_nest]; decide) (leaf_seq (in1 (leaf_nest 11 11))))) <| rTF fun u3 => rS 5 rfl <| rK [1, 0, 0, 0, 0, 0, 0, 0, 0, 1, 0] [] [0, 0] <| rZ0 ?_)
    try clear hv41 H a W
    intro a W H
    refine hK11 _ _ ?_
    clear hK11
    refine wp_seq_k (fun K12 hK12 => ?_)
    refine rgP H gs0 (rM (F := fun g => .slice (some ⟨g, 0, none⟩) 64996 64996) rfl (made_zl (m := 64996) hz64996 rfl rfl rfl (by omega)) fun g2 => rI0 ?_)
    try clear H a W
    intro a W H
    refine pl_R (R := SB) (F := DYF (octT z64996)) sb_st (ob_callS H (wanted_none rfl) rfl ⟨_, Tryd.func6, by kernel_rfl⟩ rfl ((oct_made _ (bf_row hz64996n (H.blk (k := 0) rfl)) (by omega)).dyf)) rfl rfl rfl H ?_
    try clear H a W
    rintro _ a W ⟨x2, rfl, hx_⟩ hR_ H
    obtain ⟨wt3, H, HKt3, hu8, hdk, hkn, hof, hdx, hBg1, hdx1, hdx2, hBg2⟩ : ∃ ws, St 165 ws a W [(48, .agg (x2.cs)), (47, .slice (some ⟨g2, 0, none⟩) 64996 64996), (6, .int .i64 ((bytesE u8 (seqT [(nestT 11)]) : Nat) : Int)), (4, .int .i64 ((bytesE u8 (nestT 11) : Nat) : Int)), (0, .bool false)] [] ∧ Kn wt2 ws [(g2, 5, bvs z64996)] ∧ UV u8 ws ∧ DKY u8 ws ∧ HKn ws ∧ OfOk 7 u8 (derE u8) ws ∧ DY ws (nestT 11) x ∧ Blk ws g1 27 x.cs ∧ DY ws (seqT [(nestT 11)]) x1 ∧ DY ws (octT z64996) x2 ∧ Blk ws g2 5 (bvs z64996) := ⟨W, H.rebase, H.kn, hu8.ext H.below, hdk.ext H.below, hkn.ext H.below, hof.ext H.below, hdx.ext H.below, hBg1.below H.below hBg1.lt, hdx1.ext H.below, hx_, H.blk (k := 0) rfl⟩
    refine rgO H gs0 (rC rfl rfl ⟨_, Tryd.func5, by kernel_rfl⟩ rfl (fun a W H _ => (hdk _ H.below (hdx2.lasts H.below) (by rw [nodes_oct]; decide) (leaf_oct (by omega)))) <| rTF fun u5 => rS 5 rfl <| rK [1, 1, 0, 0, 0, 0, 0, 0] [] [] <| rZ ?_)
    try clear H a W
    rintro a W H ⟨hu5, -⟩
    obtain ⟨A0, n0, c0, rfl, hs0_⟩ := hu5
    have hn0 : (bytesB u8 (octT z64996)).length = n0 := hs0_.len
    have hp0 : BF (bytesB u8 (octT z64996)) (.slice A0 n0 c0) W := ⟨_, _, _, rfl, hs0_⟩
    replace H : St 165 wt3 a W [(8, .int .i64 ((bytesE u8 (octT z64996) : Nat) : Int)), (7, .slice A0 n0 c0), (6, .int .i64 ((bytesE u8 (seqT [(nestT 11)]) : Nat) : Int)), (4, .int .i64 ((bytesE u8 (nestT 11) : Nat) : Int)), (0, .bool false)] [] := H
    refine hK12 _ _ ?_
    clear hK12
    refine wp_seq_k (fun K13 hK13 => ?_)
    refine rgP H (gsC hp0 gs0) (rM (F := fun g => .slice (some ⟨g, 0, none⟩) 64997 64997) rfl (made_zl (m := 64997) hz64997 rfl rfl rfl (by omega)) fun g3 => rI ?_)
    try clear hp0 H a W
    rintro a W H ⟨hp0, -⟩
    refine pl_R (R := SB) (F := DYF (octT z64997)) sb_st (ob_callS H (wanted_none rfl) rfl ⟨_, Tryd.func6, by kernel_rfl⟩ rfl ((oct_made _ (bf_row hz64997n (H.blk (k := 0) rfl)) (by omega)).dyf)) rfl rfl rfl H ?_
    try clear H a W
    rintro _ a W ⟨x3, rfl, hx_⟩ hR_ H
    replace hp0 := BF.sb _ _ _ hp0 hR_
    obtain ⟨wt4, H, HKt4, hu8, hdk, hkn, hof, hdx, hBg1, hdx1, hdx2, hBg2, hdx3, hp0, hBg3⟩ : ∃ ws, St 165 ws a W [(54, .agg (x3.cs)), (53, .slice (some ⟨g3, 0, none⟩) 64997 64997), (8, .int .i64 ((bytesE u8 (octT z64996) : Nat) : Int)), (7, .slice A0 n0 c0), (6, .int .i64 ((bytesE u8 (seqT [(nestT 11)]) : Nat) : Int)), (4, .int .i64 ((bytesE u8 (nestT 11) : Nat) : Int)), (0, .bool false)] [] ∧ Kn wt3 ws [(g3, 5, bvs z64997)] ∧ UV u8 ws ∧ DKY u8 ws ∧ HKn ws ∧ OfOk 7 u8 (derE u8) ws ∧ DY ws (nestT 11) x ∧ Blk ws g1 27 x.cs ∧ DY ws (seqT [(nestT 11)]) x1 ∧ DY ws (octT z64996) x2 ∧ Blk ws g2 5 (bvs z64996) ∧ DY ws (octT z64997) x3 ∧ BF (bytesB u8 (octT z64996)) (.slice A0 n0 c0) ws ∧ Blk ws g3 5 (bvs z64997) := ⟨W, H.rebase, H.kn, hu8.ext H.below, hdk.ext H.below, hkn.ext H.below, hof.ext H.below, hdx.ext H.below, hBg1.below H.below hBg1.lt, hdx1.ext H.below, hdx2.ext H.below, hBg2.below H.below hBg2.lt, hx_, hp0, H.blk (k := 0) rfl⟩
    refine rgO H gs0 (rC rfl rfl ⟨_, Tryd.func5, by kernel_rfl⟩ rfl (fun a W H _ => (hdk _ H.below (hdx3.lasts H.below) (by rw [nodes_oct]; decide) (leaf_oct (by omega)))) <| rTF fun u7 => rS 5 rfl <| rK [1, 0, 0, 0, 0, 0, 0, 0] [] [0] <| rZ0 ?_)
    try clear H a W
    intro a W H
    refine hK13 _ _ ?_
    clear hK13
    refine wp_seq_k (fun K14 hK14 => ?_)
    refine rgP H gs0 (rS 1 rfl <| rI0 ?_)
    try clear H a W
    intro a W H
    refine pl_R (R := SB) (F := TD (ofT u8 (bytesB u8 (octT z64996))) (derE u8 (bytesB u8 (octT z64996)))) sb_st (ob_callS H (wanted_none rfl) rfl ⟨_, Tryd.func7, by kernel_rfl⟩ rfl (hof _ H.below (bf_old hp0 H) (by have := bytesB_le u8 (octT z64996); omega))) rfl rfl rfl H ?_
    try clear H a W
    rintro _ a W ⟨x4, rfl, hx_⟩ hR_ H
    obtain ⟨wt5, H, HKt5, hu8, hdk, hkn, hof, hdx, hBg1, hdx1, hdx2, hBg2, hdx3, hp0, hBg3, hdx4⟩ : ∃ ws, St 165 ws a W [(60, .tuple #[.agg (x4.cs), .int .i64 ((ofE u8 (bytesB u8 (octT z64996)) : Nat) : Int)]), (59, .slice A0 n0 c0), (10, .int .i64 ((bytesE u8 (octT z64997) : Nat) : Int)), (8, .int .i64 ((bytesE u8 (octT z64996) : Nat) : Int)), (7, .slice A0 n0 c0), (6, .int .i64 ((bytesE u8 (seqT [(nestT 11)]) : Nat) : Int)), (4, .int .i64 ((bytesE u8 (nestT 11) : Nat) : Int)), (0, .bool false)] [] ∧ Kn wt4 ws [] ∧ UV u8 ws ∧ DKY u8 ws ∧ HKn ws ∧ OfOk 7 u8 (derE u8) ws ∧ DY ws (nestT 11) x ∧ Blk ws g1 27 x.cs ∧ DY ws (seqT [(nestT 11)]) x1 ∧ DY ws (octT z64996) x2 ∧ Blk ws g2 5 (bvs z64996) ∧ DY ws (octT z64997) x3 ∧ BF (bytesB u8 (octT z64996)) (.slice A0 n0 c0) ws ∧ Blk ws g3 5 (bvs z64997) ∧ DX ws ws.heap.size (ofT u8 (bytesB u8 (octT z64996))) x4 := ⟨W, H.rebase, H.kn, hu8.ext H.below, hdk.ext H.below, hkn.ext H.below, hof.ext H.below, hdx.ext H.below, hBg1.below H.below hBg1.lt, hdx1.ext H.below, hdx2.ext H.below, hBg2.below H.below hBg2.lt, hdx3.ext H.below, bf_old hp0 H, hBg3.below H.below hBg3.lt, hx_⟩
    refine rgO H gs0 (rS 3 rfl <| rA rfl rfl al_der fun g4 => rW [1] ⟨rfl, rfl⟩ rfl rfl rfl (info_der x4) (size_der DH.no x4) x4.one <| rS 1 rfl <| rK [1, 0, 0, 0, 0, 0, 0] [0] [] <| rZ0 ?_)
    try clear H a W
    intro a W H
    refine hK14 _ _ ?_
    clear hK14
    refine wp_seq_k (fun K15 hK15 => ?_)
    refine rgP H gs0 (rO rfl (fun a W H _ => ob_newN3 (x := 1) (y := 39) (z := 2147483647) (by omega) H (wanted_none rfl) rfl rfl rfl rfl) fun v64 => rI ?_)
    try clear H a W
    rintro a W H ⟨hv64, -⟩
    refine pl_R (R := SB) (F := DYF (oidT [1, 39, 2147483647])) sb_st (ob_callS H (wanted_none rfl) rfl ⟨_, Tryd.func8, by kernel_rfl⟩ rfl (oid_dyf _ hv64 (by simp))) rfl rfl rfl H ?_
    try clear H a W
    rintro _ a W ⟨x5, rfl, hx_⟩ hR_ H
    replace hv64 := Lasts.lasts (F := NSF [1, 39, 2147483647] v64) _ _ hv64 hR_
    obtain ⟨wt6, H, HKt6, hu8, hdk, hkn, hof, hdx, hBg1, hdx1, hdx2, hBg2, hdx3, hp0, hBg3, hdx4, hdx5⟩ : ∃ ws, St 165 ws a W [(65, .agg (x5.cs)), (64, v64), (12, .int .i64 ((ofE u8 (bytesB u8 (octT z64996)) : Nat) : Int)), (10, .int .i64 ((bytesE u8 (octT z64997) : Nat) : Int)), (8, .int .i64 ((bytesE u8 (octT z64996) : Nat) : Int)), (7, .slice A0 n0 c0), (6, .int .i64 ((bytesE u8 (seqT [(nestT 11)]) : Nat) : Int)), (4, .int .i64 ((bytesE u8 (nestT 11) : Nat) : Int)), (0, .bool false)] [] ∧ Kn wt5 ws [] ∧ UV u8 ws ∧ DKY u8 ws ∧ HKn ws ∧ OfOk 7 u8 (derE u8) ws ∧ DY ws (nestT 11) x ∧ Blk ws g1 27 x.cs ∧ DY ws (seqT [(nestT 11)]) x1 ∧ DY ws (octT z64996) x2 ∧ Blk ws g2 5 (bvs z64996) ∧ DY ws (octT z64997) x3 ∧ BF (bytesB u8 (octT z64996)) (.slice A0 n0 c0) ws ∧ Blk ws g3 5 (bvs z64997) ∧ DX ws ws.heap.size (ofT u8 (bytesB u8 (octT z64996))) x4 ∧ DY ws (oidT [1, 39, 2147483647]) x5 := ⟨W, H.rebase, H.kn, hu8.ext H.below, hdk.ext H.below, hkn.ext H.below, hof.ext H.below, hdx.ext H.below, hBg1.below H.below hBg1.lt, hdx1.ext H.below, hdx2.ext H.below, hBg2.below H.below hBg2.lt, hdx3.ext H.below, bf_old hp0 H, hBg3.below H.below hBg3.lt, dx_on hdx4 H, hx_⟩
    refine rgO H (gsC hv64 gs0) (rC rfl rfl ⟨_, Tryd.func5, by kernel_rfl⟩ rfl (fun a W H _ => (hdk _ H.below (hdx5.lasts H.below) (by rw [nodes_oid]; decide) leaf_oid)) <| rTF fun u9 => rS 5 rfl <| rK [1, 0, 0, 0, 0, 0, 0, 0] [] [0, 0] <| rZ0 ?_)
    try clear hv64 H a W
    intro a W H
    refine hK15 _ _ ?_
    clear hK15
    refine wp_seq_k (fun K16 hK16 => ?_)
    refine rgP H gs0 (rO rfl (fun a W H _ => ob_newN2 (x := 1) (y := 40) (by omega) (by omega) H (wanted_none rfl) rfl rfl rfl) fun v70 => rI ?_)
    try clear H a W
    rintro a W H ⟨hv70, -⟩
    refine pl_R (R := SB) (F := DYF (oidT [1, 40])) sb_st (ob_callS H (wanted_none rfl) rfl ⟨_, Tryd.func8, by kernel_rfl⟩ rfl (oid_dyf _ hv70 (by simp))) rfl rfl rfl H ?_
    try clear H a W
    rintro _ a W ⟨x6, rfl, hx_⟩ hR_ H
    replace hv70 := Lasts.lasts (F := NSF [1, 40] v70) _ _ hv70 hR_
    obtain ⟨wt7, H, HKt7, hu8, hdk, hkn, hof, hdx, hBg1, hdx1, hdx2, hBg2, hdx3, hp0, hBg3, hdx4, hdx5, hdx6⟩ : ∃ ws, St 165 ws a W [(71, .agg (x6.cs)), (70, v70), (14, .int .i64 ((bytesE u8 (oidT [1, 39, 2147483647]) : Nat) : Int)), (12, .int .i64 ((ofE u8 (bytesB u8 (octT z64996)) : Nat) : Int)), (10, .int .i64 ((bytesE u8 (octT z64997) : Nat) : Int)), (8, .int .i64 ((bytesE u8 (octT z64996) : Nat) : Int)), (7, .slice A0 n0 c0), (6, .int .i64 ((bytesE u8 (seqT [(nestT 11)]) : Nat) : Int)), (4, .int .i64 ((bytesE u8 (nestT 11) : Nat) : Int)), (0, .bool false)] [] ∧ Kn wt6 ws [] ∧ UV u8 ws ∧ DKY u8 ws ∧ HKn ws ∧ OfOk 7 u8 (derE u8) ws ∧ DY ws (nestT 11) x ∧ Blk ws g1 27 x.cs ∧ DY ws (seqT [(nestT 11)]) x1 ∧ DY ws (octT z64996) x2 ∧ Blk ws g2 5 (bvs z64996) ∧ DY ws (octT z64997) x3 ∧ BF (bytesB u8 (octT z64996)) (.slice A0 n0 c0) ws ∧ Blk ws g3 5 (bvs z64997) ∧ DX ws ws.heap.size (ofT u8 (bytesB u8 (octT z64996))) x4 ∧ DY ws (oidT [1, 39, 2147483647]) x5 ∧ DY ws (oidT [1, 40]) x6 := ⟨W, H.rebase, H.kn, hu8.ext H.below, hdk.ext H.below, hkn.ext H.below, hof.ext H.below, hdx.ext H.below, hBg1.below H.below hBg1.lt, hdx1.ext H.below, hdx2.ext H.below, hBg2.below H.below hBg2.lt, hdx3.ext H.below, bf_old hp0 H, hBg3.below H.below hBg3.lt, dx_on hdx4 H, hdx5.ext H.below, hx_⟩
    refine rgO H (gsC hv70 gs0) (rC rfl rfl ⟨_, Tryd.func5, by kernel_rfl⟩ rfl (fun a W H _ => (hdk _ H.below (hdx6.lasts H.below) (by rw [nodes_oid]; decide) leaf_oid)) <| rTF fun u11 => rS 5 rfl <| rK [1, 0, 0, 0, 0, 0, 0, 0] [] [0, 0] <| rZ0 ?_)
    try clear hv70 H a W
    intro a W H
    refine hK16 _ _ ?_
    clear hK16
    refine wp_seq_k (fun K17 hK17 => ?_)
    refine rgP H gs0 (rO rfl (fun a W H _ => ob_newN2 (x := 2) (y := 2147483647) (by omega) (by omega) H (wanted_none rfl) rfl rfl rfl) fun v76 => rI ?_)
    try clear H a W
    rintro a W H ⟨hv76, -⟩
    refine pl_R (R := SB) (F := DYF (oidT [2, 2147483647])) sb_st (ob_callS H (wanted_none rfl) rfl ⟨_, Tryd.func8, by kernel_rfl⟩ rfl (oid_dyf _ hv76 (by simp))) rfl rfl rfl H ?_
    try clear H a W
    rintro _ a W ⟨x7, rfl, hx_⟩ hR_ H
    replace hv76 := Lasts.lasts (F := NSF [2, 2147483647] v76) _ _ hv76 hR_
    obtain ⟨wt8, H, HKt8, hu8, hdk, hkn, hof, hdx, hBg1, hdx1, hdx2, hBg2, hdx3, hp0, hBg3, hdx4, hdx5, hdx6, hdx7⟩ : ∃ ws, St 165 ws a W [(77, .agg (x7.cs)), (76, v76), (16, .int .i64 ((bytesE u8 (oidT [1, 40]) : Nat) : Int)), (14, .int .i64 ((bytesE u8 (oidT [1, 39, 2147483647]) : Nat) : Int)), (12, .int .i64 ((ofE u8 (bytesB u8 (octT z64996)) : Nat) : Int)), (10, .int .i64 ((bytesE u8 (octT z64997) : Nat) : Int)), (8, .int .i64 ((bytesE u8 (octT z64996) : Nat) : Int)), (7, .slice A0 n0 c0), (6, .int .i64 ((bytesE u8 (seqT [(nestT 11)]) : Nat) : Int)), (4, .int .i64 ((bytesE u8 (nestT 11) : Nat) : Int)), (0, .bool false)] [] ∧ Kn wt7 ws [] ∧ UV u8 ws ∧ DKY u8 ws ∧ HKn ws ∧ OfOk 7 u8 (derE u8) ws ∧ DY ws (nestT 11) x ∧ Blk ws g1 27 x.cs ∧ DY ws (seqT [(nestT 11)]) x1 ∧ DY ws (octT z64996) x2 ∧ Blk ws g2 5 (bvs z64996) ∧ DY ws (octT z64997) x3 ∧ BF (bytesB u8 (octT z64996)) (.slice A0 n0 c0) ws ∧ Blk ws g3 5 (bvs z64997) ∧ DX ws ws.heap.size (ofT u8 (bytesB u8 (octT z64996))) x4 ∧ DY ws (oidT [1, 39, 2147483647]) x5 ∧ DY ws (oidT [1, 40]) x6 ∧ DY ws (oidT [2, 2147483647]) x7 := ⟨W, H.rebase, H.kn, hu8.ext H.below, hdk.ext H.below, hkn.ext H.below, hof.ext H.below, hdx.ext H.below, hBg1.below H.below hBg1.lt, hdx1.ext H.below, hdx2.ext H.below, hBg2.below H.below hBg2.lt, hdx3.ext H.below, bf_old hp0 H, hBg3.below H.below hBg3.lt, dx_on hdx4 H, hdx5.ext H.below, hdx6.ext H.below, hx_⟩
    refine rgO H (gsC hv76 gs0) (rC rfl rfl ⟨_, Tryd.func5, by kernel_rfl⟩ rfl (fun a W H _ => (hdk _ H.below (hdx7.lasts H.below) (by rw [nodes_oid]; decide) leaf_oid)) <| rTF fun u13 => rS 5 rfl <| rK [1, 0, 0, 0, 0, 0, 0, 0] [] [0, 0] <| rZ0 ?_)
    try clear hv76 H a W
    intro a W H
    refine hK17 _ _ ?_
    clear hK17
    refine wp_seq_k (fun K18 hK18 => ?_)
    refine rgP H gs0 (rO rfl (fun a W H _ => ob_newN2 (x := 3) (y := 1) (by omega) (by omega) H (wanted_none rfl) rfl rfl rfl) fun v82 => rI ?_)
    try clear H a W
    rintro a W H ⟨hv82, -⟩
    refine pl_R (R := SB) (F := DYF (oidT [3, 1])) sb_st (ob_callS H (wanted_none rfl) rfl ⟨_, Tryd.func8, by kernel_rfl⟩ rfl (oid_dyf _ hv82 (by simp))) rfl rfl rfl H ?_
    try clear H a W
    rintro _ a W ⟨x8, rfl, hx_⟩ hR_ H
    replace hv82 := Lasts.lasts (F := NSF [3, 1] v82) _ _ hv82 hR_
    obtain ⟨wt9, H, HKt9, hu8, hdk, hkn, hof, hdx, hBg1, hdx1, hdx2, hBg2, hdx3, hp0, hBg3, hdx4, hdx5, hdx6, hdx7, hdx8⟩ : ∃ ws, St 165 ws a W [(83, .agg (x8.cs)), (82, v82), (18, .int .i64 ((bytesE u8 (oidT [2, 2147483647]) : Nat) : Int)), (16, .int .i64 ((bytesE u8 (oidT [1, 40]) : Nat) : Int)), (14, .int .i64 ((bytesE u8 (oidT [1, 39, 2147483647]) : Nat) : Int)), (12, .int .i64 ((ofE u8 (bytesB u8 (octT z64996)) : Nat) : Int)), (10, .int .i64 ((bytesE u8 (octT z64997) : Nat) : Int)), (8, .int .i64 ((bytesE u8 (octT z64996) : Nat) : Int)), (7, .slice A0 n0 c0), (6, .int .i64 ((bytesE u8 (seqT [(nestT 11)]) : Nat) : Int)), (4, .int .i64 ((bytesE u8 (nestT 11) : Nat) : Int)), (0, .bool false)] [] ∧ Kn wt8 ws [] ∧ UV u8 ws ∧ DKY u8 ws ∧ HKn ws ∧ OfOk 7 u8 (derE u8) ws ∧ DY ws (nestT 11) x ∧ Blk ws g1 27 x.cs ∧ DY ws (seqT [(nestT 11)]) x1 ∧ DY ws (octT z64996) x2 ∧ Blk ws g2 5 (bvs z64996) ∧ DY ws (octT z64997) x3 ∧ BF (bytesB u8 (octT z64996)) (.slice A0 n0 c0) ws ∧ Blk ws g3 5 (bvs z64997) ∧ DX ws ws.heap.size (ofT u8 (bytesB u8 (octT z64996))) x4 ∧ DY ws (oidT [1, 39, 2147483647]) x5 ∧ DY ws (oidT [1, 40]) x6 ∧ DY ws (oidT [2, 2147483647]) x7 ∧ DY ws (oidT [3, 1]) x8 := ⟨W, H.rebase, H.kn, hu8.ext H.below, hdk.ext H.below, hkn.ext H.below, hof.ext H.below, hdx.ext H.below, hBg1.below H.below hBg1.lt, hdx1.ext H.below, hdx2.ext H.below, hBg2.below H.below hBg2.lt, hdx3.ext H.below, bf_old hp0 H, hBg3.below H.below hBg3.lt, dx_on hdx4 H, hdx5.ext H.below, hdx6.ext H.below, hdx7.ext H.below, hx_⟩
    refine rgO H (gsC hv82 gs0) (rC rfl rfl ⟨_, Tryd.func5, by kernel_rfl⟩ rfl (fun a W H _ => (hdk _ H.below (hdx8.lasts H.below) (by rw [nodes_oid]; decide) leaf_oid)) <| rTF fun u15 => rS 5 rfl <| rK [1, 0, 0, 0, 0, 0, 0, 0] [] [0, 0] <| rZ0 ?_)
    try clear hv82 H a W
    intro a W H
    refine hK18 _ _ ?_
    clear hK18
    refine wp_seq_k (fun K19 hK19 => ?_)
    refine rgP H gs0 (rO rfl (fun a W H _ => ob_newN2 (x := 2) (y := 2147483648) (by omega) (by omega) H (wanted_none rfl) rfl rfl rfl) fun v88 => rI ?_)
    try clear H a W
    rintro a W H ⟨hv88, -⟩
    refine pl_R (R := SB) (F := DYF (oidT [2, 2147483648])) sb_st (ob_callS H (wanted_none rfl) rfl ⟨_, Tryd.func8, by kernel_rfl⟩ rfl (oid_dyf _ hv88 (by simp))) rfl rfl rfl H ?_
    try clear H a W
    rintro _ a W ⟨x9, rfl, hx_⟩ hR_ H
    replace hv88 := Lasts.lasts (F := NSF [2, 2147483648] v88) _ _ hv88 hR_
    obtain ⟨wt10, H, HKt10, hu8, hdk, hkn, hof, hdx, hBg1, hdx1, hdx2, hBg2, hdx3, hp0, hBg3, hdx4, hdx5, hdx6, hdx7, hdx8, hdx9⟩ : ∃ ws, St 165 ws a W [(89, .agg (x9.cs)), (88, v88), (20, .int .i64 ((bytesE u8 (oidT [3, 1]) : Nat) : Int)), (18, .int .i64 ((bytesE u8 (oidT [2, 2147483647]) : Nat) : Int)), (16, .int .i64 ((bytesE u8 (oidT [1, 40]) : Nat) : Int)), (14, .int .i64 ((bytesE u8 (oidT [1, 39, 2147483647]) : Nat) : Int)), (12, .int .i64 ((ofE u8 (bytesB u8 (octT z64996)) : Nat) : Int)), (10, .int .i64 ((bytesE u8 (octT z64997) : Nat) : Int)), (8, .int .i64 ((bytesE u8 (octT z64996) : Nat) : Int)), (7, .slice A0 n0 c0), (6, .int .i64 ((bytesE u8 (seqT [(nestT 11)]) : Nat) : Int)), (4, .int .i64 ((bytesE u8 (nestT 11) : Nat) : Int)), (0, .bool false)] [] ∧ Kn wt9 ws [] ∧ UV u8 ws ∧ DKY u8 ws ∧ HKn ws ∧ OfOk 7 u8 (derE u8) ws ∧ DY ws (nestT 11) x ∧ Blk ws g1 27 x.cs ∧ DY ws (seqT [(nestT 11)]) x1 ∧ DY ws (octT z64996) x2 ∧ Blk ws g2 5 (bvs z64996) ∧ DY ws (octT z64997) x3 ∧ BF (bytesB u8 (octT z64996)) (.slice A0 n0 c0) ws ∧ Blk ws g3 5 (bvs z64997) ∧ DX ws ws.heap.size (ofT u8 (bytesB u8 (octT z64996))) x4 ∧ DY ws (oidT [1, 39, 2147483647]) x5 ∧ DY ws (oidT [1, 40]) x6 ∧ DY ws (oidT [2, 2147483647]) x7 ∧ DY ws (oidT [3, 1]) x8 ∧ DY ws (oidT [2, 2147483648]) x9 := ⟨W, H.rebase, H.kn, hu8.ext H.below, hdk.ext H.below, hkn.ext H.below, hof.ext H.below, hdx.ext H.below, hBg1.below H.below hBg1.lt, hdx1.ext H.below, hdx2.ext H.below, hBg2.below H.below hBg2.lt, hdx3.ext H.below, bf_old hp0 H, hBg3.below H.below hBg3.lt, dx_on hdx4 H, hdx5.ext H.below, hdx6.ext H.below, hdx7.ext H.below, hdx8.ext H.below, hx_⟩
    refine rgO H (gsC hv88 gs0) (rC rfl rfl ⟨_, Tryd.func5, by kernel_rfl⟩ rfl (fun a W H _ => (hdk _ H.below (hdx9.lasts H.below) (by rw [nodes_oid]; decide) leaf_oid)) <| rTF fun u17 => rS 5 rfl <| rK [1, 0, 0, 0, 0, 0, 0, 0] [] [0, 0] <| rZ0 ?_)
    try clear hv88 H a W
    intro a W H
    refine hK19 _ _ ?_
    clear hK19
    refine wp_seq_k (fun K20 hK20 => ?_)
    refine rgP H gs0 (rM (F := fun g => .slice (some ⟨g, 0, none⟩) 60000 60000) rfl (made_zl (m := 60000) hz60000 rfl rfl rfl (by omega)) fun g5 => rI0 ?_)
    try clear H a W
    intro a W H
    refine pl_R (R := SB) (F := DYF (octT z60000)) sb_st (ob_callS H (wanted_none rfl) rfl ⟨_, Tryd.func6, by kernel_rfl⟩ rfl ((oct_made _ (bf_row hz60000n (H.blk (k := 0) rfl)) (by omega)).dyf)) rfl rfl rfl H ?_
    try clear H a W
    rintro _ a W ⟨x10, rfl, hx_⟩ hR_ H
    obtain ⟨wt11, H, HKt11, hu8, hdk, hkn, hof, hdx, hBg1, hdx1, hdx2, hBg2, hdx3, hp0, hBg3, hdx4, hdx5, hdx6, hdx7, hdx8, hdx9, hdx10, hBg5⟩ : ∃ ws, St 165 ws a W [(94, .agg (x10.cs)), (93, .slice (some ⟨g5, 0, none⟩) 60000 60000), (22, .int .i64 ((bytesE u8 (oidT [2, 2147483648]) : Nat) : Int)), (20, .int .i64 ((bytesE u8 (oidT [3, 1]) : Nat) : Int)), (18, .int .i64 ((bytesE u8 (oidT [2, 2147483647]) : Nat) : Int)), (16, .int .i64 ((bytesE u8 (oidT [1, 40]) : Nat) : Int)), (14, .int .i64 ((bytesE u8 (oidT [1, 39, 2147483647]) : Nat) : Int)), (12, .int .i64 ((ofE u8 (bytesB u8 (octT z64996)) : Nat) : Int)), (10, .int .i64 ((bytesE u8 (octT z64997) : Nat) : Int)), (8, .int .i64 ((bytesE u8 (octT z64996) : Nat) : Int)), (7, .slice A0 n0 c0), (6, .int .i64 ((bytesE u8 (seqT [(nestT 11)]) : Nat) : Int)), (4, .int .i64 ((bytesE u8 (nestT 11) : Nat) : Int)), (0, .bool false)] [] ∧ Kn wt10 ws [(g5, 5, bvs z60000)] ∧ UV u8 ws ∧ DKY u8 ws ∧ HKn ws ∧ OfOk 7 u8 (derE u8) ws ∧ DY ws (nestT 11) x ∧ Blk ws g1 27 x.cs ∧ DY ws (seqT [(nestT 11)]) x1 ∧ DY ws (octT z64996) x2 ∧ Blk ws g2 5 (bvs z64996) ∧ DY ws (octT z64997) x3 ∧ BF (bytesB u8 (octT z64996)) (.slice A0 n0 c0) ws ∧ Blk ws g3 5 (bvs z64997) ∧ DX ws ws.heap.size (ofT u8 (bytesB u8 (octT z64996))) x4 ∧ DY ws (oidT [1, 39, 2147483647]) x5 ∧ DY ws (oidT [1, 40]) x6 ∧ DY ws (oidT [2, 2147483647]) x7 ∧ DY ws (oidT [3, 1]) x8 ∧ DY ws (oidT [2, 2147483648]) x9 ∧ DY ws (octT z60000) x10 ∧ Blk ws g5 5 (bvs z60000) := ⟨W, H.rebase, H.kn, hu8.ext H.below, hdk.ext H.below, hkn.ext H.below, hof.ext H.below, hdx.ext H.below, hBg1.below H.below hBg1.lt, hdx1.ext H.below, hdx2.ext H.below, hBg2.below H.below hBg2.lt, hdx3.ext H.below, bf_old hp0 H, hBg3.below H.below hBg3.lt, dx_on hdx4 H, hdx5.ext H.below, hdx6.ext H.below, hdx7.ext H.below, hdx8.ext H.below, hdx9.ext H.below, hx_, H.blk (k := 0) rfl⟩
    refine rgO H gs0 (rA rfl rfl al_der fun g6 => rW [1] ⟨rfl, rfl⟩ rfl rfl rfl (info_der x10) (size_der DH.no x10) x10.one <| rK [1, 0, 0] [] [] <| rZ0 ?_)
    try clear H a W
    intro a W H
    refine hK20 _ _ ?_
    clear hK20
    refine wp_seq_k (fun K21 hK21 => ?_)
    refine rgP H gs0 (rV rfl (does_load rfl rfl (k := 0) rfl Tryd.underlying27 rfl (info_der x10)) <| rV rfl (does_load rfl rfl (k := 0) rfl Tryd.underlying27 rfl (info_der x10)) <| rV rfl (does_load rfl rfl (k := 0) rfl Tryd.underlying27 rfl (info_der x10)) <| rO rfl (fun a W H _ => ob_ls3 hdx10 H (wanted_none rfl) rfl rfl rfl rfl) fun v99 => rI ?_)
    try clear H a W
    rintro a W H ⟨hv99, -⟩
    refine pl_R (R := SB) (F := DYF (seqT [(octT z60000), (octT z60000), (octT z60000)])) sb_st (ob_callS H (wanted_none rfl) rfl ⟨_, Tryd.func4, by kernel_rfl⟩ rfl ((seq_made _ hv99 (in3 (sm_oct (by omega))) (by rw [nodes_3, nodes_oct]; decide)).dyf)) rfl rfl rfl H ?_
    try clear H a W
    rintro _ a W ⟨x11, rfl, hx_⟩ hR_ H
    replace hv99 := Lasts.lasts (F := LVS [(octT z60000), (octT z60000), (octT z60000)] v99) _ _ hv99 hR_
    obtain ⟨wt12, H, HKt12, hu8, hdk, hkn, hof, hdx, hBg1, hdx1, hdx2, hBg2, hdx3, hp0, hBg3, hdx4, hdx5, hdx6, hdx7, hdx8, hdx9, hdx10, hBg5, hdx11, hBg6⟩ : ∃ ws, St 165 ws a W [(100, .agg (x11.cs)), (99, v99), (98, .agg (x10.cs)), (97, .agg (x10.cs)), (96, .agg (x10.cs)), (23, .pointer (some ⟨g6, 0, none⟩)), (22, .int .i64 ((bytesE u8 (oidT [2, 2147483648]) : Nat) : Int)), (20, .int .i64 ((bytesE u8 (oidT [3, 1]) : Nat) : Int)), (18, .int .i64 ((bytesE u8 (oidT [2, 2147483647]) : Nat) : Int)), (16, .int .i64 ((bytesE u8 (oidT [1, 40]) : Nat) : Int)), (14, .int .i64 ((bytesE u8 (oidT [1, 39, 2147483647]) : Nat) : Int)), (12, .int .i64 ((ofE u8 (bytesB u8 (octT z64996)) : Nat) : Int)), (10, .int .i64 ((bytesE u8 (octT z64997) : Nat) : Int)), (8, .int .i64 ((bytesE u8 (octT z64996) : Nat) : Int)), (7, .slice A0 n0 c0), (6, .int .i64 ((bytesE u8 (seqT [(nestT 11)]) : Nat) : Int)), (4, .int .i64 ((bytesE u8 (nestT 11) : Nat) : Int)), (0, .bool false)] [] ∧ Kn wt11 ws [(g6, 27, x10.cs)] ∧ UV u8 ws ∧ DKY u8 ws ∧ HKn ws ∧ OfOk 7 u8 (derE u8) ws ∧ DY ws (nestT 11) x ∧ Blk ws g1 27 x.cs ∧ DY ws (seqT [(nestT 11)]) x1 ∧ DY ws (octT z64996) x2 ∧ Blk ws g2 5 (bvs z64996) ∧ DY ws (octT z64997) x3 ∧ BF (bytesB u8 (octT z64996)) (.slice A0 n0 c0) ws ∧ Blk ws g3 5 (bvs z64997) ∧ DX ws ws.heap.size (ofT u8 (bytesB u8 (octT z64996))) x4 ∧ DY ws (oidT [1, 39, 2147483647]) x5 ∧ DY ws (oidT [1, 40]) x6 ∧ DY ws (oidT [2, 2147483647]) x7 ∧ DY ws (oidT [3, 1]) x8 ∧ DY ws (oidT [2, 2147483648]) x9 ∧ DY ws (octT z60000) x10 ∧ Blk ws g5 5 (bvs z60000) ∧ DY ws (seqT [(octT z60000), (octT z60000), (octT z60000)]) x11 ∧ Blk ws g6 27 x10.cs := ⟨W, H.rebase, H.kn, hu8.ext H.below, hdk.ext H.below, hkn.ext H.below, hof.ext H.below, hdx.ext H.below, hBg1.below H.below hBg1.lt, hdx1.ext H.below, hdx2.ext H.below, hBg2.below H.below hBg2.lt, hdx3.ext H.below, bf_old hp0 H, hBg3.below H.below hBg3.lt, dx_on hdx4 H, hdx5.ext H.below, hdx6.ext H.below, hdx7.ext H.below, hdx8.ext H.below, hdx9.ext H.below, hdx10.ext H.below, hBg5.below H.below hBg5.lt, hx_, H.blk (k := 0) rfl⟩
    refine rgO H (gsC hv99 gs0) (rC rfl rfl ⟨_, Tryd.func5, by kernel_rfl⟩ rfl (fun a W H _ => (hdk _ H.below (hdx11.lasts H.below) (by rw [nodes_seq, nodes_3, nodes_oct]; decide) (leaf_seq (in3 (leaf_oct (by omega)))))) <| rTF fun u19 => rS 5 rfl <| rK [1, 0, 0, 0, 0, 0, 0, 0, 0, 0, 0, 0] [] [0, 0] <| rZ0 ?_)
    try clear hv99 H a W
    intro a W H
    refine hK21 _ _ ?_
    clear hK21
    refine sqR H gs0 fun Z_ z_ => rS 1 rfl <| rV rfl (does_call rfl ⟨_, Tryd.func9, by kernel_rfl⟩ rfl (fun W hb => num_any _ W)) <| rV rfl (does_binOp rfl rfl rfl (zd_eql_int (k := ((bytesE u8 (nestT 11) : Nat) : Int)) (m := 0) (decide_eq_true (by omega)) _ _)) <| rS 2 rfl <| rV rfl (does_call rfl ⟨_, Tryd.func9, by kernel_rfl⟩ rfl (fun W hb => num_any _ W)) <| rV rfl (does_binOp rfl rfl rfl (zd_eql_int (k := ((bytesE u8 (seqT [(nestT 11)]) : Nat) : Int)) (m := 2) (decide_eq_true (by omega)) _ _)) <| rS 3 rfl <| rV rfl (does_call rfl ⟨_, Tryd.func9, by kernel_rfl⟩ rfl (fun W hb => num_any _ W)) <| rV rfl (does_binOp rfl rfl rfl (zd_eql_int (k := ((bytesE u8 (octT z64996) : Nat) : Int)) (m := 0) (decide_eq_true (by omega)) _ _)) <| rS 3 rfl <| rV rfl (does_len Tryd.underlying23 rfl rfl) <| rV rfl (does_binOp rfl rfl rfl (zd_eql_int (k := ((n0 : Nat) : Int)) (m := 65000) (decide_eq_true (by omega)) _ _)) <| rS 3 rfl <| rV rfl (does_call rfl ⟨_, Tryd.func9, by kernel_rfl⟩ rfl (fun W hb => num_any _ W)) <| rV rfl (does_binOp rfl rfl rfl (zd_eql_int (k := ((bytesE u8 (octT z64997) : Nat) : Int)) (m := 3) (decide_eq_true (by omega)) _ _)) <| rS 3 rfl <| rV rfl (does_call rfl ⟨_, Tryd.func9, by kernel_rfl⟩ rfl (fun W hb => num_any _ W)) <| rV rfl (does_binOp rfl rfl rfl (zd_eql_int (k := ((ofE u8 (bytesB u8 (octT z64996)) : Nat) : Int)) (m := 0) (by rw [ofE_yes (bytes_okY hEo).1] <;> rfl) _ _)) <| rS 3 rfl <| rV rfl (does_call rfl ⟨_, Tryd.func9, by kernel_rfl⟩ rfl (fun W hb => num_any _ W)) <| rV rfl (does_binOp rfl rfl rfl (zd_eql_int (k := ((bytesE u8 (oidT [1, 39, 2147483647]) : Nat) : Int)) (m := 0) (decide_eq_true (by omega)) _ _)) <| rS 3 rfl <| rV rfl (does_call rfl ⟨_, Tryd.func9, by kernel_rfl⟩ rfl (fun W hb => num_any _ W)) <| rV rfl (does_binOp rfl rfl rfl (zd_eql_int (k := ((bytesE u8 (oidT [1, 40]) : Nat) : Int)) (m := 2) (decide_eq_true (by omega)) _ _)) <| rS 3 rfl <| rV rfl (does_call rfl ⟨_, Tryd.func9, by kernel_rfl⟩ rfl (fun W hb => num_any _ W)) <| rV rfl (does_binOp rfl rfl rfl (zd_eql_int (k := ((bytesE u8 (oidT [2, 2147483647]) : Nat) : Int)) (m := 0) (decide_eq_true (by omega)) _ _)) <| rS 3 rfl <| rV rfl (does_call rfl ⟨_, Tryd.func9, by kernel_rfl⟩ rfl (fun W hb => num_any _ W)) <| rV rfl (does_binOp rfl rfl rfl (zd_eql_int (k := ((bytesE u8 (oidT [3, 1]) : Nat) : Int)) (m := 2) (decide_eq_true (by omega)) _ _)) <| rS 3 rfl <| rV rfl (does_call rfl ⟨_, Tryd.func9, by kernel_rfl⟩ rfl (fun W hb => num_any _ W)) <| rV rfl (does_binOp rfl rfl rfl (zd_eql_int (k := ((bytesE u8 (oidT [2, 2147483648]) : Nat) : Int)) (m := 2) (decide_eq_true (by omega)) _ _)) <| rS 3 rfl <| rV rfl (does_call rfl ⟨_, Tryd.func9, by kernel_rfl⟩ rfl (fun W hb => num_any _ W)) <| rV rfl (does_binOp rfl rfl rfl (zd_eql_int (k := ((bytesE u8 (seqT [(octT z60000), (octT z60000), (octT z60000)]) : Nat) : Int)) (m := 3) (decide_eq_true (by omega)) _ _)) <| rS 2 rfl <| rV rfl (does_call rfl ⟨_, Tryd.func10, by kernel_rfl⟩ rfl (fun W hb => hkn W hb)) <| rS 1 rfl <| rK [1, 1, 1, 1, 1, 1, 1, 1, 1, 1, 1, 1, 1, 1, 1, 1, 1, 1, 1, 1, 1, 1, 1, 1, 1, 1, 1, 1, 1, 1, 1, 1, 1, 1, 1, 1, 1, 1, 1, 1, 1, 1, 1, 1, 1, 1, 1, 1, 1, 1, 1, 1, 1, 1, 1, 1, 1, 1, 1, 1, 1, 1, 1, 1, 1, 1, 1, 1, 1, 1, 1, 1, 1, 0] [] [] <| rS 1 rfl <| rK [1, 0, 0, 0, 0, 0, 0, 0, 0, 0, 0, 0, 0, 0, 0, 0, 0, 0, 0, 0, 0, 0, 0, 0, 0, 0, 0, 0, 0, 0, 0, 0, 0, 0, 0, 0, 0, 0, 0, 0, 0, 0, 0, 0, 0, 0, 0, 0, 0, 0, 0, 0, 0, 0, 0, 0, 0, 0, 0, 0, 0, 0, 0, 0, 0, 0, 0, 0, 0, 0, 0, 0, 0, 0] [] [] <| rN0 z_ ?_
    try clear H a W
    intro a W H
    refine wp_ret ?_
    repeat (first | (with_reducible refine then_ret ?_) | (with_reducible refine blk_ret ?_))
    refine end_tmp (p := 0) rfl rfl H (fun hb => ?_)
    exact ⟨rfl, (HKt1.below.trans ((HKt2.below.trans ((HKt3.below.trans ((HKt4.below.trans ((HKt5.below.trans ((HKt6.below.trans ((HKt7.below.trans ((HKt8.below.trans ((HKt9.below.trans ((HKt10.below.trans ((HKt11.below.trans ((HKt12.below.trans (hb.mono HKt12.below.size)).mono HKt11.below.size)).mono HKt10.below.size)).mono HKt9.below.size)).mono HKt8.below.size)).mono HKt7.below.size)).mono HKt6.below.size)).mono HKt5.below.size)).mono HKt4.below.size)).mono HKt3.below.size)).mono HKt2.below.size)).mono HKt1.below.size))⟩
end Go.Proofs.YtonhkclkddobhaaDoor
namespace Go.Proofs.YtonhkclkddobhaaDoor
set_option linter.unusedVariables false
set_option linter.unusedSimpArgs false
open Go Go.RowKit
theorem PG.dky {w : World} (h : PG w) : DKY V8 w := dky_is h.u8 h.tags
theorem PG.ofY {w : World} (h : PG w) : OfOk 7 V8 (derE V8) w := dof_is h.u8 h.tags
theorem PG.knY {w : World} (h : PG w) : HKn w := kn_is h.u8 h.tags
end Go.Proofs.YtonhkclkddobhaaDoor
