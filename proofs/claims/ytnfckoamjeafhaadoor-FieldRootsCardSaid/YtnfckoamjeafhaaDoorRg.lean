/- The document's Neg. -/
import Derived.Test.YtnfckoamjeafhaaDoorRa
namespace Go.Proofs.YtnfckoamjeafhaaDoor
set_option linter.unusedVariables false
set_option linter.unusedSimpArgs false
open Go Go.RowKit

theorem rneg_val (a : Nat) : (PP - a % PP) < 115792089237316195423570985008687907853269984665640564039457584007913129639936 := by have := PP_lim; omega
set_option maxRecDepth 100000 in
set_option maxHeartbeats 2000000 in
theorem rneg_any (a : Nat) (w : World) (ha : a < 115792089237316195423570985008687907853269984665640564039457584007913129639936) : Calls Tryd.prog 31 #[.agg (ds a)] w (NumPost ((PP - a % PP) % PP) w) := by
  have hfr := ((Fr.start w).row (ds a) 32 (g := w.heap.size) rfl).any (ds 0) 32 16 (ds_size 0) (g := w.heap.size + 1) (by simp)
  rw [ds_zero] at hfr
  have hus := us_ds (hfr.get (g := w.heap.size) (t := 32) (cs := ds a) (by simp)) (B := w.heap.size + 1) (by omega)
  obtain ⟨m, hm⟩ : ∃ m, m = a % PP := ⟨_, rfl⟩
  have hml : m < PP := by rw [hm]; exact modPP_lt a
  obtain ⟨r, hr⟩ : ∃ r, r = PP - m := ⟨_, rfl⟩
  obtain ⟨V, hV⟩ : ∃ V, V = r % PP := ⟨_, rfl⟩
  have hrl : r < 65536 ^ 16 := by rw [hr, d16]; have := PP_lim; omega
  have hmod := fun W hu => mod_dgl a 16 (by omega) (by omega) (by rw [d16]; exact ha) (some ⟨w.heap.size, 0, none⟩) 16 (w.heap.size + 1) W hu
  rw [← hm] at hmod ⊢
  rw [← hr, ← hV]
  have hmin := fun W => rminus_any PP m W PP_lim (by omega)
  rw [← hr] at hmin
  have hmod2 := fun A c B W => mod_dgl r 16 (by omega) (by omega) hrl A c B W
  rw [← hV] at hmod2
  have HFR := Lib.hid hfr
  have HUS := Lib.hid hus
  have HMOD := Lib.hid hmod
  have HMIN := Lib.hid hmin
  have HMOD2 := Lib.hid hmod2
  clear hfr hus hmod hmin hmod2 hV hr hm hml hrl ha
  go_enter Tryd.func31, Tryd.ntmps31
  go_wp2_with (fail)
  refine (HMOD.out _ HUS.out (by simp)).mono ?_
  rintro e v1 ⟨rfl, hb⟩
  have hf := HFR.out.ext hb
  have k0 := hf.get (g := w.heap.size) (t := 32) (cs := ds a) (by simp)
  have hz0 : (ds a).size = (ds m).size := by rw [ds_size, ds_size]
  have hf1 := (Fr.setOut (hf.sub (L' := []) (R' := [(w.heap.size + 1, 32, 16)]) (by simp) (by simp)) (g := w.heap.size) (Nat.le_refl _) (by simp) (by simp) (ds m)).more (k0.setRow_same (ds m))
  have HF1 := Lib.hid hf1
  have HZ0 := Lib.hid hz0
  clear hb hf hf1 hz0
  go_wp2_with (first | (refine wpList_store_row rfl 32 (.tmp 1) (.tmp 4) rfl (w.heap.size) (ds m) rfl rfl 32 (ds a) k0 (info_ds m) HZ0.out (ds_one _) ?_))
  clear k0
  refine wp_region_held_drew (S := fun W => Fr w W [(w.heap.size, 32, ds m)] [(w.heap.size + 1, 32, 16)]) (by kernel_rfl) ?_ (fun hHeld => ?_)
  · exact HF1.out.drew
  refine wpAnyH_take (i := 1) (v := .agg (ds m)) rfl (by kernel_rfl) (by kernel_rfl) (by kernel_rfl) (fun _ _ _ h => h) (yields_row (by rfl) 32 (.tmp 1) rfl (w.heap.size) rfl 32 (ds m) _ (fun W (h : Fr _ W _ _) => h.get (by simp)) Tryd.underlying32 rfl (info_ds _)) hHeld ?_
  try simp only [Act.put, List.getElem_toArray, List.getElem_cons_succ, List.getElem_cons_zero, List.setIfInBounds_toArray, List.set_cons_zero, List.set_cons_succ]
  refine wpAnyH_ready (rs := [0]) (by kernel_rfl) (by simp) (AllReadyH.cons rfl (fun K hK => ?_) AllReadyH.nil)
  have h0 := hHeld
  clear hHeld
  try simp only [List.getElem_toArray, List.getElem_cons_succ, List.getElem_cons_zero]
  have H0 := Lib.hid h0
  clear h0
  go_simp
  go_at_call 42
  refine (rprime_any _).mono ?_
  rintro e vv ⟨rfl, hb⟩
  have h1 := H0.out.ext hb
  clear hb H0
  go_wp2_with (fail)
  refine hK.out _ _ h1 (fun hHeld => ?_)
  clear hK K h1
  try simp only [Act.put, List.getElem_toArray, List.getElem_cons_succ, List.getElem_cons_zero, List.setIfInBounds_toArray, List.set_cons_zero, List.set_cons_succ]
  refine wpAnyH_ready (rs := [2]) (by kernel_rfl) (by simp) (AllReadyH.cons rfl (fun K hK => ?_) AllReadyH.nil)
  have h0 := hHeld
  clear hHeld
  try simp only [List.getElem_toArray, List.getElem_cons_succ, List.getElem_cons_zero]
  have H0 := Lib.hid h0
  clear h0
  go_simp
  go_at_call 44
  refine (HMIN.out _).mono ?_
  rintro e vv ⟨rfl, hb⟩
  have h1 := H0.out.ext hb
  clear hb H0
  go_wp2_with (fail)
  refine hK.out _ _ h1 (fun hHeld => ?_)
  clear hK K h1
  try simp only [Act.put, List.getElem_toArray, List.getElem_cons_succ, List.getElem_cons_zero, List.setIfInBounds_toArray, List.set_cons_zero, List.set_cons_succ]
  refine wpAnyH_ready (rs := [3]) (by kernel_rfl) (by simp) (AllReadyH.cons rfl (fun K hK => ?_) AllReadyH.nil)
  have h0 := hHeld
  clear hHeld
  try simp only [List.getElem_toArray, List.getElem_cons_succ, List.getElem_cons_zero]
  have H0 := Lib.hid h0
  clear h0
  go_simp
  go_at_call 43
  refine (rall_any r _).mono ?_
  rintro e vv ⟨A9, c9, rfl, hu, hb⟩
  have HU9 := Lib.hid hu
  clear hu
  have h1 := H0.out.ext hb
  clear hb H0
  go_wp2_with (fail)
  refine hK.out _ _ h1 (fun hHeld => ?_)
  clear hK K h1
  try simp only [Act.put, List.getElem_toArray, List.getElem_cons_succ, List.getElem_cons_zero, List.setIfInBounds_toArray, List.set_cons_zero, List.set_cons_succ]
  refine wpAnyH_ready (rs := [4]) (by kernel_rfl) (by simp) (AllReadyH.cons rfl (fun K hK => ?_) AllReadyH.nil)
  have h0 := hHeld
  clear hHeld
  try simp only [List.getElem_toArray, List.getElem_cons_succ, List.getElem_cons_zero]
  have H0 := Lib.hid h0
  clear h0
  go_simp
  go_at_call 39
  refine (HMOD2.out A9 c9 _ _ HU9.out (Nat.le_refl _)).mono ?_
  rintro e vv ⟨rfl, hb⟩
  have h1 := H0.out.ext hb
  clear hb H0
  go_wp2_with (fail)
  refine hK.out _ _ h1 (fun hHeld => ?_)
  clear hK K h1
  try simp only [Act.put, List.getElem_toArray, List.getElem_cons_succ, List.getElem_cons_zero, List.setIfInBounds_toArray, List.set_cons_zero, List.set_cons_succ]
  refine wpAnyH_ready (rs := [5]) (by kernel_rfl) (by simp) (AllReadyH.cons rfl (fun K hK => ?_) AllReadyH.nil)
  have h0 := hHeld
  clear hHeld
  try simp only [List.getElem_toArray, List.getElem_cons_succ, List.getElem_cons_zero]
  rw [if_pos (by rfl)]
  obtain ⟨old, hold, kold⟩ := Fr.old h0 (g := w.heap.size + 1) (t := 32) (n := 16) (by simp)
  refine wp_store_row 32 (.tmp 2) (.tmp 9) rfl (w.heap.size + 1) (ds V) rfl rfl 32 old kold (info_ds _) hold (ds_one _) ?_
  refine hK.out _ _ (Fr.setAny h0 (g := w.heap.size + 1) (t := 32) (ds_size _) (by simp) (by simp <;> omega)) (fun hHeld => ?_)
  have kb := kold.setRow_same (ds V)
  clear hK K h0 hold
  try simp only [Act.put, List.getElem_toArray, List.getElem_cons_succ, List.getElem_cons_zero, List.setIfInBounds_toArray, List.set_cons_zero, List.set_cons_succ]
  refine wpAnyH_done (by kernel_rfl) ?_ _
  have HK := Lib.hid kb
  have HF := Lib.hid hHeld
  clear kb hHeld
  go_wp2_with (fail)
  exact bodyPost_ret (results_cell_row rfl _ _ (w.heap.size + 1) 32 (ds V) (0, 0) _ rfl HK.out Tryd.underlying32 rfl (info_ds V)) rfl ⟨rfl, HF.out.below⟩
end Go.Proofs.YtnfckoamjeafhaaDoor
