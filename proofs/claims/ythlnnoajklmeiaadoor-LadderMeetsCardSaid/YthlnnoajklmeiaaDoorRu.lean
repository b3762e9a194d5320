/- The document's Sub. -/
import Derived.Test.YthlnnoajklmeiaaDoorRc
import Derived.Test.YthlnnoajklmeiaaDoorRg
namespace Go.Proofs.YthlnnoajklmeiaaDoor
set_option linter.unusedVariables false
set_option linter.unusedSimpArgs false
open Go Go.RowKit

set_option maxRecDepth 100000 in
set_option maxHeartbeats 2000000 in
theorem rsub_any (a b : Nat) (w : World) (ha : a < 115792089237316195423570985008687907853269984665640564039457584007913129639936) (hb : b < 115792089237316195423570985008687907853269984665640564039457584007913129639936) : Calls Tryd.prog 20 #[.agg (ds a), .agg (ds b)] w (NumPost ((a + (PP - b % PP) % PP) % PP) w) := by
  have hfr := (((Fr.start w).row (ds a) 35 (g := w.heap.size) rfl).row (ds b) 35 (g := w.heap.size + 1) (by simp)).any (ds 0) 35 16 (ds_size 0) (g := w.heap.size + 1 + 1) (by simp)
  rw [ds_zero] at hfr
  have hneg := fun W => rneg_any b W hb
  have hadd := fun W => radd_any a ((PP - b % PP) % PP) W ha (by have := modPP_lt (PP - b % PP); have := PP_lim; omega)
  obtain ⟨c, hc⟩ : ∃ c, c = (PP - b % PP) % PP := ⟨_, rfl⟩
  rw [← hc] at hneg hadd ⊢
  obtain ⟨V, hV⟩ : ∃ V, V = (a + c) % PP := ⟨_, rfl⟩
  rw [← hV] at hadd ⊢
  have HFR := Lib.hid hfr
  have HNEG := Lib.hid hneg
  have HADD := Lib.hid hadd
  clear hfr hneg hadd hV hc ha hb
  go_enter Tryd.func20, Tryd.ntmps20
  go_wp2_with (fail)
  refine wp_region_held_drew (S := fun W => Fr w W [(w.heap.size + 1, 35, ds b), (w.heap.size, 35, ds a)] [(w.heap.size + 1 + 1, 35, 16)]) (by kernel_rfl) ?_ (fun hHeld => ?_)
  · exact HFR.out.drew
  refine wpAnyH_take (i := 0) (v := .agg (ds a)) rfl (by kernel_rfl) (by kernel_rfl) (by kernel_rfl) (fun _ _ _ h => h) (yields_row (by rfl) 35 (.tmp 2) rfl (w.heap.size) rfl 35 (ds a) _ (fun W (h : Fr _ W _ _) => h.get (by simp)) Tryd.underlying35 rfl (info_ds _)) hHeld ?_
  try simp only [Act.put, List.getElem_toArray, List.getElem_cons_succ, List.getElem_cons_zero, List.setIfInBounds_toArray, List.set_cons_zero, List.set_cons_succ]
  refine wpAnyH_take (i := 1) (v := .agg (ds b)) rfl (by kernel_rfl) (by kernel_rfl) (by kernel_rfl) (fun _ _ _ h => h) (yields_row (by rfl) 35 (.tmp 3) rfl (w.heap.size + 1) rfl 35 (ds b) _ (fun W (h : Fr _ W _ _) => h.get (by simp)) Tryd.underlying35 rfl (info_ds _)) hHeld ?_
  try simp only [Act.put, List.getElem_toArray, List.getElem_cons_succ, List.getElem_cons_zero, List.setIfInBounds_toArray, List.set_cons_zero, List.set_cons_succ]
  refine wpAnyH_ready (rs := [2]) (by kernel_rfl) (by simp) (AllReadyH.cons rfl (fun K hK => ?_) AllReadyH.nil)
  have h0 := hHeld
  clear hHeld
  try simp only [List.getElem_toArray, List.getElem_cons_succ, List.getElem_cons_zero]
  have H0 := Lib.hid h0
  clear h0
  go_simp
  go_at_call 33
  refine (HNEG.out _).mono ?_
  rintro e vv ⟨rfl, hb⟩
  have h1 := H0.out.ext hb
  clear hb H0
  go_wp2_with (fail)
  refine hK.out _ _ h1 (fun hHeld => ?_)
  clear hK K h1
  try simp only [Act.put, List.getElem_toArray, List.getElem_cons_succ, List.getElem_cons_zero, List.setIfInBounds_toArray, List.set_cons_zero, List.set_cons_succ]
  refine wpAnyH_ready (rs := [3]) (by kernel_rfl) (by simp) (AllReadyH.cons rfl (fun K hK => ?_) AllReadyH.nil)
  have h0 := hHeld
  clear hHeld
  try simp only [List.getElem_toArray, List.getElem_cons_succ, List.getElem_cons_zero]
  have H0 := Lib.hid h0
  clear h0
  go_simp
  go_at_call 18
  refine (HADD.out _).mono ?_
  rintro e vv ⟨rfl, hb⟩
  have h1 := H0.out.ext hb
  clear hb H0
  go_wp2_with (fail)
  refine hK.out _ _ h1 (fun hHeld => ?_)
  clear hK K h1
  try simp only [Act.put, List.getElem_toArray, List.getElem_cons_succ, List.getElem_cons_zero, List.setIfInBounds_toArray, List.set_cons_zero, List.set_cons_succ]
  refine wpAnyH_ready (rs := [4]) (by kernel_rfl) (by simp) (AllReadyH.cons rfl (fun K hK => ?_) AllReadyH.nil)
  have h0 := hHeld
  clear hHeld
  try simp only [List.getElem_toArray, List.getElem_cons_succ, List.getElem_cons_zero]
  rw [if_pos (by rfl)]
  obtain ⟨old, hold, kold⟩ := Fr.old h0 (g := w.heap.size + 1 + 1) (t := 35) (n := 16) (by simp)
  refine wp_store_row 35 (.tmp 4) (.tmp 8) rfl (w.heap.size + 1 + 1) (ds V) rfl rfl 35 old kold (info_ds _) hold (ds_one _) ?_
  refine hK.out _ _ (Fr.setAny h0 (g := w.heap.size + 1 + 1) (t := 35) (ds_size _) (by simp) (by simp <;> omega)) (fun hHeld => ?_)
  have kb := kold.setRow_same (ds V)
  clear hK K h0 hold
  try simp only [Act.put, List.getElem_toArray, List.getElem_cons_succ, List.getElem_cons_zero, List.setIfInBounds_toArray, List.set_cons_zero, List.set_cons_succ]
  refine wpAnyH_done (by kernel_rfl) ?_ _
  have HK := Lib.hid kb
  have HF := Lib.hid hHeld
  clear kb hHeld
  go_wp2_with (fail)
  exact bodyPost_ret (results_cell_row rfl _ _ (w.heap.size + 1 + 1) 35 (ds V) (0, 0) _ rfl HK.out Tryd.underlying35 rfl (info_ds V)) rfl ⟨rfl, HF.out.below⟩
end Go.Proofs.YthlnnoajklmeiaaDoor
