/- The walk of Inv. -/
import Derived.Test.YtnfckoamjeafhaaDoorFz
namespace Go.Proofs.YtnfckoamjeafhaaDoor
set_option linter.unusedVariables false
set_option linter.unusedSimpArgs false
open Go.RowKit

theorem inv_num : num4 18446744073709551595 18446744073709551615 18446744073709551615 9223372036854775807 = PP - 2 := by decide +kernel
theorem es_inv : es (PP - 2) = #[.int .u64 18446744073709551595, .int .u64 18446744073709551615, .int .u64 18446744073709551615, .int .u64 9223372036854775807] := es_of_num4 inv_num.symm (by decide) (by decide) (by decide) (by decide)
theorem info_w4s (n : Nat) : (Tryd.prog.info? 25).map (·.size) = some (es n).size := info_w4
set_option maxHeartbeats 1000000 in
theorem inv_any (x : Fin PP) (w : World) (hpg : PG w) : Calls Tryd.prog 35 #[.agg (ev x)] w (EPost (x ^ (PP - 2)) w) := by
  have hfr := (((Fr.start w).row (ev x) 27 (g := w.heap.size) rfl).any (es 0) 27 4 rfl (g := w.heap.size + 1) (by simp)).row (es (PP - 2)) 25 (g := w.heap.size + 1 + 1) (by simp)
  rw [es_zero] at hfr
  have hfr2 := hfr
  rw [es_inv] at hfr2
  have HFR := Lib.hid hfr2
  clear hfr hfr2
  have HPG := Lib.hid hpg
  obtain ⟨hz, p0, p1, p2, p3⟩ := hpg
  go_enter Tryd.func35, Tryd.ntmps35
  go_wp2_with (fail)
  refine wp_region_held_drew (S := fun W => Fr w W [(w.heap.size + 1 + 1, 25, es (PP - 2)), (w.heap.size, 27, ev x)] [(w.heap.size + 1, 27, 4)]) (by kernel_rfl) ?_ (fun hHeld => ?_)
  · exact (by rw [es_inv]; exact HFR.out.drew)
  refine wpAnyH_take (i := 0) (v := .agg (ev x)) rfl (by kernel_rfl) (by kernel_rfl) (by kernel_rfl) (fun _ _ _ h => h) (yields_row (by rfl) 27 (.tmp 1) rfl (w.heap.size) rfl 27 (ev x) _ (fun W (h : Fr _ W _ _) => h.get (by simp)) Tryd.underlying27 rfl (info_ev _)) hHeld ?_
  try simp only [Act.put, List.getElem_toArray, List.getElem_cons_succ, List.getElem_cons_zero, List.setIfInBounds_toArray, List.set_cons_zero, List.set_cons_succ]
  refine wpAnyH_take (i := 1) (v := .agg (es (PP - 2))) rfl (by kernel_rfl) (by kernel_rfl) (by kernel_rfl) (fun _ _ _ h => h) (yields_row (by rfl) 25 (.tmp 3) rfl (w.heap.size + 1 + 1) rfl 25 (es (PP - 2)) _ (fun W (h : Fr _ W _ _) => h.get (by simp)) Tryd.underlying25 rfl (info_w4s _)) hHeld ?_
  try simp only [Act.put, List.getElem_toArray, List.getElem_cons_succ, List.getElem_cons_zero, List.setIfInBounds_toArray, List.set_cons_zero, List.set_cons_succ]
  refine wpAnyH_ready (rs := [2]) (by kernel_rfl) (by simp) (AllReadyH.cons rfl (fun K hK => ?_) AllReadyH.nil)
  have h0 := hHeld
  clear hHeld
  try simp only [List.getElem_toArray, List.getElem_cons_succ, List.getElem_cons_zero]
  have H0 := Lib.hid h0
  clear h0
  go_simp
  go_at_call 20
  refine (bytesOf_any (PP - 2) _ (by decide +kernel)).mono ?_
  rintro e vv ⟨rfl, hb⟩
  have h1 := H0.out.ext hb
  clear hb H0
  go_wp2_with (fail)
  refine hK.out _ _ h1 (fun hHeld => ?_)
  clear hK K h1
  try simp only [Act.put, List.getElem_toArray, List.getElem_cons_succ, List.getElem_cons_zero, List.setIfInBounds_toArray, List.set_cons_zero, List.set_cons_succ]
  refine wpAnyH_ready (rs := [3]) (by kernel_rfl) (by simp) (AllReadyH.cons rfl (fun K hK => ?_) AllReadyH.nil)
  have h0 := hHeld
  clear hHeld
  try simp only [List.getElem_toArray, List.getElem_cons_succ, List.getElem_cons_zero]
  have H0 := Lib.hid h0
  clear h0
  go_simp
  go_at_call 21
  refine (powerF x _ (PP - 2) (Fr.pg H0.out HPG.out) (by decide +kernel)).mono ?_
  rintro e vv ⟨rfl, hb⟩
  have h1 := H0.out.ext hb
  clear hb H0
  go_wp2_with (fail)
  refine hK.out _ _ h1 (fun hHeld => ?_)
  clear hK K h1
  try simp only [Act.put, List.getElem_toArray, List.getElem_cons_succ, List.getElem_cons_zero, List.setIfInBounds_toArray, List.set_cons_zero, List.set_cons_succ]
  refine wpAnyH_ready (rs := [4]) (by kernel_rfl) (by simp) (AllReadyH.cons rfl (fun K hK => ?_) AllReadyH.nil)
  have h0 := hHeld
  clear hHeld
  try simp only [List.getElem_toArray, List.getElem_cons_succ, List.getElem_cons_zero]
  rw [if_pos (by rfl)]
  obtain ⟨old, hold, kold⟩ := Fr.old h0 (g := w.heap.size + 1) (t := 27) (n := 4) (by simp)
  refine wp_store_row 27 (.tmp 2) (.tmp 12) rfl (w.heap.size + 1) (ev (x ^ (PP - 2))) rfl rfl 27 old kold (info_ev _) hold (ev_one _) ?_
  refine hK.out _ _ (Fr.setAny h0 (g := w.heap.size + 1) (t := 27) (ev_size _) (by simp) (by simp <;> omega)) (fun hHeld => ?_)
  have kb := kold.setRow_same (ev (x ^ (PP - 2)))
  clear hK K h0 hold
  try simp only [Act.put, List.getElem_toArray, List.getElem_cons_succ, List.getElem_cons_zero, List.setIfInBounds_toArray, List.set_cons_zero, List.set_cons_succ]
  refine wpAnyH_done (by kernel_rfl) ?_ _
  have HF := Lib.hid hHeld
  clear hHeld
  go_wp2_with (fail)
  exact elem_end (g := w.heap.size + 1) rfl rfl rfl kb HF.out.below
end Go.Proofs.YtnfckoamjeafhaaDoor
