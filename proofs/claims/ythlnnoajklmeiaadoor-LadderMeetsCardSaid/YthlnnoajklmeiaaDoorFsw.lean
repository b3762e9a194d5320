/- The walk of Swap. -/
import Derived.Test.YthlnnoajklmeiaaDoorFq
import Derived.Test.YthlnnoajklmeiaaDoorFr
namespace Go.Proofs.YthlnnoajklmeiaaDoor
set_option linter.unusedVariables false
set_option linter.unusedSimpArgs false
open Go.RowKit

theorem es_size (n : Nat) : (es n).size = 4 := rfl
theorem select_no (x y : Nat) (w : World) : Calls Tryd.prog 50 #[.agg (es x), .agg (es y), .bool false] w (ElemPost x w) := select_any x y false w
theorem select_yes (x y : Nat) (w : World) : Calls Tryd.prog 50 #[.agg (es x), .agg (es y), .bool true] w (ElemPost y w) := select_any x y true w
set_option maxHeartbeats 1000000 in
theorem swap_no (x y : Nat) (w : World) :
    Calls Tryd.prog 39 #[.agg (es x), .agg (es y), .bool false] w fun e w' => e = .returned (.tuple #[.agg (es x), .agg (es y)]) ∧ Below w.heap.size w w' := by
  have hfr := (((((Fr.start w).row (es x) 46 (g := w.heap.size) rfl).row (es y) 46 (g := w.heap.size + 1) (by simp)).any #[.int .u64 0, .int .u64 0, .int .u64 0, .int .u64 0] 46 4 rfl (g := w.heap.size + 1 + 1) (by simp)).any #[.int .u64 0, .int .u64 0, .int .u64 0, .int .u64 0] 46 4 rfl (g := w.heap.size + 1 + 1 + 1) (by simp))
  have HFR := Lib.hid hfr
  clear hfr
  go_enter Tryd.func39, Tryd.ntmps39
  go_wp2_with (fail)
  refine wp_region_held_drew (S := fun W => Fr w W [(w.heap.size + 1, 46, es y), (w.heap.size, 46, es x)] [(w.heap.size + 1 + 1 + 1, 46, 4), (w.heap.size + 1 + 1, 46, 4)]) (by kernel_rfl) ?_ (fun hHeld => ?_)
  · exact HFR.out.drew
  refine wpAnyH_take (i := 0) (v := .agg (es (x))) rfl (by kernel_rfl) (by kernel_rfl) (by kernel_rfl) (fun _ _ _ h => h) (yields_row (by rfl) 46 (.tmp 3) rfl (w.heap.size) rfl 46 (es (x)) _ (fun W (h : Fr _ W _ _) => h.get (by simp)) Tryd.underlying46 rfl info_elem) hHeld ?_
  try simp only [Act.put, List.getElem_toArray, List.getElem_cons_succ, List.getElem_cons_zero, List.setIfInBounds_toArray, List.set_cons_zero, List.set_cons_succ]
  refine wpAnyH_take (i := 1) (v := .agg (es (y))) rfl (by kernel_rfl) (by kernel_rfl) (by kernel_rfl) (fun _ _ _ h => h) (yields_row (by rfl) 46 (.tmp 4) rfl (w.heap.size + 1) rfl 46 (es (y)) _ (fun W (h : Fr _ W _ _) => h.get (by simp)) Tryd.underlying46 rfl info_elem) hHeld ?_
  try simp only [Act.put, List.getElem_toArray, List.getElem_cons_succ, List.getElem_cons_zero, List.setIfInBounds_toArray, List.set_cons_zero, List.set_cons_succ]
  refine wpAnyH_take (i := 2) (v := ?_) rfl (by kernel_rfl) (by kernel_rfl) (by kernel_rfl) (fun _ _ _ h => h) (Or.inl ⟨by rfl, ?_⟩) hHeld ?_
  rotate_left
  · (intro W hSw; (try dsimp only at hSw); (try simp only [List.getElem_toArray, List.getElem_cons_succ, List.getElem_cons_zero]); go_simp; try with_reducible rfl)
  try simp only [Act.put, List.getElem_toArray, List.getElem_cons_succ, List.getElem_cons_zero, List.setIfInBounds_toArray, List.set_cons_zero, List.set_cons_succ]
  refine wpAnyH_take (i := 4) (v := .agg (es (y))) rfl (by kernel_rfl) (by kernel_rfl) (by kernel_rfl) (fun _ _ _ h => h) (yields_row (by rfl) 46 (.tmp 4) rfl (w.heap.size + 1) rfl 46 (es (y)) _ (fun W (h : Fr _ W _ _) => h.get (by simp)) Tryd.underlying46 rfl info_elem) hHeld ?_
  try simp only [Act.put, List.getElem_toArray, List.getElem_cons_succ, List.getElem_cons_zero, List.setIfInBounds_toArray, List.set_cons_zero, List.set_cons_succ]
  refine wpAnyH_take (i := 5) (v := .agg (es (x))) rfl (by kernel_rfl) (by kernel_rfl) (by kernel_rfl) (fun _ _ _ h => h) (yields_row (by rfl) 46 (.tmp 3) rfl (w.heap.size) rfl 46 (es (x)) _ (fun W (h : Fr _ W _ _) => h.get (by simp)) Tryd.underlying46 rfl info_elem) hHeld ?_
  try simp only [Act.put, List.getElem_toArray, List.getElem_cons_succ, List.getElem_cons_zero, List.setIfInBounds_toArray, List.set_cons_zero, List.set_cons_succ]
  refine wpAnyH_take (i := 6) (v := ?_) rfl (by kernel_rfl) (by kernel_rfl) (by kernel_rfl) (fun _ _ _ h => h) (Or.inl ⟨by rfl, ?_⟩) hHeld ?_
  rotate_left
  · (intro W hSw; (try dsimp only at hSw); (try simp only [List.getElem_toArray, List.getElem_cons_succ, List.getElem_cons_zero]); go_simp; try with_reducible rfl)
  try simp only [Act.put, List.getElem_toArray, List.getElem_cons_succ, List.getElem_cons_zero, List.setIfInBounds_toArray, List.set_cons_zero, List.set_cons_succ]
  refine wpAnyH_ready (rs := [3]) (by kernel_rfl) (by simp) (AllReadyH.cons rfl (fun K hK => ?_) AllReadyH.nil)
  have h0 := hHeld
  clear hHeld
  try simp only [List.getElem_toArray, List.getElem_cons_succ, List.getElem_cons_zero]
  have H0 := Lib.hid h0
  clear h0
  go_simp
  go_at_call 50
  refine (select_no x y _).mono ?_
  rintro e vv ⟨rfl, hb⟩
  have h1 := H0.out.ext hb
  clear hb H0
  go_wp2_with (fail)
  refine hK.out _ _ h1 (fun hHeld => ?_)
  clear hK K h1
  try simp only [Act.put, List.getElem_toArray, List.getElem_cons_succ, List.getElem_cons_zero, List.setIfInBounds_toArray, List.set_cons_zero, List.set_cons_succ]
  refine wpAnyH_ready (rs := [7]) (by kernel_rfl) (by simp) (AllReadyH.cons rfl (fun K hK => ?_) AllReadyH.nil)
  have h0 := hHeld
  clear hHeld
  try simp only [List.getElem_toArray, List.getElem_cons_succ, List.getElem_cons_zero]
  have H0 := Lib.hid h0
  clear h0
  go_simp
  go_at_call 50
  refine (select_no y x _).mono ?_
  rintro e vv ⟨rfl, hb⟩
  have h1 := H0.out.ext hb
  clear hb H0
  go_wp2_with (fail)
  refine hK.out _ _ h1 (fun hHeld => ?_)
  clear hK K h1
  try simp only [Act.put, List.getElem_toArray, List.getElem_cons_succ, List.getElem_cons_zero, List.setIfInBounds_toArray, List.set_cons_zero, List.set_cons_succ]
  refine wpAnyH_ready (rs := [8]) (by kernel_rfl) (by simp) (AllReadyH.cons rfl (fun K hK => ?_) AllReadyH.nil)
  have h0 := hHeld
  clear hHeld
  try simp only [List.getElem_toArray, List.getElem_cons_succ, List.getElem_cons_zero]
  rw [if_pos (by rfl)]
  obtain ⟨old, hold, kold⟩ := Fr.old h0 (g := w.heap.size + 1 + 1) (t := 46) (n := 4) (by simp)
  refine wp_store_row 46 (.tmp 6) (.tmp 11) rfl (w.heap.size + 1 + 1) (es x) rfl rfl 46 old kold info_elem hold (es_one _) ?_
  refine hK.out _ _ (Fr.setAny h0 (g := w.heap.size + 1 + 1) (t := 46) (es_size _) (by simp) (by simp <;> omega)) (fun hHeld => ?_)
  have kb := kold.setRow_same (es x)
  clear hK K h0 hold
  try simp only [Act.put, List.getElem_toArray, List.getElem_cons_succ, List.getElem_cons_zero, List.setIfInBounds_toArray, List.set_cons_zero, List.set_cons_succ]
  have k6 := kb
  clear kb kold
  refine wpAnyH_ready (rs := [9]) (by kernel_rfl) (by simp) (AllReadyH.cons rfl (fun K hK => ?_) AllReadyH.nil)
  have h0 := hHeld
  clear hHeld
  try simp only [List.getElem_toArray, List.getElem_cons_succ, List.getElem_cons_zero]
  rw [if_pos (by rfl)]
  obtain ⟨old, hold, kold⟩ := Fr.old h0 (g := w.heap.size + 1 + 1 + 1) (t := 46) (n := 4) (by simp)
  refine wp_store_row 46 (.tmp 7) (.tmp 15) rfl (w.heap.size + 1 + 1 + 1) (es y) rfl rfl 46 old kold info_elem hold (es_one _) ?_
  refine hK.out _ _ (Fr.setAny h0 (g := w.heap.size + 1 + 1 + 1) (t := 46) (es_size _) (by simp) (by simp <;> omega)) (fun hHeld => ?_)
  have kb := kold.setRow_same (es y)
  clear hK K h0 hold
  try simp only [Act.put, List.getElem_toArray, List.getElem_cons_succ, List.getElem_cons_zero, List.setIfInBounds_toArray, List.set_cons_zero, List.set_cons_succ]
  refine wpAnyH_done (by kernel_rfl) ?_ _
  have HF := Lib.hid hHeld
  clear hHeld
  go_wp2_with (fail)
  exact bodyPost_ret (results_row2 rfl rfl rfl (k6.setRow_other (by omega) _) kb Tryd.underlying46 rfl info_elem info_elem) rfl ⟨rfl, HF.out.below⟩
set_option maxHeartbeats 1000000 in
theorem swap_yes (x y : Nat) (w : World) :
    Calls Tryd.prog 39 #[.agg (es x), .agg (es y), .bool true] w fun e w' => e = .returned (.tuple #[.agg (es y), .agg (es x)]) ∧ Below w.heap.size w w' := by
  have hfr := (((((Fr.start w).row (es x) 46 (g := w.heap.size) rfl).row (es y) 46 (g := w.heap.size + 1) (by simp)).any #[.int .u64 0, .int .u64 0, .int .u64 0, .int .u64 0] 46 4 rfl (g := w.heap.size + 1 + 1) (by simp)).any #[.int .u64 0, .int .u64 0, .int .u64 0, .int .u64 0] 46 4 rfl (g := w.heap.size + 1 + 1 + 1) (by simp))
  have HFR := Lib.hid hfr
  clear hfr
  go_enter Tryd.func39, Tryd.ntmps39
  go_wp2_with (fail)
  refine wp_region_held_drew (S := fun W => Fr w W [(w.heap.size + 1, 46, es y), (w.heap.size, 46, es x)] [(w.heap.size + 1 + 1 + 1, 46, 4), (w.heap.size + 1 + 1, 46, 4)]) (by kernel_rfl) ?_ (fun hHeld => ?_)
  · exact HFR.out.drew
  refine wpAnyH_take (i := 0) (v := .agg (es (x))) rfl (by kernel_rfl) (by kernel_rfl) (by kernel_rfl) (fun _ _ _ h => h) (yields_row (by rfl) 46 (.tmp 3) rfl (w.heap.size) rfl 46 (es (x)) _ (fun W (h : Fr _ W _ _) => h.get (by simp)) Tryd.underlying46 rfl info_elem) hHeld ?_
  try simp only [Act.put, List.getElem_toArray, List.getElem_cons_succ, List.getElem_cons_zero, List.setIfInBounds_toArray, List.set_cons_zero, List.set_cons_succ]
  refine wpAnyH_take (i := 1) (v := .agg (es (y))) rfl (by kernel_rfl) (by kernel_rfl) (by kernel_rfl) (fun _ _ _ h => h) (yields_row (by rfl) 46 (.tmp 4) rfl (w.heap.size + 1) rfl 46 (es (y)) _ (fun W (h : Fr _ W _ _) => h.get (by simp)) Tryd.underlying46 rfl info_elem) hHeld ?_
  try simp only [Act.put, List.getElem_toArray, List.getElem_cons_succ, List.getElem_cons_zero, List.setIfInBounds_toArray, List.set_cons_zero, List.set_cons_succ]
  refine wpAnyH_take (i := 2) (v := ?_) rfl (by kernel_rfl) (by kernel_rfl) (by kernel_rfl) (fun _ _ _ h => h) (Or.inl ⟨by rfl, ?_⟩) hHeld ?_
  rotate_left
  · (intro W hSw; (try dsimp only at hSw); (try simp only [List.getElem_toArray, List.getElem_cons_succ, List.getElem_cons_zero]); go_simp; try with_reducible rfl)
  try simp only [Act.put, List.getElem_toArray, List.getElem_cons_succ, List.getElem_cons_zero, List.setIfInBounds_toArray, List.set_cons_zero, List.set_cons_succ]
  refine wpAnyH_take (i := 4) (v := .agg (es (y))) rfl (by kernel_rfl) (by kernel_rfl) (by kernel_rfl) (fun _ _ _ h => h) (yields_row (by rfl) 46 (.tmp 4) rfl (w.heap.size + 1) rfl 46 (es (y)) _ (fun W (h : Fr _ W _ _) => h.get (by simp)) Tryd.underlying46 rfl info_elem) hHeld ?_
  try simp only [Act.put, List.getElem_toArray, List.getElem_cons_succ, List.getElem_cons_zero, List.setIfInBounds_toArray, List.set_cons_zero, List.set_cons_succ]
  refine wpAnyH_take (i := 5) (v := .agg (es (x))) rfl (by kernel_rfl) (by kernel_rfl) (by kernel_rfl) (fun _ _ _ h => h) (yields_row (by rfl) 46 (.tmp 3) rfl (w.heap.size) rfl 46 (es (x)) _ (fun W (h : Fr _ W _ _) => h.get (by simp)) Tryd.underlying46 rfl info_elem) hHeld ?_
  try simp only [Act.put, List.getElem_toArray, List.getElem_cons_succ, List.getElem_cons_zero, List.setIfInBounds_toArray, List.set_cons_zero, List.set_cons_succ]
  refine wpAnyH_take (i := 6) (v := ?_) rfl (by kernel_rfl) (by kernel_rfl) (by kernel_rfl) (fun _ _ _ h => h) (Or.inl ⟨by rfl, ?_⟩) hHeld ?_
  rotate_left
  · (intro W hSw; (try dsimp only at hSw); (try simp only [List.getElem_toArray, List.getElem_cons_succ, List.getElem_cons_zero]); go_simp; try with_reducible rfl)
  try simp only [Act.put, List.getElem_toArray, List.getElem_cons_succ, List.getElem_cons_zero, List.setIfInBounds_toArray, List.set_cons_zero, List.set_cons_succ]
  refine wpAnyH_ready (rs := [3]) (by kernel_rfl) (by simp) (AllReadyH.cons rfl (fun K hK => ?_) AllReadyH.nil)
  have h0 := hHeld
  clear hHeld
  try simp only [List.getElem_toArray, List.getElem_cons_succ, List.getElem_cons_zero]
  have H0 := Lib.hid h0
  clear h0
  go_simp
  go_at_call 50
  refine (select_yes x y _).mono ?_
  rintro e vv ⟨rfl, hb⟩
  have h1 := H0.out.ext hb
  clear hb H0
  go_wp2_with (fail)
  refine hK.out _ _ h1 (fun hHeld => ?_)
  clear hK K h1
  try simp only [Act.put, List.getElem_toArray, List.getElem_cons_succ, List.getElem_cons_zero, List.setIfInBounds_toArray, List.set_cons_zero, List.set_cons_succ]
  refine wpAnyH_ready (rs := [7]) (by kernel_rfl) (by simp) (AllReadyH.cons rfl (fun K hK => ?_) AllReadyH.nil)
  have h0 := hHeld
  clear hHeld
  try simp only [List.getElem_toArray, List.getElem_cons_succ, List.getElem_cons_zero]
  have H0 := Lib.hid h0
  clear h0
  go_simp
  go_at_call 50
  refine (select_yes y x _).mono ?_
  rintro e vv ⟨rfl, hb⟩
  have h1 := H0.out.ext hb
  clear hb H0
  go_wp2_with (fail)
  refine hK.out _ _ h1 (fun hHeld => ?_)
  clear hK K h1
  try simp only [Act.put, List.getElem_toArray, List.getElem_cons_succ, List.getElem_cons_zero, List.setIfInBounds_toArray, List.set_cons_zero, List.set_cons_succ]
  refine wpAnyH_ready (rs := [8]) (by kernel_rfl) (by simp) (AllReadyH.cons rfl (fun K hK => ?_) AllReadyH.nil)
  have h0 := hHeld
  clear hHeld
  try simp only [List.getElem_toArray, List.getElem_cons_succ, List.getElem_cons_zero]
  rw [if_pos (by rfl)]
  obtain ⟨old, hold, kold⟩ := Fr.old h0 (g := w.heap.size + 1 + 1) (t := 46) (n := 4) (by simp)
  refine wp_store_row 46 (.tmp 6) (.tmp 11) rfl (w.heap.size + 1 + 1) (es y) rfl rfl 46 old kold info_elem hold (es_one _) ?_
  refine hK.out _ _ (Fr.setAny h0 (g := w.heap.size + 1 + 1) (t := 46) (es_size _) (by simp) (by simp <;> omega)) (fun hHeld => ?_)
  have kb := kold.setRow_same (es y)
  clear hK K h0 hold
  try simp only [Act.put, List.getElem_toArray, List.getElem_cons_succ, List.getElem_cons_zero, List.setIfInBounds_toArray, List.set_cons_zero, List.set_cons_succ]
  have k6 := kb
  clear kb kold
  refine wpAnyH_ready (rs := [9]) (by kernel_rfl) (by simp) (AllReadyH.cons rfl (fun K hK => ?_) AllReadyH.nil)
  have h0 := hHeld
  clear hHeld
  try simp only [List.getElem_toArray, List.getElem_cons_succ, List.getElem_cons_zero]
  rw [if_pos (by rfl)]
  obtain ⟨old, hold, kold⟩ := Fr.old h0 (g := w.heap.size + 1 + 1 + 1) (t := 46) (n := 4) (by simp)
  refine wp_store_row 46 (.tmp 7) (.tmp 15) rfl (w.heap.size + 1 + 1 + 1) (es x) rfl rfl 46 old kold info_elem hold (es_one _) ?_
  refine hK.out _ _ (Fr.setAny h0 (g := w.heap.size + 1 + 1 + 1) (t := 46) (es_size _) (by simp) (by simp <;> omega)) (fun hHeld => ?_)
  have kb := kold.setRow_same (es x)
  clear hK K h0 hold
  try simp only [Act.put, List.getElem_toArray, List.getElem_cons_succ, List.getElem_cons_zero, List.setIfInBounds_toArray, List.set_cons_zero, List.set_cons_succ]
  refine wpAnyH_done (by kernel_rfl) ?_ _
  have HF := Lib.hid hHeld
  clear hHeld
  go_wp2_with (fail)
  exact bodyPost_ret (results_row2 rfl rfl rfl (k6.setRow_other (by omega) _) kb Tryd.underlying46 rfl info_elem info_elem) rfl ⟨rfl, HF.out.below⟩
end Go.Proofs.YthlnnoajklmeiaaDoor
