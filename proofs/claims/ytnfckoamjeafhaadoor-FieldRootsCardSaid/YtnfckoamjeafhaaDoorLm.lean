/- The laws' num and is; Canonical. -/
import Derived.Test.YtnfckoamjeafhaaDoorRz
import Derived.Test.YtnfckoamjeafhaaDoorKt
import Derived.Test.YtnfckoamjeafhaaDoorLk
namespace Go.Proofs.YtnfckoamjeafhaaDoor
set_option linter.unusedVariables false
set_option linter.unusedSimpArgs false
open Go.RowKit

theorem keys_same (n : Nat) (W : World) : (Op.equalIn 10000 23 (.agg (ks n)) (.agg (ks n))).run Tryd.prog W = .ok true W := by
  have h2 := run_equalIn_nats (P := Tryd.prog) W 9998 23 5 32 .u8 Tryd.underlying23 Tryd.underlying5 size_u8' (kb n) (kb n) (kb_len n) (kb_len n)
  rw [show (kb n == kb n) = true by simp] at h2
  exact h2
theorem ofK_top (n : Nat) : ofK (n % 57896044618658097711785492504343953926634992332820282019728792003956564819968) = ofK n := by
  unfold ofK
  rw [Nat.mod_mod]
set_option maxRecDepth 100000 in
set_option maxHeartbeats 1000000 in
theorem num_any (n : Nat) {x : Fin PP} (h : x = ofK n) (w : World) (hn : n < 115792089237316195423570985008687907853269984665640564039457584007913129639936) : Calls Tryd.prog 7 #[.agg (ks n)] w (DPost x w) := by
  have hfr := ((Fr.start w).row (ks n) 23 (g := w.heap.size) rfl).any (ds 0) 32 16 (ds_size 0) (g := w.heap.size + 1) (by simp)
  rw [ds_zero] at hfr
  have k0 := hfr.get (g := w.heap.size) (t := 23) (cs := ks n) (by simp)
  have c31 := k0.cell 31
  rw [ks_get n (by omega)] at c31
  have f31 := k0.frozen 31
  obtain ⟨y, hy⟩ : ∃ y, y = n / 256 ^ 31 % 256 := ⟨_, rfl⟩
  have hyl : y < 256 := by rw [hy]; exact Nat.mod_lt _ (by omega)
  rw [← hy] at c31
  have hrow := ks_top hn hy
  obtain ⟨m, hm⟩ : ∃ m, m = n % 57896044618658097711785492504343953926634992332820282019728792003956564819968 := ⟨_, rfl⟩
  have hml : m < 57896044618658097711785492504343953926634992332820282019728792003956564819968 := by rw [hm]; exact Nat.mod_lt _ (by omega)
  rw [← hm] at hrow
  have hf1 := ((Fr.start w).row (ks m) 23 (g := w.heap.size) rfl).any (ds 0) 32 16 (ds_size 0) (g := w.heap.size + 1) (by simp)
  rw [ds_zero] at hf1
  have hx : x = ofK m := by rw [h, hm, ofK_top]
  have k1 := hf1.get (g := w.heap.size) (t := 23) (cs := ks m) (by simp)
  have hof := fun W => rof_any m W (by omega)
  have hnum := fun W => numD hml hx W
  rw [ds_zero] at hnum
  have HF1 := Lib.hid hf1
  have HOF := Lib.hid hof
  have HNUM := Lib.hid hnum
  clear hfr k0 hf1 hof hnum hx hm hml h hy hn
  go_enter Tryd.func7, Tryd.ntmps7
  go_wp2_with (first | (refine wpList_load_row rfl 23 (.tmp 1) rfl w.heap.size rfl 23 (ks m) (0, 0) _ k1 Tryd.underlying23 rfl (info_ks _) ?_))
  refine (HOF.out _).mono ?_
  rintro e v1 ⟨rfl, hb⟩
  have hf := HF1.out.ext hb
  have HF2 := Lib.hid hf
  clear hf hb k1
  go_wp2_with (fail)
  refine (HNUM.out _).mono ?_
  rintro e v2 ⟨rfl, hb⟩
  have hf := HF2.out.ext hb
  obtain ⟨old, hold, kR⟩ := hf.old (g := w.heap.size + 1) (t := 32) (n := 16) (by simp)
  have kS := kR.setRow_same (dv x)
  have hB2 := below_setRow hf.below (show w.heap.size ≤ w.heap.size + 1 by omega) (dv x)
  have hold' : old.size = (dv x).size := by rw [hold, dv_size]
  have HS := Lib.hid kS
  have HB2 := Lib.hid hB2
  have HO := Lib.hid hold'
  clear hb hf kS hB2 hold hold'
  go_wp2_with (first | (refine wpList_store_row rfl 32 (.tmp 2) (.tmp 10) rfl (w.heap.size + 1) (dv x) rfl rfl 32 old kR (info_dv x) HO.out (dv_one _) ?_))
  exact bodyPost_ret (results_cell_row rfl _ _ (w.heap.size + 1) 32 (dv x) (0, 0) _ rfl HS.out Tryd.underlying32 rfl (info_dv x)) rfl ⟨rfl, HB2.out⟩
set_option maxRecDepth 100000 in
set_option maxHeartbeats 1000000 in
theorem is_any (x : Fin PP) (w : World) : Calls Tryd.prog 11 #[.agg (ev x), .agg (dv x)] w (BPost true w) := by
  have hfr := ((Fr.start w).row (ev x) 27 (g := w.heap.size) rfl).row (dv x) 32 (g := w.heap.size + 1) (by simp)
  have HFR := Lib.hid hfr
  clear hfr
  have hke := keys_same
  go_enter Tryd.func11, Tryd.ntmps11
  go_wp2_with (fail)
  refine wp_region_held_drew (S := fun W => Fr w W [(w.heap.size + 1, 32, dv x), (w.heap.size, 27, ev x)] []) (by kernel_rfl) ?_ (fun hHeld => ?_)
  · exact HFR.out.drew
  refine wpAnyH_take (i := 0) (v := .agg (ev x)) rfl (by kernel_rfl) (by kernel_rfl) (by kernel_rfl) (fun _ _ _ h => h) (yields_row (by rfl) 27 (.tmp 2) rfl (w.heap.size) rfl 27 (ev x) _ (fun W (h : Fr _ W _ _) => h.get (by simp)) Tryd.underlying27 rfl (info_ev _)) hHeld ?_
  try simp only [Act.put, List.getElem_toArray, List.getElem_cons_succ, List.getElem_cons_zero, List.setIfInBounds_toArray, List.set_cons_zero, List.set_cons_succ]
  refine wpAnyH_take (i := 2) (v := .agg (dv x)) rfl (by kernel_rfl) (by kernel_rfl) (by kernel_rfl) (fun _ _ _ h => h) (yields_row (by rfl) 32 (.tmp 3) rfl (w.heap.size + 1) rfl 32 (dv x) _ (fun W (h : Fr _ W _ _) => h.get (by simp)) Tryd.underlying32 rfl (info_dv _)) hHeld ?_
  try simp only [Act.put, List.getElem_toArray, List.getElem_cons_succ, List.getElem_cons_zero, List.setIfInBounds_toArray, List.set_cons_zero, List.set_cons_succ]
  refine wpAnyH_ready (rs := [1]) (by kernel_rfl) (by simp) (AllReadyH.cons rfl (fun K hK => ?_) AllReadyH.nil)
  have h0 := hHeld
  clear hHeld
  try simp only [List.getElem_toArray, List.getElem_cons_succ, List.getElem_cons_zero]
  have H0 := Lib.hid h0
  clear h0
  go_simp
  go_at_call 8
  refine (bytesF x _).mono ?_
  rintro e vv ⟨rfl, hb⟩
  have h1 := H0.out.ext hb
  clear hb H0
  go_wp2_with (fail)
  refine hK.out _ _ h1 (fun hHeld => ?_)
  clear hK K h1
  try simp only [Act.put, List.getElem_toArray, List.getElem_cons_succ, List.getElem_cons_zero, List.setIfInBounds_toArray, List.set_cons_zero, List.set_cons_succ]
  refine wpAnyH_ready (rs := [3]) (by kernel_rfl) (by simp) (AllReadyH.cons rfl (fun K hK => ?_) AllReadyH.nil)
  have h0 := hHeld
  clear hHeld
  try simp only [List.getElem_toArray, List.getElem_cons_succ, List.getElem_cons_zero]
  have H0 := Lib.hid h0
  clear h0
  go_simp
  go_at_call 32
  refine (bytesD x _).mono ?_
  rintro e vv ⟨rfl, hb⟩
  have h1 := H0.out.ext hb
  clear hb H0
  go_wp2_with (fail)
  refine hK.out _ _ h1 (fun hHeld => ?_)
  clear hK K h1
  try simp only [Act.put, List.getElem_toArray, List.getElem_cons_succ, List.getElem_cons_zero, List.setIfInBounds_toArray, List.set_cons_zero, List.set_cons_succ]
  refine wpAnyH_take (i := 4) (v := ?_) rfl (by kernel_rfl) (by kernel_rfl) (by kernel_rfl) (fun _ _ _ h => h) (Or.inl ⟨by rfl, ?_⟩) hHeld ?_
  rotate_left
  · (intro W hSw; (try dsimp only at hSw); (try simp only [List.getElem_toArray, List.getElem_cons_succ, List.getElem_cons_zero]); go_simp; try with_reducible rfl)
  try simp only [Act.put, List.getElem_toArray, List.getElem_cons_succ, List.getElem_cons_zero, List.setIfInBounds_toArray, List.set_cons_zero, List.set_cons_succ]
  refine wpAnyH_take (i := 5) (v := ?_) rfl (by kernel_rfl) (by kernel_rfl) (by kernel_rfl) (fun _ _ _ h => h) (Or.inl ⟨by rfl, ?_⟩) hHeld ?_
  rotate_left
  · (intro W hSw; (try dsimp only at hSw); (try simp only [List.getElem_toArray, List.getElem_cons_succ, List.getElem_cons_zero]); go_simp; try with_reducible rfl)
  try simp only [Act.put, List.getElem_toArray, List.getElem_cons_succ, List.getElem_cons_zero, List.setIfInBounds_toArray, List.set_cons_zero, List.set_cons_succ]
  refine wpAnyH_done (by kernel_rfl) ?_ _
  have HB := Lib.hid hHeld.below
  clear hHeld
  go_wp2_with (fail)
  go_ret
  exact ⟨rfl, HB.out⟩
theorem bor_p (n : Nat) (hn : n < 115792089237316195423570985008687907853269984665640564039457584007913129639936) : ((bor (n + 115792089237316195423570985008687907853269984665640564039457584007913129639936 - num4 18446744073709551597 18446744073709551615 18446744073709551615 9223372036854775807) : Int) == 1) = decide (n < PP) := by
  have h : num4 18446744073709551597 18446744073709551615 18446744073709551615 9223372036854775807 = PP := by decide +kernel
  rw [h, PP_eq]
  unfold bor wd4
  rw [Bool.eq_iff_iff]
  simp only [beq_iff_eq, decide_eq_true_eq]
  omega
end Go.Proofs.YtnfckoamjeafhaaDoor
