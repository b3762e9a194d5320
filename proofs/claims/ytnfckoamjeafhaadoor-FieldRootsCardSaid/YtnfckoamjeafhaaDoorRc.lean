/- The document's Add. -/
import Derived.Test.YtnfckoamjeafhaaDoorRa
namespace Go.Proofs.YtnfckoamjeafhaaDoor
set_option linter.unusedVariables false
set_option linter.unusedSimpArgs false
open Go Go.RowKit

set_option maxRecDepth 100000 in
set_option maxHeartbeats 2000000 in
theorem radd_any (a b : Nat) (w : World) (ha : a < 115792089237316195423570985008687907853269984665640564039457584007913129639936) (hb : b < 115792089237316195423570985008687907853269984665640564039457584007913129639936) : Calls Tryd.prog 18 #[.agg (ds a), .agg (ds b)] w (NumPost ((a + b) % PP) w) := by
  have hfr := (((Fr.start w).row (ds a) 32 (g := w.heap.size) rfl).row (ds b) 32 (g := w.heap.size + 1) (by simp)).any (ds 0) 32 16 (ds_size 0) (g := w.heap.size + 1 + 1) (by simp)
  rw [ds_zero] at hfr
  have HFR := Lib.hid hfr
  have hda : dval (addl a b 16) = a + b := by rw [dval_addl, d16, Nat.mod_eq_of_lt ha, Nat.mod_eq_of_lt hb]
  have HDA := Lib.hid hda
  clear hfr ha hb hda
  obtain ⟨V, hV⟩ : ∃ V, V = (a + b) % PP := ⟨_, rfl⟩
  rw [← hV]
  have HV := Lib.hid hV
  clear hV
  go_enter Tryd.func18, Tryd.ntmps18
  go_wp2_with (fail)
  obtain ⟨wb, hwb⟩ : ∃ wb : World, wb = ((w.alloc (.cells (ds a) 32)).alloc (.cells (ds b) 32)).alloc (.cells #[.int .u64 0, .int .u64 0, .int .u64 0, .int .u64 0, .int .u64 0, .int .u64 0, .int .u64 0, .int .u64 0, .int .u64 0, .int .u64 0, .int .u64 0, .int .u64 0, .int .u64 0, .int .u64 0, .int .u64 0, .int .u64 0] 32) := ⟨_, rfl⟩
  rw [← hwb] at HFR ⊢
  clear hwb
  have hsb := HFR.out.size
  have hl0 : w.heap.size < wb.heap.size := (HFR.out.get (g := w.heap.size) (t := 32) (cs := ds a) (by simp)).lt
  have hl1 : w.heap.size + 1 < wb.heap.size := (HFR.out.get (g := w.heap.size + 1) (t := 32) (cs := ds b) (by simp)).lt
  have hl2 : w.heap.size + 1 + 1 < wb.heap.size := by obtain ⟨cs, _, k⟩ := HFR.out.old (g := w.heap.size + 1 + 1) (t := 32) (n := 16) (by simp); exact k.lt
  go_loopw [5, 6] (fun v i wq => ∃ j : Nat, j ≤ 16 ∧ i = .int .i64 j ∧ OwnU wq wb.heap.size 24 v (addl a b j) ∧ wb.heap.size ≤ wq.heap.size ∧ Fr w wq [(w.heap.size + 1, 32, ds b), (w.heap.size, 32, ds a)] [(w.heap.size + 1 + 1, 32, 16)]) (fun _ i _ => 16 - (intOf i).toNat)
  case atStart => exact ⟨0, by omega, rfl, OwnU.nil _ _ _, Nat.le_refl _, HFR.out⟩
  case round =>
    obtain ⟨j, hj, rfl, hO, hwq, hF⟩ := hrel
    clear HFR
    by_cases hlt : j < 16
    · have kA := hF.get (g := w.heap.size) (t := 32) (cs := ds a) (by simp)
      have kB := hF.get (g := w.heap.size + 1) (t := 32) (cs := ds b) (by simp)
      have ca : wr.cell? ⟨w.heap.size, j, none⟩ = some (.int .u64 ((a / 65536 ^ j % 65536 : Nat) : Int)) := by rw [kA.cell, ds_get _ hlt]
      have cb : wr.cell? ⟨w.heap.size + 1, j, none⟩ = some (.int .u64 ((b / 65536 ^ j % 65536 : Nat) : Int)) := by rw [kB.cell, ds_get _ hlt]
      have hx : a / 65536 ^ j % 65536 < 65536 := Nat.mod_lt _ (by omega)
      have hy : b / 65536 ^ j % 65536 < 65536 := Nat.mod_lt _ (by omega)
      have hst := addl_step a b j
      have hln := addl_len a b j
      have HST := Lib.hid hst
      have HF := Lib.hid hF
      have HLN := Lib.hid hln
      clear hst hF kA kB hln
      generalize a / 65536 ^ j % 65536 = x at *
      generalize b / 65536 ^ j % 65536 = y at *
      obtain ⟨z, hz⟩ : ∃ z, z = x + y := ⟨_, rfl⟩
      rw [← hz] at HST
      have hsum : IntKind.u64.wrap ((x : Int) + (y : Int)) = (z : Int) := by rw [IntKind.wrap_u64]; omega
      clear hz hx hy
      have hlq : w.heap.size + 1 < wr.heap.size := by omega
      have j16 : (j : Int) < 16 := by omega
      have hdt : decide ((j : Int) < 16) = true := decide_eq_true (by omega)
      go_wp2_with (fail)
      refine wp_region_held_drew (S := fun W => (W.cell? ⟨w.heap.size, j, none⟩ = some (.int .u64 (x : Int)) ∧ W.cell? ⟨w.heap.size + 1, j, none⟩ = some (.int .u64 (y : Int))) ∧ w.heap.size + 1 < W.heap.size) (by kernel_rfl) ?_ (fun hHeld => ?_)
      · exact ⟨⟨ca, cb⟩, hlq⟩
      refine wpAnyH_take (i := 0) (v := ?_) rfl (by kernel_rfl) (by kernel_rfl) (by kernel_rfl) (fun _ _ _ h => h) (Or.inl ⟨by rfl, ?_⟩) hHeld ?_
      rotate_left
      · (intro W hSw; (try dsimp only at hSw); (try simp only [List.getElem_toArray, List.getElem_cons_succ, List.getElem_cons_zero]); go_simp; try with_reducible rfl)
      try simp only [Act.put, List.getElem_toArray, List.getElem_cons_succ, List.getElem_cons_zero, List.setIfInBounds_toArray, List.set_cons_zero, List.set_cons_succ]
      refine wpAnyH_take (i := 1) (v := ?_) rfl (by kernel_rfl) (by kernel_rfl) (by kernel_rfl) (fun _ _ _ h => h) (Or.inl ⟨by rfl, ?_⟩) hHeld ?_
      rotate_left
      · (intro W hSw; (try dsimp only at hSw); (try simp only [List.getElem_toArray, List.getElem_cons_succ, List.getElem_cons_zero]); go_simp; try with_reducible rfl)
      try simp only [Act.put, List.getElem_toArray, List.getElem_cons_succ, List.getElem_cons_zero, List.setIfInBounds_toArray, List.set_cons_zero, List.set_cons_succ]
      refine wpAnyH_take (i := 2) (v := ?_) rfl (by kernel_rfl) (by kernel_rfl) (by kernel_rfl) (fun _ _ _ h => h) (Or.inl ⟨by rfl, ?_⟩) hHeld ?_
      rotate_left
      · (intro W hSw; (try dsimp only at hSw); (try simp only [List.getElem_toArray, List.getElem_cons_succ, List.getElem_cons_zero]); go_simp; try with_reducible rfl)
      try simp only [Act.put, List.getElem_toArray, List.getElem_cons_succ, List.getElem_cons_zero, List.setIfInBounds_toArray, List.set_cons_zero, List.set_cons_succ]
      refine wpAnyH_take (i := 3) (v := ?_) rfl (by kernel_rfl) (by kernel_rfl) (by kernel_rfl) (fun _ _ _ h => h) (Or.inl ⟨by rfl, ?_⟩) hHeld ?_
      rotate_left
      · (intro W hSw; (try dsimp only at hSw); (try simp only [List.getElem_toArray, List.getElem_cons_succ, List.getElem_cons_zero]); go_simp; try with_reducible rfl)
      try simp only [Act.put, List.getElem_toArray, List.getElem_cons_succ, List.getElem_cons_zero, List.setIfInBounds_toArray, List.set_cons_zero, List.set_cons_succ]
      refine wpAnyH_take (i := 4) (v := ?_) rfl (by kernel_rfl) (by kernel_rfl) (by kernel_rfl) (fun _ _ _ h => h) (Or.inl ⟨by rfl, ?_⟩) hHeld ?_
      rotate_left
      · (intro W hSw; (try dsimp only at hSw); (try simp only [List.getElem_toArray, List.getElem_cons_succ, List.getElem_cons_zero]); go_simp; try with_reducible rfl)
      try simp only [Act.put, List.getElem_toArray, List.getElem_cons_succ, List.getElem_cons_zero, List.setIfInBounds_toArray, List.set_cons_zero, List.set_cons_succ]
      refine wpAnyH_take (i := 5) (v := ?_) rfl (by kernel_rfl) (by kernel_rfl) (by kernel_rfl) (fun _ _ _ h => h) (Or.inl ⟨by rfl, ?_⟩) hHeld ?_
      rotate_left
      · (intro W hSw; (try dsimp only at hSw); (try simp only [List.getElem_toArray, List.getElem_cons_succ, List.getElem_cons_zero]); go_simp; try with_reducible rfl)
      try simp only [Act.put, List.getElem_toArray, List.getElem_cons_succ, List.getElem_cons_zero, List.setIfInBounds_toArray, List.set_cons_zero, List.set_cons_succ]
      refine wpAnyH_take (i := 6) (v := ?_) rfl (by kernel_rfl) (by kernel_rfl) (by kernel_rfl) (fun _ _ _ h => h) (Or.inl ⟨by rfl, ?_⟩) hHeld ?_
      rotate_left
      · (intro W hSw; (try dsimp only at hSw); (try simp only [List.getElem_toArray, List.getElem_cons_succ, List.getElem_cons_zero]); go_simp; try with_reducible rfl)
      try simp only [Act.put, List.getElem_toArray, List.getElem_cons_succ, List.getElem_cons_zero, List.setIfInBounds_toArray, List.set_cons_zero, List.set_cons_succ]
      refine wpAnyH_take (i := 7) (v := ?_) rfl (by kernel_rfl) (by kernel_rfl) (by kernel_rfl) (fun _ _ _ h => h) (Or.inl ⟨by rfl, ?_⟩) hHeld ?_
      rotate_left
      · (intro W hSw; (try dsimp only at hSw); (try simp only [List.getElem_toArray, List.getElem_cons_succ, List.getElem_cons_zero]); go_simp; try with_reducible rfl)
      try simp only [Act.put, List.getElem_toArray, List.getElem_cons_succ, List.getElem_cons_zero, List.setIfInBounds_toArray, List.set_cons_zero, List.set_cons_succ]
      refine wpAnyH_ready (rs := [8]) (by kernel_rfl) (by simp) (AllReadyH.cons rfl (fun K hK => ?_) AllReadyH.nil)
      have h0 := hHeld
      clear hHeld
      try simp only [List.getElem_toArray, List.getElem_cons_succ, List.getElem_cons_zero]
      go_simp
      refine hK.out _ _ (⟨⟨(World.cell?_alloc_lt _ _ _ (by simp <;> omega)).trans h0.1.1, (World.cell?_alloc_lt _ _ _ (by simp <;> omega)).trans h0.1.2⟩, by simp <;> omega⟩) (fun hHeld => ?_)
      clear hK K h0
      try simp only [Act.put, List.getElem_toArray, List.getElem_cons_succ, List.getElem_cons_zero, List.setIfInBounds_toArray, List.set_cons_zero, List.set_cons_succ]
      refine wpAnyH_ready (rs := [9]) (by kernel_rfl) (by simp) (AllReadyH.cons rfl (fun K hK => ?_) AllReadyH.nil)
      have h0 := hHeld
      clear hHeld
      refine step_app_ownU rfl (.tmp 11) (.tmp 19) 61 rfl 24 Tryd.underlying61 info_u64 wb.heap.size u5 (addl a b j) rfl ((hO.drew).alloc _) (wr.heap.size + 1) 1 1 (some ⟨wr.heap.size, 0, none⟩) [z] rfl (us_newv wr.drew 24 _ z rfl) (by rw [HLN.out]; simp <;> omega) (by simp <;> omega) ?_
      intro v1 w1 hown1 hg1 hat1
      have HOW := Lib.hid hown1
      have HG := Lib.hid hg1
      have hs1 := hg1.size
      clear hown1 hat1
      have hne : ∀ k, k < wb.heap.size → some k ≠ u5.ownBlock := fun k hk e => by have := (World.ownsRow.lt hO k e.symm).1; omega
      refine hK.out _ _ (⟨⟨(World.cell?_of_block (hg1.block w.heap.size (by simp <;> omega) (hne _ hl0))).trans h0.1.1, (World.cell?_of_block (hg1.block (w.heap.size + 1) (by simp <;> omega) (hne _ hl1))).trans h0.1.2⟩, by simp at hs1; omega⟩) (fun hHeld => ?_)
      clear hK K h0 hg1
      try simp only [Act.put, List.getElem_toArray, List.getElem_cons_succ, List.getElem_cons_zero, List.setIfInBounds_toArray, List.set_cons_zero, List.set_cons_succ]
      refine wpAnyH_take (i := 10) (v := ?_) rfl (by kernel_rfl) (by kernel_rfl) (by kernel_rfl) (fun _ _ _ h => h) (Or.inl ⟨by rfl, ?_⟩) hHeld ?_
      rotate_left
      · (intro W hSw; (try dsimp only at hSw); (try simp only [List.getElem_toArray, List.getElem_cons_succ, List.getElem_cons_zero]); go_simp; try with_reducible rfl)
      try simp only [Act.put, List.getElem_toArray, List.getElem_cons_succ, List.getElem_cons_zero, List.setIfInBounds_toArray, List.set_cons_zero, List.set_cons_succ]
      refine wpAnyH_done (by kernel_rfl) ?_ _
      have hF2 := ((HF.out.drew).pass (.cells #[.int .u64 (z : Int)] 24)).grow (by have := HG.out; exact this) (fun p hp e => by simp at hp; rcases hp with rfl | rfl <;> exact hne _ (by assumption) e) (fun p hp e => by simp at hp; subst hp; exact hne _ hl2 e) (fun g hg => by have := (World.ownsRow.lt hO g hg).1; omega)
      have HF2 := Lib.hid hF2
      clear hF2
      go_wp2_with (fail)
      go_roundw
      case rel => exact ⟨j + 1, by omega, by go_num, by rw [HST.out]; exact HOW.out, by simp at hs1; omega, HF2.out⟩
      case measure => simp [intOf] <;> omega
    · obtain rfl : j = 16 := by omega
      obtain ⟨A9, n9, c9, rfl, hU, _⟩ := hO.form
      have hl := hU.len
      rw [addl_len] at hl
      subst hl
      have hmod := mod_any (cols_addl a b) A9 c9 wr.heap.size wr hU (Nat.le_refl _)
      rw [HDA.out, ← HV.out] at hmod
      have HMOD := Lib.hid hmod
      have HF := Lib.hid hF
      clear hmod hF hO hU
      go_wp2_with (fail)
      refine HMOD.out.mono ?_
      rintro e v2 ⟨rfl, hb⟩
      have hf := HF.out.ext hb
      obtain ⟨old, hold, kR⟩ := hf.old (g := w.heap.size + 1 + 1) (t := 32) (n := 16) (by simp)
      have kS := kR.setRow_same (ds V)
      have hB2 := below_setRow hf.below (show w.heap.size ≤ w.heap.size + 1 + 1 by omega) (ds V)
      have hold' : old.size = (ds V).size := by rw [hold, ds_size]
      have HS := Lib.hid kS
      have HB2 := Lib.hid hB2
      have HO := Lib.hid hold'
      clear hb hf kS hB2 hold hold'
      go_wp2_with (first | (refine wpList_store_row rfl 32 (.tmp 4) (.tmp 22) rfl (w.heap.size + 1 + 1) (ds V) rfl rfl 32 old kR (info_ds V) HO.out (ds_one _) ?_))
      exact bodyPost_ret (results_cell_row rfl _ _ (w.heap.size + 1 + 1) 32 (ds V) (0, 0) _ rfl HS.out Tryd.underlying32 rfl (info_ds V)) rfl ⟨rfl, HB2.out⟩
end Go.Proofs.YtnfckoamjeafhaaDoor
