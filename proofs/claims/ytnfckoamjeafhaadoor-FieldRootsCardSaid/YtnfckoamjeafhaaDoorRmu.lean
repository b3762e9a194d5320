/- The document's Mul: rows of products, carried, modulo p. -/
import Derived.Test.YtnfckoamjeafhaaDoorRa
namespace Go.Proofs.YtnfckoamjeafhaaDoor
set_option linter.unusedVariables false
set_option linter.unusedSimpArgs false
open Go Go.RowKit

theorem prod_digits {a b m : Nat} (ha : a < 65536 ^ 16) (hb : b < 65536 ^ 16) (h : m = 31 ∨ 65536 ^ (m - 1) ≤ a * b) : m ≤ 32 := by
  rcases h with h | h
  · omega
  · apply Nat.le_of_not_lt
    intro hlt
    have h1 : 65536 ^ 32 ≤ 65536 ^ (m - 1) := Nat.pow_le_pow_right (by omega) (by omega)
    have h2 : a * b < 65536 ^ 16 * 65536 ^ 16 := Nat.mul_lt_mul'' ha hb
    rw [← Nat.pow_add] at h2
    omega
theorem cols_prod (T : Nat) {m : Nat} (h1 : 31 ≤ m) (h2 : m ≤ 32) : Cols m (dgl T m) := ⟨by omega, h2, .inr (dgl_small T m), fun j => by have := dgl_small T m j; omega⟩
theorem maxLen_31 : 31 ≤ maxLen := by simp only [maxLen]; omega
set_option maxRecDepth 100000 in
set_option maxHeartbeats 4000000 in
theorem rmul_any (a b : Nat) (w : World) (ha : a < 115792089237316195423570985008687907853269984665640564039457584007913129639936) (hb : b < 115792089237316195423570985008687907853269984665640564039457584007913129639936) : Calls Tryd.prog 26 #[.agg (ds a), .agg (ds b)] w (NumPost (a * b % PP) w) := by
  have hfr := ((((Fr.start w).row (ds a) 32 (g := w.heap.size) rfl).row (ds b) 32 (g := w.heap.size + 1) (by simp)).any (ds 0) 32 16 (ds_size 0) (g := w.heap.size + 1 + 1) (by simp)).row (cs64 (List.replicate 31 0)) 24 (g := w.heap.size + 1 + 1 + 1) (by simp)
  rw [ds_zero] at hfr
  have hcol := col_start 31 a b 0
  have ha' : a < 65536 ^ 16 := by rw [d16]; exact ha
  have hb' : b < 65536 ^ 16 := by rw [d16]; exact hb
  have HA := Lib.hid ha'
  have HB := Lib.hid hb'
  have HFR := Lib.hid hfr
  have HCOL := Lib.hid hcol
  clear hfr hcol ha hb ha' hb'
  obtain ⟨V, hV⟩ : ∃ V, V = a * b % PP := ⟨_, rfl⟩
  rw [← hV]
  have HV := Lib.hid hV
  clear hV
  have hmk := run_mku (P := Tryd.prog) 61 24 Tryd.underlying61 info_u64 31 (by omega) (((w.alloc (.cells (ds a) 32)).alloc (.cells (ds b) 32)).alloc (.cells #[.int .u64 0, .int .u64 0, .int .u64 0, .int .u64 0, .int .u64 0, .int .u64 0, .int .u64 0, .int .u64 0, .int .u64 0, .int .u64 0, .int .u64 0, .int .u64 0, .int .u64 0, .int .u64 0, .int .u64 0, .int .u64 0] 32))
  rw [show ((31 : Nat) : Int) = 31 from rfl] at hmk
  go_enter Tryd.func26, Tryd.ntmps26
  go_wp2_with (fail)
  clear hmk
  go_loopw [6] (fun i wr => ∃ (j : Nat) (l : List Nat), j ≤ 16 ∧ i = .int .i64 j ∧ ColAt 31 a b 0 j l ∧ Fr w wr [(w.heap.size + 1 + 1 + 1, 24, cs64 l), (w.heap.size + 1, 32, ds b), (w.heap.size, 32, ds a)] [(w.heap.size + 1 + 1, 32, 16)]) (fun i _ => 16 - (intOf i).toNat)
  case atStart => exact ⟨0, _, by omega, rfl, HCOL.out, HFR.out⟩
  case round =>
    obtain ⟨j, l, hj, rfl, hC, hF⟩ := hrel
    clear HFR HCOL
    by_cases hlt : j < 16
    · have hin0 := col_in0 hC
      obtain ⟨V2, hV2⟩ : ∃ V2, V2 = 0 % 65536 ^ (j + 1) + a % 65536 ^ j * b := ⟨_, rfl⟩
      have hV3 : a % 65536 ^ j * b = V2 := by rw [hV2, Nat.zero_mod, Nat.zero_add]
      rw [hV3] at hin0
      have HV2 := Lib.hid hV2
      have HIN := Lib.hid hin0
      have HF := Lib.hid hF
      clear hin0 hV2 hV3 hC hF
      have hdt : decide ((j : Int) < 16) = true := decide_eq_true (by omega)
      go_wp2_with (fail)
      try rw [decide_eq_true (show (j : Int) < 16 by omega)]
      go_loopw [7] (fun i wq => ∃ (k : Nat) (l : List Nat), k ≤ 16 ∧ i = .int .i64 k ∧ ColIn 31 a b V2 j k l ∧ Fr w wq [(w.heap.size + 1 + 1 + 1, 24, cs64 l), (w.heap.size + 1, 32, ds b), (w.heap.size, 32, ds a)] [(w.heap.size + 1 + 1, 32, 16)]) (fun i _ => 16 - (intOf i).toNat)
      case atStart => exact ⟨0, _, by omega, rfl, HIN.out, HF.out⟩
      case round =>
        obtain ⟨k, m, hk, rfl, hC, hF⟩ := hrel
        clear HF HIN
        by_cases hkt : k < 16
        · have hml := hC.1
          have hD := hF.get (g := w.heap.size + 1 + 1 + 1) (t := 24) (cs := cs64 m) (by simp)
          have hX := hF.get (g := w.heap.size) (t := 32) (cs := ds a) (by simp)
          have hY := hF.get (g := w.heap.size + 1) (t := 32) (cs := ds b) (by simp)
          have cd : wr.cell? ⟨w.heap.size + 1 + 1 + 1, j + k, none⟩ = some (.int .u64 ((m.getD (j + k) 0 : Nat) : Int)) := by rw [hD.cell, cs64_get _ (by omega)]
          have cx : wr.cell? ⟨w.heap.size, j, none⟩ = some (.int .u64 ((a / 65536 ^ j % 65536 : Nat) : Int)) := by rw [hX.cell, ds_get _ hlt]
          have cy : wr.cell? ⟨w.heap.size + 1, k, none⟩ = some (.int .u64 ((b / 65536 ^ k % 65536 : Nat) : Int)) := by rw [hY.cell, ds_get _ hkt]
          have hf := hD.frozen (j + k)
          obtain ⟨hin, hbd, hpl⟩ := col_step (k := k) (by omega) hC
          have hst := cs64_set m (j + k) (m.getD (j + k) 0 + a / 65536 ^ j % 65536 * (b / 65536 ^ k % 65536))
          have HST := Lib.hid hst
          have HIN := Lib.hid hin
          have HF := Lib.hid hF
          clear hst hin hF hC hD hX hY
          have hxy : IntKind.u64.wrap (((a / 65536 ^ j % 65536 : Nat) : Int) * ((b / 65536 ^ k % 65536 : Nat) : Int)) = ((a / 65536 ^ j % 65536 * (b / 65536 ^ k % 65536) : Nat) : Int) := by rw [← Int.natCast_mul, IntKind.wrap_u64]; omega
          generalize m.getD (j + k) 0 = dj at *
          generalize a / 65536 ^ j % 65536 = x at *
          generalize b / 65536 ^ k % 65536 = y at *
          obtain ⟨p, hp⟩ : ∃ p, p = x * y := ⟨_, rfl⟩
          rw [← hp] at hxy HST HIN hpl
          clear hp
          obtain ⟨sj, hsj⟩ : ∃ sj, sj = dj + p := ⟨_, rfl⟩
          rw [← hsj] at HST HIN
          have hsum : IntKind.u64.wrap ((dj : Int) + (p : Int)) = (sj : Int) := by rw [IntKind.wrap_u64]; omega
          clear hbd hpl hsj
          have b0 : IntKind.i64.wrap ((j : Int) + (k : Int)) = (j : Int) + (k : Int) := by rw [IntKind.wrap_i64]; omega
          have b1 : (0 : Int) ≤ (j : Int) + (k : Int) := by omega
          have b2 : (j : Int) + (k : Int) < 31 := by omega
          have b3 : ((j : Int) + (k : Int)).toNat = j + k := by omega
          have j16 : (j : Int) < 16 := by omega
          have k16 : (k : Int) < 16 := by omega
          have n7 : w.heap.size + 1 + 1 + 1 ≠ w.heap.size := by omega
          have n8 : w.heap.size + 1 + 1 + 1 ≠ w.heap.size + 1 := by omega
          go_wp2_with (fail)
          refine wp_region_held_drew (S := fun W => W.cell? ⟨w.heap.size, j, none⟩ = some (.int .u64 (x : Int)) ∧ W.cell? ⟨w.heap.size + 1, k, none⟩ = some (.int .u64 (y : Int))) (by kernel_rfl) ?_ (fun hHeld => ?_)
          · exact ⟨cx, cy⟩
          refine wpAnyH_take (i := 0) (v := ?_) rfl (by kernel_rfl) (by kernel_rfl) (by kernel_rfl) (fun _ _ _ h => h) (Or.inl ⟨by rfl, ?_⟩) hHeld ?_
          rotate_left
          · (intro W hSw; (try dsimp only at hSw); (try simp only [List.getElem_toArray, List.getElem_cons_succ, List.getElem_cons_zero]); go_simp; try with_reducible rfl)
          try simp only [Act.put, List.getElem_toArray, List.getElem_cons_succ, List.getElem_cons_zero, List.setIfInBounds_toArray, List.set_cons_zero, List.set_cons_succ]
          refine wpAnyH_take (i := 1) (v := ?_) rfl (by kernel_rfl) (by kernel_rfl) (by kernel_rfl) (fun _ _ _ h => h) (Or.inl ⟨by rfl, ?_⟩) hHeld ?_
          rotate_left
          · (intro W hSw; (try dsimp only at hSw); (try simp only [List.getElem_toArray, List.getElem_cons_succ, List.getElem_cons_zero]); go_simp; try with_reducible rfl)
          try simp only [Act.put, List.getElem_toArray, List.getElem_cons_succ, List.getElem_cons_zero, List.setIfInBounds_toArray, List.set_cons_zero, List.set_cons_succ]
          refine wpAnyH_take (i := 2) (v := ?_) rfl (by kernel_rfl) (by kernel_rfl) (by kernel_rfl) (fun _ _ _ h => h) (Or.inl ⟨by rfl, ?_⟩) hHeld ?_
          rotate_left
          · (intro W hSw; (try dsimp only at hSw); (try simp only [List.getElem_toArray, List.getElem_cons_succ, List.getElem_cons_zero]); go_simp; try with_reducible rfl)
          try simp only [Act.put, List.getElem_toArray, List.getElem_cons_succ, List.getElem_cons_zero, List.setIfInBounds_toArray, List.set_cons_zero, List.set_cons_succ]
          refine wpAnyH_take (i := 3) (v := ?_) rfl (by kernel_rfl) (by kernel_rfl) (by kernel_rfl) (fun _ _ _ h => h) (Or.inl ⟨by rfl, ?_⟩) hHeld ?_
          rotate_left
          · (intro W hSw; (try dsimp only at hSw); (try simp only [List.getElem_toArray, List.getElem_cons_succ, List.getElem_cons_zero]); go_simp; try with_reducible rfl)
          try simp only [Act.put, List.getElem_toArray, List.getElem_cons_succ, List.getElem_cons_zero, List.setIfInBounds_toArray, List.set_cons_zero, List.set_cons_succ]
          refine wpAnyH_take (i := 4) (v := ?_) rfl (by kernel_rfl) (by kernel_rfl) (by kernel_rfl) (fun _ _ _ h => h) (Or.inl ⟨by rfl, ?_⟩) hHeld ?_
          rotate_left
          · (intro W hSw; (try dsimp only at hSw); (try simp only [List.getElem_toArray, List.getElem_cons_succ, List.getElem_cons_zero]); go_simp; try with_reducible rfl)
          try simp only [Act.put, List.getElem_toArray, List.getElem_cons_succ, List.getElem_cons_zero, List.setIfInBounds_toArray, List.set_cons_zero, List.set_cons_succ]
          refine wpAnyH_take (i := 5) (v := ?_) rfl (by kernel_rfl) (by kernel_rfl) (by kernel_rfl) (fun _ _ _ h => h) (Or.inl ⟨by rfl, ?_⟩) hHeld ?_
          rotate_left
          · (intro W hSw; (try dsimp only at hSw); (try simp only [List.getElem_toArray, List.getElem_cons_succ, List.getElem_cons_zero]); go_simp; try with_reducible rfl)
          try simp only [Act.put, List.getElem_toArray, List.getElem_cons_succ, List.getElem_cons_zero, List.setIfInBounds_toArray, List.set_cons_zero, List.set_cons_succ]
          refine wpAnyH_take (i := 6) (v := ?_) rfl (by kernel_rfl) (by kernel_rfl) (by kernel_rfl) (fun _ _ _ h => h) (Or.inl ⟨by rfl, ?_⟩) hHeld ?_
          rotate_left
          · (intro W hSw; (try dsimp only at hSw); (try simp only [List.getElem_toArray, List.getElem_cons_succ, List.getElem_cons_zero]); go_simp; try with_reducible rfl)
          try simp only [Act.put, List.getElem_toArray, List.getElem_cons_succ, List.getElem_cons_zero, List.setIfInBounds_toArray, List.set_cons_zero, List.set_cons_succ]
          refine wpAnyH_take (i := 7) (v := ?_) rfl (by kernel_rfl) (by kernel_rfl) (by kernel_rfl) (fun _ _ _ h => h) (Or.inl ⟨by rfl, ?_⟩) hHeld ?_
          rotate_left
          · (intro W hSw; (try dsimp only at hSw); (try simp only [List.getElem_toArray, List.getElem_cons_succ, List.getElem_cons_zero]); go_simp; try with_reducible rfl)
          try simp only [Act.put, List.getElem_toArray, List.getElem_cons_succ, List.getElem_cons_zero, List.setIfInBounds_toArray, List.set_cons_zero, List.set_cons_succ]
          refine wpAnyH_take (i := 8) (v := ?_) rfl (by kernel_rfl) (by kernel_rfl) (by kernel_rfl) (fun _ _ _ h => h) (Or.inl ⟨by rfl, ?_⟩) hHeld ?_
          rotate_left
          · (intro W hSw; (try dsimp only at hSw); (try simp only [List.getElem_toArray, List.getElem_cons_succ, List.getElem_cons_zero]); go_simp; try with_reducible rfl)
          try simp only [Act.put, List.getElem_toArray, List.getElem_cons_succ, List.getElem_cons_zero, List.setIfInBounds_toArray, List.set_cons_zero, List.set_cons_succ]
          refine wpAnyH_take (i := 10) (v := ?_) rfl (by kernel_rfl) (by kernel_rfl) (by kernel_rfl) (fun _ _ _ h => h) (Or.inl ⟨by rfl, ?_⟩) hHeld ?_
          rotate_left
          · (intro W hSw; (try dsimp only at hSw); (try simp only [List.getElem_toArray, List.getElem_cons_succ, List.getElem_cons_zero]); go_simp; try with_reducible rfl)
          try simp only [Act.put, List.getElem_toArray, List.getElem_cons_succ, List.getElem_cons_zero, List.setIfInBounds_toArray, List.set_cons_zero, List.set_cons_succ]
          refine wpAnyH_take (i := 11) (v := ?_) rfl (by kernel_rfl) (by kernel_rfl) (by kernel_rfl) (fun _ _ _ h => h) (Or.inl ⟨by rfl, ?_⟩) hHeld ?_
          rotate_left
          · (intro W hSw; (try dsimp only at hSw); (try simp only [List.getElem_toArray, List.getElem_cons_succ, List.getElem_cons_zero]); go_simp; try with_reducible rfl)
          try simp only [Act.put, List.getElem_toArray, List.getElem_cons_succ, List.getElem_cons_zero, List.setIfInBounds_toArray, List.set_cons_zero, List.set_cons_succ]
          refine wpAnyH_take (i := 12) (v := ?_) rfl (by kernel_rfl) (by kernel_rfl) (by kernel_rfl) (fun _ _ _ h => h) (Or.inl ⟨by rfl, ?_⟩) hHeld ?_
          rotate_left
          · (intro W hSw; (try dsimp only at hSw); (try simp only [List.getElem_toArray, List.getElem_cons_succ, List.getElem_cons_zero]); go_simp; try with_reducible rfl)
          try simp only [Act.put, List.getElem_toArray, List.getElem_cons_succ, List.getElem_cons_zero, List.setIfInBounds_toArray, List.set_cons_zero, List.set_cons_succ]
          refine wpAnyH_take (i := 13) (v := ?_) rfl (by kernel_rfl) (by kernel_rfl) (by kernel_rfl) (fun _ _ _ h => h) (Or.inl ⟨by rfl, ?_⟩) hHeld ?_
          rotate_left
          · (intro W hSw; (try dsimp only at hSw); (try simp only [List.getElem_toArray, List.getElem_cons_succ, List.getElem_cons_zero]); go_simp; try with_reducible rfl)
          try simp only [Act.put, List.getElem_toArray, List.getElem_cons_succ, List.getElem_cons_zero, List.setIfInBounds_toArray, List.set_cons_zero, List.set_cons_succ]
          refine wpAnyH_take (i := 14) (v := ?_) rfl (by kernel_rfl) (by kernel_rfl) (by kernel_rfl) (fun _ _ _ h => h) (Or.inl ⟨by rfl, ?_⟩) hHeld ?_
          rotate_left
          · (intro W hSw; (try dsimp only at hSw); (try simp only [List.getElem_toArray, List.getElem_cons_succ, List.getElem_cons_zero]); go_simp; try with_reducible rfl)
          try simp only [Act.put, List.getElem_toArray, List.getElem_cons_succ, List.getElem_cons_zero, List.setIfInBounds_toArray, List.set_cons_zero, List.set_cons_succ]
          refine wpAnyH_take (i := 15) (v := ?_) rfl (by kernel_rfl) (by kernel_rfl) (by kernel_rfl) (fun _ _ _ h => h) (Or.inl ⟨by rfl, ?_⟩) hHeld ?_
          rotate_left
          · (intro W hSw; (try dsimp only at hSw); (try simp only [List.getElem_toArray, List.getElem_cons_succ, List.getElem_cons_zero]); go_simp; try with_reducible rfl)
          try simp only [Act.put, List.getElem_toArray, List.getElem_cons_succ, List.getElem_cons_zero, List.setIfInBounds_toArray, List.set_cons_zero, List.set_cons_succ]
          refine wpAnyH_take (i := 16) (v := ?_) rfl (by kernel_rfl) (by kernel_rfl) (by kernel_rfl) (fun _ _ _ h => h) (Or.inl ⟨by rfl, ?_⟩) hHeld ?_
          rotate_left
          · (intro W hSw; (try dsimp only at hSw); (try simp only [List.getElem_toArray, List.getElem_cons_succ, List.getElem_cons_zero]); go_simp; try with_reducible rfl)
          try simp only [Act.put, List.getElem_toArray, List.getElem_cons_succ, List.getElem_cons_zero, List.setIfInBounds_toArray, List.set_cons_zero, List.set_cons_succ]
          refine wpAnyH_ready (rs := [9]) (by kernel_rfl) (by simp) (AllReadyH.cons rfl (fun K hK => ?_) AllReadyH.nil)
          have h0 := hHeld
          clear hHeld
          try simp only [List.getElem_toArray, List.getElem_cons_succ, List.getElem_cons_zero]
          go_simp
          refine hK.out _ _ (h0) (fun hHeld => ?_)
          clear hK K h0
          try simp only [Act.put, List.getElem_toArray, List.getElem_cons_succ, List.getElem_cons_zero, List.setIfInBounds_toArray, List.set_cons_zero, List.set_cons_succ]
          refine wpAnyH_take (i := 17) (v := ?_) rfl (by kernel_rfl) (by kernel_rfl) (by kernel_rfl) (fun _ _ _ h => h) (Or.inl ⟨by rfl, ?_⟩) hHeld ?_
          rotate_left
          · (intro W hSw; (try dsimp only at hSw); (try simp only [List.getElem_toArray, List.getElem_cons_succ, List.getElem_cons_zero]); go_simp; try with_reducible rfl)
          try simp only [Act.put, List.getElem_toArray, List.getElem_cons_succ, List.getElem_cons_zero, List.setIfInBounds_toArray, List.set_cons_zero, List.set_cons_succ]
          refine wpAnyH_take (i := 18) (v := ?_) rfl (by kernel_rfl) (by kernel_rfl) (by kernel_rfl) (fun _ _ _ h => h) (Or.inl ⟨by rfl, ?_⟩) hHeld ?_
          rotate_left
          · (intro W hSw; (try dsimp only at hSw); (try simp only [List.getElem_toArray, List.getElem_cons_succ, List.getElem_cons_zero]); go_simp; try with_reducible rfl)
          try simp only [Act.put, List.getElem_toArray, List.getElem_cons_succ, List.getElem_cons_zero, List.setIfInBounds_toArray, List.set_cons_zero, List.set_cons_succ]
          refine wpAnyH_ready (rs := [19]) (by kernel_rfl) (by simp) (AllReadyH.cons rfl (fun K hK => ?_) AllReadyH.nil)
          have h0 := hHeld
          clear hHeld
          try simp only [List.getElem_toArray, List.getElem_cons_succ, List.getElem_cons_zero]
          go_simp
          refine hK.out _ _ (⟨(World.cell?_setCell_far _ _ _ _ (by simp <;> omega)).trans h0.1, (World.cell?_setCell_far _ _ _ _ (by simp <;> omega)).trans h0.2⟩) (fun hHeld => ?_)
          clear hK K h0
          try simp only [Act.put, List.getElem_toArray, List.getElem_cons_succ, List.getElem_cons_zero, List.setIfInBounds_toArray, List.set_cons_zero, List.set_cons_succ]
          refine wpAnyH_done (by kernel_rfl) ?_ _
          go_wp2_with (fail)
          go_roundw
          case rel =>
            refine ⟨k + 1, _, by omega, by go_num, HIN.out, ?_⟩
            rw [← HST.out]
            exact HF.out.drew.setHead (by simp <;> omega) (by simp <;> omega) _ _ (by omega)
          case measure => simp [intOf] <;> omega
        · obtain rfl : k = 16 := by omega
          simp only [show ((16 : Nat) : Int) = 16 from rfl]
          rw [HV2.out] at hC
          have hat := col_end HB.out hC
          have HAT := Lib.hid hat
          have HF := Lib.hid hF
          clear hat hC hF HV2
          go_wp2_with (fail)
          go_roundw
          case rel => exact ⟨j + 1, m, by omega, by go_num, HAT.out, HF.out⟩
          case measure => simp [intOf] <;> omega
    · obtain rfl : j = 16 := by omega
      simp only [show ((16 : Nat) : Int) = 16 from rfl]
      have hTd : dval l = a * b := by have := col_all HA.out (Nat.pow_pos (by omega)) hC; omega
      have hll := hC.1
      have hbd := hC.2.2
      have kd := hF.get (g := w.heap.size + 1 + 1 + 1) (t := 24) (cs := cs64 l) (by simp)
      have hown := OwnU.ofBlk kd 31 hll.symm maxLen_31 (Nat.le_refl (w.heap.size + 1 + 1 + 1))
      have hgl := kd.lt
      have hF2 := hF.sub (L' := []) (R' := [(w.heap.size + 1 + 1, 32, 16)]) (by simp) (by simp)
      have hcar := carried_any (w.heap.size + 1 + 1 + 1) (w.heap.size + 1 + 1 + 1) 31 l wr (by rw [hll]; exact hown) (by omega) (fun j => by have := hbd j; omega) (by omega) (by omega)
      rw [hll] at hcar
      have HCAR := Lib.hid hcar
      have HF := Lib.hid hF2
      have HTD := Lib.hid hTd
      have hsw := hF2.size
      clear hcar hF hF2 hC hTd hown kd hbd
      go_wp2_with (fail)
      refine HCAR.out.mono ?_
      rintro e w3 ⟨v', m, rfl, hown3, hg3, hown4, hm31, hTm, hm2⟩
      rw [hll] at hm31 hm2
      rw [HTD.out] at hown3 hTm hm2
      have hm32 := prod_digits HA.out HB.out hm2
      have hF3 := HF.out.grow hg3 (by simp) (by simp <;> omega) (by intro g h; injection h with h; omega)
      obtain ⟨A3, n3, c3, rfl, hU3, _⟩ := hown3.form
      have hl3 := hU3.len
      rw [dgl_len] at hl3
      subst hl3
      have hmod := mod_any (cols_prod (a * b) hm31 hm32) A3 c3 w3.heap.size w3 hU3 (Nat.le_refl _)
      rw [dval_dgl, Nat.mod_eq_of_lt hTm, ← HV.out] at hmod
      have HMOD := Lib.hid hmod
      have HF3 := Lib.hid hF3
      clear hmod hF3 hU3 hown3 hg3 hown4 hTm hm2 HF HCAR
      go_wp2_with (fail)
      refine HMOD.out.mono ?_
      rintro e v2 ⟨rfl, hb⟩
      have hf := HF3.out.ext hb
      obtain ⟨old, hold, kR⟩ := hf.old (g := w.heap.size + 1 + 1) (t := 32) (n := 16) (by simp)
      have kS := kR.setRow_same (ds V)
      have hB2 := below_setRow hf.below (show w.heap.size ≤ w.heap.size + 1 + 1 by omega) (ds V)
      have hold' : old.size = (ds V).size := by rw [hold, ds_size]
      have HS := Lib.hid kS
      have HB2 := Lib.hid hB2
      have HO := Lib.hid hold'
      clear hb hf kS hB2 hold hold'
      go_wp2_with (first | (refine wpList_store_row rfl 32 (.tmp 4) (.tmp 38) rfl (w.heap.size + 1 + 1) (ds V) rfl rfl 32 old kR (info_ds V) HO.out (ds_one _) ?_))
      exact bodyPost_ret (results_cell_row rfl _ _ (w.heap.size + 1 + 1) 32 (ds V) (0, 0) _ rfl HS.out Tryd.underlying32 rfl (info_ds V)) rfl ⟨rfl, HB2.out⟩
end Go.Proofs.YtnfckoamjeafhaaDoor
