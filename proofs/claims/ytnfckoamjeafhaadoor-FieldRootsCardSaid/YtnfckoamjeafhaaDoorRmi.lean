/- The document's Minor and Inv: p less a small number, shifted right; a power. -/
import Derived.Test.YtnfckoamjeafhaaDoorRpo
import Derived.Test.YtnfckoamjeafhaaDoorFo
namespace Go.Proofs.YtnfckoamjeafhaaDoor
set_option linter.unusedVariables false
set_option linter.unusedSimpArgs false
open Go Go.RowKit

/-- N, of which the first i digits are those of its half. -/
def hgl (N i : Nat) : List Nat := (List.range 16).map fun j => if j < i then N / 2 / 65536 ^ j % 65536 else N / 65536 ^ j % 65536
def hg (N i : Nat) : Array Value := ncs .u64 (hgl N i)
theorem hg_size (N i : Nat) : (hg N i).size = 16 := by simp [hg, hgl, ncs_size]
theorem hg_get (N i : Nat) {j : Nat} (h : j < 16) (hj : i ≤ j) : (hg N i)[j]? = some (.int .u64 ((N / 65536 ^ j % 65536 : Nat) : Int)) := by
  rw [hg, ncs_get]
  simp [hgl, h, Nat.not_lt.2 hj, nc_def]
theorem hg_zero (N : Nat) : hg N 0 = ds N := by simp [hg, hgl, ds, dg]
theorem hg_all (N : Nat) : hg N 16 = ds (N / 2) := by
  have h : hgl N 16 = dg (N / 2) := by
    unfold hgl dg
    apply List.map_congr_left
    intro j hj
    rw [if_pos (List.mem_range.1 hj)]
  exact congrArg (ncs .u64) h
theorem half_digit (N i : Nat) : N / 2 / 65536 ^ i % 65536 = N / 65536 ^ i % 65536 / 2 + N / 65536 ^ (i + 1) % 65536 % 2 * 32768 := by
  have h1 : N / 2 / 65536 ^ i = N / 65536 ^ i / 2 := by rw [Nat.div_div_eq_div_mul, Nat.div_div_eq_div_mul, Nat.mul_comm]
  have h2 : N / 65536 ^ (i + 1) = N / 65536 ^ i / 65536 := by rw [Nat.pow_succ, Nat.div_div_eq_div_mul]
  rw [h1, h2]
  generalize N / 65536 ^ i = M
  omega
theorem hg_step (N : Nat) {i : Nat} (h : i < 16) (x : Nat) (hx : x = N / 2 / 65536 ^ i % 65536) : (hg N i).setIfInBounds i (.int .u64 (x : Int)) = hg N (i + 1) := by
  subst hx
  rw [hg, ncs_set, hg]
  congr 1
  apply List.ext_getElem?
  intro t
  rw [List.getElem?_set]
  by_cases ht : t < 16
  · by_cases e : i = t
    · subst e
      simp [hgl, h]
    · have e2 : (t < i + 1) = (t < i) := by rw [eq_iff_iff]; omega
      simp [hgl, ht, e, e2]
  · have : i ≠ t := by omega
    simp [hgl, ht, this]
theorem set_set (a : Array Value) (i : Nat) (x y : Value) : (a.setIfInBounds i x).setIfInBounds i y = a.setIfInBounds i y := by
  simp
theorem top_digit {N : Nat} (h : N < 65536 ^ 16) : N / 65536 ^ (15 + 1) % 65536 = 0 := by rw [Nat.div_eq_of_lt h]
/-- p less a small number. -/
theorem ds_less {n : Nat} (h : n ≤ 18) : (ds PP).setIfInBounds 0 (.int .u64 ((65517 - n : Nat) : Int)) = ds (PP - n) := by
  rw [ds_put (by omega) (by omega)]
  congr 1
  have h1 := putd_eq 65536 PP 0 (65517 - n)
  have h2 : PP / 65536 ^ 0 % 65536 = 65517 := by decide +kernel
  rw [h2, Nat.pow_zero] at h1
  have h3 : 65517 ≤ PP := by rw [PP_eq]; omega
  omega
theorem ds_PP0 : (ds PP)[0]? = some (.int .u64 65517) := by kernel_rfl
set_option maxRecDepth 100000 in
set_option maxHeartbeats 4000000 in
theorem rminor_any (n t : Nat) (w : World) (hn : n ≤ 18) (ht : t ≤ 8) : Calls Tryd.prog 29 #[.int .u64 (n : Int), .int .i64 (t : Int)] w (KeyPost ((PP - n) / 2 ^ t) w) := by
  have hfr := (Fr.start w).any (ks 0) 23 32 (ks_size 0) (g := w.heap.size) rfl
  rw [ks_zero] at hfr
  have hls := ds_less hn
  obtain ⟨M, hM⟩ : ∃ M, M = PP - n := ⟨_, rfl⟩
  rw [← hM] at hls ⊢
  have hMl : M < 65536 ^ 16 := by rw [hM, d16]; have := PP_lim; omega
  have HFR := Lib.hid hfr
  have HLS := Lib.hid hls
  have HML := Lib.hid hMl
  clear hfr hls hM hMl
  go_enter Tryd.func29, Tryd.ntmps29
  go_wp2_with (fail)
  refine (rprime_any _).mono ?_
  rintro r v ⟨rfl, hb⟩
  have hf0 := HFR.out.ext hb
  have hz1 : w.heap.size < v.heap.size := by obtain ⟨cs, _, k⟩ := hf0.old (g := w.heap.size) (t := 23) (n := 32) (by simp); exact k.lt
  have hf := hf0.row (ds 0) 32 (g := v.heap.size) rfl
  have ka := hf.get (g := v.heap.size) (t := 32) (cs := ds 0) (by simp)
  have hf2 := hf.setRowHead (by simp <;> omega) (by simp <;> omega) (ds PP) (by omega)
  have kb := hf2.get (g := v.heap.size) (t := 32) (cs := ds PP) (by simp)
  have hc0 := kb.cell 0
  rw [ds_PP0] at hc0
  have hfz := kb.frozen 0
  have hf3 := hf2.setHead (by simp) (by simp <;> omega) 0 (.int .u64 ((65517 - n : Nat) : Int)) (by omega)
  rw [HLS.out] at hf3
  have hw : IntKind.u64.wrap (65517 - (n : Int)) = ((65517 - n : Nat) : Int) := by rw [IntKind.wrap_u64]; omega
  rw [ds_zero] at hf2 hf3 ka kb hc0 hfz
  have hso : (#[.int .u64 0, .int .u64 0, .int .u64 0, .int .u64 0, .int .u64 0, .int .u64 0, .int .u64 0, .int .u64 0, .int .u64 0, .int .u64 0, .int .u64 0, .int .u64 0, .int .u64 0, .int .u64 0, .int .u64 0, .int .u64 0] : Array Value).size = (ds PP).size := by rw [ds_size]; rfl
  have KA := Lib.hid ka
  have HSO := Lib.hid hso
  have HF0 := Lib.hid hf3
  clear hb hf0 hf hf2 hf3 ka kb hso HFR HLS
  go_wp2_with (first | (refine wpList_store_row rfl 32 (.tmp 5) (.tmp 8) rfl (v.heap.size) (ds PP) rfl rfl 32 _ KA.out (info_ds _) HSO.out (ds_one _) ?_))
  clear KA HSO hc0 hfz
  obtain ⟨gp, hgp⟩ : ∃ gp, gp = v.heap.size := ⟨_, rfl⟩
  simp only [← hgp] at hz1 HF0 ⊢
  clear hgp
  go_loopw [6] (fun i wr => ∃ j : Nat, j ≤ t ∧ i = .int .i64 j ∧ Fr w wr [(gp, 32, ds (M / 2 ^ j))] [(w.heap.size, 23, 32)]) (fun i _ => t - (intOf i).toNat)
  case atStart => exact ⟨0, by omega, rfl, by rw [Nat.pow_zero, Nat.div_one]; exact HF0.out⟩
  case round =>
    obtain ⟨j, hj, rfl, hF⟩ := hrel
    clear HF0
    by_cases hlt : j < t
    · obtain ⟨N, hN⟩ : ∃ N, N = M / 2 ^ j := ⟨_, rfl⟩
      rw [← hN] at hF
      have hNl : N < 65536 ^ 16 := by rw [hN]; exact Nat.lt_of_le_of_lt (Nat.div_le_self _ _) HML.out
      have hN2 : N / 2 = M / 2 ^ (j + 1) := by rw [hN, Nat.pow_succ, Nat.div_div_eq_div_mul]
      have HNL := Lib.hid hNl
      have HN2 := Lib.hid hN2
      rw [← hg_zero] at hF
      have HF := Lib.hid hF
      clear hNl hN2 hN hF
      have hdt : decide ((j : Int) < (t : Int)) = true := decide_eq_true (by omega)
      go_wp2_with (fail)
      try rw [decide_eq_true (show (j : Int) < (t : Int) by omega)]
      go_loopw [7] (fun i wq => ∃ k : Nat, k ≤ 16 ∧ i = .int .i64 k ∧ Fr w wq [(gp, 32, hg N k)] [(w.heap.size, 23, 32)]) (fun i _ => 16 - (intOf i).toNat)
      case atStart => exact ⟨0, by omega, rfl, HF.out⟩
      case round =>
        obtain ⟨k, hk, rfl, hF⟩ := hrel
        clear HF
        by_cases hkt : k < 16
        · have hD := hF.get (g := gp) (t := 32) (cs := hg N k) (by simp)
          have hf := hD.frozen k
          have ck : wr.cell? ⟨gp, k, none⟩ = some (.int .u64 ((N / 65536 ^ k % 65536 : Nat) : Int)) := by rw [hD.cell, hg_get _ _ hkt (Nat.le_refl _)]
          have hhd := half_digit N k
          have hstp := fun x hx => @hg_step N k hkt x hx
          have hx : N / 65536 ^ k % 65536 < 65536 := Nat.mod_lt _ (by omega)
          have hdt : decide ((k : Int) < 16) = true := decide_eq_true (by omega)
          have k16 : (k : Int) < 16 := by omega
          by_cases h15 : k < 15
          · have cn : wr.cell? ⟨gp, k + 1, none⟩ = some (.int .u64 ((N / 65536 ^ (k + 1) % 65536 : Nat) : Int)) := by rw [hD.cell, hg_get _ _ (by omega) (by omega)]
            have hy : N / 65536 ^ (k + 1) % 65536 < 65536 := Nat.mod_lt _ (by omega)
            have HHD := Lib.hid hhd
            have HST := Lib.hid hstp
            have HF := Lib.hid hF
            clear hhd hstp hF hD
            generalize N / 65536 ^ k % 65536 = x at *
            generalize N / 65536 ^ (k + 1) % 65536 = y at *
            obtain ⟨z, hz⟩ : ∃ z, z = x / 2 + y % 2 * 32768 := ⟨_, rfl⟩
            rw [← hz] at HHD
            have hst2 := HST.out z HHD.out.symm
            have hw1 : IntKind.u64.wrap ((y : Int) % 2 * 32768) = (y : Int) % 2 * 32768 := by rw [IntKind.wrap_u64]; omega
            have hw2 : IntKind.u64.wrap ((x : Int) / 2 + (y : Int) % 2 * 32768) = (z : Int) := by rw [IntKind.wrap_u64]; omega
            have hw3 : IntKind.i64.wrap ((k : Int) + 1) = (k : Int) + 1 := by rw [IntKind.wrap_i64]; omega
            have b0 : (0 : Int) ≤ (k : Int) + 1 := by omega
            have b1 : (k : Int) + 1 < 16 := by omega
            have b2 : ((k : Int) + 1).toNat = k + 1 := by omega
            have h15i : (k : Int) < 15 := by omega
            have hzI : (z : Int) = (x : Int) / 2 + (y : Int) % 2 * 32768 := by omega
            have HST2 := Lib.hid hst2
            clear hz hst2
            have hf1 := HF.out.setHead (by simp) (by simp <;> omega) k (.int .u64 ((x : Int) / 2)) (by omega)
            have kk1 := hf1.get (g := gp) (t := 32) (cs := (hg N k).setIfInBounds k (.int .u64 ((x : Int) / 2))) (by simp)
            have c1 : (wr.setCell ⟨gp, k, none⟩ (.int .u64 ((x : Int) / 2))).cell? ⟨gp, k, none⟩ = some (.int .u64 ((x : Int) / 2)) := by rw [kk1.cell]; simp [hg_size, hkt]
            have c2 : (wr.setCell ⟨gp, k, none⟩ (.int .u64 ((x : Int) / 2))).cell? ⟨gp, k + 1, none⟩ = some (.int .u64 (y : Int)) := by rw [World.cell?_setCell_other _ _ _ _ (by intro e; injection e with e1 e2; omega)]; exact cn
            have hf2 := kk1.frozen k
            have HF1 := Lib.hid hf1
            clear hf1 kk1
            go_wp2_with (fail)
            try rw [decide_eq_true (show (k : Int) < 15 by omega)]
            refine wp_region_held_drew (S := fun W => W.cell? ⟨gp, k + 1, none⟩ = some (.int .u64 (y : Int))) (by kernel_rfl) ?_ (fun hHeld => ?_)
            · exact c2
            refine wpAnyH_take (i := 0) (v := ?_) rfl (by kernel_rfl) (by kernel_rfl) (by kernel_rfl) (fun _ _ _ h => h) (Or.inl ⟨by rfl, ?_⟩) hHeld ?_
            rotate_left
            · (intro W hSw; (try dsimp only at hSw); (try simp only [List.getElem_toArray, List.getElem_cons_succ, List.getElem_cons_zero]); go_simp; try with_reducible rfl)
            try simp only [Act.put, List.getElem_toArray, List.getElem_cons_succ, List.getElem_cons_zero, List.setIfInBounds_toArray, List.set_cons_zero, List.set_cons_succ]
            refine wpAnyH_take (i := 1) (v := ?_) rfl (by kernel_rfl) (by kernel_rfl) (by kernel_rfl) (fun _ _ _ h => h) (Or.inl ⟨by rfl, ?_⟩) hHeld ?_
            rotate_left
            · (intro W hSw; (try dsimp only at hSw); (try simp only [List.getElem_toArray, List.getElem_cons_succ, List.getElem_cons_zero]); go_simp; try with_reducible rfl)
            try simp only [Act.put, List.getElem_toArray, List.getElem_cons_succ, List.getElem_cons_zero, List.setIfInBounds_toArray, List.set_cons_zero, List.set_cons_succ]
            refine wpAnyH_take (i := 2) (v := ?_) rfl (by kernel_rfl) (by kernel_rfl) (by kernel_rfl) (fun _ _ _ h => h) (Or.inl ⟨by rfl, ?_⟩) hHeld ?_
            rotate_left
            · (intro W hSw; (try dsimp only at hSw); (try simp only [List.getElem_toArray, List.getElem_cons_succ, List.getElem_cons_zero]); go_simp; try with_reducible rfl)
            try simp only [Act.put, List.getElem_toArray, List.getElem_cons_succ, List.getElem_cons_zero, List.setIfInBounds_toArray, List.set_cons_zero, List.set_cons_succ]
            refine wpAnyH_take (i := 4) (v := ?_) rfl (by kernel_rfl) (by kernel_rfl) (by kernel_rfl) (fun _ _ _ h => h) (Or.inl ⟨by rfl, ?_⟩) hHeld ?_
            rotate_left
            · (intro W hSw; (try dsimp only at hSw); (try simp only [List.getElem_toArray, List.getElem_cons_succ, List.getElem_cons_zero]); go_simp; try with_reducible rfl)
            try simp only [Act.put, List.getElem_toArray, List.getElem_cons_succ, List.getElem_cons_zero, List.setIfInBounds_toArray, List.set_cons_zero, List.set_cons_succ]
            refine wpAnyH_take (i := 5) (v := ?_) rfl (by kernel_rfl) (by kernel_rfl) (by kernel_rfl) (fun _ _ _ h => h) (Or.inl ⟨by rfl, ?_⟩) hHeld ?_
            rotate_left
            · (intro W hSw; (try dsimp only at hSw); (try simp only [List.getElem_toArray, List.getElem_cons_succ, List.getElem_cons_zero]); go_simp; try with_reducible rfl)
            try simp only [Act.put, List.getElem_toArray, List.getElem_cons_succ, List.getElem_cons_zero, List.setIfInBounds_toArray, List.set_cons_zero, List.set_cons_succ]
            refine wpAnyH_take (i := 6) (v := ?_) rfl (by kernel_rfl) (by kernel_rfl) (by kernel_rfl) (fun _ _ _ h => h) (Or.inl ⟨by rfl, ?_⟩) hHeld ?_
            rotate_left
            · (intro W hSw; (try dsimp only at hSw); (try simp only [List.getElem_toArray, List.getElem_cons_succ, List.getElem_cons_zero]); go_simp; try with_reducible rfl)
            try simp only [Act.put, List.getElem_toArray, List.getElem_cons_succ, List.getElem_cons_zero, List.setIfInBounds_toArray, List.set_cons_zero, List.set_cons_succ]
            refine wpAnyH_take (i := 7) (v := ?_) rfl (by kernel_rfl) (by kernel_rfl) (by kernel_rfl) (fun _ _ _ h => h) (Or.inl ⟨by rfl, ?_⟩) hHeld ?_
            rotate_left
            · (intro W hSw; (try dsimp only at hSw); (try simp only [List.getElem_toArray, List.getElem_cons_succ, List.getElem_cons_zero]); go_simp; try with_reducible rfl)
            try simp only [Act.put, List.getElem_toArray, List.getElem_cons_succ, List.getElem_cons_zero, List.setIfInBounds_toArray, List.set_cons_zero, List.set_cons_succ]
            refine wpAnyH_take (i := 8) (v := ?_) rfl (by kernel_rfl) (by kernel_rfl) (by kernel_rfl) (fun _ _ _ h => h) (Or.inl ⟨by rfl, ?_⟩) hHeld ?_
            rotate_left
            · (intro W hSw; (try dsimp only at hSw); (try simp only [List.getElem_toArray, List.getElem_cons_succ, List.getElem_cons_zero]); go_simp; try with_reducible rfl)
            try simp only [Act.put, List.getElem_toArray, List.getElem_cons_succ, List.getElem_cons_zero, List.setIfInBounds_toArray, List.set_cons_zero, List.set_cons_succ]
            refine wpAnyH_take (i := 9) (v := ?_) rfl (by kernel_rfl) (by kernel_rfl) (by kernel_rfl) (fun _ _ _ h => h) (Or.inl ⟨by rfl, ?_⟩) hHeld ?_
            rotate_left
            · (intro W hSw; (try dsimp only at hSw); (try simp only [List.getElem_toArray, List.getElem_cons_succ, List.getElem_cons_zero]); go_simp; try with_reducible rfl)
            try simp only [Act.put, List.getElem_toArray, List.getElem_cons_succ, List.getElem_cons_zero, List.setIfInBounds_toArray, List.set_cons_zero, List.set_cons_succ]
            refine wpAnyH_ready (rs := [3]) (by kernel_rfl) (by simp) (AllReadyH.cons rfl (fun K hK => ?_) AllReadyH.nil)
            have h0 := hHeld
            clear hHeld
            try simp only [List.getElem_toArray, List.getElem_cons_succ, List.getElem_cons_zero]
            go_simp
            refine hK.out _ _ (h0) (fun hHeld => ?_)
            clear hK K h0
            try simp only [Act.put, List.getElem_toArray, List.getElem_cons_succ, List.getElem_cons_zero, List.setIfInBounds_toArray, List.set_cons_zero, List.set_cons_succ]
            refine wpAnyH_take (i := 10) (v := ?_) rfl (by kernel_rfl) (by kernel_rfl) (by kernel_rfl) (fun _ _ _ h => h) (Or.inl ⟨by rfl, ?_⟩) hHeld ?_
            rotate_left
            · (intro W hSw; (try dsimp only at hSw); (try simp only [List.getElem_toArray, List.getElem_cons_succ, List.getElem_cons_zero]); go_simp; try with_reducible rfl)
            try simp only [Act.put, List.getElem_toArray, List.getElem_cons_succ, List.getElem_cons_zero, List.setIfInBounds_toArray, List.set_cons_zero, List.set_cons_succ]
            refine wpAnyH_take (i := 11) (v := ?_) rfl (by kernel_rfl) (by kernel_rfl) (by kernel_rfl) (fun _ _ _ h => h) (Or.inl ⟨by rfl, ?_⟩) hHeld ?_
            rotate_left
            · (intro W hSw; (try dsimp only at hSw); (try simp only [List.getElem_toArray, List.getElem_cons_succ, List.getElem_cons_zero]); go_simp; try with_reducible rfl)
            try simp only [Act.put, List.getElem_toArray, List.getElem_cons_succ, List.getElem_cons_zero, List.setIfInBounds_toArray, List.set_cons_zero, List.set_cons_succ]
            refine wpAnyH_ready (rs := [12]) (by kernel_rfl) (by simp) (AllReadyH.cons rfl (fun K hK => ?_) AllReadyH.nil)
            have h0 := hHeld
            clear hHeld
            try simp only [List.getElem_toArray, List.getElem_cons_succ, List.getElem_cons_zero]
            go_simp
            refine hK.out _ _ ((World.cell?_setCell_other _ _ _ _ (by intro e; injection e with e1 e2; omega)).trans h0) (fun hHeld => ?_)
            clear hK K h0
            try simp only [Act.put, List.getElem_toArray, List.getElem_cons_succ, List.getElem_cons_zero, List.setIfInBounds_toArray, List.set_cons_zero, List.set_cons_succ]
            refine wpAnyH_done (by kernel_rfl) ?_ _
            have hf3 := (HF1.out.setHead (by simp) (by simp <;> omega) k (.int .u64 (z : Int)) (by omega)).drew
            rw [set_set, HST2.out, hzI] at hf3
            have HF3 := Lib.hid hf3
            clear hf3 hHeld
            go_wp2_with (fail)
            go_roundw
            case rel => exact ⟨k + 1, by omega, by go_num, HF3.out⟩
            case measure => simp [intOf] <;> omega
          · obtain rfl : k = 15 := by omega
            rw [top_digit HNL.out, Nat.zero_mod, Nat.zero_mul, Nat.add_zero] at hhd
            have hst2 := hstp _ hhd.symm
            have HST2 := Lib.hid hst2
            clear hst2 hhd hstp
            generalize N / 65536 ^ 15 % 65536 = x at *
            have hf1 := hF.setHead (by simp) (by simp <;> omega) 15 (.int .u64 ((x / 2 : Nat) : Int)) (by omega)
            rw [HST2.out] at hf1
            have HF1 := Lib.hid hf1
            clear hf1 hF hD HST2
            simp only [show ((15 : Nat) : Int) = 15 from rfl]
            have hcst : ((x / 2 : Nat) : Int) = (x : Int) / 2 := by omega
            rw [hcst] at HF1
            clear hcst
            go_wp2_with (fail)
            go_roundw
            case rel => exact ⟨16, by omega, by go_num, HF1.out⟩
            case measure => simp [intOf] <;> omega
        · obtain rfl : k = 16 := by omega
          simp only [show ((16 : Nat) : Int) = 16 from rfl]
          rw [hg_all, HN2.out] at hF
          have HF := Lib.hid hF
          clear hF HN2
          go_wp2_with (fail)
          go_roundw
          case rel => exact ⟨j + 1, by omega, by go_num, HF.out⟩
          case measure => simp [intOf] <;> omega
    · obtain rfl : j = t := by omega
      have hNl : M / 2 ^ j < 115792089237316195423570985008687907853269984665640564039457584007913129639936 := by rw [← d16]; exact Nat.lt_of_le_of_lt (Nat.div_le_self _ _) HML.out
      obtain ⟨N, hN⟩ : ∃ N, N = M / 2 ^ j := ⟨_, rfl⟩
      rw [← hN] at hF hNl ⊢
      have hby := fun W => rbytes_any N W hNl
      have HBY := Lib.hid hby
      have kN := hF.get (g := gp) (t := 32) (cs := ds N) (by simp)
      have HF := Lib.hid hF
      have hdt : decide ((j : Int) < (j : Int)) = false := decide_eq_false (by omega)
      have HNE := Lib.hid hN
      clear hby hF hN hNl
      go_wp2_with (first | (refine wpList_load_row rfl 32 (.tmp 5) rfl gp rfl 32 (ds N) (0, 0) _ kN Tryd.underlying32 rfl (info_ds _) ?_))
      refine (HBY.out _).mono ?_
      rintro r v1 ⟨rfl, hb⟩
      have hf := HF.out.ext hb
      obtain ⟨old, hold, kR⟩ := hf.old (g := w.heap.size) (t := 23) (n := 32) (by simp)
      have kS := kR.setRow_same (ks N)
      have hB2 := below_setRow hf.below (Nat.le_refl _) (ks N)
      have hold' : old.size = (ks N).size := by rw [hold, ks_size]
      have HS := Lib.hid kS
      have HB2 := Lib.hid hB2
      have HO := Lib.hid hold'
      clear hb hf kS hB2 hold hold'
      go_wp2_with (first | (refine wpList_store_row rfl 23 (.tmp 4) (.tmp 44) rfl (w.heap.size) (ks N) rfl rfl 23 old kR (info_ks N) HO.out (ks_one _) ?_))
      rw [← HNE.out]
      exact key_end (g := w.heap.size) rfl rfl rfl HS.out HB2.out
set_option maxRecDepth 100000 in
set_option maxHeartbeats 2000000 in
theorem rinv_any (a : Nat) (w : World) (ha : a < 115792089237316195423570985008687907853269984665640564039457584007913129639936) : Calls Tryd.prog 27 #[.agg (ds a)] w (NumPost (a ^ (PP - 2) % PP) w) := by
  have hfr := ((Fr.start w).row (ds a) 32 (g := w.heap.size) rfl).any (ds 0) 32 16 (ds_size 0) (g := w.heap.size + 1) (by simp)
  rw [ds_zero] at hfr
  have hmi := fun W => rminor_any 2 0 W (by omega) (by omega)
  rw [Nat.pow_zero, Nat.div_one] at hmi
  have hpo := fun W => rpower_any a (PP - 2) W ha (by have := PP_lim; omega)
  obtain ⟨E, hE⟩ : ∃ E, E = PP - 2 := ⟨_, rfl⟩
  rw [← hE] at hmi hpo ⊢
  obtain ⟨V, hV⟩ : ∃ V, V = a ^ E % PP := ⟨_, rfl⟩
  rw [← hV] at hpo ⊢
  have HFR := Lib.hid hfr
  have HMI := Lib.hid hmi
  have HPO := Lib.hid hpo
  clear hfr hmi hpo hE hV ha
  go_enter Tryd.func27, Tryd.ntmps27
  go_wp2_with (fail)
  refine wp_region_held_drew (S := fun W => Fr w W [(w.heap.size, 32, ds a)] [(w.heap.size + 1, 32, 16)]) (by kernel_rfl) ?_ (fun hHeld => ?_)
  · exact HFR.out.drew
  refine wpAnyH_take (i := 0) (v := .agg (ds a)) rfl (by kernel_rfl) (by kernel_rfl) (by kernel_rfl) (fun _ _ _ h => h) (yields_row (by rfl) 32 (.tmp 1) rfl (w.heap.size) rfl 32 (ds a) _ (fun W (h : Fr _ W _ _) => h.get (by simp)) Tryd.underlying32 rfl (info_ds _)) hHeld ?_
  try simp only [Act.put, List.getElem_toArray, List.getElem_cons_succ, List.getElem_cons_zero, List.setIfInBounds_toArray, List.set_cons_zero, List.set_cons_succ]
  refine wpAnyH_ready (rs := [1]) (by kernel_rfl) (by simp) (AllReadyH.cons rfl (fun K hK => ?_) AllReadyH.nil)
  have h0 := hHeld
  clear hHeld
  try simp only [List.getElem_toArray, List.getElem_cons_succ, List.getElem_cons_zero]
  have H0 := Lib.hid h0
  clear h0
  go_simp
  go_at_call 29
  refine (HMI.out _).mono ?_
  rintro e vv ⟨rfl, hb⟩
  have h1 := H0.out.ext hb
  clear hb H0
  go_wp2_with (fail)
  refine hK.out _ _ h1 (fun hHeld => ?_)
  clear hK K h1
  try simp only [Act.put, List.getElem_toArray, List.getElem_cons_succ, List.getElem_cons_zero, List.setIfInBounds_toArray, List.set_cons_zero, List.set_cons_succ]
  refine wpAnyH_ready (rs := [2]) (by kernel_rfl) (by simp) (AllReadyH.cons rfl (fun K hK => ?_) AllReadyH.nil)
  have h0 := hHeld
  clear hHeld
  try simp only [List.getElem_toArray, List.getElem_cons_succ, List.getElem_cons_zero]
  have H0 := Lib.hid h0
  clear h0
  go_simp
  go_at_call 28
  refine (HPO.out _).mono ?_
  rintro e vv ⟨rfl, hb⟩
  have h1 := H0.out.ext hb
  clear hb H0
  go_wp2_with (fail)
  refine hK.out _ _ h1 (fun hHeld => ?_)
  clear hK K h1
  try simp only [Act.put, List.getElem_toArray, List.getElem_cons_succ, List.getElem_cons_zero, List.setIfInBounds_toArray, List.set_cons_zero, List.set_cons_succ]
  refine wpAnyH_ready (rs := [3]) (by kernel_rfl) (by simp) (AllReadyH.cons rfl (fun K hK => ?_) AllReadyH.nil)
  have h0 := hHeld
  clear hHeld
  try simp only [List.getElem_toArray, List.getElem_cons_succ, List.getElem_cons_zero]
  rw [if_pos (by rfl)]
  obtain ⟨old, hold, kold⟩ := Fr.old h0 (g := w.heap.size + 1) (t := 32) (n := 16) (by simp)
  refine wp_store_row 32 (.tmp 2) (.tmp 5) rfl (w.heap.size + 1) (ds V) rfl rfl 32 old kold (info_ds _) hold (ds_one _) ?_
  refine hK.out _ _ (Fr.setAny h0 (g := w.heap.size + 1) (t := 32) (ds_size _) (by simp) (by simp <;> omega)) (fun hHeld => ?_)
  have kb := kold.setRow_same (ds V)
  clear hK K h0 hold
  try simp only [Act.put, List.getElem_toArray, List.getElem_cons_succ, List.getElem_cons_zero, List.setIfInBounds_toArray, List.set_cons_zero, List.set_cons_succ]
  refine wpAnyH_done (by kernel_rfl) ?_ _
  have HK := Lib.hid kb
  have HF := Lib.hid hHeld
  clear kb hHeld
  go_wp2_with (fail)
  exact bodyPost_ret (results_cell_row rfl _ _ (w.heap.size + 1) 32 (ds V) (0, 0) _ rfl HK.out Tryd.underlying32 rfl (info_ds V)) rfl ⟨rfl, HF.out.below⟩
end Go.Proofs.YtnfckoamjeafhaaDoor
