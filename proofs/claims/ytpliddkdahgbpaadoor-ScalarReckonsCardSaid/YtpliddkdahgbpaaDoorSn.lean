/- Layer 3's product of words. -/
import Derived.Test.YtpliddkdahgbpaaDoorSm
import Derived.Deep.RegionLaw
namespace Go.Proofs.YtpliddkdahgbpaaDoor
set_option linter.unusedVariables false
set_option linter.unusedSimpArgs false
open Go.RowKit

theorem ws8_zero : ws 8 0 = #[.int .u64 0, .int .u64 0, .int .u64 0, .int .u64 0, .int .u64 0, .int .u64 0, .int .u64 0, .int .u64 0] := by kernel_rfl
theorem info_ws8 (n : Nat) : (Tryd.prog.info? 40).map (·.size) = some (ws 8 n).size := by rw [ws_size]; kernel_rfl
theorem mulAddW_ex (a b c d : Nat) (ha : a < 18446744073709551616) (hb : b < 18446744073709551616) (hc : c < 18446744073709551616) (hd : d < 18446744073709551616) :
    ∃ hi lo : Nat, (∀ w, Calls Tryd.prog 35 #[.int .u64 a, .int .u64 b, .int .u64 c, .int .u64 d] w fun e w' => e = .returned (.tuple #[.int .u64 (hi : Int), .int .u64 (lo : Int)]) ∧ w = w') ∧ MulAddAt a b c d hi lo := by
  refine ⟨(a * b + c + d) / 18446744073709551616, (a * b + c + d) % 18446744073709551616, fun w => (mulAdd_any a b c d w ha hb hc hd).mono ?_, ?_⟩
  · rintro e w' ⟨hi, lo, rfl, ⟨h1, h2, h3⟩, rfl⟩
    rw [← h1]
    have e1 : (hi * 18446744073709551616 + lo) / 18446744073709551616 = hi := by omega
    have e2 : (hi * 18446744073709551616 + lo) % 18446744073709551616 = lo := by omega
    rw [e1, e2]
    exact ⟨rfl, rfl⟩
  · have := mul_lt_sq ha hb
    unfold MulAddAt
    generalize a * b = m at *
    omega
theorem Fr.keep {w W W' : World} {L : List (Nat × TypeId × Array Value)} {R : List (Nat × TypeId × Nat)} {B : Nat} (h : Fr w W L R) (hb : Below B W W') (hB : w.heap.size ≤ B) (hL : ∀ p ∈ L, p.1 < B) (hR : ∀ p ∈ R, p.1 < B) : Fr w W' L R :=
  ⟨h.below.trans (hb.mono hB), fun p hp => (h.rows p hp).below hb (hL p hp), fun p hp => by
    obtain ⟨cs, e, k⟩ := h.some_ p hp
    exact ⟨cs, e, k.below hb (hR p hp)⟩, h.own⟩
theorem ws_mem (c n : Nat) : ∀ v ∈ (ws c n).toList, v.oneCell' = true := by
  intro v hv
  simp only [ws, ncs, List.mem_map] at hv
  obtain ⟨x, _, rfl⟩ := hv
  rfl
theorem splice_ws {c : Nat} (hc : c < 18446744073709551616 ^ 4) : (splice (ws 8 0).toList 0 (ws 4 c).toList).toArray = ws 8 c := by
  have h4 : wj c 4 = 0 := wj_high hc
  have h5 : wj c 5 = 0 := wj_high (Nat.lt_of_lt_of_le hc (Nat.pow_le_pow_right (by omega) (by omega)))
  have h6 : wj c 6 = 0 := wj_high (Nat.lt_of_lt_of_le hc (Nat.pow_le_pow_right (by omega) (by omega)))
  have h7 : wj c 7 = 0 := wj_high (Nat.lt_of_lt_of_le hc (Nat.pow_le_pow_right (by omega) (by omega)))
  rw [ws8_zero]
  simp [splice, ws, wl, ncs, nc, h4, h5, h6, h7, show List.range 4 = [0, 1, 2, 3] from rfl, show List.range 8 = [0, 1, 2, 3, 4, 5, 6, 7] from rfl]
set_option maxRecDepth 100000 in
set_option maxHeartbeats 2000000 in
theorem mulAdd8_any (a b c : Nat) (w : World) (ha : a < 18446744073709551616 ^ 4) (hb : b < 18446744073709551616 ^ 4) (hc : c < 18446744073709551616 ^ 4) :
    Calls Tryd.prog 30 #[.agg (ws 4 a), .agg (ws 4 b), .agg (ws 4 c)] w (WPost 8 (a * b + c) w) := by
  have hfr := ((((Fr.start w).row (ws 4 a) 47 (g := w.heap.size) rfl).row (ws 4 b) 47 (g := w.heap.size + 1) (by simp)).row (ws 4 c) 47 (g := w.heap.size + 1 + 1) (by simp)).any (ws 8 0) 40 8 (ws_size 8 0) (g := w.heap.size + 1 + 1 + 1) (by simp)
  have hfr := hfr.row (ws 8 0) 40 (g := w.heap.size + 1 + 1 + 1 + 1) (by simp)
  have hsp := splice_ws hc
  rw [ws8_zero] at hfr
  have HFR := Lib.hid hfr
  have HSP := Lib.hid hsp
  clear hfr hsp
  have HA := Lib.hid ha
  have HBB := Lib.hid hb
  have HC := Lib.hid hc
  clear ha hb hc
  go_enter Tryd.func30, Tryd.ntmps30
  go_wp2_with (fail)
  obtain ⟨wa, hwa⟩ : ∃ wa : World, wa = ((((w.alloc (Obj.cells (ws 4 a) 47)).alloc (Obj.cells (ws 4 b) 47)).alloc (Obj.cells (ws 4 c) 47)).alloc (Obj.cells #[.int .u64 0, .int .u64 0, .int .u64 0, .int .u64 0, .int .u64 0, .int .u64 0, .int .u64 0, .int .u64 0] 40)).alloc (Obj.cells #[.int .u64 0, .int .u64 0, .int .u64 0, .int .u64 0, .int .u64 0, .int .u64 0, .int .u64 0, .int .u64 0] 40) := ⟨_, rfl⟩
  rw [← hwa] at HFR ⊢
  clear hwa
  have hF := HFR.out
  have hN := hF.get (g := w.heap.size + 1 + 1 + 1 + 1) (t := 40) (cs := #[.int .u64 0, .int .u64 0, .int .u64 0, .int .u64 0, .int .u64 0, .int .u64 0, .int .u64 0, .int .u64 0]) (by simp)
  have hC := hF.get (g := w.heap.size + 1 + 1) (t := 47) (cs := ws 4 c) (by simp)
  have HN := Lib.hid hN
  have HCC := Lib.hid hC
  clear hF hN hC
  go_region_law (refine step_copy_splice rfl (.tmp 11) (.tmp 12) 56 56 rfl 39 Tryd.underlying56 (by kernel_rfl) (some ⟨w.heap.size + 1 + 1 + 1 + 1, 0, none⟩) (some ⟨w.heap.size + 1 + 1, 0, none⟩) 8 8 4 4 rfl rfl (w.heap.size + 1 + 1 + 1 + 1) 0 (ws 8 0).toList 40 (by rw [ws8_zero]; exact HN.out.drew) (ws 4 c).toList (by simp [ws_size]) (fun _ => ⟨rfl, _, rfl, by intro j v hv; rw [Addr.add_lit, Nat.zero_add, HCC.out.drew.cell]; simpa using hv⟩) (by simp [ws_size]) (ws_mem 4 c) (w.heap.size + 1 + 1 + 1 + 1) wa ((Below.refl _ wa).drew) (Nat.le_refl _) ?_; intro wb hg4 hb4)
  have hf2 := (HFR.out.sub (L' := [(w.heap.size, 47, ws 4 a), (w.heap.size + 1, 47, ws 4 b)]) (R' := [(w.heap.size + 1 + 1 + 1, 40, 8)]) (by simp) (by simp)).keep hb4 (by omega) (by simp <;> omega) (by simp)
  have hg5 : Blk wb (w.heap.size + 1 + 1 + 1 + 1) 40 (ws 8 c) := by rw [← HSP.out]; exact hg4.out
  have hf3 := hf2.more hg5
  have HF3 := Lib.hid hf3
  clear hf2 hg5 hf3 hg4 hb4 HN HCC HFR
  go_wp2_with (fail)
  go_loopw [14] (fun i wr => ∃ k n : Nat, k ≤ 4 ∧ i = .int .i64 k ∧ MulAtI a b c k n ∧ Fr w wr [(w.heap.size + 1 + 1 + 1 + 1, 40, ws 8 n), (w.heap.size, 47, ws 4 a), (w.heap.size + 1, 47, ws 4 b)] [(w.heap.size + 1 + 1 + 1, 40, 8)]) (fun i _ => 4 - (intOf i).toNat)
  case atStart => exact ⟨0, c, by omega, rfl, by unfold MulAtI; rw [Nat.pow_zero, Nat.mod_one]; omega, HF3.out⟩
  case round =>
    obtain ⟨k, n, hk, rfl, hM, hF⟩ := hrel
    by_cases hlt : k < 4
    · have hms := mulrow_start hM (mul_below hM HBB.out HC.out)
      have HF := Lib.hid hF
      have HMS := Lib.hid hms
      clear hF hM hms
      go_wp2_with (fail)
      rw [decide_eq_true (show (k : Int) < 4 by omega)]
      go_loopw [17, 9] (fun i o wq => ∃ j n' ov : Nat, j ≤ 4 ∧ i = .int .i64 j ∧ o = .int .u64 ov ∧ MulRow a b c k j n' ov ∧ Fr w wq [(w.heap.size + 1 + 1 + 1 + 1, 40, ws 8 n'), (w.heap.size, 47, ws 4 a), (w.heap.size + 1, 47, ws 4 b)] [(w.heap.size + 1 + 1 + 1, 40, 8)]) (fun i _ _ => 4 - (intOf i).toNat)
      case atStart => exact ⟨0, n, 0, by omega, rfl, rfl, HMS.out, HF.out⟩
      case round =>
        obtain ⟨j, n', ov, hj, rfl, rfl, hR, hF⟩ := hrel
        clear HF HMS
        by_cases hjt : j < 4
        · have hA := hF.get (g := w.heap.size) (t := 47) (cs := ws 4 a) (by simp)
          have hB := hF.get (g := w.heap.size + 1) (t := 47) (cs := ws 4 b) (by simp)
          have hN := hF.get (g := w.heap.size + 1 + 1 + 1 + 1) (t := 40) (cs := ws 8 n') (by simp)
          have ca : wr.cell? ⟨w.heap.size, k, none⟩ = some (.int .u64 (wj a k : Int)) := by rw [hA.cell, ws_get _ _ hlt]
          have cb : wr.cell? ⟨w.heap.size + 1, j, none⟩ = some (.int .u64 (wj b j : Int)) := by rw [hB.cell, ws_get _ _ hjt]
          have cn : wr.cell? ⟨w.heap.size + 1 + 1 + 1 + 1, k + j, none⟩ = some (.int .u64 (wj n' (k + j) : Int)) := by rw [hN.cell, ws_get _ _ (by omega)]
          have hf := hN.frozen (k + j)
          obtain ⟨hi, lo, h0W, hAt⟩ := mulAddW_ex (wj a k) (wj b j) (wj n' (k + j)) ov (wj_lt _ _) (wj_lt _ _) (wj_lt _ _) hR.2.2
          obtain ⟨n2, hn2, hst⟩ := mulrow_step hjt hR hAt
          have hpt := ws_put (c := 8) (by omega) hAt.2.1 hn2
          have HST := Lib.hid hst
          have HPT := Lib.hid hpt
          have HF := Lib.hid hF
          clear hst hpt hF hA hB hN hR hAt hn2
          generalize wj a k = x at *
          generalize wj b j = y at *
          generalize wj n' (k + j) = z at *
          go_wp2_with (fail)
          have b0 : IntKind.i64.wrap ((k : Int) + (j : Int)) = (k : Int) + (j : Int) := by rw [IntKind.wrap_i64]; omega
          have b1 : (0 : Int) ≤ (k : Int) + (j : Int) := by omega
          have b2 : (k : Int) + (j : Int) < 8 := by omega
          have b3 : ((k : Int) + (j : Int)).toNat = k + j := by omega
          --BEGIN
          refine wp_region_held_drew (S := fun W => W.cell? ⟨w.heap.size, k, none⟩ = some (.int .u64 (x : Int)) ∧ W.cell? ⟨w.heap.size + 1, j, none⟩ = some (.int .u64 (y : Int))) (by kernel_rfl) ?_ (fun hHeld => ?_)
          · exact ⟨ca, cb⟩
          refine wpAnyH_take (i := 0) (v := ?_) rfl (by kernel_rfl) (by kernel_rfl) (by kernel_rfl) (fun _ _ _ h => h) (Or.inl ⟨by rfl, ?_⟩) hHeld ?_
          rotate_left
          · (intro W hSw; (try dsimp only at hSw); (try simp only [List.getElem_toArray, List.getElem_cons_succ, List.getElem_cons_zero]); go_simp; try with_reducible rfl)
          try simp only [Act.put, List.getElem_toArray, List.getElem_cons_succ, List.getElem_cons_zero, List.setIfInBounds_toArray, List.set_cons_zero, List.set_cons_succ]
          refine wpAnyH_take (i := 1) (v := ?_) rfl (by kernel_rfl) (by kernel_rfl) (by kernel_rfl) (fun _ _ _ h => h) (Or.inl ⟨by rfl, ?_⟩) hHeld ?_
          rotate_left
          · (intro W hSw; (try dsimp only at hSw); (try simp only [List.getElem_toArray, List.getElem_cons_succ, List.getElem_cons_zero]); go_simp; try with_reducible rfl)
          try simp only [Act.put, List.getElem_toArray, List.getElem_cons_succ, List.getElem_cons_zero, List.setIfInBounds_toArray, List.set_cons_zero, List.set_cons_succ]
          refine wpAnyH_take (i := 2) (v := ?_) rfl (by kernel_rfl) (by kernel_rfl) (by kernel_rfl) (fun _ _ _ h => h) (Or.inl ⟨by rfl, ?_⟩) hHeld ?_
          rotate_left
          · (intro W hSw; (try dsimp only at hSw); (try simp only [List.getElem_toArray, List.getElem_cons_succ, List.getElem_cons_zero]); go_simp; try with_reducible rfl)
          try simp only [Act.put, List.getElem_toArray, List.getElem_cons_succ, List.getElem_cons_zero, List.setIfInBounds_toArray, List.set_cons_zero, List.set_cons_succ]
          refine wpAnyH_take (i := 3) (v := ?_) rfl (by kernel_rfl) (by kernel_rfl) (by kernel_rfl) (fun _ _ _ h => h) (Or.inl ⟨by rfl, ?_⟩) hHeld ?_
          rotate_left
          · (intro W hSw; (try dsimp only at hSw); (try simp only [List.getElem_toArray, List.getElem_cons_succ, List.getElem_cons_zero]); go_simp; try with_reducible rfl)
          try simp only [Act.put, List.getElem_toArray, List.getElem_cons_succ, List.getElem_cons_zero, List.setIfInBounds_toArray, List.set_cons_zero, List.set_cons_succ]
          refine wpAnyH_take (i := 4) (v := ?_) rfl (by kernel_rfl) (by kernel_rfl) (by kernel_rfl) (fun _ _ _ h => h) (Or.inl ⟨by rfl, ?_⟩) hHeld ?_
          rotate_left
          · (intro W hSw; (try dsimp only at hSw); (try simp only [List.getElem_toArray, List.getElem_cons_succ, List.getElem_cons_zero]); go_simp; try with_reducible rfl)
          try simp only [Act.put, List.getElem_toArray, List.getElem_cons_succ, List.getElem_cons_zero, List.setIfInBounds_toArray, List.set_cons_zero, List.set_cons_succ]
          refine wpAnyH_take (i := 5) (v := ?_) rfl (by kernel_rfl) (by kernel_rfl) (by kernel_rfl) (fun _ _ _ h => h) (Or.inl ⟨by rfl, ?_⟩) hHeld ?_
          rotate_left
          · (intro W hSw; (try dsimp only at hSw); (try simp only [List.getElem_toArray, List.getElem_cons_succ, List.getElem_cons_zero]); go_simp; try with_reducible rfl)
          try simp only [Act.put, List.getElem_toArray, List.getElem_cons_succ, List.getElem_cons_zero, List.setIfInBounds_toArray, List.set_cons_zero, List.set_cons_succ]
          refine wpAnyH_take (i := 6) (v := ?_) rfl (by kernel_rfl) (by kernel_rfl) (by kernel_rfl) (fun _ _ _ h => h) (Or.inl ⟨by rfl, ?_⟩) hHeld ?_
          rotate_left
          · (intro W hSw; (try dsimp only at hSw); (try simp only [List.getElem_toArray, List.getElem_cons_succ, List.getElem_cons_zero]); go_simp; try with_reducible rfl)
          try simp only [Act.put, List.getElem_toArray, List.getElem_cons_succ, List.getElem_cons_zero, List.setIfInBounds_toArray, List.set_cons_zero, List.set_cons_succ]
          refine wpAnyH_take (i := 7) (v := ?_) rfl (by kernel_rfl) (by kernel_rfl) (by kernel_rfl) (fun _ _ _ h => h) (Or.inl ⟨by rfl, ?_⟩) hHeld ?_
          rotate_left
          · (intro W hSw; (try dsimp only at hSw); (try simp only [List.getElem_toArray, List.getElem_cons_succ, List.getElem_cons_zero]); go_simp; try with_reducible rfl)
          try simp only [Act.put, List.getElem_toArray, List.getElem_cons_succ, List.getElem_cons_zero, List.setIfInBounds_toArray, List.set_cons_zero, List.set_cons_succ]
          refine wpAnyH_take (i := 8) (v := ?_) rfl (by kernel_rfl) (by kernel_rfl) (by kernel_rfl) (fun _ _ _ h => h) (Or.inl ⟨by rfl, ?_⟩) hHeld ?_
          rotate_left
          · (intro W hSw; (try dsimp only at hSw); (try simp only [List.getElem_toArray, List.getElem_cons_succ, List.getElem_cons_zero]); go_simp; try with_reducible rfl)
          try simp only [Act.put, List.getElem_toArray, List.getElem_cons_succ, List.getElem_cons_zero, List.setIfInBounds_toArray, List.set_cons_zero, List.set_cons_succ]
          refine wpAnyH_take (i := 9) (v := ?_) rfl (by kernel_rfl) (by kernel_rfl) (by kernel_rfl) (fun _ _ _ h => h) (Or.inl ⟨by rfl, ?_⟩) hHeld ?_
          rotate_left
          · (intro W hSw; (try dsimp only at hSw); (try simp only [List.getElem_toArray, List.getElem_cons_succ, List.getElem_cons_zero]); go_simp; try with_reducible rfl)
          try simp only [Act.put, List.getElem_toArray, List.getElem_cons_succ, List.getElem_cons_zero, List.setIfInBounds_toArray, List.set_cons_zero, List.set_cons_succ]
          refine wpAnyH_take (i := 10) (v := ?_) rfl (by kernel_rfl) (by kernel_rfl) (by kernel_rfl) (fun _ _ _ h => h) (Or.inl ⟨by rfl, ?_⟩) hHeld ?_
          rotate_left
          · (intro W hSw; (try dsimp only at hSw); (try simp only [List.getElem_toArray, List.getElem_cons_succ, List.getElem_cons_zero]); go_simp; try with_reducible rfl)
          try simp only [Act.put, List.getElem_toArray, List.getElem_cons_succ, List.getElem_cons_zero, List.setIfInBounds_toArray, List.set_cons_zero, List.set_cons_succ]
          refine wpAnyH_take (i := 11) (v := ?_) rfl (by kernel_rfl) (by kernel_rfl) (by kernel_rfl) (fun _ _ _ h => h) (Or.inl ⟨by rfl, ?_⟩) hHeld ?_
          rotate_left
          · (intro W hSw; (try dsimp only at hSw); (try simp only [List.getElem_toArray, List.getElem_cons_succ, List.getElem_cons_zero]); go_simp; try with_reducible rfl)
          try simp only [Act.put, List.getElem_toArray, List.getElem_cons_succ, List.getElem_cons_zero, List.setIfInBounds_toArray, List.set_cons_zero, List.set_cons_succ]
          refine wpAnyH_take (i := 12) (v := ?_) rfl (by kernel_rfl) (by kernel_rfl) (by kernel_rfl) (fun _ _ _ h => h) (Or.inl ⟨by rfl, ?_⟩) hHeld ?_
          rotate_left
          · (intro W hSw; (try dsimp only at hSw); (try simp only [List.getElem_toArray, List.getElem_cons_succ, List.getElem_cons_zero]); go_simp; try with_reducible rfl)
          try simp only [Act.put, List.getElem_toArray, List.getElem_cons_succ, List.getElem_cons_zero, List.setIfInBounds_toArray, List.set_cons_zero, List.set_cons_succ]
          refine wpAnyH_take (i := 14) (v := ?_) rfl (by kernel_rfl) (by kernel_rfl) (by kernel_rfl) (fun _ _ _ h => h) (Or.inl ⟨by rfl, ?_⟩) hHeld ?_
          rotate_left
          · (intro W hSw; (try dsimp only at hSw); (try simp only [List.getElem_toArray, List.getElem_cons_succ, List.getElem_cons_zero]); go_simp; try with_reducible rfl)
          try simp only [Act.put, List.getElem_toArray, List.getElem_cons_succ, List.getElem_cons_zero, List.setIfInBounds_toArray, List.set_cons_zero, List.set_cons_succ]
          refine wpAnyH_ready (rs := [13]) (by kernel_rfl) (by simp) (AllReadyH.cons rfl (fun K hK => ?_) AllReadyH.nil)
          have h0 := hHeld
          clear hHeld
          try simp only [List.getElem_toArray, List.getElem_cons_succ, List.getElem_cons_zero]
          go_simp
          refine hK.out _ _ (h0) (fun hHeld => ?_)
          clear hK K h0
          try simp only [Act.put, List.getElem_toArray, List.getElem_cons_succ, List.getElem_cons_zero, List.setIfInBounds_toArray, List.set_cons_zero, List.set_cons_succ]
          refine wpAnyH_ready (rs := [15]) (by kernel_rfl) (by simp) (AllReadyH.cons rfl (fun K hK => ?_) AllReadyH.nil)
          have h0 := hHeld
          clear hHeld
          try simp only [List.getElem_toArray, List.getElem_cons_succ, List.getElem_cons_zero]
          go_simp
          go_at_call 35
          refine (h0W _).mono ?_
          rintro e vv ⟨rfl, rfl⟩
          go_wp2_with (fail)
          refine hK.out _ _ h0 (fun hHeld => ?_)
          clear hK K h0
          try simp only [Act.put, List.getElem_toArray, List.getElem_cons_succ, List.getElem_cons_zero, List.setIfInBounds_toArray, List.set_cons_zero, List.set_cons_succ]
          refine wpAnyH_take (i := 16) (v := ?_) rfl (by kernel_rfl) (by kernel_rfl) (by kernel_rfl) (fun _ _ _ h => h) (Or.inl ⟨by rfl, ?_⟩) hHeld ?_
          rotate_left
          · (intro W hSw; (try dsimp only at hSw); (try simp only [List.getElem_toArray, List.getElem_cons_succ, List.getElem_cons_zero]); go_simp; try with_reducible rfl)
          try simp only [Act.put, List.getElem_toArray, List.getElem_cons_succ, List.getElem_cons_zero, List.setIfInBounds_toArray, List.set_cons_zero, List.set_cons_succ]
          refine wpAnyH_take (i := 17) (v := ?_) rfl (by kernel_rfl) (by kernel_rfl) (by kernel_rfl) (fun _ _ _ h => h) (Or.inl ⟨by rfl, ?_⟩) hHeld ?_
          rotate_left
          · (intro W hSw; (try dsimp only at hSw); (try simp only [List.getElem_toArray, List.getElem_cons_succ, List.getElem_cons_zero]); go_simp; try with_reducible rfl)
          try simp only [Act.put, List.getElem_toArray, List.getElem_cons_succ, List.getElem_cons_zero, List.setIfInBounds_toArray, List.set_cons_zero, List.set_cons_succ]
          refine wpAnyH_take (i := 18) (v := ?_) rfl (by kernel_rfl) (by kernel_rfl) (by kernel_rfl) (fun _ _ _ h => h) (Or.inl ⟨by rfl, ?_⟩) hHeld ?_
          rotate_left
          · (intro W hSw; (try dsimp only at hSw); (try simp only [List.getElem_toArray, List.getElem_cons_succ, List.getElem_cons_zero]); go_simp; try with_reducible rfl)
          try simp only [Act.put, List.getElem_toArray, List.getElem_cons_succ, List.getElem_cons_zero, List.setIfInBounds_toArray, List.set_cons_zero, List.set_cons_succ]
          refine wpAnyH_take (i := 19) (v := ?_) rfl (by kernel_rfl) (by kernel_rfl) (by kernel_rfl) (fun _ _ _ h => h) (Or.inl ⟨by rfl, ?_⟩) hHeld ?_
          rotate_left
          · (intro W hSw; (try dsimp only at hSw); (try simp only [List.getElem_toArray, List.getElem_cons_succ, List.getElem_cons_zero]); go_simp; try with_reducible rfl)
          try simp only [Act.put, List.getElem_toArray, List.getElem_cons_succ, List.getElem_cons_zero, List.setIfInBounds_toArray, List.set_cons_zero, List.set_cons_succ]
          refine wpAnyH_take (i := 20) (v := ?_) rfl (by kernel_rfl) (by kernel_rfl) (by kernel_rfl) (fun _ _ _ h => h) (Or.inl ⟨by rfl, ?_⟩) hHeld ?_
          rotate_left
          · (intro W hSw; (try dsimp only at hSw); (try simp only [List.getElem_toArray, List.getElem_cons_succ, List.getElem_cons_zero]); go_simp; try with_reducible rfl)
          try simp only [Act.put, List.getElem_toArray, List.getElem_cons_succ, List.getElem_cons_zero, List.setIfInBounds_toArray, List.set_cons_zero, List.set_cons_succ]
          refine wpAnyH_ready (rs := [21]) (by kernel_rfl) (by simp) (AllReadyH.cons rfl (fun K hK => ?_) AllReadyH.nil)
          have h0 := hHeld
          clear hHeld
          try simp only [List.getElem_toArray, List.getElem_cons_succ, List.getElem_cons_zero]
          go_simp
          refine hK.out _ _ (⟨(World.cell?_setCell_far _ _ _ _ (by simp <;> omega)).trans h0.1, (World.cell?_setCell_far _ _ _ _ (by simp <;> omega)).trans h0.2⟩) (fun hHeld => ?_)
          clear hK K h0
          try simp only [Act.put, List.getElem_toArray, List.getElem_cons_succ, List.getElem_cons_zero, List.setIfInBounds_toArray, List.set_cons_zero, List.set_cons_succ]
          refine wpAnyH_done (by kernel_rfl) ?_ _
          --END
          go_wp2_with (fail)
          go_roundw
          case rel =>
            refine ⟨j + 1, n2, hi, by omega, by go_num, rfl, HST.out, ?_⟩
            rw [← HPT.out]
            exact Fr.drew (HF.out.setHead (by simp <;> omega) (by simp <;> omega) _ _ (by omega))
          case measure => simp [intOf] <;> omega
        · obtain rfl : j = 4 := by omega
          obtain ⟨n2, hn2, hst⟩ := mulrow_end HBB.out hR
          have hpt := ws_put (c := 8) (by omega) hR.2.2 hn2
          have hN := hF.get (g := w.heap.size + 1 + 1 + 1 + 1) (t := 40) (cs := ws 8 n') (by simp)
          have cn : wr.cell? ⟨w.heap.size + 1 + 1 + 1 + 1, k + 4, none⟩ = some (.int .u64 (wj n' (k + 4) : Int)) := by rw [hN.cell, ws_get _ _ (by omega)]
          have hf := hN.frozen (k + 4)
          have HST := Lib.hid hst
          have HPT := Lib.hid hpt
          have HF := Lib.hid hF
          clear hst hpt hF hN hR hn2
          generalize wj n' (k + 4) = z at *
          go_wp2_with (fail)
          go_roundw
          case rel =>
            refine ⟨k + 1, n2, by omega, by go_num, HST.out, ?_⟩
            rw [← HPT.out]
            exact HF.out.setHead (by simp <;> omega) (by simp <;> omega) _ _ (by omega)
          case measure => simp [intOf] <;> omega
    · obtain rfl : k = 4 := by omega
      obtain rfl := mul_end HA.out hM
      generalize a * b + c = m at *
      have kT := hF.get (g := w.heap.size + 1 + 1 + 1 + 1) (t := 40) (cs := ws 8 m) (by simp)
      obtain ⟨old, hold, kR⟩ := hF.old (g := w.heap.size + 1 + 1 + 1) (t := 40) (n := 8) (by simp)
      have kS := kR.setRow_same (ws 8 m)
      have hB := below_setRow hF.below (show w.heap.size ≤ w.heap.size + 1 + 1 + 1 by omega) (ws 8 m)
      have hold' : old.size = (ws 8 m).size := by rw [hold, ws_size]
      have HS := Lib.hid kS
      have HB := Lib.hid hB
      have HO := Lib.hid hold'
      clear hF kS hB hM hold hold'
      go_wp2_with (first | (refine wpList_load_row rfl 40 (.tmp 7) rfl (w.heap.size + 1 + 1 + 1 + 1) rfl 40 (ws 8 m) (0, 0) _ kT Tryd.underlying40 rfl (info_ws8 m) ?_) | (refine wpList_store_row rfl 40 (.tmp 6) (.tmp 46) rfl (w.heap.size + 1 + 1 + 1) (ws 8 m) rfl rfl 40 _ kR (info_ws8 m) HO.out (ws_one _ _) ?_))
      exact bodyPost_ret (results_cell_row rfl _ _ (w.heap.size + 1 + 1 + 1) 40 (ws 8 m) (0, 0) _ rfl HS.out Tryd.underlying40 rfl (info_ws8 m)) rfl ⟨rfl, HB.out⟩
end Go.Proofs.YtpliddkdahgbpaaDoor
