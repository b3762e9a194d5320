/- Words, contracts and walks (Fi, Fkn, Lk, Lm, Frt, Li0, Pv), laid together. No condition. -/
import Derived.Test.YtcijaoihcckofaaDoorZb
import Derived.Deep.DeepCutAuto
import Derived.Deep.CutBlock
import Derived.Deep.RegionWith
namespace Go.Proofs.YtcijaoihcckofaaDoor
set_option linter.unusedVariables false
set_option linter.unusedSimpArgs false
set_option maxRecDepth 100000
open Go.RowKit
theorem inv_num : num4 18446744073709551595 18446744073709551615 18446744073709551615 9223372036854775807 = PP - 2 := by decide +kernel
theorem es_inv : es (PP - 2) = #[.int .u64 18446744073709551595, .int .u64 18446744073709551615, .int .u64 18446744073709551615, .int .u64 9223372036854775807] := es_of_num4 inv_num.symm (by decide) (by decide) (by decide) (by decide)
theorem info_w4s (n : Nat) : (Tryd.prog.info? 25).map (·.size) = some (es n).size := info_w4
set_option maxHeartbeats 1000000 in
theorem inv_any (x : Fin PP) (w : World) (hpg : PG w) : Calls Tryd.prog 38 #[.agg (ev x)] w (EPost (x ^ (PP - 2)) w) := by
  have hfr := (((Fr.start w).row (ev x) 27 (g := w.heap.size) rfl).any (es 0) 27 4 rfl (g := w.heap.size + 1) (by simp)).row (es (PP - 2)) 25 (g := w.heap.size + 1 + 1) (by simp)
  rw [es_zero] at hfr
  have hfr2 := hfr
  rw [es_inv] at hfr2
  have HFR := Lib.hid hfr2
  clear hfr hfr2
  have HPG := Lib.hid hpg
  obtain ⟨hz, p0, p1, p2, p3⟩ := hpg
  have e1 : ¬ (0 = w.heap.size) := by omega
  have e2 : ¬ (w.heap.size = 0) := by omega
  have e3 : ¬ (w.heap.size = 0) := by omega
  have e4 : ¬ (0 = w.heap.size + 1) := by omega
  have e5 : 0 < w.heap.size + 1 + 1 := by omega
  have e6 : 0 < w.heap.size + 1 := by omega
  have e7 : 0 < w.heap.size + 1 + 1 + 1 := by omega
  go_enter Tryd.func38, Tryd.ntmps38
  go_wp2_with (fail)
  refine wp_region_held_drew (S := fun W => Fr w W [(w.heap.size + 1 + 1, 25, es (PP - 2)), (w.heap.size, 27, ev x)] [(w.heap.size + 1, 27, 4)]) (by kernel_rfl) ?_ (fun hHeld => ?_)
  · exact (by rw [es_inv]; exact HFR.out.drew)
  refine wpAnyH_take (i := 0) (v := .agg (ev x)) rfl (by kernel_rfl) (by kernel_rfl) (by kernel_rfl) (fun _ _ _ h => h) (yields_row (by rfl) 27 (.tmp 1) rfl (w.heap.size) rfl 27 (ev x) _ (fun W (h : Fr _ W _ _) => h.get (by simp)) Tryd.underlying27 rfl (info_ev _)) hHeld ?_
  try simp only [Act.put, List.getElem_toArray, List.getElem_cons_succ, List.getElem_cons_zero, List.setIfInBounds_toArray, List.set_cons_zero, List.set_cons_succ]
  refine wpAnyH_take (i := 1) (v := .agg (es (PP - 2))) rfl (by kernel_rfl) (by kernel_rfl) (by kernel_rfl) (fun _ _ _ h => h) (yields_row (by rfl) 25 (.tmp 3) rfl (w.heap.size + 1 + 1) rfl 25 (es (PP - 2)) _ (fun W (h : Fr _ W _ _) => h.get (by simp)) Tryd.underlying25 rfl (info_w4s _)) hHeld ?_
  try simp only [Act.put, List.getElem_toArray, List.getElem_cons_succ, List.getElem_cons_zero, List.setIfInBounds_toArray, List.set_cons_zero, List.set_cons_succ]
  refine wpAnyH_ready (rs := [2]) (by kernel_rfl) (by simp) (AllReadyH.cons rfl (fun K hK => ?_) AllReadyH.nil)
  have h0 := hHeld
  clear hHeld
  try simp only [List.getElem_toArray, List.getElem_cons_succ, List.getElem_cons_zero]
  have H0 := Lib.hid h0
  clear h0
  go_simp
  go_at_call 73
  refine (bytesOf_any (PP - 2) _ (by decide +kernel)).mono ?_
  rintro e vv ⟨rfl, hb⟩
  have h1 := H0.out.ext hb
  clear hb H0
  go_wp2_with (fail)
  refine hK.out _ _ h1 (fun hHeld => ?_)
  clear hK K h1
  try simp only [Act.put, List.getElem_toArray, List.getElem_cons_succ, List.getElem_cons_zero, List.setIfInBounds_toArray, List.set_cons_zero, List.set_cons_succ]
  refine wpAnyH_ready (rs := [3]) (by kernel_rfl) (by simp) (AllReadyH.cons rfl (fun K hK => ?_) AllReadyH.nil)
  have h0 := hHeld
  clear hHeld
  try simp only [List.getElem_toArray, List.getElem_cons_succ, List.getElem_cons_zero]
  have H0 := Lib.hid h0
  clear h0
  go_simp
  go_at_call 72
  refine (powerF x _ (PP - 2) (Fr.pg H0.out HPG.out) (by decide +kernel)).mono ?_
  rintro e vv ⟨rfl, hb⟩
  have h1 := H0.out.ext hb
  clear hb H0
  go_wp2_with (fail)
  refine hK.out _ _ h1 (fun hHeld => ?_)
  clear hK K h1
  try simp only [Act.put, List.getElem_toArray, List.getElem_cons_succ, List.getElem_cons_zero, List.setIfInBounds_toArray, List.set_cons_zero, List.set_cons_succ]
  refine wpAnyH_ready (rs := [4]) (by kernel_rfl) (by simp) (AllReadyH.cons rfl (fun K hK => ?_) AllReadyH.nil)
  have h0 := hHeld
  clear hHeld
  try simp only [List.getElem_toArray, List.getElem_cons_succ, List.getElem_cons_zero]
  rw [if_pos (by rfl)]
  obtain ⟨old, hold, kold⟩ := Fr.old h0 (g := w.heap.size + 1) (t := 27) (n := 4) (by simp)
  refine wp_store_row 27 (.tmp 2) (.tmp 12) rfl (w.heap.size + 1) (ev (x ^ (PP - 2))) rfl rfl 27 old kold (info_ev _) hold (ev_one _) ?_
  refine hK.out _ _ (Fr.setAny h0 (g := w.heap.size + 1) (t := 27) (ev_size _) (by simp) (by simp <;> omega)) (fun hHeld => ?_)
  have kb := kold.setRow_same (ev (x ^ (PP - 2)))
  clear hK K h0 hold
  try simp only [Act.put, List.getElem_toArray, List.getElem_cons_succ, List.getElem_cons_zero, List.setIfInBounds_toArray, List.set_cons_zero, List.set_cons_succ]
  refine wpAnyH_done (by kernel_rfl) ?_ _
  have HF := Lib.hid hHeld
  clear hHeld
  go_wp2_with (fail)
  exact elem_end (g := w.heap.size + 1) rfl rfl rfl kb HF.out.below
end Go.Proofs.YtcijaoihcckofaaDoor
namespace Go.Proofs.YtcijaoihcckofaaDoor
set_option linter.unusedVariables false
set_option linter.unusedSimpArgs false
set_option maxRecDepth 100000
open Go.RowKit
theorem invR {x y : Fin PP} (h : y = x ^ (PP - 2)) (w : World) (hp : PG w) : Calls Tryd.prog 38 #[.agg (ev x)] w (EPost y w) := by
  have h2 := inv_any x w hp
  rw [← h] at h2
  exact h2
end Go.Proofs.YtcijaoihcckofaaDoor
namespace Go.Proofs.YtcijaoihcckofaaDoor
set_option linter.unusedVariables false
set_option linter.unusedSimpArgs false
set_option maxRecDepth 100000
open Go.RowKit
theorem ofR {n : Nat} {x : Fin PP} (h : x = ofK n) (w : World) (hp : PG w) (hn : n < 115792089237316195423570985008687907853269984665640564039457584007913129639936) : Calls Tryd.prog 32 #[.agg (ks n)] w (EPost x w) := by
  rw [h]
  exact ofF n w hp hn
theorem sm_one : sm 1 = 1 := rfl
theorem dig_all : ∀ (k n m : Nat), n < 256 ^ k → m < 256 ^ k → (∀ i, i < k → n / 256 ^ i % 256 = m / 256 ^ i % 256) → n = m
  | 0, n, m, h1, h2, _ => by simp at h1 h2; omega
  | k + 1, n, m, h1, h2, h => by
    rw [Nat.pow_succ] at h1 h2
    have h0 := h 0 (by omega)
    simp at h0
    have := dig_all k (n / 256) (m / 256) (by omega) (by omega) (fun i hi => by
      have := h (i + 1) (by omega)
      rw [Nat.pow_succ', ← Nat.div_div_eq_div_mul, ← Nat.div_div_eq_div_mul] at this
      exact this)
    omega
theorem kb_inj {n m : Nat} (hn : n < 115792089237316195423570985008687907853269984665640564039457584007913129639936) (hm : m < 115792089237316195423570985008687907853269984665640564039457584007913129639936) (h : kb n = kb m) : n = m := by
  refine dig_all 32 n m hn hm fun i hi => ?_
  have h1 := kb_get n hi
  rw [h, kb_get m hi] at h1
  injection h1 with h1
  exact h1.symm
theorem size_u8' (W : World) : (sizeOf 5).run Tryd.prog W = .ok 1 W := by kernel_rfl
/-- '==' of two keys. -/
theorem keys_eq {n m : Nat} {b : Bool} (hn : n < 115792089237316195423570985008687907853269984665640564039457584007913129639936) (hm : m < 115792089237316195423570985008687907853269984665640564039457584007913129639936) (h : decide (n = m) = b) (W : World) : (Op.equalIn 10000 23 (.agg (ks n)) (.agg (ks m))).run Tryd.prog W = .ok b W := by
  have h2 := run_equalIn_nats (P := Tryd.prog) W 9998 23 5 32 .u8 Tryd.underlying23 Tryd.underlying5 size_u8' (kb n) (kb m) (kb_len n) (kb_len m)
  have e : (kb n == kb m) = b := by
    rw [← h, Bool.eq_iff_iff]
    simp
    exact ⟨fun h => kb_inj hn hm h, fun h => by rw [h]⟩
  rw [e] at h2
  exact h2
end Go.Proofs.YtcijaoihcckofaaDoor
namespace Go.Proofs.YtcijaoihcckofaaDoor
set_option linter.unusedVariables false
set_option linter.unusedSimpArgs false
open Go.RowKit
theorem keys_same (n : Nat) (W : World) : (Op.equalIn 10000 23 (.agg (ks n)) (.agg (ks n))).run Tryd.prog W = .ok true W := by
  have h2 := run_equalIn_nats (P := Tryd.prog) W 9998 23 5 32 .u8 Tryd.underlying23 Tryd.underlying5 size_u8' (kb n) (kb n) (kb_len n) (kb_len n)
  rw [show (kb n == kb n) = true by simp] at h2
  exact h2
theorem bor_p (n : Nat) (hn : n < 115792089237316195423570985008687907853269984665640564039457584007913129639936) : ((bor (n + 115792089237316195423570985008687907853269984665640564039457584007913129639936 - num4 18446744073709551597 18446744073709551615 18446744073709551615 9223372036854775807) : Int) == 1) = decide (n < PP) := by
  have h : num4 18446744073709551597 18446744073709551615 18446744073709551615 9223372036854775807 = PP := by decide +kernel
  rw [h, PP_eq]
  unfold bor wd4
  rw [Bool.eq_iff_iff]
  simp only [beq_iff_eq, decide_eq_true_eq]
  omega
set_option maxRecDepth 100000 in
set_option maxHeartbeats 1000000 in
theorem canonical_any (n : Nat) (w : World) (hpg : PG w) (hn : n < 115792089237316195423570985008687907853269984665640564039457584007913129639936) : Calls Tryd.prog 41 #[.agg (ks n)] w (BPost (decide (n < PP)) w) := by
  have hfr := (Fr.start w).row (ks n) 23 (g := w.heap.size) rfl
  have HFR := Lib.hid hfr
  have HPG := Lib.hid hpg
  have hbo := bor_p n hn
  have hwo := fun W => wordsOf_any n W hn
  have hmi := fun W => minus_any (wd0 n) (wd1 n) (wd2 n) (wd3 n) 18446744073709551597 18446744073709551615 18446744073709551615 9223372036854775807 W (wd0_lt n) (wd1_lt n) (wd2_lt n) (wd3_lt n) (by omega) (by omega) (by omega) (by omega)
  rw [num4_of hn] at hmi
  generalize n + 115792089237316195423570985008687907853269984665640564039457584007913129639936 - num4 18446744073709551597 18446744073709551615 18446744073709551615 9223372036854775807 = m at *
  have HBO := Lib.hid hbo
  have HWO := Lib.hid hwo
  have HMI := Lib.hid hmi
  clear hfr hpg hbo hwo hmi hn
  go_enter Tryd.func41, Tryd.ntmps41
  go_wp2_with (fail)
  refine wp_region_held_drew (S := fun W => Fr w W [(w.heap.size, 23, ks n)] []) (by kernel_rfl) ?_ (fun hHeld => ?_)
  · exact HFR.out.drew
  refine wpAnyH_take (i := 0) (v := .agg (ks n)) rfl (by kernel_rfl) (by kernel_rfl) (by kernel_rfl) (fun _ _ _ h => h) (yields_row (by rfl) 23 (.tmp 1) rfl (w.heap.size) rfl 23 (ks n) _ (fun W (h : Fr _ W _ _) => h.get (by simp)) Tryd.underlying23 rfl (info_ks _)) hHeld ?_
  try simp only [Act.put, List.getElem_toArray, List.getElem_cons_succ, List.getElem_cons_zero, List.setIfInBounds_toArray, List.set_cons_zero, List.set_cons_succ]
  refine wpAnyH_take (i := 2) (v := ?_) rfl (by kernel_rfl) (by kernel_rfl) (by kernel_rfl) (fun _ _ _ h => h) (Or.inl ⟨by rfl, ?_⟩) hHeld ?_
  rotate_left
  · (intro W hSw; obtain ⟨hz, p0, p1, p2, p3⟩ := Fr.pg hSw HPG.out; clear hSw; (try simp only [List.getElem_toArray, List.getElem_cons_succ, List.getElem_cons_zero]); go_simp; try with_reducible rfl)
  try simp only [Act.put, List.getElem_toArray, List.getElem_cons_succ, List.getElem_cons_zero, List.setIfInBounds_toArray, List.set_cons_zero, List.set_cons_succ]
  refine wpAnyH_ready (rs := [1]) (by kernel_rfl) (by simp) (AllReadyH.cons rfl (fun K hK => ?_) AllReadyH.nil)
  have h0 := hHeld
  clear hHeld
  try simp only [List.getElem_toArray, List.getElem_cons_succ, List.getElem_cons_zero]
  have H0 := Lib.hid h0
  clear h0
  go_simp
  go_at_call 67
  refine (HWO.out _).mono ?_
  rintro e vv ⟨he, hb⟩
  rw [es_show] at he
  subst he
  have h1 := H0.out.ext hb
  clear hb H0
  go_wp2_with (fail)
  refine hK.out _ _ h1 (fun hHeld => ?_)
  clear hK K h1
  try simp only [Act.put, List.getElem_toArray, List.getElem_cons_succ, List.getElem_cons_zero, List.setIfInBounds_toArray, List.set_cons_zero, List.set_cons_succ]
  refine wpAnyH_ready (rs := [3]) (by kernel_rfl) (by simp) (AllReadyH.cons rfl (fun K hK => ?_) AllReadyH.nil)
  have h0 := hHeld
  clear hHeld
  try simp only [List.getElem_toArray, List.getElem_cons_succ, List.getElem_cons_zero]
  have H0 := Lib.hid h0
  clear h0
  go_simp
  go_at_call 71
  refine (HMI.out _).mono ?_
  rintro e vv ⟨he, hb⟩
  unfold retm at he
  subst he
  have h1 := H0.out.ext hb
  clear hb H0
  go_wp2_with (fail)
  refine hK.out _ _ h1 (fun hHeld => ?_)
  clear hK K h1
  try simp only [Act.put, List.getElem_toArray, List.getElem_cons_succ, List.getElem_cons_zero, List.setIfInBounds_toArray, List.set_cons_zero, List.set_cons_succ]
  refine wpAnyH_take (i := 4) (v := ?_) rfl (by kernel_rfl) (by kernel_rfl) (by kernel_rfl) (fun _ _ _ h => h) (Or.inl ⟨by rfl, ?_⟩) hHeld ?_
  rotate_left
  · (intro W hSw; (try dsimp only at hSw); (try simp only [List.getElem_toArray, List.getElem_cons_succ, List.getElem_cons_zero]); go_simp; try with_reducible rfl)
  try simp only [Act.put, List.getElem_toArray, List.getElem_cons_succ, List.getElem_cons_zero, List.setIfInBounds_toArray, List.set_cons_zero, List.set_cons_succ]
  refine wpAnyH_take (i := 5) (v := ?_) rfl (by kernel_rfl) (by kernel_rfl) (by kernel_rfl) (fun _ _ _ h => h) (Or.inl ⟨by rfl, ?_⟩) hHeld ?_
  rotate_left
  · (intro W hSw; (try dsimp only at hSw); (try simp only [List.getElem_toArray, List.getElem_cons_succ, List.getElem_cons_zero]); go_simp; try with_reducible rfl)
  try simp only [Act.put, List.getElem_toArray, List.getElem_cons_succ, List.getElem_cons_zero, List.setIfInBounds_toArray, List.set_cons_zero, List.set_cons_succ]
  refine wpAnyH_take (i := 6) (v := ?_) rfl (by kernel_rfl) (by kernel_rfl) (by kernel_rfl) (fun _ _ _ h => h) (Or.inl ⟨by rfl, ?_⟩) hHeld ?_
  rotate_left
  · (intro W hSw; (try dsimp only at hSw); (try simp only [List.getElem_toArray, List.getElem_cons_succ, List.getElem_cons_zero]); go_simp; try with_reducible rfl)
  try simp only [Act.put, List.getElem_toArray, List.getElem_cons_succ, List.getElem_cons_zero, List.setIfInBounds_toArray, List.set_cons_zero, List.set_cons_succ]
  refine wpAnyH_take (i := 7) (v := ?_) rfl (by kernel_rfl) (by kernel_rfl) (by kernel_rfl) (fun _ _ _ h => h) (Or.inl ⟨by rfl, ?_⟩) hHeld ?_
  rotate_left
  · (intro W hSw; (try dsimp only at hSw); (try simp only [List.getElem_toArray, List.getElem_cons_succ, List.getElem_cons_zero]); go_simp; try with_reducible rfl)
  try simp only [Act.put, List.getElem_toArray, List.getElem_cons_succ, List.getElem_cons_zero, List.setIfInBounds_toArray, List.set_cons_zero, List.set_cons_succ]
  refine wpAnyH_take (i := 8) (v := ?_) rfl (by kernel_rfl) (by kernel_rfl) (by kernel_rfl) (fun _ _ _ h => h) (Or.inl ⟨by rfl, ?_⟩) hHeld ?_
  rotate_left
  · (intro W hSw; (try dsimp only at hSw); (try simp only [List.getElem_toArray, List.getElem_cons_succ, List.getElem_cons_zero]); go_simp; try with_reducible rfl)
  try simp only [Act.put, List.getElem_toArray, List.getElem_cons_succ, List.getElem_cons_zero, List.setIfInBounds_toArray, List.set_cons_zero, List.set_cons_succ]
  refine wpAnyH_take (i := 9) (v := ?_) rfl (by kernel_rfl) (by kernel_rfl) (by kernel_rfl) (fun _ _ _ h => h) (Or.inl ⟨by rfl, ?_⟩) hHeld ?_
  rotate_left
  · (intro W hSw; (try dsimp only at hSw); (try simp only [List.getElem_toArray, List.getElem_cons_succ, List.getElem_cons_zero]); go_simp; try with_reducible rfl)
  try simp only [Act.put, List.getElem_toArray, List.getElem_cons_succ, List.getElem_cons_zero, List.setIfInBounds_toArray, List.set_cons_zero, List.set_cons_succ]
  refine wpAnyH_take (i := 10) (v := ?_) rfl (by kernel_rfl) (by kernel_rfl) (by kernel_rfl) (fun _ _ _ h => h) (Or.inl ⟨by rfl, ?_⟩) hHeld ?_
  rotate_left
  · (intro W hSw; (try dsimp only at hSw); (try simp only [List.getElem_toArray, List.getElem_cons_succ, List.getElem_cons_zero]); go_simp; try with_reducible rfl)
  try simp only [Act.put, List.getElem_toArray, List.getElem_cons_succ, List.getElem_cons_zero, List.setIfInBounds_toArray, List.set_cons_zero, List.set_cons_succ]
  refine wpAnyH_take (i := 11) (v := ?_) rfl (by kernel_rfl) (by kernel_rfl) (by kernel_rfl) (fun _ _ _ h => h) (Or.inl ⟨by rfl, ?_⟩) hHeld ?_
  rotate_left
  · (intro W hSw; (try dsimp only at hSw); (try simp only [List.getElem_toArray, List.getElem_cons_succ, List.getElem_cons_zero]); go_simp; try with_reducible rfl)
  try simp only [Act.put, List.getElem_toArray, List.getElem_cons_succ, List.getElem_cons_zero, List.setIfInBounds_toArray, List.set_cons_zero, List.set_cons_succ]
  refine wpAnyH_take (i := 12) (v := ?_) rfl (by kernel_rfl) (by kernel_rfl) (by kernel_rfl) (fun _ _ _ h => h) (Or.inl ⟨by rfl, ?_⟩) hHeld ?_
  rotate_left
  · (intro W hSw; (try dsimp only at hSw); (try simp only [List.getElem_toArray, List.getElem_cons_succ, List.getElem_cons_zero]); go_simp; try with_reducible rfl)
  try simp only [Act.put, List.getElem_toArray, List.getElem_cons_succ, List.getElem_cons_zero, List.setIfInBounds_toArray, List.set_cons_zero, List.set_cons_succ]
  refine wpAnyH_take (i := 13) (v := ?_) rfl (by kernel_rfl) (by kernel_rfl) (by kernel_rfl) (fun _ _ _ h => h) (Or.inl ⟨by rfl, ?_⟩) hHeld ?_
  rotate_left
  · (intro W hSw; (try dsimp only at hSw); (try simp only [List.getElem_toArray, List.getElem_cons_succ, List.getElem_cons_zero]); go_simp; try with_reducible rfl)
  try simp only [Act.put, List.getElem_toArray, List.getElem_cons_succ, List.getElem_cons_zero, List.setIfInBounds_toArray, List.set_cons_zero, List.set_cons_succ]
  refine wpAnyH_take (i := 14) (v := ?_) rfl (by kernel_rfl) (by kernel_rfl) (by kernel_rfl) (fun _ _ _ h => h) (Or.inl ⟨by rfl, ?_⟩) hHeld ?_
  rotate_left
  · (intro W hSw; (try dsimp only at hSw); (try simp only [List.getElem_toArray, List.getElem_cons_succ, List.getElem_cons_zero]); go_simp; try with_reducible rfl)
  try simp only [Act.put, List.getElem_toArray, List.getElem_cons_succ, List.getElem_cons_zero, List.setIfInBounds_toArray, List.set_cons_zero, List.set_cons_succ]
  refine wpAnyH_done (by kernel_rfl) ?_ _
  have HB := Lib.hid hHeld.below
  clear hHeld
  have hbo := HBO.out
  generalize decide (n < PP) = t at *
  go_wp2_with (fail)
  go_ret
  exact ⟨rfl, HB.out⟩
end Go.Proofs.YtcijaoihcckofaaDoor
namespace Go.Proofs.YtcijaoihcckofaaDoor
set_option linter.unusedVariables false
set_option linter.unusedSimpArgs false
set_option maxRecDepth 100000
open Go.RowKit
theorem rootI_of {i : Fin PP} (h : i = II) (w : World) (hp : PG w) : Calls Tryd.prog 95 #[] w (EPost i w) := by
  rw [h]
  exact rootI_any w hp
theorem EE_lt : EE < 115792089237316195423570985008687907853269984665640564039457584007913129639936 := by decide +kernel
theorem powR {x y : Fin PP} (h : y = x ^ EE) (w : World) (hp : PG w) : Calls Tryd.prog 72 #[.agg (ev x), .agg (ks EE)] w (EPost y w) := by
  have h2 := powerF x w EE hp EE_lt
  rw [← h] at h2
  exact h2
theorem evenOf_yes {p : Nat} {r : Fin p} (h : r.val % 2 = 1) : evenOf r = -r := by unfold evenOf; rw [if_pos h]
theorem evenOf_no {p : Nat} {r : Fin p} (h : ¬ r.val % 2 = 1) : evenOf r = r := by unfold evenOf; rw [if_neg h]
section
variable {p : Nat} [NeZero p] {e : Nat} {i u v p0 : Fin p}
theorem rootC_a (h : p0 = (u * (v * v * v * (v * v * v) * v)) ^ e) (h1 : v * ((u * (v * v * v) * p0) * (u * (v * v * v) * p0)) = -u) (h2 : v * ((u * (v * v * v) * p0 * i) * (u * (v * v * v) * p0 * i)) = u) :
    rootC e i u v = (evenOf (u * (v * v * v) * p0 * i), true) := by
  subst h
  unfold rootC
  dsimp only
  rw [if_pos h1, if_pos h2]
theorem rootC_b (h : p0 = (u * (v * v * v * (v * v * v) * v)) ^ e) (h1 : v * ((u * (v * v * v) * p0) * (u * (v * v * v) * p0)) = -u) (h2 : ¬ v * ((u * (v * v * v) * p0 * i) * (u * (v * v * v) * p0 * i)) = u) :
    rootC e i u v = (0, false) := by
  subst h
  unfold rootC
  dsimp only
  rw [if_pos h1, if_neg h2]
theorem rootC_c (h : p0 = (u * (v * v * v * (v * v * v) * v)) ^ e) (h1 : ¬ v * ((u * (v * v * v) * p0) * (u * (v * v * v) * p0)) = -u) (h2 : v * ((u * (v * v * v) * p0) * (u * (v * v * v) * p0)) = u) :
    rootC e i u v = (evenOf (u * (v * v * v) * p0), true) := by
  subst h
  unfold rootC
  dsimp only
  rw [if_neg h1, if_pos h2]
theorem rootC_d (h : p0 = (u * (v * v * v * (v * v * v) * v)) ^ e) (h1 : ¬ v * ((u * (v * v * v) * p0) * (u * (v * v * v) * p0)) = -u) (h2 : ¬ v * ((u * (v * v * v) * p0) * (u * (v * v * v) * p0)) = u) :
    rootC e i u v = (0, false) := by
  subst h
  unfold rootC
  dsimp only
  rw [if_neg h1, if_neg h2]
end
set_option maxRecDepth 100000 in
set_option maxHeartbeats 1000000 in
theorem rootX (u v : Fin PP) (w : World) (hpg : PG w) : Calls Tryd.prog 76 #[.agg (ev u), .agg (ev v)] w fun e w' => e = .returned (.tuple #[.agg (ev (rootC EE II u v).1), .bool (rootC EE II u v).2]) ∧ Below w.heap.size w w' := by
  have hfr := ((Fr.start w).row (ev u) 27 (g := w.heap.size) rfl).row (ev v) 27 (g := w.heap.size + 1) (by simp) |>.any #[.int .u64 0, .int .u64 0, .int .u64 0, .int .u64 0] 27 4 rfl (g := w.heap.size + 1 + 1) (by simp)
  have hz : w.heap.size + 1 + 1 < (((w.alloc (.cells (ev u) 27)).alloc (.cells (ev v) 27)).alloc (.cells #[.int .u64 0, .int .u64 0, .int .u64 0, .int .u64 0] 27)).heap.size := by simp <;> omega
  have hpg0 := ((hpg.alloc (.cells (ev u) 27)).alloc (.cells (ev v) 27)).alloc (.cells #[.int .u64 0, .int .u64 0, .int .u64 0, .int .u64 0] 27)
  have HP := Lib.hid hpg
  clear hpg
  obtain ⟨p0, hp0⟩ : ∃ p0, p0 = (u * (v * v * v * (v * v * v) * v)) ^ EE := ⟨_, rfl⟩
  have HP0 := Lib.hid hp0
  clear hp0
  obtain ⟨i0, hi0⟩ : ∃ i0, i0 = II := ⟨_, rfl⟩
  have HI0 := Lib.hid hi0
  clear hi0
  obtain ⟨X, hX⟩ : ∃ X, X = rootC EE II u v := ⟨_, rfl⟩
  rw [← hX]
  have HX := Lib.hid hX
  clear hX
  go_enter Tryd.func76, Tryd.ntmps76
  go_wp2_with (fail)
  obtain ⟨wx, hwx⟩ : ∃ wx : World, wx = (((w.alloc (.cells (ev u) 27)).alloc (.cells (ev v) 27)).alloc (.cells #[.int .u64 0, .int .u64 0, .int .u64 0, .int .u64 0] 27)) := ⟨_, rfl⟩
  rw [← hwx] at hfr hpg0 hz ⊢
  clear hwx
  have HF := Lib.hid hfr
  have HPG := Lib.hid hpg0
  clear hfr hpg0
  go_cut [6] (fun s6 wz => ∃ g : Nat, s6 = .pointer (some ⟨g, 0, none⟩) ∧ wx.heap.size ≤ g ∧ Blk wz g 27 (ev (v * v * v)) ∧ Below wx.heap.size wx wz)
  case first =>
    as_aux_lemma =>
      have hn := (HF.out.now.sub (L' := [(w.heap.size + 1, 27, ev v), (w.heap.size, 27, ev u)]) (by simp))
      have HN := Lib.hid hn
      clear hn
      refine wp_region_held_drew (S := fun W => Fn wx W [(w.heap.size + 1, 27, ev v), (w.heap.size, 27, ev u)]) (by kernel_rfl) ?_ (fun hHeld => ?_)
      · exact HN.out.drew
      refine wpAnyH_take (i := 0) (v := .agg (ev v)) rfl (by kernel_rfl) (by kernel_rfl) (by kernel_rfl) (fun _ _ _ h => h) (yields_row (by rfl) 27 (.tmp 3) rfl (w.heap.size + 1) rfl 27 (ev v) _ (fun W (h : Fn _ W _) => h.get (by simp)) Tryd.underlying27 rfl (info_ev _)) hHeld ?_
      try simp only [Act.put, List.getElem_toArray, List.getElem_cons_succ, List.getElem_cons_zero, List.setIfInBounds_toArray, List.set_cons_zero, List.set_cons_succ]
      refine wpAnyH_take (i := 2) (v := .agg (ev v)) rfl (by kernel_rfl) (by kernel_rfl) (by kernel_rfl) (fun _ _ _ h => h) (yields_row (by rfl) 27 (.tmp 3) rfl (w.heap.size + 1) rfl 27 (ev v) _ (fun W (h : Fn _ W _) => h.get (by simp)) Tryd.underlying27 rfl (info_ev _)) hHeld ?_
      try simp only [Act.put, List.getElem_toArray, List.getElem_cons_succ, List.getElem_cons_zero, List.setIfInBounds_toArray, List.set_cons_zero, List.set_cons_succ]
      refine wpAnyH_ready (rs := [1, 4]) (by kernel_rfl) (by simp) (AllReadyH.cons rfl (fun K hK => ?_) (AllReadyH.cons rfl (fun K hK => ?_) AllReadyH.nil))
      · have h0 := hHeld
        clear hHeld
        try simp only [List.getElem_toArray, List.getElem_cons_succ, List.getElem_cons_zero]
        have H0 := Lib.hid h0
        clear h0
        go_simp
        go_at_call 75
        refine (squareF v _ (HPG.out.ext H0.out.below)).mono ?_
        rintro e vv ⟨rfl, hb⟩
        have h1 := H0.out.ext hb
        clear hb H0
        go_wp2_with (fail)
        refine hK.out _ _ h1 (fun hHeld => ?_)
        clear hK K h1
        try simp only [Act.put, List.getElem_toArray, List.getElem_cons_succ, List.getElem_cons_zero, List.setIfInBounds_toArray, List.set_cons_zero, List.set_cons_succ]
        refine wpAnyH_ready (rs := [3, 4]) (by kernel_rfl) (by simp) (AllReadyH.cons rfl (fun K hK => ?_) (AllReadyH.cons rfl (fun K hK => ?_) AllReadyH.nil))
        · have h0 := hHeld
          clear hHeld
          try simp only [List.getElem_toArray, List.getElem_cons_succ, List.getElem_cons_zero]
          have H0 := Lib.hid h0
          clear h0
          go_simp
          go_at_call 36
          refine (mulF (v * v) v _ (HPG.out.ext H0.out.below)).mono ?_
          rintro e vv ⟨rfl, hb⟩
          have h1 := H0.out.ext hb
          clear hb H0
          go_wp2_with (fail)
          refine hK.out _ _ h1 (fun hHeld => ?_)
          clear hK K h1
          try simp only [Act.put, List.getElem_toArray, List.getElem_cons_succ, List.getElem_cons_zero, List.setIfInBounds_toArray, List.set_cons_zero, List.set_cons_succ]
          refine wpAnyH_ready (rs := [4]) (by kernel_rfl) (by simp) (AllReadyH.cons rfl (fun K hK => ?_) AllReadyH.nil)
          have h0 := hHeld
          clear hHeld
          try simp only [List.getElem_toArray, List.getElem_cons_succ, List.getElem_cons_zero]
          obtain ⟨kz, hg⟩ := Fn.fresh h0 27 #[.int .u64 0, .int .u64 0, .int .u64 0, .int .u64 0]
          have KZ := Lib.hid kz
          have HG := Lib.hid hg
          have H0 := Lib.hid h0
          clear kz hg h0
          go_simp
          refine hK.out _ _ (Fn.pass H0.out _) (fun hHeld => ?_)
          clear hK K H0
          try simp only [Act.put, List.getElem_toArray, List.getElem_cons_succ, List.getElem_cons_zero, List.setIfInBounds_toArray, List.set_cons_zero, List.set_cons_succ]
          refine wpAnyH_ready (rs := [5]) (by kernel_rfl) (by simp) (AllReadyH.cons rfl (fun K hK => ?_) AllReadyH.nil)
          have h0 := hHeld
          clear hHeld
          try simp only [List.getElem_toArray, List.getElem_cons_succ, List.getElem_cons_zero]
          rw [if_pos (by rfl)]
          refine wp_store_row 27 (.tmp 6) (.tmp 12) rfl _ (ev (v * v * v)) rfl rfl 27 _ KZ.out (info_ev _) rfl (ev_one _) ?_
          refine hK.out _ _ (Fn.setFresh h0 HG.out _) (fun hHeld => ?_)
          have kb := KZ.out.setRow_same (ev (v * v * v))
          clear hK K h0
          try simp only [Act.put, List.getElem_toArray, List.getElem_cons_succ, List.getElem_cons_zero, List.setIfInBounds_toArray, List.set_cons_zero, List.set_cons_succ]
          refine wpAnyH_done (by kernel_rfl) ?_ _
          have HB := Lib.hid hHeld.below
          have HGG := Lib.hid HG.out
          clear hHeld
          go_wp2_with (fail)
          go_meet
          exact ⟨_, rfl, HGG.out, kb, HB.out⟩
        · have h0 := hHeld
          clear hHeld
          try simp only [List.getElem_toArray, List.getElem_cons_succ, List.getElem_cons_zero]
          obtain ⟨kz, hg⟩ := Fn.fresh h0 27 #[.int .u64 0, .int .u64 0, .int .u64 0, .int .u64 0]
          have KZ := Lib.hid kz
          have HG := Lib.hid hg
          have H0 := Lib.hid h0
          clear kz hg h0
          go_simp
          refine hK.out _ _ (Fn.pass H0.out _) (fun hHeld => ?_)
          clear hK K H0
          try simp only [Act.put, List.getElem_toArray, List.getElem_cons_succ, List.getElem_cons_zero, List.setIfInBounds_toArray, List.set_cons_zero, List.set_cons_succ]
          refine wpAnyH_ready (rs := [3]) (by kernel_rfl) (by simp) (AllReadyH.cons rfl (fun K hK => ?_) AllReadyH.nil)
          have h0 := hHeld
          clear hHeld
          try simp only [List.getElem_toArray, List.getElem_cons_succ, List.getElem_cons_zero]
          have H0 := Lib.hid h0
          clear h0
          go_simp
          go_at_call 36
          refine (mulF (v * v) v _ (HPG.out.ext H0.out.below)).mono ?_
          rintro e vv ⟨rfl, hb⟩
          have kz := KZ.out.below hb KZ.out.lt
          clear KZ
          have KZ := Lib.hid kz
          clear kz
          have h1 := H0.out.ext hb
          clear hb H0
          go_wp2_with (fail)
          refine hK.out _ _ h1 (fun hHeld => ?_)
          clear hK K h1
          try simp only [Act.put, List.getElem_toArray, List.getElem_cons_succ, List.getElem_cons_zero, List.setIfInBounds_toArray, List.set_cons_zero, List.set_cons_succ]
          refine wpAnyH_ready (rs := [5]) (by kernel_rfl) (by simp) (AllReadyH.cons rfl (fun K hK => ?_) AllReadyH.nil)
          have h0 := hHeld
          clear hHeld
          try simp only [List.getElem_toArray, List.getElem_cons_succ, List.getElem_cons_zero]
          rw [if_pos (by rfl)]
          refine wp_store_row 27 (.tmp 6) (.tmp 12) rfl _ (ev (v * v * v)) rfl rfl 27 _ KZ.out (info_ev _) rfl (ev_one _) ?_
          refine hK.out _ _ (Fn.setFresh h0 HG.out _) (fun hHeld => ?_)
          have kb := KZ.out.setRow_same (ev (v * v * v))
          clear hK K h0
          try simp only [Act.put, List.getElem_toArray, List.getElem_cons_succ, List.getElem_cons_zero, List.setIfInBounds_toArray, List.set_cons_zero, List.set_cons_succ]
          refine wpAnyH_done (by kernel_rfl) ?_ _
          have HB := Lib.hid hHeld.below
          have HGG := Lib.hid HG.out
          clear hHeld
          go_wp2_with (fail)
          go_meet
          exact ⟨_, rfl, HGG.out, kb, HB.out⟩
      · have h0 := hHeld
        clear hHeld
        try simp only [List.getElem_toArray, List.getElem_cons_succ, List.getElem_cons_zero]
        obtain ⟨kz, hg⟩ := Fn.fresh h0 27 #[.int .u64 0, .int .u64 0, .int .u64 0, .int .u64 0]
        have KZ := Lib.hid kz
        have HG := Lib.hid hg
        have H0 := Lib.hid h0
        clear kz hg h0
        go_simp
        refine hK.out _ _ (Fn.pass H0.out _) (fun hHeld => ?_)
        clear hK K H0
        try simp only [Act.put, List.getElem_toArray, List.getElem_cons_succ, List.getElem_cons_zero, List.setIfInBounds_toArray, List.set_cons_zero, List.set_cons_succ]
        refine wpAnyH_ready (rs := [1]) (by kernel_rfl) (by simp) (AllReadyH.cons rfl (fun K hK => ?_) AllReadyH.nil)
        have h0 := hHeld
        clear hHeld
        try simp only [List.getElem_toArray, List.getElem_cons_succ, List.getElem_cons_zero]
        have H0 := Lib.hid h0
        clear h0
        go_simp
        go_at_call 75
        refine (squareF v _ (HPG.out.ext H0.out.below)).mono ?_
        rintro e vv ⟨rfl, hb⟩
        have kz := KZ.out.below hb KZ.out.lt
        clear KZ
        have KZ := Lib.hid kz
        clear kz
        have h1 := H0.out.ext hb
        clear hb H0
        go_wp2_with (fail)
        refine hK.out _ _ h1 (fun hHeld => ?_)
        clear hK K h1
        try simp only [Act.put, List.getElem_toArray, List.getElem_cons_succ, List.getElem_cons_zero, List.setIfInBounds_toArray, List.set_cons_zero, List.set_cons_succ]
        refine wpAnyH_ready (rs := [3]) (by kernel_rfl) (by simp) (AllReadyH.cons rfl (fun K hK => ?_) AllReadyH.nil)
        have h0 := hHeld
        clear hHeld
        try simp only [List.getElem_toArray, List.getElem_cons_succ, List.getElem_cons_zero]
        have H0 := Lib.hid h0
        clear h0
        go_simp
        go_at_call 36
        refine (mulF (v * v) v _ (HPG.out.ext H0.out.below)).mono ?_
        rintro e vv ⟨rfl, hb⟩
        have kz := KZ.out.below hb KZ.out.lt
        clear KZ
        have KZ := Lib.hid kz
        clear kz
        have h1 := H0.out.ext hb
        clear hb H0
        go_wp2_with (fail)
        refine hK.out _ _ h1 (fun hHeld => ?_)
        clear hK K h1
        try simp only [Act.put, List.getElem_toArray, List.getElem_cons_succ, List.getElem_cons_zero, List.setIfInBounds_toArray, List.set_cons_zero, List.set_cons_succ]
        refine wpAnyH_ready (rs := [5]) (by kernel_rfl) (by simp) (AllReadyH.cons rfl (fun K hK => ?_) AllReadyH.nil)
        have h0 := hHeld
        clear hHeld
        try simp only [List.getElem_toArray, List.getElem_cons_succ, List.getElem_cons_zero]
        rw [if_pos (by rfl)]
        refine wp_store_row 27 (.tmp 6) (.tmp 12) rfl _ (ev (v * v * v)) rfl rfl 27 _ KZ.out (info_ev _) rfl (ev_one _) ?_
        refine hK.out _ _ (Fn.setFresh h0 HG.out _) (fun hHeld => ?_)
        have kb := KZ.out.setRow_same (ev (v * v * v))
        clear hK K h0
        try simp only [Act.put, List.getElem_toArray, List.getElem_cons_succ, List.getElem_cons_zero, List.setIfInBounds_toArray, List.set_cons_zero, List.set_cons_succ]
        refine wpAnyH_done (by kernel_rfl) ?_ _
        have HB := Lib.hid hHeld.below
        have HGG := Lib.hid HG.out
        clear hHeld
        go_wp2_with (fail)
        go_meet
        exact ⟨_, rfl, HGG.out, kb, HB.out⟩
  case rest =>
    obtain ⟨g6, rfl, hg, hk, hb⟩ := hcut
    have hf2 := (HF.out.ext hb).more hk
    have hpg2 := HPG.out.ext hb
    have hz6 : wx.heap.size ≤ g6 := hg
    have hz6l := hk.lt
    clear HF HPG hb hk hg
    have HF := Lib.hid hf2
    have HPG := Lib.hid hpg2
    clear hf2 hpg2
    obtain ⟨wy, hwy⟩ : ∃ wy : World, wy = wc := ⟨_, rfl⟩
    rw [← hwy] at HF HPG hz6l ⊢
    clear hwy
    go_wp2_with (fail)
    go_cut [7] (fun s6 wz => ∃ g : Nat, s6 = .pointer (some ⟨g, 0, none⟩) ∧ wy.heap.size ≤ g ∧ Blk wz g 27 (ev (v * v * v * (v * v * v) * v)) ∧ Below wy.heap.size wy wz)
    case first =>
      as_aux_lemma =>
        have hn := (HF.out.now.sub (L' := [(g6, 27, ev (v * v * v)), (w.heap.size + 1, 27, ev v), (w.heap.size, 27, ev u)]) (by simp))
        have HN := Lib.hid hn
        clear hn
        refine wp_region_held_drew (S := fun W => Fn wy W [(g6, 27, ev (v * v * v)), (w.heap.size + 1, 27, ev v), (w.heap.size, 27, ev u)]) (by kernel_rfl) ?_ (fun hHeld => ?_)
        · exact HN.out.drew
        refine wpAnyH_take (i := 0) (v := .agg (ev (v * v * v))) rfl (by kernel_rfl) (by kernel_rfl) (by kernel_rfl) (fun _ _ _ h => h) (yields_row (by rfl) 27 (.tmp 6) rfl (g6) rfl 27 (ev (v * v * v)) _ (fun W (h : Fn _ W _) => h.get (by simp)) Tryd.underlying27 rfl (info_ev _)) hHeld ?_
        try simp only [Act.put, List.getElem_toArray, List.getElem_cons_succ, List.getElem_cons_zero, List.setIfInBounds_toArray, List.set_cons_zero, List.set_cons_succ]
        refine wpAnyH_take (i := 2) (v := .agg (ev v)) rfl (by kernel_rfl) (by kernel_rfl) (by kernel_rfl) (fun _ _ _ h => h) (yields_row (by rfl) 27 (.tmp 3) rfl (w.heap.size + 1) rfl 27 (ev v) _ (fun W (h : Fn _ W _) => h.get (by simp)) Tryd.underlying27 rfl (info_ev _)) hHeld ?_
        try simp only [Act.put, List.getElem_toArray, List.getElem_cons_succ, List.getElem_cons_zero, List.setIfInBounds_toArray, List.set_cons_zero, List.set_cons_succ]
        refine wpAnyH_ready (rs := [1, 4]) (by kernel_rfl) (by simp) (AllReadyH.cons rfl (fun K hK => ?_) (AllReadyH.cons rfl (fun K hK => ?_) AllReadyH.nil))
        · have h0 := hHeld
          clear hHeld
          try simp only [List.getElem_toArray, List.getElem_cons_succ, List.getElem_cons_zero]
          have H0 := Lib.hid h0
          clear h0
          go_simp
          go_at_call 75
          refine (squareF (v * v * v) _ (HPG.out.ext H0.out.below)).mono ?_
          rintro e vv ⟨rfl, hb⟩
          have h1 := H0.out.ext hb
          clear hb H0
          go_wp2_with (fail)
          refine hK.out _ _ h1 (fun hHeld => ?_)
          clear hK K h1
          try simp only [Act.put, List.getElem_toArray, List.getElem_cons_succ, List.getElem_cons_zero, List.setIfInBounds_toArray, List.set_cons_zero, List.set_cons_succ]
          refine wpAnyH_ready (rs := [3, 4]) (by kernel_rfl) (by simp) (AllReadyH.cons rfl (fun K hK => ?_) (AllReadyH.cons rfl (fun K hK => ?_) AllReadyH.nil))
          · have h0 := hHeld
            clear hHeld
            try simp only [List.getElem_toArray, List.getElem_cons_succ, List.getElem_cons_zero]
            have H0 := Lib.hid h0
            clear h0
            go_simp
            go_at_call 36
            refine (mulF ((v * v * v) * (v * v * v)) v _ (HPG.out.ext H0.out.below)).mono ?_
            rintro e vv ⟨rfl, hb⟩
            have h1 := H0.out.ext hb
            clear hb H0
            go_wp2_with (fail)
            refine hK.out _ _ h1 (fun hHeld => ?_)
            clear hK K h1
            try simp only [Act.put, List.getElem_toArray, List.getElem_cons_succ, List.getElem_cons_zero, List.setIfInBounds_toArray, List.set_cons_zero, List.set_cons_succ]
            refine wpAnyH_ready (rs := [4]) (by kernel_rfl) (by simp) (AllReadyH.cons rfl (fun K hK => ?_) AllReadyH.nil)
            have h0 := hHeld
            clear hHeld
            try simp only [List.getElem_toArray, List.getElem_cons_succ, List.getElem_cons_zero]
            obtain ⟨kz, hg⟩ := Fn.fresh h0 27 #[.int .u64 0, .int .u64 0, .int .u64 0, .int .u64 0]
            have KZ := Lib.hid kz
            have HG := Lib.hid hg
            have H0 := Lib.hid h0
            clear kz hg h0
            go_simp
            refine hK.out _ _ (Fn.pass H0.out _) (fun hHeld => ?_)
            clear hK K H0
            try simp only [Act.put, List.getElem_toArray, List.getElem_cons_succ, List.getElem_cons_zero, List.setIfInBounds_toArray, List.set_cons_zero, List.set_cons_succ]
            refine wpAnyH_ready (rs := [5]) (by kernel_rfl) (by simp) (AllReadyH.cons rfl (fun K hK => ?_) AllReadyH.nil)
            have h0 := hHeld
            clear hHeld
            try simp only [List.getElem_toArray, List.getElem_cons_succ, List.getElem_cons_zero]
            rw [if_pos (by rfl)]
            refine wp_store_row 27 (.tmp 7) (.tmp 16) rfl _ (ev (v * v * v * (v * v * v) * v)) rfl rfl 27 _ KZ.out (info_ev _) rfl (ev_one _) ?_
            refine hK.out _ _ (Fn.setFresh h0 HG.out _) (fun hHeld => ?_)
            have kb := KZ.out.setRow_same (ev (v * v * v * (v * v * v) * v))
            clear hK K h0
            try simp only [Act.put, List.getElem_toArray, List.getElem_cons_succ, List.getElem_cons_zero, List.setIfInBounds_toArray, List.set_cons_zero, List.set_cons_succ]
            refine wpAnyH_done (by kernel_rfl) ?_ _
            have HB := Lib.hid hHeld.below
            have HGG := Lib.hid HG.out
            clear hHeld
            go_wp2_with (fail)
            go_meet
            exact ⟨_, rfl, HGG.out, kb, HB.out⟩
          · have h0 := hHeld
            clear hHeld
            try simp only [List.getElem_toArray, List.getElem_cons_succ, List.getElem_cons_zero]
            obtain ⟨kz, hg⟩ := Fn.fresh h0 27 #[.int .u64 0, .int .u64 0, .int .u64 0, .int .u64 0]
            have KZ := Lib.hid kz
            have HG := Lib.hid hg
            have H0 := Lib.hid h0
            clear kz hg h0
            go_simp
            refine hK.out _ _ (Fn.pass H0.out _) (fun hHeld => ?_)
            clear hK K H0
            try simp only [Act.put, List.getElem_toArray, List.getElem_cons_succ, List.getElem_cons_zero, List.setIfInBounds_toArray, List.set_cons_zero, List.set_cons_succ]
            refine wpAnyH_ready (rs := [3]) (by kernel_rfl) (by simp) (AllReadyH.cons rfl (fun K hK => ?_) AllReadyH.nil)
            have h0 := hHeld
            clear hHeld
            try simp only [List.getElem_toArray, List.getElem_cons_succ, List.getElem_cons_zero]
            have H0 := Lib.hid h0
            clear h0
            go_simp
            go_at_call 36
            refine (mulF ((v * v * v) * (v * v * v)) v _ (HPG.out.ext H0.out.below)).mono ?_
            rintro e vv ⟨rfl, hb⟩
            have kz := KZ.out.below hb KZ.out.lt
            clear KZ
            have KZ := Lib.hid kz
            clear kz
            have h1 := H0.out.ext hb
            clear hb H0
            go_wp2_with (fail)
            refine hK.out _ _ h1 (fun hHeld => ?_)
            clear hK K h1
            try simp only [Act.put, List.getElem_toArray, List.getElem_cons_succ, List.getElem_cons_zero, List.setIfInBounds_toArray, List.set_cons_zero, List.set_cons_succ]
            refine wpAnyH_ready (rs := [5]) (by kernel_rfl) (by simp) (AllReadyH.cons rfl (fun K hK => ?_) AllReadyH.nil)
            have h0 := hHeld
            clear hHeld
            try simp only [List.getElem_toArray, List.getElem_cons_succ, List.getElem_cons_zero]
            rw [if_pos (by rfl)]
            refine wp_store_row 27 (.tmp 7) (.tmp 16) rfl _ (ev (v * v * v * (v * v * v) * v)) rfl rfl 27 _ KZ.out (info_ev _) rfl (ev_one _) ?_
            refine hK.out _ _ (Fn.setFresh h0 HG.out _) (fun hHeld => ?_)
            have kb := KZ.out.setRow_same (ev (v * v * v * (v * v * v) * v))
            clear hK K h0
            try simp only [Act.put, List.getElem_toArray, List.getElem_cons_succ, List.getElem_cons_zero, List.setIfInBounds_toArray, List.set_cons_zero, List.set_cons_succ]
            refine wpAnyH_done (by kernel_rfl) ?_ _
            have HB := Lib.hid hHeld.below
            have HGG := Lib.hid HG.out
            clear hHeld
            go_wp2_with (fail)
            go_meet
            exact ⟨_, rfl, HGG.out, kb, HB.out⟩
        · have h0 := hHeld
          clear hHeld
          try simp only [List.getElem_toArray, List.getElem_cons_succ, List.getElem_cons_zero]
          obtain ⟨kz, hg⟩ := Fn.fresh h0 27 #[.int .u64 0, .int .u64 0, .int .u64 0, .int .u64 0]
          have KZ := Lib.hid kz
          have HG := Lib.hid hg
          have H0 := Lib.hid h0
          clear kz hg h0
          go_simp
          refine hK.out _ _ (Fn.pass H0.out _) (fun hHeld => ?_)
          clear hK K H0
          try simp only [Act.put, List.getElem_toArray, List.getElem_cons_succ, List.getElem_cons_zero, List.setIfInBounds_toArray, List.set_cons_zero, List.set_cons_succ]
          refine wpAnyH_ready (rs := [1]) (by kernel_rfl) (by simp) (AllReadyH.cons rfl (fun K hK => ?_) AllReadyH.nil)
          have h0 := hHeld
          clear hHeld
          try simp only [List.getElem_toArray, List.getElem_cons_succ, List.getElem_cons_zero]
          have H0 := Lib.hid h0
          clear h0
          go_simp
          go_at_call 75
          refine (squareF (v * v * v) _ (HPG.out.ext H0.out.below)).mono ?_
          rintro e vv ⟨rfl, hb⟩
          have kz := KZ.out.below hb KZ.out.lt
          clear KZ
          have KZ := Lib.hid kz
          clear kz
          have h1 := H0.out.ext hb
          clear hb H0
          go_wp2_with (fail)
          refine hK.out _ _ h1 (fun hHeld => ?_)
          clear hK K h1
          try simp only [Act.put, List.getElem_toArray, List.getElem_cons_succ, List.getElem_cons_zero, List.setIfInBounds_toArray, List.set_cons_zero, List.set_cons_succ]
          refine wpAnyH_ready (rs := [3]) (by kernel_rfl) (by simp) (AllReadyH.cons rfl (fun K hK => ?_) AllReadyH.nil)
          have h0 := hHeld
          clear hHeld
          try simp only [List.getElem_toArray, List.getElem_cons_succ, List.getElem_cons_zero]
          have H0 := Lib.hid h0
          clear h0
          go_simp
          go_at_call 36
          refine (mulF ((v * v * v) * (v * v * v)) v _ (HPG.out.ext H0.out.below)).mono ?_
          rintro e vv ⟨rfl, hb⟩
          have kz := KZ.out.below hb KZ.out.lt
          clear KZ
          have KZ := Lib.hid kz
          clear kz
          have h1 := H0.out.ext hb
          clear hb H0
          go_wp2_with (fail)
          refine hK.out _ _ h1 (fun hHeld => ?_)
          clear hK K h1
          try simp only [Act.put, List.getElem_toArray, List.getElem_cons_succ, List.getElem_cons_zero, List.setIfInBounds_toArray, List.set_cons_zero, List.set_cons_succ]
          refine wpAnyH_ready (rs := [5]) (by kernel_rfl) (by simp) (AllReadyH.cons rfl (fun K hK => ?_) AllReadyH.nil)
          have h0 := hHeld
          clear hHeld
          try simp only [List.getElem_toArray, List.getElem_cons_succ, List.getElem_cons_zero]
          rw [if_pos (by rfl)]
          refine wp_store_row 27 (.tmp 7) (.tmp 16) rfl _ (ev (v * v * v * (v * v * v) * v)) rfl rfl 27 _ KZ.out (info_ev _) rfl (ev_one _) ?_
          refine hK.out _ _ (Fn.setFresh h0 HG.out _) (fun hHeld => ?_)
          have kb := KZ.out.setRow_same (ev (v * v * v * (v * v * v) * v))
          clear hK K h0
          try simp only [Act.put, List.getElem_toArray, List.getElem_cons_succ, List.getElem_cons_zero, List.setIfInBounds_toArray, List.set_cons_zero, List.set_cons_succ]
          refine wpAnyH_done (by kernel_rfl) ?_ _
          have HB := Lib.hid hHeld.below
          have HGG := Lib.hid HG.out
          clear hHeld
          go_wp2_with (fail)
          go_meet
          exact ⟨_, rfl, HGG.out, kb, HB.out⟩
    case rest =>
      obtain ⟨g7, rfl, hg, hk, hb⟩ := hcut
      have hf2 := (HF.out.ext hb).more hk
      have hpg2 := HPG.out.ext hb
      have hz7 : wy.heap.size ≤ g7 := hg
      have hz7l := hk.lt
      clear HF HPG hb hk hg
      have HF := Lib.hid hf2
      have HPG := Lib.hid hpg2
      clear hf2 hpg2
      obtain ⟨wz, hwz⟩ : ∃ wz : World, wz = wc := ⟨_, rfl⟩
      rw [← hwz] at HF HPG hz7l ⊢
      clear hwz
      go_wp2_with (fail)
      go_cut [8] (fun s6 wq => ∃ g : Nat, s6 = .pointer (some ⟨g, 0, none⟩) ∧ wz.heap.size ≤ g ∧ Blk wq g 27 (ev (u * (v * v * v) * p0)) ∧ Below wz.heap.size wz wq)
      case first =>
        as_aux_lemma =>
          have hn := (HF.out.now.sub (L' := [(g7, 27, ev (v * v * v * (v * v * v) * v)), (g6, 27, ev (v * v * v)), (w.heap.size + 1, 27, ev v), (w.heap.size, 27, ev u)]) (by simp))
          have HN := Lib.hid hn
          clear hn
          refine wp_region_held_drew (S := fun W => Fn wz W [(g7, 27, ev (v * v * v * (v * v * v) * v)), (g6, 27, ev (v * v * v)), (w.heap.size + 1, 27, ev v), (w.heap.size, 27, ev u)]) (by kernel_rfl) ?_ (fun hHeld => ?_)
          · exact HN.out.drew
          refine wpAnyH_take (i := 0) (v := .agg (ev u)) rfl (by kernel_rfl) (by kernel_rfl) (by kernel_rfl) (fun _ _ _ h => h) (yields_row (by rfl) 27 (.tmp 2) rfl (w.heap.size) rfl 27 (ev u) _ (fun W (h : Fn _ W _) => h.get (by simp)) Tryd.underlying27 rfl (info_ev _)) hHeld ?_
          try simp only [Act.put, List.getElem_toArray, List.getElem_cons_succ, List.getElem_cons_zero, List.setIfInBounds_toArray, List.set_cons_zero, List.set_cons_succ]
          refine wpAnyH_take (i := 1) (v := .agg (ev (v * v * v))) rfl (by kernel_rfl) (by kernel_rfl) (by kernel_rfl) (fun _ _ _ h => h) (yields_row (by rfl) 27 (.tmp 6) rfl (g6) rfl 27 (ev (v * v * v)) _ (fun W (h : Fn _ W _) => h.get (by simp)) Tryd.underlying27 rfl (info_ev _)) hHeld ?_
          try simp only [Act.put, List.getElem_toArray, List.getElem_cons_succ, List.getElem_cons_zero, List.setIfInBounds_toArray, List.set_cons_zero, List.set_cons_succ]
          refine wpAnyH_take (i := 3) (v := .agg (ev u)) rfl (by kernel_rfl) (by kernel_rfl) (by kernel_rfl) (fun _ _ _ h => h) (yields_row (by rfl) 27 (.tmp 2) rfl (w.heap.size) rfl 27 (ev u) _ (fun W (h : Fn _ W _) => h.get (by simp)) Tryd.underlying27 rfl (info_ev _)) hHeld ?_
          try simp only [Act.put, List.getElem_toArray, List.getElem_cons_succ, List.getElem_cons_zero, List.setIfInBounds_toArray, List.set_cons_zero, List.set_cons_succ]
          refine wpAnyH_take (i := 4) (v := .agg (ev (v * v * v * (v * v * v) * v))) rfl (by kernel_rfl) (by kernel_rfl) (by kernel_rfl) (fun _ _ _ h => h) (yields_row (by rfl) 27 (.tmp 7) rfl (g7) rfl 27 (ev (v * v * v * (v * v * v) * v)) _ (fun W (h : Fn _ W _) => h.get (by simp)) Tryd.underlying27 rfl (info_ev _)) hHeld ?_
          try simp only [Act.put, List.getElem_toArray, List.getElem_cons_succ, List.getElem_cons_zero, List.setIfInBounds_toArray, List.set_cons_zero, List.set_cons_succ]
          refine wpAnyH_ready (rs := [2, 9]) (by kernel_rfl) (by simp) (AllReadyH.cons rfl (fun K hK => ?_) (AllReadyH.cons rfl (fun K hK => ?_) AllReadyH.nil))
          · have h0 := hHeld
            clear hHeld
            try simp only [List.getElem_toArray, List.getElem_cons_succ, List.getElem_cons_zero]
            have H0 := Lib.hid h0
            clear h0
            go_simp
            go_at_call 36
            refine (mulF u (v * v * v) _ (HPG.out.ext H0.out.below)).mono ?_
            rintro e vv ⟨rfl, hb⟩
            have h1 := H0.out.ext hb
            clear hb H0
            go_wp2_with (fail)
            refine hK.out _ _ h1 (fun hHeld => ?_)
            clear hK K h1
            try simp only [Act.put, List.getElem_toArray, List.getElem_cons_succ, List.getElem_cons_zero, List.setIfInBounds_toArray, List.set_cons_zero, List.set_cons_succ]
            refine wpAnyH_ready (rs := [5, 9]) (by kernel_rfl) (by simp) (AllReadyH.cons rfl (fun K hK => ?_) (AllReadyH.cons rfl (fun K hK => ?_) AllReadyH.nil))
            · have h0 := hHeld
              clear hHeld
              try simp only [List.getElem_toArray, List.getElem_cons_succ, List.getElem_cons_zero]
              have H0 := Lib.hid h0
              clear h0
              go_simp
              go_at_call 36
              refine (mulF u (v * v * v * (v * v * v) * v) _ (HPG.out.ext H0.out.below)).mono ?_
              rintro e vv ⟨rfl, hb⟩
              have h1 := H0.out.ext hb
              clear hb H0
              go_wp2_with (fail)
              refine hK.out _ _ h1 (fun hHeld => ?_)
              clear hK K h1
              try simp only [Act.put, List.getElem_toArray, List.getElem_cons_succ, List.getElem_cons_zero, List.setIfInBounds_toArray, List.set_cons_zero, List.set_cons_succ]
              refine wpAnyH_ready (rs := [6, 9]) (by kernel_rfl) (by simp) (AllReadyH.cons rfl (fun K hK => ?_) (AllReadyH.cons rfl (fun K hK => ?_) AllReadyH.nil))
              · have h0 := hHeld
                clear hHeld
                try simp only [List.getElem_toArray, List.getElem_cons_succ, List.getElem_cons_zero]
                have H0 := Lib.hid h0
                clear h0
                go_simp
                go_at_call 94
                refine (rootPower_any _).mono ?_
                rintro e vv ⟨rfl, hb⟩
                have h1 := H0.out.ext hb
                clear hb H0
                go_wp2_with (fail)
                refine hK.out _ _ h1 (fun hHeld => ?_)
                clear hK K h1
                try simp only [Act.put, List.getElem_toArray, List.getElem_cons_succ, List.getElem_cons_zero, List.setIfInBounds_toArray, List.set_cons_zero, List.set_cons_succ]
                refine wpAnyH_ready (rs := [7, 9]) (by kernel_rfl) (by simp) (AllReadyH.cons rfl (fun K hK => ?_) (AllReadyH.cons rfl (fun K hK => ?_) AllReadyH.nil))
                · have h0 := hHeld
                  clear hHeld
                  try simp only [List.getElem_toArray, List.getElem_cons_succ, List.getElem_cons_zero]
                  have H0 := Lib.hid h0
                  clear h0
                  go_simp
                  go_at_call 72
                  refine (powR HP0.out _ (HPG.out.ext H0.out.below)).mono ?_
                  rintro e vv ⟨rfl, hb⟩
                  have h1 := H0.out.ext hb
                  clear hb H0
                  go_wp2_with (fail)
                  refine hK.out _ _ h1 (fun hHeld => ?_)
                  clear hK K h1
                  try simp only [Act.put, List.getElem_toArray, List.getElem_cons_succ, List.getElem_cons_zero, List.setIfInBounds_toArray, List.set_cons_zero, List.set_cons_succ]
                  refine wpAnyH_ready (rs := [8, 9]) (by kernel_rfl) (by simp) (AllReadyH.cons rfl (fun K hK => ?_) (AllReadyH.cons rfl (fun K hK => ?_) AllReadyH.nil))
                  · have h0 := hHeld
                    clear hHeld
                    try simp only [List.getElem_toArray, List.getElem_cons_succ, List.getElem_cons_zero]
                    have H0 := Lib.hid h0
                    clear h0
                    go_simp
                    go_at_call 36
                    refine (mulF (u * (v * v * v)) p0 _ (HPG.out.ext H0.out.below)).mono ?_
                    rintro e vv ⟨rfl, hb⟩
                    have h1 := H0.out.ext hb
                    clear hb H0
                    go_wp2_with (fail)
                    refine hK.out _ _ h1 (fun hHeld => ?_)
                    clear hK K h1
                    try simp only [Act.put, List.getElem_toArray, List.getElem_cons_succ, List.getElem_cons_zero, List.setIfInBounds_toArray, List.set_cons_zero, List.set_cons_succ]
                    refine wpAnyH_ready (rs := [9]) (by kernel_rfl) (by simp) (AllReadyH.cons rfl (fun K hK => ?_) AllReadyH.nil)
                    have h0 := hHeld
                    clear hHeld
                    try simp only [List.getElem_toArray, List.getElem_cons_succ, List.getElem_cons_zero]
                    obtain ⟨kz, hg⟩ := Fn.fresh h0 27 #[.int .u64 0, .int .u64 0, .int .u64 0, .int .u64 0]
                    have KZ := Lib.hid kz
                    have HG := Lib.hid hg
                    have H0 := Lib.hid h0
                    clear kz hg h0
                    go_simp
                    refine hK.out _ _ (Fn.pass H0.out _) (fun hHeld => ?_)
                    clear hK K H0
                    try simp only [Act.put, List.getElem_toArray, List.getElem_cons_succ, List.getElem_cons_zero, List.setIfInBounds_toArray, List.set_cons_zero, List.set_cons_succ]
                    refine wpAnyH_ready (rs := [10]) (by kernel_rfl) (by simp) (AllReadyH.cons rfl (fun K hK => ?_) AllReadyH.nil)
                    have h0 := hHeld
                    clear hHeld
                    try simp only [List.getElem_toArray, List.getElem_cons_succ, List.getElem_cons_zero]
                    rw [if_pos (by rfl)]
                    refine wp_store_row 27 (.tmp 8) (.tmp 25) rfl _ (ev (u * (v * v * v) * p0)) rfl rfl 27 _ KZ.out (info_ev _) rfl (ev_one _) ?_
                    refine hK.out _ _ (Fn.setFresh h0 HG.out _) (fun hHeld => ?_)
                    have kb := KZ.out.setRow_same (ev (u * (v * v * v) * p0))
                    clear hK K h0
                    try simp only [Act.put, List.getElem_toArray, List.getElem_cons_succ, List.getElem_cons_zero, List.setIfInBounds_toArray, List.set_cons_zero, List.set_cons_succ]
                    refine wpAnyH_done (by kernel_rfl) ?_ _
                    have HB := Lib.hid hHeld.below
                    have HGG := Lib.hid HG.out
                    clear hHeld
                    go_wp2_with (fail)
                    go_meet
                    exact ⟨_, rfl, HGG.out, kb, HB.out⟩
                  · have h0 := hHeld
                    clear hHeld
                    try simp only [List.getElem_toArray, List.getElem_cons_succ, List.getElem_cons_zero]
                    obtain ⟨kz, hg⟩ := Fn.fresh h0 27 #[.int .u64 0, .int .u64 0, .int .u64 0, .int .u64 0]
                    have KZ := Lib.hid kz
                    have HG := Lib.hid hg
                    have H0 := Lib.hid h0
                    clear kz hg h0
                    go_simp
                    refine hK.out _ _ (Fn.pass H0.out _) (fun hHeld => ?_)
                    clear hK K H0
                    try simp only [Act.put, List.getElem_toArray, List.getElem_cons_succ, List.getElem_cons_zero, List.setIfInBounds_toArray, List.set_cons_zero, List.set_cons_succ]
                    refine wpAnyH_ready (rs := [8]) (by kernel_rfl) (by simp) (AllReadyH.cons rfl (fun K hK => ?_) AllReadyH.nil)
                    have h0 := hHeld
                    clear hHeld
                    try simp only [List.getElem_toArray, List.getElem_cons_succ, List.getElem_cons_zero]
                    have H0 := Lib.hid h0
                    clear h0
                    go_simp
                    go_at_call 36
                    refine (mulF (u * (v * v * v)) p0 _ (HPG.out.ext H0.out.below)).mono ?_
                    rintro e vv ⟨rfl, hb⟩
                    have kz := KZ.out.below hb KZ.out.lt
                    clear KZ
                    have KZ := Lib.hid kz
                    clear kz
                    have h1 := H0.out.ext hb
                    clear hb H0
                    go_wp2_with (fail)
                    refine hK.out _ _ h1 (fun hHeld => ?_)
                    clear hK K h1
                    try simp only [Act.put, List.getElem_toArray, List.getElem_cons_succ, List.getElem_cons_zero, List.setIfInBounds_toArray, List.set_cons_zero, List.set_cons_succ]
                    refine wpAnyH_ready (rs := [10]) (by kernel_rfl) (by simp) (AllReadyH.cons rfl (fun K hK => ?_) AllReadyH.nil)
                    have h0 := hHeld
                    clear hHeld
                    try simp only [List.getElem_toArray, List.getElem_cons_succ, List.getElem_cons_zero]
                    rw [if_pos (by rfl)]
                    refine wp_store_row 27 (.tmp 8) (.tmp 25) rfl _ (ev (u * (v * v * v) * p0)) rfl rfl 27 _ KZ.out (info_ev _) rfl (ev_one _) ?_
                    refine hK.out _ _ (Fn.setFresh h0 HG.out _) (fun hHeld => ?_)
                    have kb := KZ.out.setRow_same (ev (u * (v * v * v) * p0))
                    clear hK K h0
                    try simp only [Act.put, List.getElem_toArray, List.getElem_cons_succ, List.getElem_cons_zero, List.setIfInBounds_toArray, List.set_cons_zero, List.set_cons_succ]
                    refine wpAnyH_done (by kernel_rfl) ?_ _
                    have HB := Lib.hid hHeld.below
                    have HGG := Lib.hid HG.out
                    clear hHeld
                    go_wp2_with (fail)
                    go_meet
                    exact ⟨_, rfl, HGG.out, kb, HB.out⟩
                · have h0 := hHeld
                  clear hHeld
                  try simp only [List.getElem_toArray, List.getElem_cons_succ, List.getElem_cons_zero]
                  obtain ⟨kz, hg⟩ := Fn.fresh h0 27 #[.int .u64 0, .int .u64 0, .int .u64 0, .int .u64 0]
                  have KZ := Lib.hid kz
                  have HG := Lib.hid hg
                  have H0 := Lib.hid h0
                  clear kz hg h0
                  go_simp
                  refine hK.out _ _ (Fn.pass H0.out _) (fun hHeld => ?_)
                  clear hK K H0
                  try simp only [Act.put, List.getElem_toArray, List.getElem_cons_succ, List.getElem_cons_zero, List.setIfInBounds_toArray, List.set_cons_zero, List.set_cons_succ]
                  refine wpAnyH_ready (rs := [7]) (by kernel_rfl) (by simp) (AllReadyH.cons rfl (fun K hK => ?_) AllReadyH.nil)
                  have h0 := hHeld
                  clear hHeld
                  try simp only [List.getElem_toArray, List.getElem_cons_succ, List.getElem_cons_zero]
                  have H0 := Lib.hid h0
                  clear h0
                  go_simp
                  go_at_call 72
                  refine (powR HP0.out _ (HPG.out.ext H0.out.below)).mono ?_
                  rintro e vv ⟨rfl, hb⟩
                  have kz := KZ.out.below hb KZ.out.lt
                  clear KZ
                  have KZ := Lib.hid kz
                  clear kz
                  have h1 := H0.out.ext hb
                  clear hb H0
                  go_wp2_with (fail)
                  refine hK.out _ _ h1 (fun hHeld => ?_)
                  clear hK K h1
                  try simp only [Act.put, List.getElem_toArray, List.getElem_cons_succ, List.getElem_cons_zero, List.setIfInBounds_toArray, List.set_cons_zero, List.set_cons_succ]
                  refine wpAnyH_ready (rs := [8]) (by kernel_rfl) (by simp) (AllReadyH.cons rfl (fun K hK => ?_) AllReadyH.nil)
                  have h0 := hHeld
                  clear hHeld
                  try simp only [List.getElem_toArray, List.getElem_cons_succ, List.getElem_cons_zero]
                  have H0 := Lib.hid h0
                  clear h0
                  go_simp
                  go_at_call 36
                  refine (mulF (u * (v * v * v)) p0 _ (HPG.out.ext H0.out.below)).mono ?_
                  rintro e vv ⟨rfl, hb⟩
                  have kz := KZ.out.below hb KZ.out.lt
                  clear KZ
                  have KZ := Lib.hid kz
                  clear kz
                  have h1 := H0.out.ext hb
                  clear hb H0
                  go_wp2_with (fail)
                  refine hK.out _ _ h1 (fun hHeld => ?_)
                  clear hK K h1
                  try simp only [Act.put, List.getElem_toArray, List.getElem_cons_succ, List.getElem_cons_zero, List.setIfInBounds_toArray, List.set_cons_zero, List.set_cons_succ]
                  refine wpAnyH_ready (rs := [10]) (by kernel_rfl) (by simp) (AllReadyH.cons rfl (fun K hK => ?_) AllReadyH.nil)
                  have h0 := hHeld
                  clear hHeld
                  try simp only [List.getElem_toArray, List.getElem_cons_succ, List.getElem_cons_zero]
                  rw [if_pos (by rfl)]
                  refine wp_store_row 27 (.tmp 8) (.tmp 25) rfl _ (ev (u * (v * v * v) * p0)) rfl rfl 27 _ KZ.out (info_ev _) rfl (ev_one _) ?_
                  refine hK.out _ _ (Fn.setFresh h0 HG.out _) (fun hHeld => ?_)
                  have kb := KZ.out.setRow_same (ev (u * (v * v * v) * p0))
                  clear hK K h0
                  try simp only [Act.put, List.getElem_toArray, List.getElem_cons_succ, List.getElem_cons_zero, List.setIfInBounds_toArray, List.set_cons_zero, List.set_cons_succ]
                  refine wpAnyH_done (by kernel_rfl) ?_ _
                  have HB := Lib.hid hHeld.below
                  have HGG := Lib.hid HG.out
                  clear hHeld
                  go_wp2_with (fail)
                  go_meet
                  exact ⟨_, rfl, HGG.out, kb, HB.out⟩
              · have h0 := hHeld
                clear hHeld
                try simp only [List.getElem_toArray, List.getElem_cons_succ, List.getElem_cons_zero]
                obtain ⟨kz, hg⟩ := Fn.fresh h0 27 #[.int .u64 0, .int .u64 0, .int .u64 0, .int .u64 0]
                have KZ := Lib.hid kz
                have HG := Lib.hid hg
                have H0 := Lib.hid h0
                clear kz hg h0
                go_simp
                refine hK.out _ _ (Fn.pass H0.out _) (fun hHeld => ?_)
                clear hK K H0
                try simp only [Act.put, List.getElem_toArray, List.getElem_cons_succ, List.getElem_cons_zero, List.setIfInBounds_toArray, List.set_cons_zero, List.set_cons_succ]
                refine wpAnyH_ready (rs := [6]) (by kernel_rfl) (by simp) (AllReadyH.cons rfl (fun K hK => ?_) AllReadyH.nil)
                have h0 := hHeld
                clear hHeld
                try simp only [List.getElem_toArray, List.getElem_cons_succ, List.getElem_cons_zero]
                have H0 := Lib.hid h0
                clear h0
                go_simp
                go_at_call 94
                refine (rootPower_any _).mono ?_
                rintro e vv ⟨rfl, hb⟩
                have kz := KZ.out.below hb KZ.out.lt
                clear KZ
                have KZ := Lib.hid kz
                clear kz
                have h1 := H0.out.ext hb
                clear hb H0
                go_wp2_with (fail)
                refine hK.out _ _ h1 (fun hHeld => ?_)
                clear hK K h1
                try simp only [Act.put, List.getElem_toArray, List.getElem_cons_succ, List.getElem_cons_zero, List.setIfInBounds_toArray, List.set_cons_zero, List.set_cons_succ]
                refine wpAnyH_ready (rs := [7]) (by kernel_rfl) (by simp) (AllReadyH.cons rfl (fun K hK => ?_) AllReadyH.nil)
                have h0 := hHeld
                clear hHeld
                try simp only [List.getElem_toArray, List.getElem_cons_succ, List.getElem_cons_zero]
                have H0 := Lib.hid h0
                clear h0
                go_simp
                go_at_call 72
                refine (powR HP0.out _ (HPG.out.ext H0.out.below)).mono ?_
                rintro e vv ⟨rfl, hb⟩
                have kz := KZ.out.below hb KZ.out.lt
                clear KZ
                have KZ := Lib.hid kz
                clear kz
                have h1 := H0.out.ext hb
                clear hb H0
                go_wp2_with (fail)
                refine hK.out _ _ h1 (fun hHeld => ?_)
                clear hK K h1
                try simp only [Act.put, List.getElem_toArray, List.getElem_cons_succ, List.getElem_cons_zero, List.setIfInBounds_toArray, List.set_cons_zero, List.set_cons_succ]
                refine wpAnyH_ready (rs := [8]) (by kernel_rfl) (by simp) (AllReadyH.cons rfl (fun K hK => ?_) AllReadyH.nil)
                have h0 := hHeld
                clear hHeld
                try simp only [List.getElem_toArray, List.getElem_cons_succ, List.getElem_cons_zero]
                have H0 := Lib.hid h0
                clear h0
                go_simp
                go_at_call 36
                refine (mulF (u * (v * v * v)) p0 _ (HPG.out.ext H0.out.below)).mono ?_
                rintro e vv ⟨rfl, hb⟩
                have kz := KZ.out.below hb KZ.out.lt
                clear KZ
                have KZ := Lib.hid kz
                clear kz
                have h1 := H0.out.ext hb
                clear hb H0
                go_wp2_with (fail)
                refine hK.out _ _ h1 (fun hHeld => ?_)
                clear hK K h1
                try simp only [Act.put, List.getElem_toArray, List.getElem_cons_succ, List.getElem_cons_zero, List.setIfInBounds_toArray, List.set_cons_zero, List.set_cons_succ]
                refine wpAnyH_ready (rs := [10]) (by kernel_rfl) (by simp) (AllReadyH.cons rfl (fun K hK => ?_) AllReadyH.nil)
                have h0 := hHeld
                clear hHeld
                try simp only [List.getElem_toArray, List.getElem_cons_succ, List.getElem_cons_zero]
                rw [if_pos (by rfl)]
                refine wp_store_row 27 (.tmp 8) (.tmp 25) rfl _ (ev (u * (v * v * v) * p0)) rfl rfl 27 _ KZ.out (info_ev _) rfl (ev_one _) ?_
                refine hK.out _ _ (Fn.setFresh h0 HG.out _) (fun hHeld => ?_)
                have kb := KZ.out.setRow_same (ev (u * (v * v * v) * p0))
                clear hK K h0
                try simp only [Act.put, List.getElem_toArray, List.getElem_cons_succ, List.getElem_cons_zero, List.setIfInBounds_toArray, List.set_cons_zero, List.set_cons_succ]
                refine wpAnyH_done (by kernel_rfl) ?_ _
                have HB := Lib.hid hHeld.below
                have HGG := Lib.hid HG.out
                clear hHeld
                go_wp2_with (fail)
                go_meet
                exact ⟨_, rfl, HGG.out, kb, HB.out⟩
            · have h0 := hHeld
              clear hHeld
              try simp only [List.getElem_toArray, List.getElem_cons_succ, List.getElem_cons_zero]
              obtain ⟨kz, hg⟩ := Fn.fresh h0 27 #[.int .u64 0, .int .u64 0, .int .u64 0, .int .u64 0]
              have KZ := Lib.hid kz
              have HG := Lib.hid hg
              have H0 := Lib.hid h0
              clear kz hg h0
              go_simp
              refine hK.out _ _ (Fn.pass H0.out _) (fun hHeld => ?_)
              clear hK K H0
              try simp only [Act.put, List.getElem_toArray, List.getElem_cons_succ, List.getElem_cons_zero, List.setIfInBounds_toArray, List.set_cons_zero, List.set_cons_succ]
              refine wpAnyH_ready (rs := [5]) (by kernel_rfl) (by simp) (AllReadyH.cons rfl (fun K hK => ?_) AllReadyH.nil)
              have h0 := hHeld
              clear hHeld
              try simp only [List.getElem_toArray, List.getElem_cons_succ, List.getElem_cons_zero]
              have H0 := Lib.hid h0
              clear h0
              go_simp
              go_at_call 36
              refine (mulF u (v * v * v * (v * v * v) * v) _ (HPG.out.ext H0.out.below)).mono ?_
              rintro e vv ⟨rfl, hb⟩
              have kz := KZ.out.below hb KZ.out.lt
              clear KZ
              have KZ := Lib.hid kz
              clear kz
              have h1 := H0.out.ext hb
              clear hb H0
              go_wp2_with (fail)
              refine hK.out _ _ h1 (fun hHeld => ?_)
              clear hK K h1
              try simp only [Act.put, List.getElem_toArray, List.getElem_cons_succ, List.getElem_cons_zero, List.setIfInBounds_toArray, List.set_cons_zero, List.set_cons_succ]
              refine wpAnyH_ready (rs := [6]) (by kernel_rfl) (by simp) (AllReadyH.cons rfl (fun K hK => ?_) AllReadyH.nil)
              have h0 := hHeld
              clear hHeld
              try simp only [List.getElem_toArray, List.getElem_cons_succ, List.getElem_cons_zero]
              have H0 := Lib.hid h0
              clear h0
              go_simp
              go_at_call 94
              refine (rootPower_any _).mono ?_
              rintro e vv ⟨rfl, hb⟩
              have kz := KZ.out.below hb KZ.out.lt
              clear KZ
              have KZ := Lib.hid kz
              clear kz
              have h1 := H0.out.ext hb
              clear hb H0
              go_wp2_with (fail)
              refine hK.out _ _ h1 (fun hHeld => ?_)
              clear hK K h1
              try simp only [Act.put, List.getElem_toArray, List.getElem_cons_succ, List.getElem_cons_zero, List.setIfInBounds_toArray, List.set_cons_zero, List.set_cons_succ]
              refine wpAnyH_ready (rs := [7]) (by kernel_rfl) (by simp) (AllReadyH.cons rfl (fun K hK => ?_) AllReadyH.nil)
              have h0 := hHeld
              clear hHeld
              try simp only [List.getElem_toArray, List.getElem_cons_succ, List.getElem_cons_zero]
              have H0 := Lib.hid h0
              clear h0
              go_simp
              go_at_call 72
              refine (powR HP0.out _ (HPG.out.ext H0.out.below)).mono ?_
              rintro e vv ⟨rfl, hb⟩
              have kz := KZ.out.below hb KZ.out.lt
              clear KZ
              have KZ := Lib.hid kz
              clear kz
              have h1 := H0.out.ext hb
              clear hb H0
              go_wp2_with (fail)
              refine hK.out _ _ h1 (fun hHeld => ?_)
              clear hK K h1
              try simp only [Act.put, List.getElem_toArray, List.getElem_cons_succ, List.getElem_cons_zero, List.setIfInBounds_toArray, List.set_cons_zero, List.set_cons_succ]
              refine wpAnyH_ready (rs := [8]) (by kernel_rfl) (by simp) (AllReadyH.cons rfl (fun K hK => ?_) AllReadyH.nil)
              have h0 := hHeld
              clear hHeld
              try simp only [List.getElem_toArray, List.getElem_cons_succ, List.getElem_cons_zero]
              have H0 := Lib.hid h0
              clear h0
              go_simp
              go_at_call 36
              refine (mulF (u * (v * v * v)) p0 _ (HPG.out.ext H0.out.below)).mono ?_
              rintro e vv ⟨rfl, hb⟩
              have kz := KZ.out.below hb KZ.out.lt
              clear KZ
              have KZ := Lib.hid kz
              clear kz
              have h1 := H0.out.ext hb
              clear hb H0
              go_wp2_with (fail)
              refine hK.out _ _ h1 (fun hHeld => ?_)
              clear hK K h1
              try simp only [Act.put, List.getElem_toArray, List.getElem_cons_succ, List.getElem_cons_zero, List.setIfInBounds_toArray, List.set_cons_zero, List.set_cons_succ]
              refine wpAnyH_ready (rs := [10]) (by kernel_rfl) (by simp) (AllReadyH.cons rfl (fun K hK => ?_) AllReadyH.nil)
              have h0 := hHeld
              clear hHeld
              try simp only [List.getElem_toArray, List.getElem_cons_succ, List.getElem_cons_zero]
              rw [if_pos (by rfl)]
              refine wp_store_row 27 (.tmp 8) (.tmp 25) rfl _ (ev (u * (v * v * v) * p0)) rfl rfl 27 _ KZ.out (info_ev _) rfl (ev_one _) ?_
              refine hK.out _ _ (Fn.setFresh h0 HG.out _) (fun hHeld => ?_)
              have kb := KZ.out.setRow_same (ev (u * (v * v * v) * p0))
              clear hK K h0
              try simp only [Act.put, List.getElem_toArray, List.getElem_cons_succ, List.getElem_cons_zero, List.setIfInBounds_toArray, List.set_cons_zero, List.set_cons_succ]
              refine wpAnyH_done (by kernel_rfl) ?_ _
              have HB := Lib.hid hHeld.below
              have HGG := Lib.hid HG.out
              clear hHeld
              go_wp2_with (fail)
              go_meet
              exact ⟨_, rfl, HGG.out, kb, HB.out⟩
          · have h0 := hHeld
            clear hHeld
            try simp only [List.getElem_toArray, List.getElem_cons_succ, List.getElem_cons_zero]
            obtain ⟨kz, hg⟩ := Fn.fresh h0 27 #[.int .u64 0, .int .u64 0, .int .u64 0, .int .u64 0]
            have KZ := Lib.hid kz
            have HG := Lib.hid hg
            have H0 := Lib.hid h0
            clear kz hg h0
            go_simp
            refine hK.out _ _ (Fn.pass H0.out _) (fun hHeld => ?_)
            clear hK K H0
            try simp only [Act.put, List.getElem_toArray, List.getElem_cons_succ, List.getElem_cons_zero, List.setIfInBounds_toArray, List.set_cons_zero, List.set_cons_succ]
            refine wpAnyH_ready (rs := [2]) (by kernel_rfl) (by simp) (AllReadyH.cons rfl (fun K hK => ?_) AllReadyH.nil)
            have h0 := hHeld
            clear hHeld
            try simp only [List.getElem_toArray, List.getElem_cons_succ, List.getElem_cons_zero]
            have H0 := Lib.hid h0
            clear h0
            go_simp
            go_at_call 36
            refine (mulF u (v * v * v) _ (HPG.out.ext H0.out.below)).mono ?_
            rintro e vv ⟨rfl, hb⟩
            have kz := KZ.out.below hb KZ.out.lt
            clear KZ
            have KZ := Lib.hid kz
            clear kz
            have h1 := H0.out.ext hb
            clear hb H0
            go_wp2_with (fail)
            refine hK.out _ _ h1 (fun hHeld => ?_)
            clear hK K h1
            try simp only [Act.put, List.getElem_toArray, List.getElem_cons_succ, List.getElem_cons_zero, List.setIfInBounds_toArray, List.set_cons_zero, List.set_cons_succ]
            refine wpAnyH_ready (rs := [5]) (by kernel_rfl) (by simp) (AllReadyH.cons rfl (fun K hK => ?_) AllReadyH.nil)
            have h0 := hHeld
            clear hHeld
            try simp only [List.getElem_toArray, List.getElem_cons_succ, List.getElem_cons_zero]
            have H0 := Lib.hid h0
            clear h0
            go_simp
            go_at_call 36
            refine (mulF u (v * v * v * (v * v * v) * v) _ (HPG.out.ext H0.out.below)).mono ?_
            rintro e vv ⟨rfl, hb⟩
            have kz := KZ.out.below hb KZ.out.lt
            clear KZ
            have KZ := Lib.hid kz
            clear kz
            have h1 := H0.out.ext hb
            clear hb H0
            go_wp2_with (fail)
            refine hK.out _ _ h1 (fun hHeld => ?_)
            clear hK K h1
            try simp only [Act.put, List.getElem_toArray, List.getElem_cons_succ, List.getElem_cons_zero, List.setIfInBounds_toArray, List.set_cons_zero, List.set_cons_succ]
            refine wpAnyH_ready (rs := [6]) (by kernel_rfl) (by simp) (AllReadyH.cons rfl (fun K hK => ?_) AllReadyH.nil)
            have h0 := hHeld
            clear hHeld
            try simp only [List.getElem_toArray, List.getElem_cons_succ, List.getElem_cons_zero]
            have H0 := Lib.hid h0
            clear h0
            go_simp
            go_at_call 94
            refine (rootPower_any _).mono ?_
            rintro e vv ⟨rfl, hb⟩
            have kz := KZ.out.below hb KZ.out.lt
            clear KZ
            have KZ := Lib.hid kz
            clear kz
            have h1 := H0.out.ext hb
            clear hb H0
            go_wp2_with (fail)
            refine hK.out _ _ h1 (fun hHeld => ?_)
            clear hK K h1
            try simp only [Act.put, List.getElem_toArray, List.getElem_cons_succ, List.getElem_cons_zero, List.setIfInBounds_toArray, List.set_cons_zero, List.set_cons_succ]
            refine wpAnyH_ready (rs := [7]) (by kernel_rfl) (by simp) (AllReadyH.cons rfl (fun K hK => ?_) AllReadyH.nil)
            have h0 := hHeld
            clear hHeld
            try simp only [List.getElem_toArray, List.getElem_cons_succ, List.getElem_cons_zero]
            have H0 := Lib.hid h0
            clear h0
            go_simp
            go_at_call 72
            refine (powR HP0.out _ (HPG.out.ext H0.out.below)).mono ?_
            rintro e vv ⟨rfl, hb⟩
            have kz := KZ.out.below hb KZ.out.lt
            clear KZ
            have KZ := Lib.hid kz
            clear kz
            have h1 := H0.out.ext hb
            clear hb H0
            go_wp2_with (fail)
            refine hK.out _ _ h1 (fun hHeld => ?_)
            clear hK K h1
            try simp only [Act.put, List.getElem_toArray, List.getElem_cons_succ, List.getElem_cons_zero, List.setIfInBounds_toArray, List.set_cons_zero, List.set_cons_succ]
            refine wpAnyH_ready (rs := [8]) (by kernel_rfl) (by simp) (AllReadyH.cons rfl (fun K hK => ?_) AllReadyH.nil)
            have h0 := hHeld
            clear hHeld
            try simp only [List.getElem_toArray, List.getElem_cons_succ, List.getElem_cons_zero]
            have H0 := Lib.hid h0
            clear h0
            go_simp
            go_at_call 36
            refine (mulF (u * (v * v * v)) p0 _ (HPG.out.ext H0.out.below)).mono ?_
            rintro e vv ⟨rfl, hb⟩
            have kz := KZ.out.below hb KZ.out.lt
            clear KZ
            have KZ := Lib.hid kz
            clear kz
            have h1 := H0.out.ext hb
            clear hb H0
            go_wp2_with (fail)
            refine hK.out _ _ h1 (fun hHeld => ?_)
            clear hK K h1
            try simp only [Act.put, List.getElem_toArray, List.getElem_cons_succ, List.getElem_cons_zero, List.setIfInBounds_toArray, List.set_cons_zero, List.set_cons_succ]
            refine wpAnyH_ready (rs := [10]) (by kernel_rfl) (by simp) (AllReadyH.cons rfl (fun K hK => ?_) AllReadyH.nil)
            have h0 := hHeld
            clear hHeld
            try simp only [List.getElem_toArray, List.getElem_cons_succ, List.getElem_cons_zero]
            rw [if_pos (by rfl)]
            refine wp_store_row 27 (.tmp 8) (.tmp 25) rfl _ (ev (u * (v * v * v) * p0)) rfl rfl 27 _ KZ.out (info_ev _) rfl (ev_one _) ?_
            refine hK.out _ _ (Fn.setFresh h0 HG.out _) (fun hHeld => ?_)
            have kb := KZ.out.setRow_same (ev (u * (v * v * v) * p0))
            clear hK K h0
            try simp only [Act.put, List.getElem_toArray, List.getElem_cons_succ, List.getElem_cons_zero, List.setIfInBounds_toArray, List.set_cons_zero, List.set_cons_succ]
            refine wpAnyH_done (by kernel_rfl) ?_ _
            have HB := Lib.hid hHeld.below
            have HGG := Lib.hid HG.out
            clear hHeld
            go_wp2_with (fail)
            go_meet
            exact ⟨_, rfl, HGG.out, kb, HB.out⟩
      case rest =>
        obtain ⟨g8, rfl, hg, hk, hb⟩ := hcut
        have hf2 := (HF.out.ext hb).more hk
        have hpg2 := HPG.out.ext hb
        have hz8 : wz.heap.size ≤ g8 := hg
        have hz8l := hk.lt
        clear HF HPG hb hk hg
        have HF := Lib.hid hf2
        have HPG := Lib.hid hpg2
        clear hf2 hpg2
        go_wp2_with (fail)
        by_cases ht1 : v * ((u * (v * v * v) * p0) * (u * (v * v * v) * p0)) = -u
        · have HT1 := Lib.hid ht1
          clear ht1
          refine wp_region_held_drew (S := fun W => Fr w W [(g8, 27, ev (u * (v * v * v) * p0)), (w.heap.size + 1, 27, ev v), (w.heap.size, 27, ev u)] [(w.heap.size + 1 + 1, 27, 4)]) (by kernel_rfl) ?_ (fun hHeld => ?_)
          · exact (HF.out.sub (by simp) (by simp)).drew
          refine wpAnyH_take (i := 0) (v := .agg (ev v)) rfl (by kernel_rfl) (by kernel_rfl) (by kernel_rfl) (fun _ _ _ h => h) (yields_row (by rfl) 27 (.tmp 3) rfl (w.heap.size + 1) rfl 27 (ev v) _ (fun W (h : Fr _ W _ _) => h.get (by simp)) Tryd.underlying27 rfl (info_ev _)) hHeld ?_
          try simp only [Act.put, List.getElem_toArray, List.getElem_cons_succ, List.getElem_cons_zero, List.setIfInBounds_toArray, List.set_cons_zero, List.set_cons_succ]
          refine wpAnyH_take (i := 1) (v := .agg (ev (u * (v * v * v) * p0))) rfl (by kernel_rfl) (by kernel_rfl) (by kernel_rfl) (fun _ _ _ h => h) (yields_row (by rfl) 27 (.tmp 8) rfl (g8) rfl 27 (ev (u * (v * v * v) * p0)) _ (fun W (h : Fr _ W _ _) => h.get (by simp)) Tryd.underlying27 rfl (info_ev _)) hHeld ?_
          try simp only [Act.put, List.getElem_toArray, List.getElem_cons_succ, List.getElem_cons_zero, List.setIfInBounds_toArray, List.set_cons_zero, List.set_cons_succ]
          refine wpAnyH_take (i := 4) (v := .agg (ev u)) rfl (by kernel_rfl) (by kernel_rfl) (by kernel_rfl) (fun _ _ _ h => h) (yields_row (by rfl) 27 (.tmp 2) rfl (w.heap.size) rfl 27 (ev u) _ (fun W (h : Fr _ W _ _) => h.get (by simp)) Tryd.underlying27 rfl (info_ev _)) hHeld ?_
          try simp only [Act.put, List.getElem_toArray, List.getElem_cons_succ, List.getElem_cons_zero, List.setIfInBounds_toArray, List.set_cons_zero, List.set_cons_succ]
          refine wpAnyH_ready (rs := [2]) (by kernel_rfl) (by simp) (AllReadyH.cons rfl (fun K hK => ?_) AllReadyH.nil)
          have h0 := hHeld
          clear hHeld
          try simp only [List.getElem_toArray, List.getElem_cons_succ, List.getElem_cons_zero]
          have H0 := Lib.hid h0
          clear h0
          go_simp
          go_at_call 75
          refine (squareF (u * (v * v * v) * p0) _ (Fr.pg H0.out HP.out)).mono ?_
          rintro e vv ⟨rfl, hb⟩
          have h1 := H0.out.ext hb
          clear hb H0
          go_wp2_with (fail)
          refine hK.out _ _ h1 (fun hHeld => ?_)
          clear hK K h1
          try simp only [Act.put, List.getElem_toArray, List.getElem_cons_succ, List.getElem_cons_zero, List.setIfInBounds_toArray, List.set_cons_zero, List.set_cons_succ]
          refine wpAnyH_ready (rs := [3]) (by kernel_rfl) (by simp) (AllReadyH.cons rfl (fun K hK => ?_) AllReadyH.nil)
          have h0 := hHeld
          clear hHeld
          try simp only [List.getElem_toArray, List.getElem_cons_succ, List.getElem_cons_zero]
          have H0 := Lib.hid h0
          clear h0
          go_simp
          go_at_call 36
          refine (mulF v ((u * (v * v * v) * p0) * (u * (v * v * v) * p0)) _ (Fr.pg H0.out HP.out)).mono ?_
          rintro e vv ⟨rfl, hb⟩
          have h1 := H0.out.ext hb
          clear hb H0
          go_wp2_with (fail)
          refine hK.out _ _ h1 (fun hHeld => ?_)
          clear hK K h1
          try simp only [Act.put, List.getElem_toArray, List.getElem_cons_succ, List.getElem_cons_zero, List.setIfInBounds_toArray, List.set_cons_zero, List.set_cons_succ]
          refine wpAnyH_ready (rs := [5]) (by kernel_rfl) (by simp) (AllReadyH.cons rfl (fun K hK => ?_) AllReadyH.nil)
          have h0 := hHeld
          clear hHeld
          try simp only [List.getElem_toArray, List.getElem_cons_succ, List.getElem_cons_zero]
          have H0 := Lib.hid h0
          clear h0
          go_simp
          go_at_call 47
          refine (negF u _ (Fr.pg H0.out HP.out)).mono ?_
          rintro e vv ⟨rfl, hb⟩
          have h1 := H0.out.ext hb
          clear hb H0
          go_wp2_with (fail)
          refine hK.out _ _ h1 (fun hHeld => ?_)
          clear hK K h1
          try simp only [Act.put, List.getElem_toArray, List.getElem_cons_succ, List.getElem_cons_zero, List.setIfInBounds_toArray, List.set_cons_zero, List.set_cons_succ]
          refine wpAnyH_ready (rs := [6]) (by kernel_rfl) (by simp) (AllReadyH.cons rfl (fun K hK => ?_) AllReadyH.nil)
          have h0 := hHeld
          clear hHeld
          try simp only [List.getElem_toArray, List.getElem_cons_succ, List.getElem_cons_zero]
          have H0 := Lib.hid h0
          clear h0
          go_simp
          go_at_call 63
          refine (equal_yes HT1.out _).mono ?_
          rintro e vv ⟨rfl, hb⟩
          have h1 := H0.out.ext hb
          clear hb H0
          go_wp2_with (fail)
          refine hK.out _ _ h1 (fun hHeld => ?_)
          clear hK K h1
          try simp only [Act.put, List.getElem_toArray, List.getElem_cons_succ, List.getElem_cons_zero, List.setIfInBounds_toArray, List.set_cons_zero, List.set_cons_succ]
          refine wpAnyH_done (by kernel_rfl) ?_ _
          have HF := Lib.hid hHeld
          clear hHeld
          go_wp2_with (fail)
          have kz := HF.out.get (g := g8) (t := 27) (cs := ev (u * (v * v * v) * p0)) (by simp)
          have KZ := Lib.hid kz.drew
          clear kz
          refine wp_region_held_drew (S := fun W => Fr w W [(w.heap.size + 1, 27, ev v), (w.heap.size, 27, ev u)] [(w.heap.size + 1 + 1, 27, 4)]) (by kernel_rfl) ?_ (fun hHeld => ?_)
          · exact (HF.out.sub (by simp) (by simp)).drew
          refine wpAnyH_ready (rs := [0, 1]) (by kernel_rfl) (by simp) (AllReadyH.cons rfl (fun K hK => ?_) (AllReadyH.cons rfl (fun K hK => ?_) AllReadyH.nil))
          · have h0 := hHeld
            clear hHeld
            try simp only [List.getElem_toArray, List.getElem_cons_succ, List.getElem_cons_zero]
            rw [if_pos (by rfl)]
            refine wp_load_row 27 (.tmp 8) rfl (g8) rfl 27 (ev (u * (v * v * v) * p0)) (0, 0) _ KZ.out Tryd.underlying27 rfl (info_ev _) ?_
            refine hK.out _ _ h0 (fun hHeld => ?_)
            clear hK K h0
            try simp only [Act.put, List.getElem_toArray, List.getElem_cons_succ, List.getElem_cons_zero, List.setIfInBounds_toArray, List.set_cons_zero, List.set_cons_succ]
            refine wpAnyH_ready (rs := [1]) (by kernel_rfl) (by simp) (AllReadyH.cons rfl (fun K hK => ?_) AllReadyH.nil)
            have h0 := hHeld
            clear hHeld
            try simp only [List.getElem_toArray, List.getElem_cons_succ, List.getElem_cons_zero]
            have H0 := Lib.hid h0
            clear h0
            go_simp
            go_at_call 95
            refine (rootI_of HI0.out _ (Fr.pg H0.out HP.out)).mono ?_
            rintro e vv ⟨rfl, hb⟩
            have kz := KZ.out.below hb KZ.out.lt
            clear KZ
            have KZ := Lib.hid kz
            clear kz
            have h1 := H0.out.ext hb
            clear hb H0
            go_wp2_with (fail)
            refine hK.out _ _ h1 (fun hHeld => ?_)
            clear hK K h1
            try simp only [Act.put, List.getElem_toArray, List.getElem_cons_succ, List.getElem_cons_zero, List.setIfInBounds_toArray, List.set_cons_zero, List.set_cons_succ]
            refine wpAnyH_ready (rs := [2]) (by kernel_rfl) (by simp) (AllReadyH.cons rfl (fun K hK => ?_) AllReadyH.nil)
            have h0 := hHeld
            clear hHeld
            try simp only [List.getElem_toArray, List.getElem_cons_succ, List.getElem_cons_zero]
            have H0 := Lib.hid h0
            clear h0
            go_simp
            go_at_call 36
            refine (mulF (u * (v * v * v) * p0) i0 _ (Fr.pg H0.out HP.out)).mono ?_
            rintro e vv ⟨rfl, hb⟩
            have kz := KZ.out.below hb KZ.out.lt
            clear KZ
            have KZ := Lib.hid kz
            clear kz
            have h1 := H0.out.ext hb
            clear hb H0
            go_wp2_with (fail)
            refine hK.out _ _ h1 (fun hHeld => ?_)
            clear hK K h1
            try simp only [Act.put, List.getElem_toArray, List.getElem_cons_succ, List.getElem_cons_zero, List.setIfInBounds_toArray, List.set_cons_zero, List.set_cons_succ]
            refine wpAnyH_ready (rs := [3]) (by kernel_rfl) (by simp) (AllReadyH.cons rfl (fun K hK => ?_) AllReadyH.nil)
            have h0 := hHeld
            clear hHeld
            try simp only [List.getElem_toArray, List.getElem_cons_succ, List.getElem_cons_zero]
            rw [if_pos (by rfl)]
            refine wp_store_row 27 (.tmp 8) (.tmp 35) rfl (g8) (ev ((u * (v * v * v) * p0) * i0)) rfl rfl 27 _ KZ.out (info_ev _) ((ev_size _).trans (ev_size _).symm) (ev_one _) ?_
            refine hK.out _ _ (Fr.setOut h0 (g := g8) (by omega) (by simp <;> omega) (by simp <;> omega) _) (fun hHeld => ?_)
            have kb := KZ.out.setRow_same (ev ((u * (v * v * v) * p0) * i0))
            clear hK K h0
            try simp only [Act.put, List.getElem_toArray, List.getElem_cons_succ, List.getElem_cons_zero, List.setIfInBounds_toArray, List.set_cons_zero, List.set_cons_succ]
            refine wpAnyH_done (by kernel_rfl) ?_ _
            have hf9 := hHeld.more kb
            have HF := Lib.hid hf9
            clear hHeld hf9 kb KZ
            go_wp2_with (fail)
            by_cases ht2 : v * (((u * (v * v * v) * p0) * i0) * ((u * (v * v * v) * p0) * i0)) = u
            · as_aux_lemma =>
                have HT2 := Lib.hid ht2
                clear ht2
                refine wp_region_held_drew (S := fun W => Fr w W [(g8, 27, ev ((u * (v * v * v) * p0) * i0)), (w.heap.size + 1, 27, ev v), (w.heap.size, 27, ev u)] [(w.heap.size + 1 + 1, 27, 4)]) (by kernel_rfl) ?_ (fun hHeld => ?_)
                · exact (HF.out.sub (by simp) (by simp)).drew
                refine wpAnyH_take (i := 0) (v := .agg (ev v)) rfl (by kernel_rfl) (by kernel_rfl) (by kernel_rfl) (fun _ _ _ h => h) (yields_row (by rfl) 27 (.tmp 3) rfl (w.heap.size + 1) rfl 27 (ev v) _ (fun W (h : Fr _ W _ _) => h.get (by simp)) Tryd.underlying27 rfl (info_ev _)) hHeld ?_
                try simp only [Act.put, List.getElem_toArray, List.getElem_cons_succ, List.getElem_cons_zero, List.setIfInBounds_toArray, List.set_cons_zero, List.set_cons_succ]
                refine wpAnyH_take (i := 1) (v := .agg (ev ((u * (v * v * v) * p0) * i0))) rfl (by kernel_rfl) (by kernel_rfl) (by kernel_rfl) (fun _ _ _ h => h) (yields_row (by rfl) 27 (.tmp 8) rfl (g8) rfl 27 (ev ((u * (v * v * v) * p0) * i0)) _ (fun W (h : Fr _ W _ _) => h.get (by simp)) Tryd.underlying27 rfl (info_ev _)) hHeld ?_
                try simp only [Act.put, List.getElem_toArray, List.getElem_cons_succ, List.getElem_cons_zero, List.setIfInBounds_toArray, List.set_cons_zero, List.set_cons_succ]
                refine wpAnyH_take (i := 4) (v := .agg (ev u)) rfl (by kernel_rfl) (by kernel_rfl) (by kernel_rfl) (fun _ _ _ h => h) (yields_row (by rfl) 27 (.tmp 2) rfl (w.heap.size) rfl 27 (ev u) _ (fun W (h : Fr _ W _ _) => h.get (by simp)) Tryd.underlying27 rfl (info_ev _)) hHeld ?_
                try simp only [Act.put, List.getElem_toArray, List.getElem_cons_succ, List.getElem_cons_zero, List.setIfInBounds_toArray, List.set_cons_zero, List.set_cons_succ]
                refine wpAnyH_ready (rs := [2]) (by kernel_rfl) (by simp) (AllReadyH.cons rfl (fun K hK => ?_) AllReadyH.nil)
                have h0 := hHeld
                clear hHeld
                try simp only [List.getElem_toArray, List.getElem_cons_succ, List.getElem_cons_zero]
                have H0 := Lib.hid h0
                clear h0
                go_simp
                go_at_call 75
                refine (squareF ((u * (v * v * v) * p0) * i0) _ (Fr.pg H0.out HP.out)).mono ?_
                rintro e vv ⟨rfl, hb⟩
                have h1 := H0.out.ext hb
                clear hb H0
                go_wp2_with (fail)
                refine hK.out _ _ h1 (fun hHeld => ?_)
                clear hK K h1
                try simp only [Act.put, List.getElem_toArray, List.getElem_cons_succ, List.getElem_cons_zero, List.setIfInBounds_toArray, List.set_cons_zero, List.set_cons_succ]
                refine wpAnyH_ready (rs := [3]) (by kernel_rfl) (by simp) (AllReadyH.cons rfl (fun K hK => ?_) AllReadyH.nil)
                have h0 := hHeld
                clear hHeld
                try simp only [List.getElem_toArray, List.getElem_cons_succ, List.getElem_cons_zero]
                have H0 := Lib.hid h0
                clear h0
                go_simp
                go_at_call 36
                refine (mulF v (((u * (v * v * v) * p0) * i0) * ((u * (v * v * v) * p0) * i0)) _ (Fr.pg H0.out HP.out)).mono ?_
                rintro e vv ⟨rfl, hb⟩
                have h1 := H0.out.ext hb
                clear hb H0
                go_wp2_with (fail)
                refine hK.out _ _ h1 (fun hHeld => ?_)
                clear hK K h1
                try simp only [Act.put, List.getElem_toArray, List.getElem_cons_succ, List.getElem_cons_zero, List.setIfInBounds_toArray, List.set_cons_zero, List.set_cons_succ]
                refine wpAnyH_ready (rs := [5]) (by kernel_rfl) (by simp) (AllReadyH.cons rfl (fun K hK => ?_) AllReadyH.nil)
                have h0 := hHeld
                clear hHeld
                try simp only [List.getElem_toArray, List.getElem_cons_succ, List.getElem_cons_zero]
                have H0 := Lib.hid h0
                clear h0
                go_simp
                go_at_call 63
                refine (equal_yes HT2.out _).mono ?_
                rintro e vv ⟨rfl, hb⟩
                have h1 := H0.out.ext hb
                clear hb H0
                go_wp2_with (fail)
                refine hK.out _ _ h1 (fun hHeld => ?_)
                clear hK K h1
                try simp only [Act.put, List.getElem_toArray, List.getElem_cons_succ, List.getElem_cons_zero, List.setIfInBounds_toArray, List.set_cons_zero, List.set_cons_succ]
                refine wpAnyH_take (i := 6) (v := ?_) rfl (by kernel_rfl) (by kernel_rfl) (by kernel_rfl) (fun _ _ _ h => h) (Or.inl ⟨by rfl, ?_⟩) hHeld ?_
                rotate_left
                · (intro W hSw; (try dsimp only at hSw); (try simp only [List.getElem_toArray, List.getElem_cons_succ, List.getElem_cons_zero]); go_simp; try with_reducible rfl)
                try simp only [Act.put, List.getElem_toArray, List.getElem_cons_succ, List.getElem_cons_zero, List.setIfInBounds_toArray, List.set_cons_zero, List.set_cons_succ]
                refine wpAnyH_done (by kernel_rfl) ?_ _
                have HF := Lib.hid hHeld
                clear hHeld
                go_wp2_with (fail)
                by_cases ht3 : (((u * (v * v * v) * p0) * i0)).val % 2 = 1
                · as_aux_lemma =>
                    have HT3 := Lib.hid ht3
                    clear ht3
                    refine wp_region_held_drew (S := fun W => Fr w W [(g8, 27, ev ((u * (v * v * v) * p0) * i0)), (w.heap.size + 1, 27, ev v), (w.heap.size, 27, ev u)] [(w.heap.size + 1 + 1, 27, 4)]) (by kernel_rfl) ?_ (fun hHeld => ?_)
                    · exact (HF.out.sub (by simp) (by simp)).drew
                    refine wpAnyH_take (i := 0) (v := .agg (ev ((u * (v * v * v) * p0) * i0))) rfl (by kernel_rfl) (by kernel_rfl) (by kernel_rfl) (fun _ _ _ h => h) (yields_row (by rfl) 27 (.tmp 8) rfl (g8) rfl 27 (ev ((u * (v * v * v) * p0) * i0)) _ (fun W (h : Fr _ W _ _) => h.get (by simp)) Tryd.underlying27 rfl (info_ev _)) hHeld ?_
                    try simp only [Act.put, List.getElem_toArray, List.getElem_cons_succ, List.getElem_cons_zero, List.setIfInBounds_toArray, List.set_cons_zero, List.set_cons_succ]
                    refine wpAnyH_take (i := 1) (v := .agg (ev ((u * (v * v * v) * p0) * i0))) rfl (by kernel_rfl) (by kernel_rfl) (by kernel_rfl) (fun _ _ _ h => h) (yields_row (by rfl) 27 (.tmp 8) rfl (g8) rfl 27 (ev ((u * (v * v * v) * p0) * i0)) _ (fun W (h : Fr _ W _ _) => h.get (by simp)) Tryd.underlying27 rfl (info_ev _)) hHeld ?_
                    try simp only [Act.put, List.getElem_toArray, List.getElem_cons_succ, List.getElem_cons_zero, List.setIfInBounds_toArray, List.set_cons_zero, List.set_cons_succ]
                    refine wpAnyH_take (i := 3) (v := .agg (ev ((u * (v * v * v) * p0) * i0))) rfl (by kernel_rfl) (by kernel_rfl) (by kernel_rfl) (fun _ _ _ h => h) (yields_row (by rfl) 27 (.tmp 8) rfl (g8) rfl 27 (ev ((u * (v * v * v) * p0) * i0)) _ (fun W (h : Fr _ W _ _) => h.get (by simp)) Tryd.underlying27 rfl (info_ev _)) hHeld ?_
                    try simp only [Act.put, List.getElem_toArray, List.getElem_cons_succ, List.getElem_cons_zero, List.setIfInBounds_toArray, List.set_cons_zero, List.set_cons_succ]
                    refine wpAnyH_ready (rs := [2]) (by kernel_rfl) (by simp) (AllReadyH.cons rfl (fun K hK => ?_) AllReadyH.nil)
                    have h0 := hHeld
                    clear hHeld
                    try simp only [List.getElem_toArray, List.getElem_cons_succ, List.getElem_cons_zero]
                    have H0 := Lib.hid h0
                    clear h0
                    go_simp
                    go_at_call 47
                    refine (negF ((u * (v * v * v) * p0) * i0) _ (Fr.pg H0.out HP.out)).mono ?_
                    rintro e vv ⟨rfl, hb⟩
                    have h1 := H0.out.ext hb
                    clear hb H0
                    go_wp2_with (fail)
                    refine hK.out _ _ h1 (fun hHeld => ?_)
                    clear hK K h1
                    try simp only [Act.put, List.getElem_toArray, List.getElem_cons_succ, List.getElem_cons_zero, List.setIfInBounds_toArray, List.set_cons_zero, List.set_cons_succ]
                    refine wpAnyH_ready (rs := [4]) (by kernel_rfl) (by simp) (AllReadyH.cons rfl (fun K hK => ?_) AllReadyH.nil)
                    have h0 := hHeld
                    clear hHeld
                    try simp only [List.getElem_toArray, List.getElem_cons_succ, List.getElem_cons_zero]
                    have H0 := Lib.hid h0
                    clear h0
                    go_simp
                    go_at_call 58
                    refine (odd_yes HT3.out _).mono ?_
                    rintro e vv ⟨rfl, hb⟩
                    have h1 := H0.out.ext hb
                    clear hb H0
                    go_wp2_with (fail)
                    refine hK.out _ _ h1 (fun hHeld => ?_)
                    clear hK K h1
                    try simp only [Act.put, List.getElem_toArray, List.getElem_cons_succ, List.getElem_cons_zero, List.setIfInBounds_toArray, List.set_cons_zero, List.set_cons_succ]
                    refine wpAnyH_ready (rs := [5]) (by kernel_rfl) (by simp) (AllReadyH.cons rfl (fun K hK => ?_) AllReadyH.nil)
                    have h0 := hHeld
                    clear hHeld
                    try simp only [List.getElem_toArray, List.getElem_cons_succ, List.getElem_cons_zero]
                    have H0 := Lib.hid h0
                    clear h0
                    go_simp
                    go_at_call 46
                    refine (selF_yes ((u * (v * v * v) * p0) * i0) (-((u * (v * v * v) * p0) * i0)) _).mono ?_
                    rintro e vv ⟨rfl, hb⟩
                    have h1 := H0.out.ext hb
                    clear hb H0
                    go_wp2_with (fail)
                    refine hK.out _ _ h1 (fun hHeld => ?_)
                    clear hK K h1
                    try simp only [Act.put, List.getElem_toArray, List.getElem_cons_succ, List.getElem_cons_zero, List.setIfInBounds_toArray, List.set_cons_zero, List.set_cons_succ]
                    refine wpAnyH_ready (rs := [6]) (by kernel_rfl) (by simp) (AllReadyH.cons rfl (fun K hK => ?_) AllReadyH.nil)
                    have h0 := hHeld
                    clear hHeld
                    try simp only [List.getElem_toArray, List.getElem_cons_succ, List.getElem_cons_zero]
                    rw [if_pos (by rfl)]
                    obtain ⟨old, hold, kold⟩ := Fr.old h0 (g := w.heap.size + 1 + 1) (t := 27) (n := 4) (by simp)
                    refine wp_store_row 27 (.tmp 4) (.tmp 49) rfl (w.heap.size + 1 + 1) (ev (-((u * (v * v * v) * p0) * i0))) rfl rfl 27 old kold (info_ev _) hold (ev_one _) ?_
                    refine hK.out _ _ (Fr.setAny h0 (g := w.heap.size + 1 + 1) (t := 27) (ev_size _) (by simp) (by simp <;> omega)) (fun hHeld => ?_)
                    have kb := kold.setRow_same (ev (-((u * (v * v * v) * p0) * i0)))
                    clear hK K h0 hold
                    try simp only [Act.put, List.getElem_toArray, List.getElem_cons_succ, List.getElem_cons_zero, List.setIfInBounds_toArray, List.set_cons_zero, List.set_cons_succ]
                    refine wpAnyH_take (i := 7) (v := ?_) rfl (by kernel_rfl) (by kernel_rfl) (by kernel_rfl) (fun _ _ _ h => h) (Or.inl ⟨by rfl, ?_⟩) hHeld ?_
                    rotate_left
                    · (intro W hSw; (try dsimp only at hSw); (try simp only [List.getElem_toArray, List.getElem_cons_succ, List.getElem_cons_zero]); go_simp; try with_reducible rfl)
                    try simp only [Act.put, List.getElem_toArray, List.getElem_cons_succ, List.getElem_cons_zero, List.setIfInBounds_toArray, List.set_cons_zero, List.set_cons_succ]
                    refine wpAnyH_done (by kernel_rfl) ?_ _
                    have HG := Lib.hid hHeld
                    clear hHeld
                    go_wp2_with (fail)
                    have hres : X = ((-((u * (v * v * v) * p0) * i0)), true) := by
                      rw [HX.out, ← HI0.out]
                      rw [rootC_a HP0.out HT1.out HT2.out, evenOf_yes HT3.out]
                    rw [hres]
                    exact bodyPost_ret (results_row_tmp rfl rfl rfl kb Tryd.underlying27 rfl (info_ev _)) rfl ⟨rfl, HG.out.below⟩
                · as_aux_lemma =>
                    have HT3 := Lib.hid ht3
                    clear ht3
                    refine wp_region_held_drew (S := fun W => Fr w W [(g8, 27, ev ((u * (v * v * v) * p0) * i0)), (w.heap.size + 1, 27, ev v), (w.heap.size, 27, ev u)] [(w.heap.size + 1 + 1, 27, 4)]) (by kernel_rfl) ?_ (fun hHeld => ?_)
                    · exact (HF.out.sub (by simp) (by simp)).drew
                    refine wpAnyH_take (i := 0) (v := .agg (ev ((u * (v * v * v) * p0) * i0))) rfl (by kernel_rfl) (by kernel_rfl) (by kernel_rfl) (fun _ _ _ h => h) (yields_row (by rfl) 27 (.tmp 8) rfl (g8) rfl 27 (ev ((u * (v * v * v) * p0) * i0)) _ (fun W (h : Fr _ W _ _) => h.get (by simp)) Tryd.underlying27 rfl (info_ev _)) hHeld ?_
                    try simp only [Act.put, List.getElem_toArray, List.getElem_cons_succ, List.getElem_cons_zero, List.setIfInBounds_toArray, List.set_cons_zero, List.set_cons_succ]
                    refine wpAnyH_take (i := 1) (v := .agg (ev ((u * (v * v * v) * p0) * i0))) rfl (by kernel_rfl) (by kernel_rfl) (by kernel_rfl) (fun _ _ _ h => h) (yields_row (by rfl) 27 (.tmp 8) rfl (g8) rfl 27 (ev ((u * (v * v * v) * p0) * i0)) _ (fun W (h : Fr _ W _ _) => h.get (by simp)) Tryd.underlying27 rfl (info_ev _)) hHeld ?_
                    try simp only [Act.put, List.getElem_toArray, List.getElem_cons_succ, List.getElem_cons_zero, List.setIfInBounds_toArray, List.set_cons_zero, List.set_cons_succ]
                    refine wpAnyH_take (i := 3) (v := .agg (ev ((u * (v * v * v) * p0) * i0))) rfl (by kernel_rfl) (by kernel_rfl) (by kernel_rfl) (fun _ _ _ h => h) (yields_row (by rfl) 27 (.tmp 8) rfl (g8) rfl 27 (ev ((u * (v * v * v) * p0) * i0)) _ (fun W (h : Fr _ W _ _) => h.get (by simp)) Tryd.underlying27 rfl (info_ev _)) hHeld ?_
                    try simp only [Act.put, List.getElem_toArray, List.getElem_cons_succ, List.getElem_cons_zero, List.setIfInBounds_toArray, List.set_cons_zero, List.set_cons_succ]
                    refine wpAnyH_ready (rs := [2]) (by kernel_rfl) (by simp) (AllReadyH.cons rfl (fun K hK => ?_) AllReadyH.nil)
                    have h0 := hHeld
                    clear hHeld
                    try simp only [List.getElem_toArray, List.getElem_cons_succ, List.getElem_cons_zero]
                    have H0 := Lib.hid h0
                    clear h0
                    go_simp
                    go_at_call 47
                    refine (negF ((u * (v * v * v) * p0) * i0) _ (Fr.pg H0.out HP.out)).mono ?_
                    rintro e vv ⟨rfl, hb⟩
                    have h1 := H0.out.ext hb
                    clear hb H0
                    go_wp2_with (fail)
                    refine hK.out _ _ h1 (fun hHeld => ?_)
                    clear hK K h1
                    try simp only [Act.put, List.getElem_toArray, List.getElem_cons_succ, List.getElem_cons_zero, List.setIfInBounds_toArray, List.set_cons_zero, List.set_cons_succ]
                    refine wpAnyH_ready (rs := [4]) (by kernel_rfl) (by simp) (AllReadyH.cons rfl (fun K hK => ?_) AllReadyH.nil)
                    have h0 := hHeld
                    clear hHeld
                    try simp only [List.getElem_toArray, List.getElem_cons_succ, List.getElem_cons_zero]
                    have H0 := Lib.hid h0
                    clear h0
                    go_simp
                    go_at_call 58
                    refine (odd_no HT3.out _).mono ?_
                    rintro e vv ⟨rfl, hb⟩
                    have h1 := H0.out.ext hb
                    clear hb H0
                    go_wp2_with (fail)
                    refine hK.out _ _ h1 (fun hHeld => ?_)
                    clear hK K h1
                    try simp only [Act.put, List.getElem_toArray, List.getElem_cons_succ, List.getElem_cons_zero, List.setIfInBounds_toArray, List.set_cons_zero, List.set_cons_succ]
                    refine wpAnyH_ready (rs := [5]) (by kernel_rfl) (by simp) (AllReadyH.cons rfl (fun K hK => ?_) AllReadyH.nil)
                    have h0 := hHeld
                    clear hHeld
                    try simp only [List.getElem_toArray, List.getElem_cons_succ, List.getElem_cons_zero]
                    have H0 := Lib.hid h0
                    clear h0
                    go_simp
                    go_at_call 46
                    refine (selF_no ((u * (v * v * v) * p0) * i0) (-((u * (v * v * v) * p0) * i0)) _).mono ?_
                    rintro e vv ⟨rfl, hb⟩
                    have h1 := H0.out.ext hb
                    clear hb H0
                    go_wp2_with (fail)
                    refine hK.out _ _ h1 (fun hHeld => ?_)
                    clear hK K h1
                    try simp only [Act.put, List.getElem_toArray, List.getElem_cons_succ, List.getElem_cons_zero, List.setIfInBounds_toArray, List.set_cons_zero, List.set_cons_succ]
                    refine wpAnyH_ready (rs := [6]) (by kernel_rfl) (by simp) (AllReadyH.cons rfl (fun K hK => ?_) AllReadyH.nil)
                    have h0 := hHeld
                    clear hHeld
                    try simp only [List.getElem_toArray, List.getElem_cons_succ, List.getElem_cons_zero]
                    rw [if_pos (by rfl)]
                    obtain ⟨old, hold, kold⟩ := Fr.old h0 (g := w.heap.size + 1 + 1) (t := 27) (n := 4) (by simp)
                    refine wp_store_row 27 (.tmp 4) (.tmp 49) rfl (w.heap.size + 1 + 1) (ev ((u * (v * v * v) * p0) * i0)) rfl rfl 27 old kold (info_ev _) hold (ev_one _) ?_
                    refine hK.out _ _ (Fr.setAny h0 (g := w.heap.size + 1 + 1) (t := 27) (ev_size _) (by simp) (by simp <;> omega)) (fun hHeld => ?_)
                    have kb := kold.setRow_same (ev ((u * (v * v * v) * p0) * i0))
                    clear hK K h0 hold
                    try simp only [Act.put, List.getElem_toArray, List.getElem_cons_succ, List.getElem_cons_zero, List.setIfInBounds_toArray, List.set_cons_zero, List.set_cons_succ]
                    refine wpAnyH_take (i := 7) (v := ?_) rfl (by kernel_rfl) (by kernel_rfl) (by kernel_rfl) (fun _ _ _ h => h) (Or.inl ⟨by rfl, ?_⟩) hHeld ?_
                    rotate_left
                    · (intro W hSw; (try dsimp only at hSw); (try simp only [List.getElem_toArray, List.getElem_cons_succ, List.getElem_cons_zero]); go_simp; try with_reducible rfl)
                    try simp only [Act.put, List.getElem_toArray, List.getElem_cons_succ, List.getElem_cons_zero, List.setIfInBounds_toArray, List.set_cons_zero, List.set_cons_succ]
                    refine wpAnyH_done (by kernel_rfl) ?_ _
                    have HG := Lib.hid hHeld
                    clear hHeld
                    go_wp2_with (fail)
                    have hres : X = (((u * (v * v * v) * p0) * i0), true) := by
                      rw [HX.out, ← HI0.out]
                      rw [rootC_a HP0.out HT1.out HT2.out, evenOf_no HT3.out]
                    rw [hres]
                    exact bodyPost_ret (results_row_tmp rfl rfl rfl kb Tryd.underlying27 rfl (info_ev _)) rfl ⟨rfl, HG.out.below⟩
            · as_aux_lemma =>
                have HT2 := Lib.hid ht2
                clear ht2
                refine wp_region_held_drew (S := fun W => Fr w W [(g8, 27, ev ((u * (v * v * v) * p0) * i0)), (w.heap.size + 1, 27, ev v), (w.heap.size, 27, ev u)] [(w.heap.size + 1 + 1, 27, 4)]) (by kernel_rfl) ?_ (fun hHeld => ?_)
                · exact (HF.out.sub (by simp) (by simp)).drew
                refine wpAnyH_take (i := 0) (v := .agg (ev v)) rfl (by kernel_rfl) (by kernel_rfl) (by kernel_rfl) (fun _ _ _ h => h) (yields_row (by rfl) 27 (.tmp 3) rfl (w.heap.size + 1) rfl 27 (ev v) _ (fun W (h : Fr _ W _ _) => h.get (by simp)) Tryd.underlying27 rfl (info_ev _)) hHeld ?_
                try simp only [Act.put, List.getElem_toArray, List.getElem_cons_succ, List.getElem_cons_zero, List.setIfInBounds_toArray, List.set_cons_zero, List.set_cons_succ]
                refine wpAnyH_take (i := 1) (v := .agg (ev ((u * (v * v * v) * p0) * i0))) rfl (by kernel_rfl) (by kernel_rfl) (by kernel_rfl) (fun _ _ _ h => h) (yields_row (by rfl) 27 (.tmp 8) rfl (g8) rfl 27 (ev ((u * (v * v * v) * p0) * i0)) _ (fun W (h : Fr _ W _ _) => h.get (by simp)) Tryd.underlying27 rfl (info_ev _)) hHeld ?_
                try simp only [Act.put, List.getElem_toArray, List.getElem_cons_succ, List.getElem_cons_zero, List.setIfInBounds_toArray, List.set_cons_zero, List.set_cons_succ]
                refine wpAnyH_take (i := 4) (v := .agg (ev u)) rfl (by kernel_rfl) (by kernel_rfl) (by kernel_rfl) (fun _ _ _ h => h) (yields_row (by rfl) 27 (.tmp 2) rfl (w.heap.size) rfl 27 (ev u) _ (fun W (h : Fr _ W _ _) => h.get (by simp)) Tryd.underlying27 rfl (info_ev _)) hHeld ?_
                try simp only [Act.put, List.getElem_toArray, List.getElem_cons_succ, List.getElem_cons_zero, List.setIfInBounds_toArray, List.set_cons_zero, List.set_cons_succ]
                refine wpAnyH_ready (rs := [2]) (by kernel_rfl) (by simp) (AllReadyH.cons rfl (fun K hK => ?_) AllReadyH.nil)
                have h0 := hHeld
                clear hHeld
                try simp only [List.getElem_toArray, List.getElem_cons_succ, List.getElem_cons_zero]
                have H0 := Lib.hid h0
                clear h0
                go_simp
                go_at_call 75
                refine (squareF ((u * (v * v * v) * p0) * i0) _ (Fr.pg H0.out HP.out)).mono ?_
                rintro e vv ⟨rfl, hb⟩
                have h1 := H0.out.ext hb
                clear hb H0
                go_wp2_with (fail)
                refine hK.out _ _ h1 (fun hHeld => ?_)
                clear hK K h1
                try simp only [Act.put, List.getElem_toArray, List.getElem_cons_succ, List.getElem_cons_zero, List.setIfInBounds_toArray, List.set_cons_zero, List.set_cons_succ]
                refine wpAnyH_ready (rs := [3]) (by kernel_rfl) (by simp) (AllReadyH.cons rfl (fun K hK => ?_) AllReadyH.nil)
                have h0 := hHeld
                clear hHeld
                try simp only [List.getElem_toArray, List.getElem_cons_succ, List.getElem_cons_zero]
                have H0 := Lib.hid h0
                clear h0
                go_simp
                go_at_call 36
                refine (mulF v (((u * (v * v * v) * p0) * i0) * ((u * (v * v * v) * p0) * i0)) _ (Fr.pg H0.out HP.out)).mono ?_
                rintro e vv ⟨rfl, hb⟩
                have h1 := H0.out.ext hb
                clear hb H0
                go_wp2_with (fail)
                refine hK.out _ _ h1 (fun hHeld => ?_)
                clear hK K h1
                try simp only [Act.put, List.getElem_toArray, List.getElem_cons_succ, List.getElem_cons_zero, List.setIfInBounds_toArray, List.set_cons_zero, List.set_cons_succ]
                refine wpAnyH_ready (rs := [5]) (by kernel_rfl) (by simp) (AllReadyH.cons rfl (fun K hK => ?_) AllReadyH.nil)
                have h0 := hHeld
                clear hHeld
                try simp only [List.getElem_toArray, List.getElem_cons_succ, List.getElem_cons_zero]
                have H0 := Lib.hid h0
                clear h0
                go_simp
                go_at_call 63
                refine (equal_no HT2.out _).mono ?_
                rintro e vv ⟨rfl, hb⟩
                have h1 := H0.out.ext hb
                clear hb H0
                go_wp2_with (fail)
                refine hK.out _ _ h1 (fun hHeld => ?_)
                clear hK K h1
                try simp only [Act.put, List.getElem_toArray, List.getElem_cons_succ, List.getElem_cons_zero, List.setIfInBounds_toArray, List.set_cons_zero, List.set_cons_succ]
                refine wpAnyH_take (i := 6) (v := ?_) rfl (by kernel_rfl) (by kernel_rfl) (by kernel_rfl) (fun _ _ _ h => h) (Or.inl ⟨by rfl, ?_⟩) hHeld ?_
                rotate_left
                · (intro W hSw; (try dsimp only at hSw); (try simp only [List.getElem_toArray, List.getElem_cons_succ, List.getElem_cons_zero]); go_simp; try with_reducible rfl)
                try simp only [Act.put, List.getElem_toArray, List.getElem_cons_succ, List.getElem_cons_zero, List.setIfInBounds_toArray, List.set_cons_zero, List.set_cons_succ]
                refine wpAnyH_done (by kernel_rfl) ?_ _
                have HF := Lib.hid hHeld
                clear hHeld
                obtain ⟨old, hold, kR⟩ := HF.out.old (g := w.heap.size + 1 + 1) (t := 27) (n := 4) (by simp)
                have kS := kR.setRow_same #[.int .u64 0, .int .u64 0, .int .u64 0, .int .u64 0]
                have hB := below_setRow HF.out.below (show w.heap.size ≤ w.heap.size + 1 + 1 by omega) #[.int .u64 0, .int .u64 0, .int .u64 0, .int .u64 0]
                have HS := Lib.hid kS
                have HB := Lib.hid hB
                have HO := Lib.hid hold
                clear kS hB hold
                go_wp2_with (first | (refine wpList_store_row rfl 27 (.tmp 4) (.tmp 43) rfl (w.heap.size + 1 + 1) #[.int .u64 0, .int .u64 0, .int .u64 0, .int .u64 0] rfl rfl 27 old kR info_elem HO.out (es_one 0) ?_))
                have hres : X = (0, false) := by
                  rw [HX.out, ← HI0.out]
                  rw [rootC_b HP0.out HT1.out HT2.out]
                rw [hres]
                exact bodyPost_ret (results_row_tmp rfl rfl rfl (show Blk _ _ _ (ev 0) from HS.out) Tryd.underlying27 rfl (info_ev _)) rfl ⟨rfl, HB.out⟩
          · have h0 := hHeld
            clear hHeld
            try simp only [List.getElem_toArray, List.getElem_cons_succ, List.getElem_cons_zero]
            have H0 := Lib.hid h0
            clear h0
            go_simp
            go_at_call 95
            refine (rootI_of HI0.out _ (Fr.pg H0.out HP.out)).mono ?_
            rintro e vv ⟨rfl, hb⟩
            have kz := KZ.out.below hb KZ.out.lt
            clear KZ
            have KZ := Lib.hid kz
            clear kz
            have h1 := H0.out.ext hb
            clear hb H0
            go_wp2_with (fail)
            refine hK.out _ _ h1 (fun hHeld => ?_)
            clear hK K h1
            try simp only [Act.put, List.getElem_toArray, List.getElem_cons_succ, List.getElem_cons_zero, List.setIfInBounds_toArray, List.set_cons_zero, List.set_cons_succ]
            refine wpAnyH_ready (rs := [0]) (by kernel_rfl) (by simp) (AllReadyH.cons rfl (fun K hK => ?_) AllReadyH.nil)
            have h0 := hHeld
            clear hHeld
            try simp only [List.getElem_toArray, List.getElem_cons_succ, List.getElem_cons_zero]
            rw [if_pos (by rfl)]
            refine wp_load_row 27 (.tmp 8) rfl (g8) rfl 27 (ev (u * (v * v * v) * p0)) (0, 0) _ KZ.out Tryd.underlying27 rfl (info_ev _) ?_
            refine hK.out _ _ h0 (fun hHeld => ?_)
            clear hK K h0
            try simp only [Act.put, List.getElem_toArray, List.getElem_cons_succ, List.getElem_cons_zero, List.setIfInBounds_toArray, List.set_cons_zero, List.set_cons_succ]
            refine wpAnyH_ready (rs := [2]) (by kernel_rfl) (by simp) (AllReadyH.cons rfl (fun K hK => ?_) AllReadyH.nil)
            have h0 := hHeld
            clear hHeld
            try simp only [List.getElem_toArray, List.getElem_cons_succ, List.getElem_cons_zero]
            have H0 := Lib.hid h0
            clear h0
            go_simp
            go_at_call 36
            refine (mulF (u * (v * v * v) * p0) i0 _ (Fr.pg H0.out HP.out)).mono ?_
            rintro e vv ⟨rfl, hb⟩
            have kz := KZ.out.below hb KZ.out.lt
            clear KZ
            have KZ := Lib.hid kz
            clear kz
            have h1 := H0.out.ext hb
            clear hb H0
            go_wp2_with (fail)
            refine hK.out _ _ h1 (fun hHeld => ?_)
            clear hK K h1
            try simp only [Act.put, List.getElem_toArray, List.getElem_cons_succ, List.getElem_cons_zero, List.setIfInBounds_toArray, List.set_cons_zero, List.set_cons_succ]
            refine wpAnyH_ready (rs := [3]) (by kernel_rfl) (by simp) (AllReadyH.cons rfl (fun K hK => ?_) AllReadyH.nil)
            have h0 := hHeld
            clear hHeld
            try simp only [List.getElem_toArray, List.getElem_cons_succ, List.getElem_cons_zero]
            rw [if_pos (by rfl)]
            refine wp_store_row 27 (.tmp 8) (.tmp 35) rfl (g8) (ev ((u * (v * v * v) * p0) * i0)) rfl rfl 27 _ KZ.out (info_ev _) ((ev_size _).trans (ev_size _).symm) (ev_one _) ?_
            refine hK.out _ _ (Fr.setOut h0 (g := g8) (by omega) (by simp <;> omega) (by simp <;> omega) _) (fun hHeld => ?_)
            have kb := KZ.out.setRow_same (ev ((u * (v * v * v) * p0) * i0))
            clear hK K h0
            try simp only [Act.put, List.getElem_toArray, List.getElem_cons_succ, List.getElem_cons_zero, List.setIfInBounds_toArray, List.set_cons_zero, List.set_cons_succ]
            refine wpAnyH_done (by kernel_rfl) ?_ _
            have hf9 := hHeld.more kb
            have HF := Lib.hid hf9
            clear hHeld hf9 kb KZ
            go_wp2_with (fail)
            by_cases ht2 : v * (((u * (v * v * v) * p0) * i0) * ((u * (v * v * v) * p0) * i0)) = u
            · as_aux_lemma =>
                have HT2 := Lib.hid ht2
                clear ht2
                refine wp_region_held_drew (S := fun W => Fr w W [(g8, 27, ev ((u * (v * v * v) * p0) * i0)), (w.heap.size + 1, 27, ev v), (w.heap.size, 27, ev u)] [(w.heap.size + 1 + 1, 27, 4)]) (by kernel_rfl) ?_ (fun hHeld => ?_)
                · exact (HF.out.sub (by simp) (by simp)).drew
                refine wpAnyH_take (i := 0) (v := .agg (ev v)) rfl (by kernel_rfl) (by kernel_rfl) (by kernel_rfl) (fun _ _ _ h => h) (yields_row (by rfl) 27 (.tmp 3) rfl (w.heap.size + 1) rfl 27 (ev v) _ (fun W (h : Fr _ W _ _) => h.get (by simp)) Tryd.underlying27 rfl (info_ev _)) hHeld ?_
                try simp only [Act.put, List.getElem_toArray, List.getElem_cons_succ, List.getElem_cons_zero, List.setIfInBounds_toArray, List.set_cons_zero, List.set_cons_succ]
                refine wpAnyH_take (i := 1) (v := .agg (ev ((u * (v * v * v) * p0) * i0))) rfl (by kernel_rfl) (by kernel_rfl) (by kernel_rfl) (fun _ _ _ h => h) (yields_row (by rfl) 27 (.tmp 8) rfl (g8) rfl 27 (ev ((u * (v * v * v) * p0) * i0)) _ (fun W (h : Fr _ W _ _) => h.get (by simp)) Tryd.underlying27 rfl (info_ev _)) hHeld ?_
                try simp only [Act.put, List.getElem_toArray, List.getElem_cons_succ, List.getElem_cons_zero, List.setIfInBounds_toArray, List.set_cons_zero, List.set_cons_succ]
                refine wpAnyH_take (i := 4) (v := .agg (ev u)) rfl (by kernel_rfl) (by kernel_rfl) (by kernel_rfl) (fun _ _ _ h => h) (yields_row (by rfl) 27 (.tmp 2) rfl (w.heap.size) rfl 27 (ev u) _ (fun W (h : Fr _ W _ _) => h.get (by simp)) Tryd.underlying27 rfl (info_ev _)) hHeld ?_
                try simp only [Act.put, List.getElem_toArray, List.getElem_cons_succ, List.getElem_cons_zero, List.setIfInBounds_toArray, List.set_cons_zero, List.set_cons_succ]
                refine wpAnyH_ready (rs := [2]) (by kernel_rfl) (by simp) (AllReadyH.cons rfl (fun K hK => ?_) AllReadyH.nil)
                have h0 := hHeld
                clear hHeld
                try simp only [List.getElem_toArray, List.getElem_cons_succ, List.getElem_cons_zero]
                have H0 := Lib.hid h0
                clear h0
                go_simp
                go_at_call 75
                refine (squareF ((u * (v * v * v) * p0) * i0) _ (Fr.pg H0.out HP.out)).mono ?_
                rintro e vv ⟨rfl, hb⟩
                have h1 := H0.out.ext hb
                clear hb H0
                go_wp2_with (fail)
                refine hK.out _ _ h1 (fun hHeld => ?_)
                clear hK K h1
                try simp only [Act.put, List.getElem_toArray, List.getElem_cons_succ, List.getElem_cons_zero, List.setIfInBounds_toArray, List.set_cons_zero, List.set_cons_succ]
                refine wpAnyH_ready (rs := [3]) (by kernel_rfl) (by simp) (AllReadyH.cons rfl (fun K hK => ?_) AllReadyH.nil)
                have h0 := hHeld
                clear hHeld
                try simp only [List.getElem_toArray, List.getElem_cons_succ, List.getElem_cons_zero]
                have H0 := Lib.hid h0
                clear h0
                go_simp
                go_at_call 36
                refine (mulF v (((u * (v * v * v) * p0) * i0) * ((u * (v * v * v) * p0) * i0)) _ (Fr.pg H0.out HP.out)).mono ?_
                rintro e vv ⟨rfl, hb⟩
                have h1 := H0.out.ext hb
                clear hb H0
                go_wp2_with (fail)
                refine hK.out _ _ h1 (fun hHeld => ?_)
                clear hK K h1
                try simp only [Act.put, List.getElem_toArray, List.getElem_cons_succ, List.getElem_cons_zero, List.setIfInBounds_toArray, List.set_cons_zero, List.set_cons_succ]
                refine wpAnyH_ready (rs := [5]) (by kernel_rfl) (by simp) (AllReadyH.cons rfl (fun K hK => ?_) AllReadyH.nil)
                have h0 := hHeld
                clear hHeld
                try simp only [List.getElem_toArray, List.getElem_cons_succ, List.getElem_cons_zero]
                have H0 := Lib.hid h0
                clear h0
                go_simp
                go_at_call 63
                refine (equal_yes HT2.out _).mono ?_
                rintro e vv ⟨rfl, hb⟩
                have h1 := H0.out.ext hb
                clear hb H0
                go_wp2_with (fail)
                refine hK.out _ _ h1 (fun hHeld => ?_)
                clear hK K h1
                try simp only [Act.put, List.getElem_toArray, List.getElem_cons_succ, List.getElem_cons_zero, List.setIfInBounds_toArray, List.set_cons_zero, List.set_cons_succ]
                refine wpAnyH_take (i := 6) (v := ?_) rfl (by kernel_rfl) (by kernel_rfl) (by kernel_rfl) (fun _ _ _ h => h) (Or.inl ⟨by rfl, ?_⟩) hHeld ?_
                rotate_left
                · (intro W hSw; (try dsimp only at hSw); (try simp only [List.getElem_toArray, List.getElem_cons_succ, List.getElem_cons_zero]); go_simp; try with_reducible rfl)
                try simp only [Act.put, List.getElem_toArray, List.getElem_cons_succ, List.getElem_cons_zero, List.setIfInBounds_toArray, List.set_cons_zero, List.set_cons_succ]
                refine wpAnyH_done (by kernel_rfl) ?_ _
                have HF := Lib.hid hHeld
                clear hHeld
                go_wp2_with (fail)
                by_cases ht3 : (((u * (v * v * v) * p0) * i0)).val % 2 = 1
                · as_aux_lemma =>
                    have HT3 := Lib.hid ht3
                    clear ht3
                    refine wp_region_held_drew (S := fun W => Fr w W [(g8, 27, ev ((u * (v * v * v) * p0) * i0)), (w.heap.size + 1, 27, ev v), (w.heap.size, 27, ev u)] [(w.heap.size + 1 + 1, 27, 4)]) (by kernel_rfl) ?_ (fun hHeld => ?_)
                    · exact (HF.out.sub (by simp) (by simp)).drew
                    refine wpAnyH_take (i := 0) (v := .agg (ev ((u * (v * v * v) * p0) * i0))) rfl (by kernel_rfl) (by kernel_rfl) (by kernel_rfl) (fun _ _ _ h => h) (yields_row (by rfl) 27 (.tmp 8) rfl (g8) rfl 27 (ev ((u * (v * v * v) * p0) * i0)) _ (fun W (h : Fr _ W _ _) => h.get (by simp)) Tryd.underlying27 rfl (info_ev _)) hHeld ?_
                    try simp only [Act.put, List.getElem_toArray, List.getElem_cons_succ, List.getElem_cons_zero, List.setIfInBounds_toArray, List.set_cons_zero, List.set_cons_succ]
                    refine wpAnyH_take (i := 1) (v := .agg (ev ((u * (v * v * v) * p0) * i0))) rfl (by kernel_rfl) (by kernel_rfl) (by kernel_rfl) (fun _ _ _ h => h) (yields_row (by rfl) 27 (.tmp 8) rfl (g8) rfl 27 (ev ((u * (v * v * v) * p0) * i0)) _ (fun W (h : Fr _ W _ _) => h.get (by simp)) Tryd.underlying27 rfl (info_ev _)) hHeld ?_
                    try simp only [Act.put, List.getElem_toArray, List.getElem_cons_succ, List.getElem_cons_zero, List.setIfInBounds_toArray, List.set_cons_zero, List.set_cons_succ]
                    refine wpAnyH_take (i := 3) (v := .agg (ev ((u * (v * v * v) * p0) * i0))) rfl (by kernel_rfl) (by kernel_rfl) (by kernel_rfl) (fun _ _ _ h => h) (yields_row (by rfl) 27 (.tmp 8) rfl (g8) rfl 27 (ev ((u * (v * v * v) * p0) * i0)) _ (fun W (h : Fr _ W _ _) => h.get (by simp)) Tryd.underlying27 rfl (info_ev _)) hHeld ?_
                    try simp only [Act.put, List.getElem_toArray, List.getElem_cons_succ, List.getElem_cons_zero, List.setIfInBounds_toArray, List.set_cons_zero, List.set_cons_succ]
                    refine wpAnyH_ready (rs := [2]) (by kernel_rfl) (by simp) (AllReadyH.cons rfl (fun K hK => ?_) AllReadyH.nil)
                    have h0 := hHeld
                    clear hHeld
                    try simp only [List.getElem_toArray, List.getElem_cons_succ, List.getElem_cons_zero]
                    have H0 := Lib.hid h0
                    clear h0
                    go_simp
                    go_at_call 47
                    refine (negF ((u * (v * v * v) * p0) * i0) _ (Fr.pg H0.out HP.out)).mono ?_
                    rintro e vv ⟨rfl, hb⟩
                    have h1 := H0.out.ext hb
                    clear hb H0
                    go_wp2_with (fail)
                    refine hK.out _ _ h1 (fun hHeld => ?_)
                    clear hK K h1
                    try simp only [Act.put, List.getElem_toArray, List.getElem_cons_succ, List.getElem_cons_zero, List.setIfInBounds_toArray, List.set_cons_zero, List.set_cons_succ]
                    refine wpAnyH_ready (rs := [4]) (by kernel_rfl) (by simp) (AllReadyH.cons rfl (fun K hK => ?_) AllReadyH.nil)
                    have h0 := hHeld
                    clear hHeld
                    try simp only [List.getElem_toArray, List.getElem_cons_succ, List.getElem_cons_zero]
                    have H0 := Lib.hid h0
                    clear h0
                    go_simp
                    go_at_call 58
                    refine (odd_yes HT3.out _).mono ?_
                    rintro e vv ⟨rfl, hb⟩
                    have h1 := H0.out.ext hb
                    clear hb H0
                    go_wp2_with (fail)
                    refine hK.out _ _ h1 (fun hHeld => ?_)
                    clear hK K h1
                    try simp only [Act.put, List.getElem_toArray, List.getElem_cons_succ, List.getElem_cons_zero, List.setIfInBounds_toArray, List.set_cons_zero, List.set_cons_succ]
                    refine wpAnyH_ready (rs := [5]) (by kernel_rfl) (by simp) (AllReadyH.cons rfl (fun K hK => ?_) AllReadyH.nil)
                    have h0 := hHeld
                    clear hHeld
                    try simp only [List.getElem_toArray, List.getElem_cons_succ, List.getElem_cons_zero]
                    have H0 := Lib.hid h0
                    clear h0
                    go_simp
                    go_at_call 46
                    refine (selF_yes ((u * (v * v * v) * p0) * i0) (-((u * (v * v * v) * p0) * i0)) _).mono ?_
                    rintro e vv ⟨rfl, hb⟩
                    have h1 := H0.out.ext hb
                    clear hb H0
                    go_wp2_with (fail)
                    refine hK.out _ _ h1 (fun hHeld => ?_)
                    clear hK K h1
                    try simp only [Act.put, List.getElem_toArray, List.getElem_cons_succ, List.getElem_cons_zero, List.setIfInBounds_toArray, List.set_cons_zero, List.set_cons_succ]
                    refine wpAnyH_ready (rs := [6]) (by kernel_rfl) (by simp) (AllReadyH.cons rfl (fun K hK => ?_) AllReadyH.nil)
                    have h0 := hHeld
                    clear hHeld
                    try simp only [List.getElem_toArray, List.getElem_cons_succ, List.getElem_cons_zero]
                    rw [if_pos (by rfl)]
                    obtain ⟨old, hold, kold⟩ := Fr.old h0 (g := w.heap.size + 1 + 1) (t := 27) (n := 4) (by simp)
                    refine wp_store_row 27 (.tmp 4) (.tmp 49) rfl (w.heap.size + 1 + 1) (ev (-((u * (v * v * v) * p0) * i0))) rfl rfl 27 old kold (info_ev _) hold (ev_one _) ?_
                    refine hK.out _ _ (Fr.setAny h0 (g := w.heap.size + 1 + 1) (t := 27) (ev_size _) (by simp) (by simp <;> omega)) (fun hHeld => ?_)
                    have kb := kold.setRow_same (ev (-((u * (v * v * v) * p0) * i0)))
                    clear hK K h0 hold
                    try simp only [Act.put, List.getElem_toArray, List.getElem_cons_succ, List.getElem_cons_zero, List.setIfInBounds_toArray, List.set_cons_zero, List.set_cons_succ]
                    refine wpAnyH_take (i := 7) (v := ?_) rfl (by kernel_rfl) (by kernel_rfl) (by kernel_rfl) (fun _ _ _ h => h) (Or.inl ⟨by rfl, ?_⟩) hHeld ?_
                    rotate_left
                    · (intro W hSw; (try dsimp only at hSw); (try simp only [List.getElem_toArray, List.getElem_cons_succ, List.getElem_cons_zero]); go_simp; try with_reducible rfl)
                    try simp only [Act.put, List.getElem_toArray, List.getElem_cons_succ, List.getElem_cons_zero, List.setIfInBounds_toArray, List.set_cons_zero, List.set_cons_succ]
                    refine wpAnyH_done (by kernel_rfl) ?_ _
                    have HG := Lib.hid hHeld
                    clear hHeld
                    go_wp2_with (fail)
                    have hres : X = ((-((u * (v * v * v) * p0) * i0)), true) := by
                      rw [HX.out, ← HI0.out]
                      rw [rootC_a HP0.out HT1.out HT2.out, evenOf_yes HT3.out]
                    rw [hres]
                    exact bodyPost_ret (results_row_tmp rfl rfl rfl kb Tryd.underlying27 rfl (info_ev _)) rfl ⟨rfl, HG.out.below⟩
                · as_aux_lemma =>
                    have HT3 := Lib.hid ht3
                    clear ht3
                    refine wp_region_held_drew (S := fun W => Fr w W [(g8, 27, ev ((u * (v * v * v) * p0) * i0)), (w.heap.size + 1, 27, ev v), (w.heap.size, 27, ev u)] [(w.heap.size + 1 + 1, 27, 4)]) (by kernel_rfl) ?_ (fun hHeld => ?_)
                    · exact (HF.out.sub (by simp) (by simp)).drew
                    refine wpAnyH_take (i := 0) (v := .agg (ev ((u * (v * v * v) * p0) * i0))) rfl (by kernel_rfl) (by kernel_rfl) (by kernel_rfl) (fun _ _ _ h => h) (yields_row (by rfl) 27 (.tmp 8) rfl (g8) rfl 27 (ev ((u * (v * v * v) * p0) * i0)) _ (fun W (h : Fr _ W _ _) => h.get (by simp)) Tryd.underlying27 rfl (info_ev _)) hHeld ?_
                    try simp only [Act.put, List.getElem_toArray, List.getElem_cons_succ, List.getElem_cons_zero, List.setIfInBounds_toArray, List.set_cons_zero, List.set_cons_succ]
                    refine wpAnyH_take (i := 1) (v := .agg (ev ((u * (v * v * v) * p0) * i0))) rfl (by kernel_rfl) (by kernel_rfl) (by kernel_rfl) (fun _ _ _ h => h) (yields_row (by rfl) 27 (.tmp 8) rfl (g8) rfl 27 (ev ((u * (v * v * v) * p0) * i0)) _ (fun W (h : Fr _ W _ _) => h.get (by simp)) Tryd.underlying27 rfl (info_ev _)) hHeld ?_
                    try simp only [Act.put, List.getElem_toArray, List.getElem_cons_succ, List.getElem_cons_zero, List.setIfInBounds_toArray, List.set_cons_zero, List.set_cons_succ]
                    refine wpAnyH_take (i := 3) (v := .agg (ev ((u * (v * v * v) * p0) * i0))) rfl (by kernel_rfl) (by kernel_rfl) (by kernel_rfl) (fun _ _ _ h => h) (yields_row (by rfl) 27 (.tmp 8) rfl (g8) rfl 27 (ev ((u * (v * v * v) * p0) * i0)) _ (fun W (h : Fr _ W _ _) => h.get (by simp)) Tryd.underlying27 rfl (info_ev _)) hHeld ?_
                    try simp only [Act.put, List.getElem_toArray, List.getElem_cons_succ, List.getElem_cons_zero, List.setIfInBounds_toArray, List.set_cons_zero, List.set_cons_succ]
                    refine wpAnyH_ready (rs := [2]) (by kernel_rfl) (by simp) (AllReadyH.cons rfl (fun K hK => ?_) AllReadyH.nil)
                    have h0 := hHeld
                    clear hHeld
                    try simp only [List.getElem_toArray, List.getElem_cons_succ, List.getElem_cons_zero]
                    have H0 := Lib.hid h0
                    clear h0
                    go_simp
                    go_at_call 47
                    refine (negF ((u * (v * v * v) * p0) * i0) _ (Fr.pg H0.out HP.out)).mono ?_
                    rintro e vv ⟨rfl, hb⟩
                    have h1 := H0.out.ext hb
                    clear hb H0
                    go_wp2_with (fail)
                    refine hK.out _ _ h1 (fun hHeld => ?_)
                    clear hK K h1
                    try simp only [Act.put, List.getElem_toArray, List.getElem_cons_succ, List.getElem_cons_zero, List.setIfInBounds_toArray, List.set_cons_zero, List.set_cons_succ]
                    refine wpAnyH_ready (rs := [4]) (by kernel_rfl) (by simp) (AllReadyH.cons rfl (fun K hK => ?_) AllReadyH.nil)
                    have h0 := hHeld
                    clear hHeld
                    try simp only [List.getElem_toArray, List.getElem_cons_succ, List.getElem_cons_zero]
                    have H0 := Lib.hid h0
                    clear h0
                    go_simp
                    go_at_call 58
                    refine (odd_no HT3.out _).mono ?_
                    rintro e vv ⟨rfl, hb⟩
                    have h1 := H0.out.ext hb
                    clear hb H0
                    go_wp2_with (fail)
                    refine hK.out _ _ h1 (fun hHeld => ?_)
                    clear hK K h1
                    try simp only [Act.put, List.getElem_toArray, List.getElem_cons_succ, List.getElem_cons_zero, List.setIfInBounds_toArray, List.set_cons_zero, List.set_cons_succ]
                    refine wpAnyH_ready (rs := [5]) (by kernel_rfl) (by simp) (AllReadyH.cons rfl (fun K hK => ?_) AllReadyH.nil)
                    have h0 := hHeld
                    clear hHeld
                    try simp only [List.getElem_toArray, List.getElem_cons_succ, List.getElem_cons_zero]
                    have H0 := Lib.hid h0
                    clear h0
                    go_simp
                    go_at_call 46
                    refine (selF_no ((u * (v * v * v) * p0) * i0) (-((u * (v * v * v) * p0) * i0)) _).mono ?_
                    rintro e vv ⟨rfl, hb⟩
                    have h1 := H0.out.ext hb
                    clear hb H0
                    go_wp2_with (fail)
                    refine hK.out _ _ h1 (fun hHeld => ?_)
                    clear hK K h1
                    try simp only [Act.put, List.getElem_toArray, List.getElem_cons_succ, List.getElem_cons_zero, List.setIfInBounds_toArray, List.set_cons_zero, List.set_cons_succ]
                    refine wpAnyH_ready (rs := [6]) (by kernel_rfl) (by simp) (AllReadyH.cons rfl (fun K hK => ?_) AllReadyH.nil)
                    have h0 := hHeld
                    clear hHeld
                    try simp only [List.getElem_toArray, List.getElem_cons_succ, List.getElem_cons_zero]
                    rw [if_pos (by rfl)]
                    obtain ⟨old, hold, kold⟩ := Fr.old h0 (g := w.heap.size + 1 + 1) (t := 27) (n := 4) (by simp)
                    refine wp_store_row 27 (.tmp 4) (.tmp 49) rfl (w.heap.size + 1 + 1) (ev ((u * (v * v * v) * p0) * i0)) rfl rfl 27 old kold (info_ev _) hold (ev_one _) ?_
                    refine hK.out _ _ (Fr.setAny h0 (g := w.heap.size + 1 + 1) (t := 27) (ev_size _) (by simp) (by simp <;> omega)) (fun hHeld => ?_)
                    have kb := kold.setRow_same (ev ((u * (v * v * v) * p0) * i0))
                    clear hK K h0 hold
                    try simp only [Act.put, List.getElem_toArray, List.getElem_cons_succ, List.getElem_cons_zero, List.setIfInBounds_toArray, List.set_cons_zero, List.set_cons_succ]
                    refine wpAnyH_take (i := 7) (v := ?_) rfl (by kernel_rfl) (by kernel_rfl) (by kernel_rfl) (fun _ _ _ h => h) (Or.inl ⟨by rfl, ?_⟩) hHeld ?_
                    rotate_left
                    · (intro W hSw; (try dsimp only at hSw); (try simp only [List.getElem_toArray, List.getElem_cons_succ, List.getElem_cons_zero]); go_simp; try with_reducible rfl)
                    try simp only [Act.put, List.getElem_toArray, List.getElem_cons_succ, List.getElem_cons_zero, List.setIfInBounds_toArray, List.set_cons_zero, List.set_cons_succ]
                    refine wpAnyH_done (by kernel_rfl) ?_ _
                    have HG := Lib.hid hHeld
                    clear hHeld
                    go_wp2_with (fail)
                    have hres : X = (((u * (v * v * v) * p0) * i0), true) := by
                      rw [HX.out, ← HI0.out]
                      rw [rootC_a HP0.out HT1.out HT2.out, evenOf_no HT3.out]
                    rw [hres]
                    exact bodyPost_ret (results_row_tmp rfl rfl rfl kb Tryd.underlying27 rfl (info_ev _)) rfl ⟨rfl, HG.out.below⟩
            · as_aux_lemma =>
                have HT2 := Lib.hid ht2
                clear ht2
                refine wp_region_held_drew (S := fun W => Fr w W [(g8, 27, ev ((u * (v * v * v) * p0) * i0)), (w.heap.size + 1, 27, ev v), (w.heap.size, 27, ev u)] [(w.heap.size + 1 + 1, 27, 4)]) (by kernel_rfl) ?_ (fun hHeld => ?_)
                · exact (HF.out.sub (by simp) (by simp)).drew
                refine wpAnyH_take (i := 0) (v := .agg (ev v)) rfl (by kernel_rfl) (by kernel_rfl) (by kernel_rfl) (fun _ _ _ h => h) (yields_row (by rfl) 27 (.tmp 3) rfl (w.heap.size + 1) rfl 27 (ev v) _ (fun W (h : Fr _ W _ _) => h.get (by simp)) Tryd.underlying27 rfl (info_ev _)) hHeld ?_
                try simp only [Act.put, List.getElem_toArray, List.getElem_cons_succ, List.getElem_cons_zero, List.setIfInBounds_toArray, List.set_cons_zero, List.set_cons_succ]
                refine wpAnyH_take (i := 1) (v := .agg (ev ((u * (v * v * v) * p0) * i0))) rfl (by kernel_rfl) (by kernel_rfl) (by kernel_rfl) (fun _ _ _ h => h) (yields_row (by rfl) 27 (.tmp 8) rfl (g8) rfl 27 (ev ((u * (v * v * v) * p0) * i0)) _ (fun W (h : Fr _ W _ _) => h.get (by simp)) Tryd.underlying27 rfl (info_ev _)) hHeld ?_
                try simp only [Act.put, List.getElem_toArray, List.getElem_cons_succ, List.getElem_cons_zero, List.setIfInBounds_toArray, List.set_cons_zero, List.set_cons_succ]
                refine wpAnyH_take (i := 4) (v := .agg (ev u)) rfl (by kernel_rfl) (by kernel_rfl) (by kernel_rfl) (fun _ _ _ h => h) (yields_row (by rfl) 27 (.tmp 2) rfl (w.heap.size) rfl 27 (ev u) _ (fun W (h : Fr _ W _ _) => h.get (by simp)) Tryd.underlying27 rfl (info_ev _)) hHeld ?_
                try simp only [Act.put, List.getElem_toArray, List.getElem_cons_succ, List.getElem_cons_zero, List.setIfInBounds_toArray, List.set_cons_zero, List.set_cons_succ]
                refine wpAnyH_ready (rs := [2]) (by kernel_rfl) (by simp) (AllReadyH.cons rfl (fun K hK => ?_) AllReadyH.nil)
                have h0 := hHeld
                clear hHeld
                try simp only [List.getElem_toArray, List.getElem_cons_succ, List.getElem_cons_zero]
                have H0 := Lib.hid h0
                clear h0
                go_simp
                go_at_call 75
                refine (squareF ((u * (v * v * v) * p0) * i0) _ (Fr.pg H0.out HP.out)).mono ?_
                rintro e vv ⟨rfl, hb⟩
                have h1 := H0.out.ext hb
                clear hb H0
                go_wp2_with (fail)
                refine hK.out _ _ h1 (fun hHeld => ?_)
                clear hK K h1
                try simp only [Act.put, List.getElem_toArray, List.getElem_cons_succ, List.getElem_cons_zero, List.setIfInBounds_toArray, List.set_cons_zero, List.set_cons_succ]
                refine wpAnyH_ready (rs := [3]) (by kernel_rfl) (by simp) (AllReadyH.cons rfl (fun K hK => ?_) AllReadyH.nil)
                have h0 := hHeld
                clear hHeld
                try simp only [List.getElem_toArray, List.getElem_cons_succ, List.getElem_cons_zero]
                have H0 := Lib.hid h0
                clear h0
                go_simp
                go_at_call 36
                refine (mulF v (((u * (v * v * v) * p0) * i0) * ((u * (v * v * v) * p0) * i0)) _ (Fr.pg H0.out HP.out)).mono ?_
                rintro e vv ⟨rfl, hb⟩
                have h1 := H0.out.ext hb
                clear hb H0
                go_wp2_with (fail)
                refine hK.out _ _ h1 (fun hHeld => ?_)
                clear hK K h1
                try simp only [Act.put, List.getElem_toArray, List.getElem_cons_succ, List.getElem_cons_zero, List.setIfInBounds_toArray, List.set_cons_zero, List.set_cons_succ]
                refine wpAnyH_ready (rs := [5]) (by kernel_rfl) (by simp) (AllReadyH.cons rfl (fun K hK => ?_) AllReadyH.nil)
                have h0 := hHeld
                clear hHeld
                try simp only [List.getElem_toArray, List.getElem_cons_succ, List.getElem_cons_zero]
                have H0 := Lib.hid h0
                clear h0
                go_simp
                go_at_call 63
                refine (equal_no HT2.out _).mono ?_
                rintro e vv ⟨rfl, hb⟩
                have h1 := H0.out.ext hb
                clear hb H0
                go_wp2_with (fail)
                refine hK.out _ _ h1 (fun hHeld => ?_)
                clear hK K h1
                try simp only [Act.put, List.getElem_toArray, List.getElem_cons_succ, List.getElem_cons_zero, List.setIfInBounds_toArray, List.set_cons_zero, List.set_cons_succ]
                refine wpAnyH_take (i := 6) (v := ?_) rfl (by kernel_rfl) (by kernel_rfl) (by kernel_rfl) (fun _ _ _ h => h) (Or.inl ⟨by rfl, ?_⟩) hHeld ?_
                rotate_left
                · (intro W hSw; (try dsimp only at hSw); (try simp only [List.getElem_toArray, List.getElem_cons_succ, List.getElem_cons_zero]); go_simp; try with_reducible rfl)
                try simp only [Act.put, List.getElem_toArray, List.getElem_cons_succ, List.getElem_cons_zero, List.setIfInBounds_toArray, List.set_cons_zero, List.set_cons_succ]
                refine wpAnyH_done (by kernel_rfl) ?_ _
                have HF := Lib.hid hHeld
                clear hHeld
                obtain ⟨old, hold, kR⟩ := HF.out.old (g := w.heap.size + 1 + 1) (t := 27) (n := 4) (by simp)
                have kS := kR.setRow_same #[.int .u64 0, .int .u64 0, .int .u64 0, .int .u64 0]
                have hB := below_setRow HF.out.below (show w.heap.size ≤ w.heap.size + 1 + 1 by omega) #[.int .u64 0, .int .u64 0, .int .u64 0, .int .u64 0]
                have HS := Lib.hid kS
                have HB := Lib.hid hB
                have HO := Lib.hid hold
                clear kS hB hold
                go_wp2_with (first | (refine wpList_store_row rfl 27 (.tmp 4) (.tmp 43) rfl (w.heap.size + 1 + 1) #[.int .u64 0, .int .u64 0, .int .u64 0, .int .u64 0] rfl rfl 27 old kR info_elem HO.out (es_one 0) ?_))
                have hres : X = (0, false) := by
                  rw [HX.out, ← HI0.out]
                  rw [rootC_b HP0.out HT1.out HT2.out]
                rw [hres]
                exact bodyPost_ret (results_row_tmp rfl rfl rfl (show Blk _ _ _ (ev 0) from HS.out) Tryd.underlying27 rfl (info_ev _)) rfl ⟨rfl, HB.out⟩
        · have HT1 := Lib.hid ht1
          clear ht1
          refine wp_region_held_drew (S := fun W => Fr w W [(g8, 27, ev (u * (v * v * v) * p0)), (w.heap.size + 1, 27, ev v), (w.heap.size, 27, ev u)] [(w.heap.size + 1 + 1, 27, 4)]) (by kernel_rfl) ?_ (fun hHeld => ?_)
          · exact (HF.out.sub (by simp) (by simp)).drew
          refine wpAnyH_take (i := 0) (v := .agg (ev v)) rfl (by kernel_rfl) (by kernel_rfl) (by kernel_rfl) (fun _ _ _ h => h) (yields_row (by rfl) 27 (.tmp 3) rfl (w.heap.size + 1) rfl 27 (ev v) _ (fun W (h : Fr _ W _ _) => h.get (by simp)) Tryd.underlying27 rfl (info_ev _)) hHeld ?_
          try simp only [Act.put, List.getElem_toArray, List.getElem_cons_succ, List.getElem_cons_zero, List.setIfInBounds_toArray, List.set_cons_zero, List.set_cons_succ]
          refine wpAnyH_take (i := 1) (v := .agg (ev (u * (v * v * v) * p0))) rfl (by kernel_rfl) (by kernel_rfl) (by kernel_rfl) (fun _ _ _ h => h) (yields_row (by rfl) 27 (.tmp 8) rfl (g8) rfl 27 (ev (u * (v * v * v) * p0)) _ (fun W (h : Fr _ W _ _) => h.get (by simp)) Tryd.underlying27 rfl (info_ev _)) hHeld ?_
          try simp only [Act.put, List.getElem_toArray, List.getElem_cons_succ, List.getElem_cons_zero, List.setIfInBounds_toArray, List.set_cons_zero, List.set_cons_succ]
          refine wpAnyH_take (i := 4) (v := .agg (ev u)) rfl (by kernel_rfl) (by kernel_rfl) (by kernel_rfl) (fun _ _ _ h => h) (yields_row (by rfl) 27 (.tmp 2) rfl (w.heap.size) rfl 27 (ev u) _ (fun W (h : Fr _ W _ _) => h.get (by simp)) Tryd.underlying27 rfl (info_ev _)) hHeld ?_
          try simp only [Act.put, List.getElem_toArray, List.getElem_cons_succ, List.getElem_cons_zero, List.setIfInBounds_toArray, List.set_cons_zero, List.set_cons_succ]
          refine wpAnyH_ready (rs := [2]) (by kernel_rfl) (by simp) (AllReadyH.cons rfl (fun K hK => ?_) AllReadyH.nil)
          have h0 := hHeld
          clear hHeld
          try simp only [List.getElem_toArray, List.getElem_cons_succ, List.getElem_cons_zero]
          have H0 := Lib.hid h0
          clear h0
          go_simp
          go_at_call 75
          refine (squareF (u * (v * v * v) * p0) _ (Fr.pg H0.out HP.out)).mono ?_
          rintro e vv ⟨rfl, hb⟩
          have h1 := H0.out.ext hb
          clear hb H0
          go_wp2_with (fail)
          refine hK.out _ _ h1 (fun hHeld => ?_)
          clear hK K h1
          try simp only [Act.put, List.getElem_toArray, List.getElem_cons_succ, List.getElem_cons_zero, List.setIfInBounds_toArray, List.set_cons_zero, List.set_cons_succ]
          refine wpAnyH_ready (rs := [3]) (by kernel_rfl) (by simp) (AllReadyH.cons rfl (fun K hK => ?_) AllReadyH.nil)
          have h0 := hHeld
          clear hHeld
          try simp only [List.getElem_toArray, List.getElem_cons_succ, List.getElem_cons_zero]
          have H0 := Lib.hid h0
          clear h0
          go_simp
          go_at_call 36
          refine (mulF v ((u * (v * v * v) * p0) * (u * (v * v * v) * p0)) _ (Fr.pg H0.out HP.out)).mono ?_
          rintro e vv ⟨rfl, hb⟩
          have h1 := H0.out.ext hb
          clear hb H0
          go_wp2_with (fail)
          refine hK.out _ _ h1 (fun hHeld => ?_)
          clear hK K h1
          try simp only [Act.put, List.getElem_toArray, List.getElem_cons_succ, List.getElem_cons_zero, List.setIfInBounds_toArray, List.set_cons_zero, List.set_cons_succ]
          refine wpAnyH_ready (rs := [5]) (by kernel_rfl) (by simp) (AllReadyH.cons rfl (fun K hK => ?_) AllReadyH.nil)
          have h0 := hHeld
          clear hHeld
          try simp only [List.getElem_toArray, List.getElem_cons_succ, List.getElem_cons_zero]
          have H0 := Lib.hid h0
          clear h0
          go_simp
          go_at_call 47
          refine (negF u _ (Fr.pg H0.out HP.out)).mono ?_
          rintro e vv ⟨rfl, hb⟩
          have h1 := H0.out.ext hb
          clear hb H0
          go_wp2_with (fail)
          refine hK.out _ _ h1 (fun hHeld => ?_)
          clear hK K h1
          try simp only [Act.put, List.getElem_toArray, List.getElem_cons_succ, List.getElem_cons_zero, List.setIfInBounds_toArray, List.set_cons_zero, List.set_cons_succ]
          refine wpAnyH_ready (rs := [6]) (by kernel_rfl) (by simp) (AllReadyH.cons rfl (fun K hK => ?_) AllReadyH.nil)
          have h0 := hHeld
          clear hHeld
          try simp only [List.getElem_toArray, List.getElem_cons_succ, List.getElem_cons_zero]
          have H0 := Lib.hid h0
          clear h0
          go_simp
          go_at_call 63
          refine (equal_no HT1.out _).mono ?_
          rintro e vv ⟨rfl, hb⟩
          have h1 := H0.out.ext hb
          clear hb H0
          go_wp2_with (fail)
          refine hK.out _ _ h1 (fun hHeld => ?_)
          clear hK K h1
          try simp only [Act.put, List.getElem_toArray, List.getElem_cons_succ, List.getElem_cons_zero, List.setIfInBounds_toArray, List.set_cons_zero, List.set_cons_succ]
          refine wpAnyH_done (by kernel_rfl) ?_ _
          have HF := Lib.hid hHeld
          clear hHeld
          go_wp2_with (fail)
          by_cases ht2 : v * ((u * (v * v * v) * p0) * (u * (v * v * v) * p0)) = u
          · as_aux_lemma =>
              have HT2 := Lib.hid ht2
              clear ht2
              refine wp_region_held_drew (S := fun W => Fr w W [(g8, 27, ev (u * (v * v * v) * p0)), (w.heap.size + 1, 27, ev v), (w.heap.size, 27, ev u)] [(w.heap.size + 1 + 1, 27, 4)]) (by kernel_rfl) ?_ (fun hHeld => ?_)
              · exact (HF.out.sub (by simp) (by simp)).drew
              refine wpAnyH_take (i := 0) (v := .agg (ev v)) rfl (by kernel_rfl) (by kernel_rfl) (by kernel_rfl) (fun _ _ _ h => h) (yields_row (by rfl) 27 (.tmp 3) rfl (w.heap.size + 1) rfl 27 (ev v) _ (fun W (h : Fr _ W _ _) => h.get (by simp)) Tryd.underlying27 rfl (info_ev _)) hHeld ?_
              try simp only [Act.put, List.getElem_toArray, List.getElem_cons_succ, List.getElem_cons_zero, List.setIfInBounds_toArray, List.set_cons_zero, List.set_cons_succ]
              refine wpAnyH_take (i := 1) (v := .agg (ev (u * (v * v * v) * p0))) rfl (by kernel_rfl) (by kernel_rfl) (by kernel_rfl) (fun _ _ _ h => h) (yields_row (by rfl) 27 (.tmp 8) rfl (g8) rfl 27 (ev (u * (v * v * v) * p0)) _ (fun W (h : Fr _ W _ _) => h.get (by simp)) Tryd.underlying27 rfl (info_ev _)) hHeld ?_
              try simp only [Act.put, List.getElem_toArray, List.getElem_cons_succ, List.getElem_cons_zero, List.setIfInBounds_toArray, List.set_cons_zero, List.set_cons_succ]
              refine wpAnyH_take (i := 4) (v := .agg (ev u)) rfl (by kernel_rfl) (by kernel_rfl) (by kernel_rfl) (fun _ _ _ h => h) (yields_row (by rfl) 27 (.tmp 2) rfl (w.heap.size) rfl 27 (ev u) _ (fun W (h : Fr _ W _ _) => h.get (by simp)) Tryd.underlying27 rfl (info_ev _)) hHeld ?_
              try simp only [Act.put, List.getElem_toArray, List.getElem_cons_succ, List.getElem_cons_zero, List.setIfInBounds_toArray, List.set_cons_zero, List.set_cons_succ]
              refine wpAnyH_ready (rs := [2]) (by kernel_rfl) (by simp) (AllReadyH.cons rfl (fun K hK => ?_) AllReadyH.nil)
              have h0 := hHeld
              clear hHeld
              try simp only [List.getElem_toArray, List.getElem_cons_succ, List.getElem_cons_zero]
              have H0 := Lib.hid h0
              clear h0
              go_simp
              go_at_call 75
              refine (squareF (u * (v * v * v) * p0) _ (Fr.pg H0.out HP.out)).mono ?_
              rintro e vv ⟨rfl, hb⟩
              have h1 := H0.out.ext hb
              clear hb H0
              go_wp2_with (fail)
              refine hK.out _ _ h1 (fun hHeld => ?_)
              clear hK K h1
              try simp only [Act.put, List.getElem_toArray, List.getElem_cons_succ, List.getElem_cons_zero, List.setIfInBounds_toArray, List.set_cons_zero, List.set_cons_succ]
              refine wpAnyH_ready (rs := [3]) (by kernel_rfl) (by simp) (AllReadyH.cons rfl (fun K hK => ?_) AllReadyH.nil)
              have h0 := hHeld
              clear hHeld
              try simp only [List.getElem_toArray, List.getElem_cons_succ, List.getElem_cons_zero]
              have H0 := Lib.hid h0
              clear h0
              go_simp
              go_at_call 36
              refine (mulF v ((u * (v * v * v) * p0) * (u * (v * v * v) * p0)) _ (Fr.pg H0.out HP.out)).mono ?_
              rintro e vv ⟨rfl, hb⟩
              have h1 := H0.out.ext hb
              clear hb H0
              go_wp2_with (fail)
              refine hK.out _ _ h1 (fun hHeld => ?_)
              clear hK K h1
              try simp only [Act.put, List.getElem_toArray, List.getElem_cons_succ, List.getElem_cons_zero, List.setIfInBounds_toArray, List.set_cons_zero, List.set_cons_succ]
              refine wpAnyH_ready (rs := [5]) (by kernel_rfl) (by simp) (AllReadyH.cons rfl (fun K hK => ?_) AllReadyH.nil)
              have h0 := hHeld
              clear hHeld
              try simp only [List.getElem_toArray, List.getElem_cons_succ, List.getElem_cons_zero]
              have H0 := Lib.hid h0
              clear h0
              go_simp
              go_at_call 63
              refine (equal_yes HT2.out _).mono ?_
              rintro e vv ⟨rfl, hb⟩
              have h1 := H0.out.ext hb
              clear hb H0
              go_wp2_with (fail)
              refine hK.out _ _ h1 (fun hHeld => ?_)
              clear hK K h1
              try simp only [Act.put, List.getElem_toArray, List.getElem_cons_succ, List.getElem_cons_zero, List.setIfInBounds_toArray, List.set_cons_zero, List.set_cons_succ]
              refine wpAnyH_take (i := 6) (v := ?_) rfl (by kernel_rfl) (by kernel_rfl) (by kernel_rfl) (fun _ _ _ h => h) (Or.inl ⟨by rfl, ?_⟩) hHeld ?_
              rotate_left
              · (intro W hSw; (try dsimp only at hSw); (try simp only [List.getElem_toArray, List.getElem_cons_succ, List.getElem_cons_zero]); go_simp; try with_reducible rfl)
              try simp only [Act.put, List.getElem_toArray, List.getElem_cons_succ, List.getElem_cons_zero, List.setIfInBounds_toArray, List.set_cons_zero, List.set_cons_succ]
              refine wpAnyH_done (by kernel_rfl) ?_ _
              have HF := Lib.hid hHeld
              clear hHeld
              go_wp2_with (fail)
              by_cases ht3 : ((u * (v * v * v) * p0)).val % 2 = 1
              · as_aux_lemma =>
                  have HT3 := Lib.hid ht3
                  clear ht3
                  refine wp_region_held_drew (S := fun W => Fr w W [(g8, 27, ev (u * (v * v * v) * p0)), (w.heap.size + 1, 27, ev v), (w.heap.size, 27, ev u)] [(w.heap.size + 1 + 1, 27, 4)]) (by kernel_rfl) ?_ (fun hHeld => ?_)
                  · exact (HF.out.sub (by simp) (by simp)).drew
                  refine wpAnyH_take (i := 0) (v := .agg (ev (u * (v * v * v) * p0))) rfl (by kernel_rfl) (by kernel_rfl) (by kernel_rfl) (fun _ _ _ h => h) (yields_row (by rfl) 27 (.tmp 8) rfl (g8) rfl 27 (ev (u * (v * v * v) * p0)) _ (fun W (h : Fr _ W _ _) => h.get (by simp)) Tryd.underlying27 rfl (info_ev _)) hHeld ?_
                  try simp only [Act.put, List.getElem_toArray, List.getElem_cons_succ, List.getElem_cons_zero, List.setIfInBounds_toArray, List.set_cons_zero, List.set_cons_succ]
                  refine wpAnyH_take (i := 1) (v := .agg (ev (u * (v * v * v) * p0))) rfl (by kernel_rfl) (by kernel_rfl) (by kernel_rfl) (fun _ _ _ h => h) (yields_row (by rfl) 27 (.tmp 8) rfl (g8) rfl 27 (ev (u * (v * v * v) * p0)) _ (fun W (h : Fr _ W _ _) => h.get (by simp)) Tryd.underlying27 rfl (info_ev _)) hHeld ?_
                  try simp only [Act.put, List.getElem_toArray, List.getElem_cons_succ, List.getElem_cons_zero, List.setIfInBounds_toArray, List.set_cons_zero, List.set_cons_succ]
                  refine wpAnyH_take (i := 3) (v := .agg (ev (u * (v * v * v) * p0))) rfl (by kernel_rfl) (by kernel_rfl) (by kernel_rfl) (fun _ _ _ h => h) (yields_row (by rfl) 27 (.tmp 8) rfl (g8) rfl 27 (ev (u * (v * v * v) * p0)) _ (fun W (h : Fr _ W _ _) => h.get (by simp)) Tryd.underlying27 rfl (info_ev _)) hHeld ?_
                  try simp only [Act.put, List.getElem_toArray, List.getElem_cons_succ, List.getElem_cons_zero, List.setIfInBounds_toArray, List.set_cons_zero, List.set_cons_succ]
                  refine wpAnyH_ready (rs := [2]) (by kernel_rfl) (by simp) (AllReadyH.cons rfl (fun K hK => ?_) AllReadyH.nil)
                  have h0 := hHeld
                  clear hHeld
                  try simp only [List.getElem_toArray, List.getElem_cons_succ, List.getElem_cons_zero]
                  have H0 := Lib.hid h0
                  clear h0
                  go_simp
                  go_at_call 47
                  refine (negF (u * (v * v * v) * p0) _ (Fr.pg H0.out HP.out)).mono ?_
                  rintro e vv ⟨rfl, hb⟩
                  have h1 := H0.out.ext hb
                  clear hb H0
                  go_wp2_with (fail)
                  refine hK.out _ _ h1 (fun hHeld => ?_)
                  clear hK K h1
                  try simp only [Act.put, List.getElem_toArray, List.getElem_cons_succ, List.getElem_cons_zero, List.setIfInBounds_toArray, List.set_cons_zero, List.set_cons_succ]
                  refine wpAnyH_ready (rs := [4]) (by kernel_rfl) (by simp) (AllReadyH.cons rfl (fun K hK => ?_) AllReadyH.nil)
                  have h0 := hHeld
                  clear hHeld
                  try simp only [List.getElem_toArray, List.getElem_cons_succ, List.getElem_cons_zero]
                  have H0 := Lib.hid h0
                  clear h0
                  go_simp
                  go_at_call 58
                  refine (odd_yes HT3.out _).mono ?_
                  rintro e vv ⟨rfl, hb⟩
                  have h1 := H0.out.ext hb
                  clear hb H0
                  go_wp2_with (fail)
                  refine hK.out _ _ h1 (fun hHeld => ?_)
                  clear hK K h1
                  try simp only [Act.put, List.getElem_toArray, List.getElem_cons_succ, List.getElem_cons_zero, List.setIfInBounds_toArray, List.set_cons_zero, List.set_cons_succ]
                  refine wpAnyH_ready (rs := [5]) (by kernel_rfl) (by simp) (AllReadyH.cons rfl (fun K hK => ?_) AllReadyH.nil)
                  have h0 := hHeld
                  clear hHeld
                  try simp only [List.getElem_toArray, List.getElem_cons_succ, List.getElem_cons_zero]
                  have H0 := Lib.hid h0
                  clear h0
                  go_simp
                  go_at_call 46
                  refine (selF_yes (u * (v * v * v) * p0) (-(u * (v * v * v) * p0)) _).mono ?_
                  rintro e vv ⟨rfl, hb⟩
                  have h1 := H0.out.ext hb
                  clear hb H0
                  go_wp2_with (fail)
                  refine hK.out _ _ h1 (fun hHeld => ?_)
                  clear hK K h1
                  try simp only [Act.put, List.getElem_toArray, List.getElem_cons_succ, List.getElem_cons_zero, List.setIfInBounds_toArray, List.set_cons_zero, List.set_cons_succ]
                  refine wpAnyH_ready (rs := [6]) (by kernel_rfl) (by simp) (AllReadyH.cons rfl (fun K hK => ?_) AllReadyH.nil)
                  have h0 := hHeld
                  clear hHeld
                  try simp only [List.getElem_toArray, List.getElem_cons_succ, List.getElem_cons_zero]
                  rw [if_pos (by rfl)]
                  obtain ⟨old, hold, kold⟩ := Fr.old h0 (g := w.heap.size + 1 + 1) (t := 27) (n := 4) (by simp)
                  refine wp_store_row 27 (.tmp 4) (.tmp 49) rfl (w.heap.size + 1 + 1) (ev (-(u * (v * v * v) * p0))) rfl rfl 27 old kold (info_ev _) hold (ev_one _) ?_
                  refine hK.out _ _ (Fr.setAny h0 (g := w.heap.size + 1 + 1) (t := 27) (ev_size _) (by simp) (by simp <;> omega)) (fun hHeld => ?_)
                  have kb := kold.setRow_same (ev (-(u * (v * v * v) * p0)))
                  clear hK K h0 hold
                  try simp only [Act.put, List.getElem_toArray, List.getElem_cons_succ, List.getElem_cons_zero, List.setIfInBounds_toArray, List.set_cons_zero, List.set_cons_succ]
                  refine wpAnyH_take (i := 7) (v := ?_) rfl (by kernel_rfl) (by kernel_rfl) (by kernel_rfl) (fun _ _ _ h => h) (Or.inl ⟨by rfl, ?_⟩) hHeld ?_
                  rotate_left
                  · (intro W hSw; (try dsimp only at hSw); (try simp only [List.getElem_toArray, List.getElem_cons_succ, List.getElem_cons_zero]); go_simp; try with_reducible rfl)
                  try simp only [Act.put, List.getElem_toArray, List.getElem_cons_succ, List.getElem_cons_zero, List.setIfInBounds_toArray, List.set_cons_zero, List.set_cons_succ]
                  refine wpAnyH_done (by kernel_rfl) ?_ _
                  have HG := Lib.hid hHeld
                  clear hHeld
                  go_wp2_with (fail)
                  have hres : X = ((-(u * (v * v * v) * p0)), true) := by
                    rw [HX.out, ← HI0.out]
                    rw [rootC_c HP0.out HT1.out HT2.out, evenOf_yes HT3.out]
                  rw [hres]
                  exact bodyPost_ret (results_row_tmp rfl rfl rfl kb Tryd.underlying27 rfl (info_ev _)) rfl ⟨rfl, HG.out.below⟩
              · as_aux_lemma =>
                  have HT3 := Lib.hid ht3
                  clear ht3
                  refine wp_region_held_drew (S := fun W => Fr w W [(g8, 27, ev (u * (v * v * v) * p0)), (w.heap.size + 1, 27, ev v), (w.heap.size, 27, ev u)] [(w.heap.size + 1 + 1, 27, 4)]) (by kernel_rfl) ?_ (fun hHeld => ?_)
                  · exact (HF.out.sub (by simp) (by simp)).drew
                  refine wpAnyH_take (i := 0) (v := .agg (ev (u * (v * v * v) * p0))) rfl (by kernel_rfl) (by kernel_rfl) (by kernel_rfl) (fun _ _ _ h => h) (yields_row (by rfl) 27 (.tmp 8) rfl (g8) rfl 27 (ev (u * (v * v * v) * p0)) _ (fun W (h : Fr _ W _ _) => h.get (by simp)) Tryd.underlying27 rfl (info_ev _)) hHeld ?_
                  try simp only [Act.put, List.getElem_toArray, List.getElem_cons_succ, List.getElem_cons_zero, List.setIfInBounds_toArray, List.set_cons_zero, List.set_cons_succ]
                  refine wpAnyH_take (i := 1) (v := .agg (ev (u * (v * v * v) * p0))) rfl (by kernel_rfl) (by kernel_rfl) (by kernel_rfl) (fun _ _ _ h => h) (yields_row (by rfl) 27 (.tmp 8) rfl (g8) rfl 27 (ev (u * (v * v * v) * p0)) _ (fun W (h : Fr _ W _ _) => h.get (by simp)) Tryd.underlying27 rfl (info_ev _)) hHeld ?_
                  try simp only [Act.put, List.getElem_toArray, List.getElem_cons_succ, List.getElem_cons_zero, List.setIfInBounds_toArray, List.set_cons_zero, List.set_cons_succ]
                  refine wpAnyH_take (i := 3) (v := .agg (ev (u * (v * v * v) * p0))) rfl (by kernel_rfl) (by kernel_rfl) (by kernel_rfl) (fun _ _ _ h => h) (yields_row (by rfl) 27 (.tmp 8) rfl (g8) rfl 27 (ev (u * (v * v * v) * p0)) _ (fun W (h : Fr _ W _ _) => h.get (by simp)) Tryd.underlying27 rfl (info_ev _)) hHeld ?_
                  try simp only [Act.put, List.getElem_toArray, List.getElem_cons_succ, List.getElem_cons_zero, List.setIfInBounds_toArray, List.set_cons_zero, List.set_cons_succ]
                  refine wpAnyH_ready (rs := [2]) (by kernel_rfl) (by simp) (AllReadyH.cons rfl (fun K hK => ?_) AllReadyH.nil)
                  have h0 := hHeld
                  clear hHeld
                  try simp only [List.getElem_toArray, List.getElem_cons_succ, List.getElem_cons_zero]
                  have H0 := Lib.hid h0
                  clear h0
                  go_simp
                  go_at_call 47
                  refine (negF (u * (v * v * v) * p0) _ (Fr.pg H0.out HP.out)).mono ?_
                  rintro e vv ⟨rfl, hb⟩
                  have h1 := H0.out.ext hb
                  clear hb H0
                  go_wp2_with (fail)
                  refine hK.out _ _ h1 (fun hHeld => ?_)
                  clear hK K h1
                  try simp only [Act.put, List.getElem_toArray, List.getElem_cons_succ, List.getElem_cons_zero, List.setIfInBounds_toArray, List.set_cons_zero, List.set_cons_succ]
                  refine wpAnyH_ready (rs := [4]) (by kernel_rfl) (by simp) (AllReadyH.cons rfl (fun K hK => ?_) AllReadyH.nil)
                  have h0 := hHeld
                  clear hHeld
                  try simp only [List.getElem_toArray, List.getElem_cons_succ, List.getElem_cons_zero]
                  have H0 := Lib.hid h0
                  clear h0
                  go_simp
                  go_at_call 58
                  refine (odd_no HT3.out _).mono ?_
                  rintro e vv ⟨rfl, hb⟩
                  have h1 := H0.out.ext hb
                  clear hb H0
                  go_wp2_with (fail)
                  refine hK.out _ _ h1 (fun hHeld => ?_)
                  clear hK K h1
                  try simp only [Act.put, List.getElem_toArray, List.getElem_cons_succ, List.getElem_cons_zero, List.setIfInBounds_toArray, List.set_cons_zero, List.set_cons_succ]
                  refine wpAnyH_ready (rs := [5]) (by kernel_rfl) (by simp) (AllReadyH.cons rfl (fun K hK => ?_) AllReadyH.nil)
                  have h0 := hHeld
                  clear hHeld
                  try simp only [List.getElem_toArray, List.getElem_cons_succ, List.getElem_cons_zero]
                  have H0 := Lib.hid h0
                  clear h0
                  go_simp
                  go_at_call 46
                  refine (selF_no (u * (v * v * v) * p0) (-(u * (v * v * v) * p0)) _).mono ?_
                  rintro e vv ⟨rfl, hb⟩
                  have h1 := H0.out.ext hb
                  clear hb H0
                  go_wp2_with (fail)
                  refine hK.out _ _ h1 (fun hHeld => ?_)
                  clear hK K h1
                  try simp only [Act.put, List.getElem_toArray, List.getElem_cons_succ, List.getElem_cons_zero, List.setIfInBounds_toArray, List.set_cons_zero, List.set_cons_succ]
                  refine wpAnyH_ready (rs := [6]) (by kernel_rfl) (by simp) (AllReadyH.cons rfl (fun K hK => ?_) AllReadyH.nil)
                  have h0 := hHeld
                  clear hHeld
                  try simp only [List.getElem_toArray, List.getElem_cons_succ, List.getElem_cons_zero]
                  rw [if_pos (by rfl)]
                  obtain ⟨old, hold, kold⟩ := Fr.old h0 (g := w.heap.size + 1 + 1) (t := 27) (n := 4) (by simp)
                  refine wp_store_row 27 (.tmp 4) (.tmp 49) rfl (w.heap.size + 1 + 1) (ev (u * (v * v * v) * p0)) rfl rfl 27 old kold (info_ev _) hold (ev_one _) ?_
                  refine hK.out _ _ (Fr.setAny h0 (g := w.heap.size + 1 + 1) (t := 27) (ev_size _) (by simp) (by simp <;> omega)) (fun hHeld => ?_)
                  have kb := kold.setRow_same (ev (u * (v * v * v) * p0))
                  clear hK K h0 hold
                  try simp only [Act.put, List.getElem_toArray, List.getElem_cons_succ, List.getElem_cons_zero, List.setIfInBounds_toArray, List.set_cons_zero, List.set_cons_succ]
                  refine wpAnyH_take (i := 7) (v := ?_) rfl (by kernel_rfl) (by kernel_rfl) (by kernel_rfl) (fun _ _ _ h => h) (Or.inl ⟨by rfl, ?_⟩) hHeld ?_
                  rotate_left
                  · (intro W hSw; (try dsimp only at hSw); (try simp only [List.getElem_toArray, List.getElem_cons_succ, List.getElem_cons_zero]); go_simp; try with_reducible rfl)
                  try simp only [Act.put, List.getElem_toArray, List.getElem_cons_succ, List.getElem_cons_zero, List.setIfInBounds_toArray, List.set_cons_zero, List.set_cons_succ]
                  refine wpAnyH_done (by kernel_rfl) ?_ _
                  have HG := Lib.hid hHeld
                  clear hHeld
                  go_wp2_with (fail)
                  have hres : X = ((u * (v * v * v) * p0), true) := by
                    rw [HX.out, ← HI0.out]
                    rw [rootC_c HP0.out HT1.out HT2.out, evenOf_no HT3.out]
                  rw [hres]
                  exact bodyPost_ret (results_row_tmp rfl rfl rfl kb Tryd.underlying27 rfl (info_ev _)) rfl ⟨rfl, HG.out.below⟩
          · as_aux_lemma =>
              have HT2 := Lib.hid ht2
              clear ht2
              refine wp_region_held_drew (S := fun W => Fr w W [(g8, 27, ev (u * (v * v * v) * p0)), (w.heap.size + 1, 27, ev v), (w.heap.size, 27, ev u)] [(w.heap.size + 1 + 1, 27, 4)]) (by kernel_rfl) ?_ (fun hHeld => ?_)
              · exact (HF.out.sub (by simp) (by simp)).drew
              refine wpAnyH_take (i := 0) (v := .agg (ev v)) rfl (by kernel_rfl) (by kernel_rfl) (by kernel_rfl) (fun _ _ _ h => h) (yields_row (by rfl) 27 (.tmp 3) rfl (w.heap.size + 1) rfl 27 (ev v) _ (fun W (h : Fr _ W _ _) => h.get (by simp)) Tryd.underlying27 rfl (info_ev _)) hHeld ?_
              try simp only [Act.put, List.getElem_toArray, List.getElem_cons_succ, List.getElem_cons_zero, List.setIfInBounds_toArray, List.set_cons_zero, List.set_cons_succ]
              refine wpAnyH_take (i := 1) (v := .agg (ev (u * (v * v * v) * p0))) rfl (by kernel_rfl) (by kernel_rfl) (by kernel_rfl) (fun _ _ _ h => h) (yields_row (by rfl) 27 (.tmp 8) rfl (g8) rfl 27 (ev (u * (v * v * v) * p0)) _ (fun W (h : Fr _ W _ _) => h.get (by simp)) Tryd.underlying27 rfl (info_ev _)) hHeld ?_
              try simp only [Act.put, List.getElem_toArray, List.getElem_cons_succ, List.getElem_cons_zero, List.setIfInBounds_toArray, List.set_cons_zero, List.set_cons_succ]
              refine wpAnyH_take (i := 4) (v := .agg (ev u)) rfl (by kernel_rfl) (by kernel_rfl) (by kernel_rfl) (fun _ _ _ h => h) (yields_row (by rfl) 27 (.tmp 2) rfl (w.heap.size) rfl 27 (ev u) _ (fun W (h : Fr _ W _ _) => h.get (by simp)) Tryd.underlying27 rfl (info_ev _)) hHeld ?_
              try simp only [Act.put, List.getElem_toArray, List.getElem_cons_succ, List.getElem_cons_zero, List.setIfInBounds_toArray, List.set_cons_zero, List.set_cons_succ]
              refine wpAnyH_ready (rs := [2]) (by kernel_rfl) (by simp) (AllReadyH.cons rfl (fun K hK => ?_) AllReadyH.nil)
              have h0 := hHeld
              clear hHeld
              try simp only [List.getElem_toArray, List.getElem_cons_succ, List.getElem_cons_zero]
              have H0 := Lib.hid h0
              clear h0
              go_simp
              go_at_call 75
              refine (squareF (u * (v * v * v) * p0) _ (Fr.pg H0.out HP.out)).mono ?_
              rintro e vv ⟨rfl, hb⟩
              have h1 := H0.out.ext hb
              clear hb H0
              go_wp2_with (fail)
              refine hK.out _ _ h1 (fun hHeld => ?_)
              clear hK K h1
              try simp only [Act.put, List.getElem_toArray, List.getElem_cons_succ, List.getElem_cons_zero, List.setIfInBounds_toArray, List.set_cons_zero, List.set_cons_succ]
              refine wpAnyH_ready (rs := [3]) (by kernel_rfl) (by simp) (AllReadyH.cons rfl (fun K hK => ?_) AllReadyH.nil)
              have h0 := hHeld
              clear hHeld
              try simp only [List.getElem_toArray, List.getElem_cons_succ, List.getElem_cons_zero]
              have H0 := Lib.hid h0
              clear h0
              go_simp
              go_at_call 36
              refine (mulF v ((u * (v * v * v) * p0) * (u * (v * v * v) * p0)) _ (Fr.pg H0.out HP.out)).mono ?_
              rintro e vv ⟨rfl, hb⟩
              have h1 := H0.out.ext hb
              clear hb H0
              go_wp2_with (fail)
              refine hK.out _ _ h1 (fun hHeld => ?_)
              clear hK K h1
              try simp only [Act.put, List.getElem_toArray, List.getElem_cons_succ, List.getElem_cons_zero, List.setIfInBounds_toArray, List.set_cons_zero, List.set_cons_succ]
              refine wpAnyH_ready (rs := [5]) (by kernel_rfl) (by simp) (AllReadyH.cons rfl (fun K hK => ?_) AllReadyH.nil)
              have h0 := hHeld
              clear hHeld
              try simp only [List.getElem_toArray, List.getElem_cons_succ, List.getElem_cons_zero]
              have H0 := Lib.hid h0
              clear h0
              go_simp
              go_at_call 63
              refine (equal_no HT2.out _).mono ?_
              rintro e vv ⟨rfl, hb⟩
              have h1 := H0.out.ext hb
              clear hb H0
              go_wp2_with (fail)
              refine hK.out _ _ h1 (fun hHeld => ?_)
              clear hK K h1
              try simp only [Act.put, List.getElem_toArray, List.getElem_cons_succ, List.getElem_cons_zero, List.setIfInBounds_toArray, List.set_cons_zero, List.set_cons_succ]
              refine wpAnyH_take (i := 6) (v := ?_) rfl (by kernel_rfl) (by kernel_rfl) (by kernel_rfl) (fun _ _ _ h => h) (Or.inl ⟨by rfl, ?_⟩) hHeld ?_
              rotate_left
              · (intro W hSw; (try dsimp only at hSw); (try simp only [List.getElem_toArray, List.getElem_cons_succ, List.getElem_cons_zero]); go_simp; try with_reducible rfl)
              try simp only [Act.put, List.getElem_toArray, List.getElem_cons_succ, List.getElem_cons_zero, List.setIfInBounds_toArray, List.set_cons_zero, List.set_cons_succ]
              refine wpAnyH_done (by kernel_rfl) ?_ _
              have HF := Lib.hid hHeld
              clear hHeld
              obtain ⟨old, hold, kR⟩ := HF.out.old (g := w.heap.size + 1 + 1) (t := 27) (n := 4) (by simp)
              have kS := kR.setRow_same #[.int .u64 0, .int .u64 0, .int .u64 0, .int .u64 0]
              have hB := below_setRow HF.out.below (show w.heap.size ≤ w.heap.size + 1 + 1 by omega) #[.int .u64 0, .int .u64 0, .int .u64 0, .int .u64 0]
              have HS := Lib.hid kS
              have HB := Lib.hid hB
              have HO := Lib.hid hold
              clear kS hB hold
              go_wp2_with (first | (refine wpList_store_row rfl 27 (.tmp 4) (.tmp 43) rfl (w.heap.size + 1 + 1) #[.int .u64 0, .int .u64 0, .int .u64 0, .int .u64 0] rfl rfl 27 old kR info_elem HO.out (es_one 0) ?_))
              have hres : X = (0, false) := by
                rw [HX.out, ← HI0.out]
                rw [rootC_d HP0.out HT1.out HT2.out]
              rw [hres]
              exact bodyPost_ret (results_row_tmp rfl rfl rfl (show Blk _ _ _ (ev 0) from HS.out) Tryd.underlying27 rfl (info_ev _)) rfl ⟨rfl, HB.out⟩
end Go.Proofs.YtcijaoihcckofaaDoor
namespace Go.Proofs.YtcijaoihcckofaaDoor
set_option linter.unusedVariables false
set_option linter.unusedSimpArgs false
set_option maxRecDepth 100000
open Go.RowKit
theorem rootB {u v r : Fin PP} {b : Bool} (h : (r, b) = rootC EE II u v) (w : World) (hp : PG w) : Calls Tryd.prog 76 #[.agg (ev u), .agg (ev v)] w fun e w' => e = .returned (.tuple #[.agg (ev r), .bool b]) ∧ Below w.heap.size w w' := by
  have h2 := rootX u v w hp
  rw [← h] at h2
  exact h2
end Go.Proofs.YtcijaoihcckofaaDoor
namespace Go.Proofs.YtcijaoihcckofaaDoor
set_option linter.unusedVariables false
set_option linter.unusedSimpArgs false
set_option maxRecDepth 100000
open Go Go.RowKit
theorem al_elem (W : World) : (Instr.alloc 27 true (.tuple #[])).run Tryd.prog W = .ok (.pointer (some ⟨W.heap.size, 0, none⟩)) (W.alloc (.cells #[.int .u64 0, .int .u64 0, .int .u64 0, .int .u64 0] 27)) := by kernel_rfl
theorem bx_elem (x : Fin PP) (W : World) : (Instr.box 27 (.agg (ev x))).run Tryd.prog W = .ok (.pointer (some ⟨W.heap.size, 0, none⟩)) (W.alloc (.cells (ev x) 27)) := by kernel_rfl
theorem al_pt (W : World) : (Instr.alloc 29 true (.tuple #[])).run Tryd.prog W = .ok (.pointer (some ⟨W.heap.size, 0, none⟩)) (W.alloc (.cells #[.int .u64 0, .int .u64 0, .int .u64 0, .int .u64 0, .int .u64 0, .int .u64 0, .int .u64 0, .int .u64 0, .int .u64 0, .int .u64 0, .int .u64 0, .int .u64 0, .int .u64 0, .int .u64 0, .int .u64 0, .int .u64 0] 29)) := by kernel_rfl
theorem bx_pt (s : L4 PP) (W : World) : (Instr.box 29 (.agg (sv s))).run Tryd.prog W = .ok (.pointer (some ⟨W.heap.size, 0, none⟩)) (W.alloc (.cells (sv s) 29)) := by kernel_rfl
theorem info_pt (s : L4 PP) : (Tryd.prog.info? 29).map (·.size) = some (sv s).size := by rw [sv_size]; kernel_rfl
theorem fa_pt (g : Nat) (W : World) : (Instr.fieldAt 29 (.pointer (some ⟨g, 0, none⟩)) 0).run Tryd.prog W = .ok (.pointer (some ⟨g, 4 * 0, none⟩)) W ∧ (Instr.fieldAt 29 (.pointer (some ⟨g, 0, none⟩)) 1).run Tryd.prog W = .ok (.pointer (some ⟨g, 4 * 1, none⟩)) W ∧ (Instr.fieldAt 29 (.pointer (some ⟨g, 0, none⟩)) 2).run Tryd.prog W = .ok (.pointer (some ⟨g, 4 * 2, none⟩)) W ∧ (Instr.fieldAt 29 (.pointer (some ⟨g, 0, none⟩)) 3).run Tryd.prog W = .ok (.pointer (some ⟨g, 4 * 3, none⟩)) W := by
  refine ⟨by kernel_rfl, by kernel_rfl, by kernel_rfl, by kernel_rfl⟩
theorem ld_pt {g : Nat} {t : TypeId} {s : L4 PP} {k : Nat} (hk : k < 4) (W : World) (h : Blk W g t (sv s)) : (Instr.loadAt 27 (.pointer (some ⟨g, 4 * k, none⟩))).run Tryd.prog W = .ok (.agg (ev (s.at4 k))) W :=
  run_loadAt_mid W g (4 * k) 27 (ev (s.at4 k)).toList _ (range_sv h hk) Tryd.underlying27 rfl (info_ev _)
theorem bd_pt (a b c d : Fin PP) (W : World) : (Instr.build 29 [(0, .agg (ev a)), (1, .agg (ev b)), (2, .agg (ev c)), (3, .agg (ev d))].toArray).run Tryd.prog W = .ok (.agg (sv ⟨a, b, c, d⟩)) W :=
  run_build W 29 _ _ (by kernel_rfl)
theorem bd_elem0 (W : World) : (Instr.build 27 ([] : List (Nat × Value)).toArray).run Tryd.prog W = .ok (.agg (ev 0)) W := by kernel_rfl
/-- A zero Point. -/
def PZ : L4 PP := ⟨0, 0, 0, 0⟩
theorem PZ_rep : RepS Pt.nil PZ := RepS.zero rfl
theorem bd_pt0 (W : World) : (Instr.build 29 ([] : List (Nat × Value)).toArray).run Tryd.prog W = .ok (.agg (sv PZ)) W := by kernel_rfl
theorem al_key (W : World) : (Instr.alloc 23 true (.tuple #[])).run Tryd.prog W = .ok (.pointer (some ⟨W.heap.size, 0, none⟩)) (W.alloc (.cells #[.int .u8 0, .int .u8 0, .int .u8 0, .int .u8 0, .int .u8 0, .int .u8 0, .int .u8 0, .int .u8 0, .int .u8 0, .int .u8 0, .int .u8 0, .int .u8 0, .int .u8 0, .int .u8 0, .int .u8 0, .int .u8 0, .int .u8 0, .int .u8 0, .int .u8 0, .int .u8 0, .int .u8 0, .int .u8 0, .int .u8 0, .int .u8 0, .int .u8 0, .int .u8 0, .int .u8 0, .int .u8 0, .int .u8 0, .int .u8 0, .int .u8 0, .int .u8 0] 23)) := by kernel_rfl
theorem bx_key (n : Nat) (W : World) : (Instr.box 23 (.agg (ks n))).run Tryd.prog W = .ok (.pointer (some ⟨W.heap.size, 0, none⟩)) (W.alloc (.cells (ks n) 23)) := by kernel_rfl
theorem addP {x y z : Fin PP} (h : z = x + y) (w : World) (hp : PG w) : Calls Tryd.prog 35 #[.agg (ev x), .agg (ev y)] w (EPost z w) := by rw [h]; exact addF x y w hp
theorem subP {x y z : Fin PP} (h : z = x - y) (w : World) (hp : PG w) : Calls Tryd.prog 37 #[.agg (ev x), .agg (ev y)] w (EPost z w) := by rw [h]; exact subF x y w hp
theorem mulP {x y z : Fin PP} (h : z = x * y) (w : World) (hp : PG w) : Calls Tryd.prog 36 #[.agg (ev x), .agg (ev y)] w (EPost z w) := by rw [h]; exact mulF x y w hp
theorem squareP {x z : Fin PP} (h : z = x * x) (w : World) (hp : PG w) : Calls Tryd.prog 75 #[.agg (ev x)] w (EPost z w) := by rw [h]; exact squareF x w hp
theorem negP {x z : Fin PP} (h : z = -x) (w : World) (hp : PG w) : Calls Tryd.prog 47 #[.agg (ev x)] w (EPost z w) := by rw [h]; exact negF x w hp
theorem smallP {z : Fin PP} (n : Nat) (h : z = sm n) (hn : n < 18446744073709551616) (w : World) : Calls Tryd.prog 34 #[.int .u64 (n : Int)] w (EPost z w) := by rw [h]; exact smallF n w hn
theorem equalB {x y : Fin PP} {b : Bool} (h : decide (x = y) = b) (w : World) : Calls Tryd.prog 63 #[.agg (ev x), .agg (ev y)] w (BPost b w) := by subst h; exact equalF x y w
theorem ia_key31 (g : Nat) (W : World) : (Instr.indexAt 23 (.pointer (some ⟨g, 0, none⟩)) (.int .i64 31)).run Tryd.prog W = .ok (.pointer (some ⟨g, 31, none⟩)) W := by kernel_rfl
theorem ld_key31 {n x : Nat} (hx : n / 256 ^ 31 % 256 = x) {g : Nat} (W : World) (h : Blk W g 23 (ks n)) : (Instr.loadAt 5 (.pointer (some ⟨g, 31, none⟩))).run Tryd.prog W = .ok (.int .u8 (x : Int)) W := by
  have hc := h.cell 31
  rw [ks_get n (by omega), hx] at hc
  go_simp
theorem st_key31 {n : Nat} {v : Int} {g : Nat} (W : World) (h : Blk W g 23 (ks n)) : (Instr.storeAt 5 (.pointer (some ⟨g, 31, none⟩)) (.int .u8 v)).run Tryd.prog W = .ok () (W.setCells g 31 [.int .u8 v]) := by
  have hc := h.cell 31
  have hf := h.frozen 31
  rw [ks_get n (by omega)] at hc
  have hs : (W.cell? ⟨g, 31, none⟩).isSome = true := by rw [hc]; rfl
  show _ = Result.ok () (W.setCell ⟨g, 31, none⟩ (.int .u8 v))
  go_simp
theorem sv_key31 {n m : Nat} {x : Nat} (hx : x < 256) (hm : putd 256 n 31 x = m) : setV (ks n) 31 [.int .u8 (x : Int)] = ks m := by
  show (ks n).setIfInBounds 31 (.int .u8 (x : Int)) = ks m
  rw [ks_put (by omega) hx, hm]
theorem and128 {x : Nat} (hx : x < 256) : bits .and .u8 (x : Int) 128 = if 128 ≤ x then 128 else 0 := by
  have h : ∀ x : Fin 256, bits .and .u8 ((x.val : Nat) : Int) 128 = if 128 ≤ x.val then 128 else 0 := by decide +kernel
  exact h ⟨x, hx⟩
theorem or128 {x : Nat} (hx : x < 128) : bits .or .u8 (x : Int) 128 = ((x + 128 : Nat) : Int) := by
  have h : ∀ x : Fin 128, bits .or .u8 ((x.val : Nat) : Int) 128 = ((x.val + 128 : Nat) : Int) := by decide +kernel
  exact h ⟨x, hx⟩
theorem andNot128 {x : Nat} (hx : x < 256) : bits .andNot .u8 (x : Int) 128 = ((x % 128 : Nat) : Int) := by
  have h : ∀ x : Fin 256, bits .andNot .u8 ((x.val : Nat) : Int) 128 = ((x.val % 128 : Nat) : Int) := by decide +kernel
  exact h ⟨x, hx⟩
theorem b_and128 {x y : Nat} (hx : x < 256) (h : (if 128 ≤ x then 128 else 0) = y) (p q : Operand) (W : World) : (do eqGuard .and 5 p q (.int .u8 (x : Int)) (.int .u8 128); binOp .and 5 (.int .u8 (x : Int)) (.int .u8 128) : Sem Value).run Tryd.prog W = .ok (.int .u8 (y : Int)) W := by
  have := and128 hx
  have e : (if 128 ≤ x then (128 : Int) else 0) = (y : Int) := by
    subst h
    split <;> rfl
  rw [e] at this
  go_simp
theorem b_or128 {x y : Nat} (hx : x < 128) (h : x + 128 = y) (p q : Operand) (W : World) : (do eqGuard .or 5 p q (.int .u8 (x : Int)) (.int .u8 128); binOp .or 5 (.int .u8 (x : Int)) (.int .u8 128) : Sem Value).run Tryd.prog W = .ok (.int .u8 (y : Int)) W := by
  have := or128 hx
  rw [h] at this
  go_simp
theorem b_andNot128 {x y : Nat} (hx : x < 256) (h : x % 128 = y) (p q : Operand) (W : World) : (do eqGuard .andNot 5 p q (.int .u8 (x : Int)) (.int .u8 128); binOp .andNot 5 (.int .u8 (x : Int)) (.int .u8 128) : Sem Value).run Tryd.prog W = .ok (.int .u8 (y : Int)) W := by
  have := andNot128 hx
  rw [h] at this
  go_simp
theorem b_neq0 {y : Nat} {b : Bool} (h : decide (y ≠ 0) = b) (p q : Operand) (W : World) : (do eqGuard .neq 5 p q (.int .u8 (y : Int)) (.int .u8 0); binOp .neq 5 (.int .u8 (y : Int)) (.int .u8 0) : Sem Value).run Tryd.prog W = .ok (.bool b) W := by
  have e : ((y : Int) != 0) = b := by
    rw [← h]
    by_cases hy : y = 0
    · subst hy; rfl
    · have : ¬ (y : Int) = 0 := by omega
      simp [hy, this]
  go_simp
def fx (d : Fin PP) (s : L4 PP) : Array Value := ev d ++ sv s
theorem fx_size (d : Fin PP) (s : L4 PP) : (fx d s).size = 20 := by unfold fx; rw [Array.size_append, ev_size, sv_size]
end Go.Proofs.YtcijaoihcckofaaDoor
