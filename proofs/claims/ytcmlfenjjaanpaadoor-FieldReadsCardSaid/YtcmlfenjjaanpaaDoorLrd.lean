/- The walk of FieldReads. -/
import Derived.Test.YtcmlfenjjaanpaaDoorLm
import Derived.Test.YtcmlfenjjaanpaaDoorRl
import Derived.Deep.DeepCutAuto
import Derived.Deep.CutBlock
namespace Go.Proofs.YtcmlfenjjaanpaaDoor
set_option linter.unusedVariables false
set_option linter.unusedSimpArgs false
open Go.RowKit

set_option maxRecDepth 100000 in
set_option maxHeartbeats 16000000 in
theorem law_reads (b : Nat) (m : Nat) (w : World) (hpg : PG w) (hb : b < 115792089237316195423570985008687907853269984665640564039457584007913129639936) (hm : m < 18446744073709551616) : Calls Tryd.prog 3 #[.agg (ks b), .int .u64 (m : Int)] w (BPost true w) := by
  obtain ⟨y, hy⟩ : ∃ y, y = b / 256 ^ 31 % 256 := ⟨_, rfl⟩
  have hyl : y < 256 := by rw [hy]; exact Nat.mod_lt _ (by omega)
  have hrow := ks_top hb hy
  obtain ⟨h, hh⟩ : ∃ h, h = b % 57896044618658097711785492504343953926634992332820282019728792003956564819968 := ⟨_, rfl⟩
  rw [← hh] at hrow
  have hhl : h < 115792089237316195423570985008687907853269984665640564039457584007913129639936 := by rw [hh]; exact Nat.lt_trans (Nat.mod_lt _ (by omega)) (by omega)
  obtain ⟨x, hx⟩ : ∃ x, x = ofK b := ⟨_, rfl⟩
  have hx2 : x = ofK h := by rw [hx, hh, ofK_top]
  obtain ⟨z, hz⟩ : ∃ z, z = sm m := ⟨_, rfl⟩
  obtain ⟨c, hc⟩ : ∃ c, c = decide (b < PP) := ⟨_, rfl⟩
  have hz1 := fun W => smallF m W hm
  rw [← hz] at hz1
  have hz2 := fun W => smallD m hz hm W
  have hca := fun W hp => canonical_any b W hp hb
  rw [← hc] at hca
  have hle := fun W => rless_any b PP W hb PP_lim
  rw [← hc] at hle
  have hof := fun W => rof_any b W hb
  have c31 : (ks b)[31]? = some (.int .u8 (y : Int)) := by rw [ks_get _ (by omega), hy]
  have f0 := ((Fr.start w).row (ks b) 23 (g := w.heap.size) rfl).row (ks 0) 23 (g := w.heap.size + 1) (by simp)
  rw [ks_zero] at f0
  have f1 := f0.setRowHead (by simp) (by simp) (ks b) (by omega)
  have f2 := f1.setHead (by simp) (by simp) 31 (.int .u8 ((y : Int) % 128)) (by omega)
  rw [hrow] at f2
  have k0 := Blk.new w 23 (ks b)
  have kz := f0.get (g := w.heap.size + 1) (t := 23) (cs := #[.int .u8 0, .int .u8 0, .int .u8 0, .int .u8 0, .int .u8 0, .int .u8 0, .int .u8 0, .int .u8 0, .int .u8 0, .int .u8 0, .int .u8 0, .int .u8 0, .int .u8 0, .int .u8 0, .int .u8 0, .int .u8 0, .int .u8 0, .int .u8 0, .int .u8 0, .int .u8 0, .int .u8 0, .int .u8 0, .int .u8 0, .int .u8 0, .int .u8 0, .int .u8 0, .int .u8 0, .int .u8 0, .int .u8 0, .int .u8 0, .int .u8 0, .int .u8 0]) (by simp)
  have k1 := f1.get (g := w.heap.size + 1) (t := 23) (cs := ks b) (by simp)
  have k2 := f2.get (g := w.heap.size) (t := 23) (cs := ks b) (by simp)
  have hsz : (#[.int .u8 0, .int .u8 0, .int .u8 0, .int .u8 0, .int .u8 0, .int .u8 0, .int .u8 0, .int .u8 0, .int .u8 0, .int .u8 0, .int .u8 0, .int .u8 0, .int .u8 0, .int .u8 0, .int .u8 0, .int .u8 0, .int .u8 0, .int .u8 0, .int .u8 0, .int .u8 0, .int .u8 0, .int .u8 0, .int .u8 0, .int .u8 0, .int .u8 0, .int .u8 0, .int .u8 0, .int .u8 0, .int .u8 0, .int .u8 0, .int .u8 0, .int .u8 0] : Array Value).size = (ks b).size := by rw [ks_size]; rfl
  have q31 := k1.cell 31
  rw [c31] at q31
  have qf := k1.frozen 31
  have HP := Lib.hid hpg
  have Hb := Lib.hid hb
  have HHL := Lib.hid hhl
  have HX := Lib.hid hx
  have HX2 := Lib.hid hx2
  have HZ1 := Lib.hid hz1
  have HZ2 := Lib.hid hz2
  have HCA := Lib.hid hca
  have HLE := Lib.hid hle
  have HOF := Lib.hid hof
  have HF := Lib.hid f2
  have KZ := Lib.hid kz
  have HSZ := Lib.hid hsz
  clear hpg hb hhl hx hx2 hz hz1 hz2 hc hca hle hof f0 f1 f2 kz hsz hh hy hm k1 c31 hrow
  go_enter Tryd.func3, Tryd.ntmps3
  go_wp2_with (first | (refine wpList_load_row rfl 23 (.tmp 2) rfl w.heap.size rfl 23 (ks b) (0, 0) _ k0 Tryd.underlying23 rfl (info_ks _) ?_) | (refine wpList_store_row rfl 23 (.tmp 5) (.tmp 7) rfl (w.heap.size + 1) (ks b) rfl rfl 23 _ KZ.out (info_ks _) HSZ.out (ks_one _) ?_) | (refine wpList_load_row rfl 23 (.tmp 2) rfl w.heap.size rfl 23 (ks b) (0, 0) _ k2 Tryd.underlying23 rfl (info_ks _) ?_))
  clear k0 k2 q31 qf KZ HSZ
  refine (HOF.out _).mono ?_
  rintro e v1 ⟨rfl, hb⟩
  have hf := HF.out.ext hb
  have HF4 := Lib.hid hf
  clear hb hf HF
  have HF := HF4
  clear HF4
  go_wp2_with (fail)
  refine (rprime_any _).mono ?_
  rintro e v2 ⟨rfl, hb⟩
  have hf := HF.out.ext hb
  have HF4 := Lib.hid hf
  clear hb hf HF
  have HF := HF4
  clear HF4
  go_wp2_with (fail)
  refine (HLE.out _).mono ?_
  rintro e v3 ⟨rfl, hb⟩
  have hf := HF.out.ext hb
  have HF4 := Lib.hid hf
  clear hb hf HF
  have HF := HF4
  clear HF4
  go_wp2_with (fail)
  refine wp_region_held_drew (S := fun W => Fr w W [(w.heap.size + 1, 23, ks h), (w.heap.size, 23, ks b)] []) (by kernel_rfl) ?_ (fun hHeld => ?_)
  · exact HF.out.drew
  refine wpAnyH_take (i := 0) (v := .agg (ks b)) rfl (by kernel_rfl) (by kernel_rfl) (by kernel_rfl) (fun _ _ _ h => h) (yields_row (by rfl) 23 (.tmp 2) rfl (w.heap.size) rfl 23 (ks b) _ (fun W (h : Fr _ W _ _) => h.get (by simp)) Tryd.underlying23 rfl (info_ks _)) hHeld ?_
  try simp only [Act.put, List.getElem_toArray, List.getElem_cons_succ, List.getElem_cons_zero, List.setIfInBounds_toArray, List.set_cons_zero, List.set_cons_succ]
  refine wpAnyH_take (i := 2) (v := .agg (ks b)) rfl (by kernel_rfl) (by kernel_rfl) (by kernel_rfl) (fun _ _ _ h => h) (yields_row (by rfl) 23 (.tmp 2) rfl (w.heap.size) rfl 23 (ks b) _ (fun W (h : Fr _ W _ _) => h.get (by simp)) Tryd.underlying23 rfl (info_ks _)) hHeld ?_
  try simp only [Act.put, List.getElem_toArray, List.getElem_cons_succ, List.getElem_cons_zero, List.setIfInBounds_toArray, List.set_cons_zero, List.set_cons_succ]
  refine wpAnyH_ready (rs := [1]) (by kernel_rfl) (by simp) (AllReadyH.cons rfl (fun K hK => ?_) AllReadyH.nil)
  have h0 := hHeld
  clear hHeld
  try simp only [List.getElem_toArray, List.getElem_cons_succ, List.getElem_cons_zero]
  have H0 := Lib.hid h0
  clear h0
  go_simp
  go_at_call 14
  refine (ofR HX.out _ (Fr.pg H0.out HP.out) Hb.out).mono ?_
  rintro e vv ⟨rfl, hb⟩
  have h1 := H0.out.ext hb
  clear hb H0
  go_wp2_with (fail)
  refine hK.out _ _ h1 (fun hHeld => ?_)
  clear hK K h1
  try simp only [Act.put, List.getElem_toArray, List.getElem_cons_succ, List.getElem_cons_zero, List.setIfInBounds_toArray, List.set_cons_zero, List.set_cons_succ]
  refine wpAnyH_ready (rs := [3]) (by kernel_rfl) (by simp) (AllReadyH.cons rfl (fun K hK => ?_) AllReadyH.nil)
  have h0 := hHeld
  clear hHeld
  try simp only [List.getElem_toArray, List.getElem_cons_succ, List.getElem_cons_zero]
  have H0 := Lib.hid h0
  clear h0
  go_simp
  go_at_call 15
  refine (num_any b HX.out _ Hb.out).mono ?_
  rintro e vv ⟨rfl, hb⟩
  have h1 := H0.out.ext hb
  clear hb H0
  go_wp2_with (fail)
  refine hK.out _ _ h1 (fun hHeld => ?_)
  clear hK K h1
  try simp only [Act.put, List.getElem_toArray, List.getElem_cons_succ, List.getElem_cons_zero, List.setIfInBounds_toArray, List.set_cons_zero, List.set_cons_succ]
  refine wpAnyH_ready (rs := [4]) (by kernel_rfl) (by simp) (AllReadyH.cons rfl (fun K hK => ?_) AllReadyH.nil)
  have h0 := hHeld
  clear hHeld
  try simp only [List.getElem_toArray, List.getElem_cons_succ, List.getElem_cons_zero]
  have H0 := Lib.hid h0
  clear h0
  go_simp
  go_at_call 13
  refine (is_any _ _).mono ?_
  rintro e vv ⟨rfl, hb⟩
  have h1 := H0.out.ext hb
  clear hb H0
  go_wp2_with (fail)
  refine hK.out _ _ h1 (fun hHeld => ?_)
  clear hK K h1
  try simp only [Act.put, List.getElem_toArray, List.getElem_cons_succ, List.getElem_cons_zero, List.setIfInBounds_toArray, List.set_cons_zero, List.set_cons_succ]
  refine wpAnyH_take (i := 5) (v := ?_) rfl (by kernel_rfl) (by kernel_rfl) (by kernel_rfl) (fun _ _ _ h => h) (Or.inl ⟨by rfl, ?_⟩) hHeld ?_
  rotate_left
  · (intro W hSw; (try dsimp only at hSw); (try simp only [List.getElem_toArray, List.getElem_cons_succ, List.getElem_cons_zero]); go_simp; try with_reducible rfl)
  try simp only [Act.put, List.getElem_toArray, List.getElem_cons_succ, List.getElem_cons_zero, List.setIfInBounds_toArray, List.set_cons_zero, List.set_cons_succ]
  refine wpAnyH_take (i := 6) (v := .agg (ks b)) rfl (by kernel_rfl) (by kernel_rfl) (by kernel_rfl) (fun _ _ _ h => h) (yields_row (by rfl) 23 (.tmp 2) rfl (w.heap.size) rfl 23 (ks b) _ (fun W (h : Fr _ W _ _) => h.get (by simp)) Tryd.underlying23 rfl (info_ks _)) hHeld ?_
  try simp only [Act.put, List.getElem_toArray, List.getElem_cons_succ, List.getElem_cons_zero, List.setIfInBounds_toArray, List.set_cons_zero, List.set_cons_succ]
  refine wpAnyH_take (i := 8) (v := .agg (ks h)) rfl (by kernel_rfl) (by kernel_rfl) (by kernel_rfl) (fun _ _ _ h => h) (yields_row (by rfl) 23 (.tmp 5) rfl (w.heap.size + 1) rfl 23 (ks h) _ (fun W (h : Fr _ W _ _) => h.get (by simp)) Tryd.underlying23 rfl (info_ks _)) hHeld ?_
  try simp only [Act.put, List.getElem_toArray, List.getElem_cons_succ, List.getElem_cons_zero, List.setIfInBounds_toArray, List.set_cons_zero, List.set_cons_succ]
  refine wpAnyH_ready (rs := [7]) (by kernel_rfl) (by simp) (AllReadyH.cons rfl (fun K hK => ?_) AllReadyH.nil)
  have h0 := hHeld
  clear hHeld
  try simp only [List.getElem_toArray, List.getElem_cons_succ, List.getElem_cons_zero]
  have H0 := Lib.hid h0
  clear h0
  go_simp
  go_at_call 14
  refine (ofR HX.out _ (Fr.pg H0.out HP.out) Hb.out).mono ?_
  rintro e vv ⟨rfl, hb⟩
  have h1 := H0.out.ext hb
  clear hb H0
  go_wp2_with (fail)
  refine hK.out _ _ h1 (fun hHeld => ?_)
  clear hK K h1
  try simp only [Act.put, List.getElem_toArray, List.getElem_cons_succ, List.getElem_cons_zero, List.setIfInBounds_toArray, List.set_cons_zero, List.set_cons_succ]
  refine wpAnyH_ready (rs := [9]) (by kernel_rfl) (by simp) (AllReadyH.cons rfl (fun K hK => ?_) AllReadyH.nil)
  have h0 := hHeld
  clear hHeld
  try simp only [List.getElem_toArray, List.getElem_cons_succ, List.getElem_cons_zero]
  have H0 := Lib.hid h0
  clear h0
  go_simp
  go_at_call 14
  refine (ofR HX2.out _ (Fr.pg H0.out HP.out) HHL.out).mono ?_
  rintro e vv ⟨rfl, hb⟩
  have h1 := H0.out.ext hb
  clear hb H0
  go_wp2_with (fail)
  refine hK.out _ _ h1 (fun hHeld => ?_)
  clear hK K h1
  try simp only [Act.put, List.getElem_toArray, List.getElem_cons_succ, List.getElem_cons_zero, List.setIfInBounds_toArray, List.set_cons_zero, List.set_cons_succ]
  refine wpAnyH_ready (rs := [10]) (by kernel_rfl) (by simp) (AllReadyH.cons rfl (fun K hK => ?_) AllReadyH.nil)
  have h0 := hHeld
  clear hHeld
  try simp only [List.getElem_toArray, List.getElem_cons_succ, List.getElem_cons_zero]
  have H0 := Lib.hid h0
  clear h0
  go_simp
  go_at_call 16
  refine (equal_yes rfl _).mono ?_
  rintro e vv ⟨rfl, hb⟩
  have h1 := H0.out.ext hb
  clear hb H0
  go_wp2_with (fail)
  refine hK.out _ _ h1 (fun hHeld => ?_)
  clear hK K h1
  try simp only [Act.put, List.getElem_toArray, List.getElem_cons_succ, List.getElem_cons_zero, List.setIfInBounds_toArray, List.set_cons_zero, List.set_cons_succ]
  refine wpAnyH_take (i := 11) (v := ?_) rfl (by kernel_rfl) (by kernel_rfl) (by kernel_rfl) (fun _ _ _ h => h) (Or.inl ⟨by rfl, ?_⟩) hHeld ?_
  rotate_left
  · (intro W hSw; (try dsimp only at hSw); (try simp only [List.getElem_toArray, List.getElem_cons_succ, List.getElem_cons_zero]); go_simp; try with_reducible rfl)
  try simp only [Act.put, List.getElem_toArray, List.getElem_cons_succ, List.getElem_cons_zero, List.setIfInBounds_toArray, List.set_cons_zero, List.set_cons_succ]
  refine wpAnyH_take (i := 12) (v := ?_) rfl (by kernel_rfl) (by kernel_rfl) (by kernel_rfl) (fun _ _ _ h => h) (Or.inl ⟨by rfl, ?_⟩) hHeld ?_
  rotate_left
  · (intro W hSw; (try dsimp only at hSw); (try simp only [List.getElem_toArray, List.getElem_cons_succ, List.getElem_cons_zero]); go_simp; try with_reducible rfl)
  try simp only [Act.put, List.getElem_toArray, List.getElem_cons_succ, List.getElem_cons_zero, List.setIfInBounds_toArray, List.set_cons_zero, List.set_cons_succ]
  refine wpAnyH_take (i := 13) (v := ?_) rfl (by kernel_rfl) (by kernel_rfl) (by kernel_rfl) (fun _ _ _ h => h) (Or.inl ⟨by rfl, ?_⟩) hHeld ?_
  rotate_left
  · (intro W hSw; (try dsimp only at hSw); (try simp only [List.getElem_toArray, List.getElem_cons_succ, List.getElem_cons_zero]); go_simp; try with_reducible rfl)
  try simp only [Act.put, List.getElem_toArray, List.getElem_cons_succ, List.getElem_cons_zero, List.setIfInBounds_toArray, List.set_cons_zero, List.set_cons_succ]
  refine wpAnyH_take (i := 15) (v := ?_) rfl (by kernel_rfl) (by kernel_rfl) (by kernel_rfl) (fun _ _ _ h => h) (Or.inl ⟨by rfl, ?_⟩) hHeld ?_
  rotate_left
  · (intro W hSw; (try dsimp only at hSw); (try simp only [List.getElem_toArray, List.getElem_cons_succ, List.getElem_cons_zero]); go_simp; try with_reducible rfl)
  try simp only [Act.put, List.getElem_toArray, List.getElem_cons_succ, List.getElem_cons_zero, List.setIfInBounds_toArray, List.set_cons_zero, List.set_cons_succ]
  refine wpAnyH_ready (rs := [14]) (by kernel_rfl) (by simp) (AllReadyH.cons rfl (fun K hK => ?_) AllReadyH.nil)
  have h0 := hHeld
  clear hHeld
  try simp only [List.getElem_toArray, List.getElem_cons_succ, List.getElem_cons_zero]
  have H0 := Lib.hid h0
  clear h0
  go_simp
  go_at_call 17
  refine (HZ1.out _).mono ?_
  rintro e vv ⟨rfl, hb⟩
  have h1 := H0.out.ext hb
  clear hb H0
  go_wp2_with (fail)
  refine hK.out _ _ h1 (fun hHeld => ?_)
  clear hK K h1
  try simp only [Act.put, List.getElem_toArray, List.getElem_cons_succ, List.getElem_cons_zero, List.setIfInBounds_toArray, List.set_cons_zero, List.set_cons_succ]
  refine wpAnyH_ready (rs := [16]) (by kernel_rfl) (by simp) (AllReadyH.cons rfl (fun K hK => ?_) AllReadyH.nil)
  have h0 := hHeld
  clear hHeld
  try simp only [List.getElem_toArray, List.getElem_cons_succ, List.getElem_cons_zero]
  have H0 := Lib.hid h0
  clear h0
  go_simp
  go_at_call 18
  refine (HZ2.out _).mono ?_
  rintro e vv ⟨rfl, hb⟩
  have h1 := H0.out.ext hb
  clear hb H0
  go_wp2_with (fail)
  refine hK.out _ _ h1 (fun hHeld => ?_)
  clear hK K h1
  try simp only [Act.put, List.getElem_toArray, List.getElem_cons_succ, List.getElem_cons_zero, List.setIfInBounds_toArray, List.set_cons_zero, List.set_cons_succ]
  refine wpAnyH_ready (rs := [17]) (by kernel_rfl) (by simp) (AllReadyH.cons rfl (fun K hK => ?_) AllReadyH.nil)
  have h0 := hHeld
  clear hHeld
  try simp only [List.getElem_toArray, List.getElem_cons_succ, List.getElem_cons_zero]
  have H0 := Lib.hid h0
  clear h0
  go_simp
  go_at_call 13
  refine (is_any _ _).mono ?_
  rintro e vv ⟨rfl, hb⟩
  have h1 := H0.out.ext hb
  clear hb H0
  go_wp2_with (fail)
  refine hK.out _ _ h1 (fun hHeld => ?_)
  clear hK K h1
  try simp only [Act.put, List.getElem_toArray, List.getElem_cons_succ, List.getElem_cons_zero, List.setIfInBounds_toArray, List.set_cons_zero, List.set_cons_succ]
  refine wpAnyH_take (i := 18) (v := ?_) rfl (by kernel_rfl) (by kernel_rfl) (by kernel_rfl) (fun _ _ _ h => h) (Or.inl ⟨by rfl, ?_⟩) hHeld ?_
  rotate_left
  · (intro W hSw; (try dsimp only at hSw); (try simp only [List.getElem_toArray, List.getElem_cons_succ, List.getElem_cons_zero]); go_simp; try with_reducible rfl)
  try simp only [Act.put, List.getElem_toArray, List.getElem_cons_succ, List.getElem_cons_zero, List.setIfInBounds_toArray, List.set_cons_zero, List.set_cons_succ]
  refine wpAnyH_take (i := 19) (v := ?_) rfl (by kernel_rfl) (by kernel_rfl) (by kernel_rfl) (fun _ _ _ h => h) (Or.inl ⟨by rfl, ?_⟩) hHeld ?_
  rotate_left
  · (intro W hSw; (try dsimp only at hSw); (try simp only [List.getElem_toArray, List.getElem_cons_succ, List.getElem_cons_zero]); go_simp; try with_reducible rfl)
  try simp only [Act.put, List.getElem_toArray, List.getElem_cons_succ, List.getElem_cons_zero, List.setIfInBounds_toArray, List.set_cons_zero, List.set_cons_succ]
  refine wpAnyH_take (i := 20) (v := .agg (ks b)) rfl (by kernel_rfl) (by kernel_rfl) (by kernel_rfl) (fun _ _ _ h => h) (yields_row (by rfl) 23 (.tmp 2) rfl (w.heap.size) rfl 23 (ks b) _ (fun W (h : Fr _ W _ _) => h.get (by simp)) Tryd.underlying23 rfl (info_ks _)) hHeld ?_
  try simp only [Act.put, List.getElem_toArray, List.getElem_cons_succ, List.getElem_cons_zero, List.setIfInBounds_toArray, List.set_cons_zero, List.set_cons_succ]
  refine wpAnyH_take (i := 22) (v := ?_) rfl (by kernel_rfl) (by kernel_rfl) (by kernel_rfl) (fun _ _ _ h => h) (Or.inl ⟨by rfl, ?_⟩) hHeld ?_
  rotate_left
  · (intro W hSw; (try dsimp only at hSw); (try simp only [List.getElem_toArray, List.getElem_cons_succ, List.getElem_cons_zero]); go_simp; try with_reducible rfl)
  try simp only [Act.put, List.getElem_toArray, List.getElem_cons_succ, List.getElem_cons_zero, List.setIfInBounds_toArray, List.set_cons_zero, List.set_cons_succ]
  refine wpAnyH_ready (rs := [21]) (by kernel_rfl) (by simp) (AllReadyH.cons rfl (fun K hK => ?_) AllReadyH.nil)
  have h0 := hHeld
  clear hHeld
  try simp only [List.getElem_toArray, List.getElem_cons_succ, List.getElem_cons_zero]
  have H0 := Lib.hid h0
  clear h0
  go_simp
  go_at_call 19
  refine (HCA.out _ (Fr.pg H0.out HP.out)).mono ?_
  rintro e vv ⟨rfl, hb⟩
  have h1 := H0.out.ext hb
  clear hb H0
  go_wp2_with (fail)
  refine hK.out _ _ h1 (fun hHeld => ?_)
  clear hK K h1
  try simp only [Act.put, List.getElem_toArray, List.getElem_cons_succ, List.getElem_cons_zero, List.setIfInBounds_toArray, List.set_cons_zero, List.set_cons_succ]
  refine wpAnyH_take (i := 23) (v := ?_) rfl (by kernel_rfl) (by kernel_rfl) (by kernel_rfl) (fun _ _ _ h => h) (Or.inl ⟨by rfl, ?_⟩) hHeld ?_
  rotate_left
  · (intro W hSw; (try dsimp only at hSw); (try simp only [List.getElem_toArray, List.getElem_cons_succ, List.getElem_cons_zero]); go_simp; try with_reducible rfl)
  try simp only [Act.put, List.getElem_toArray, List.getElem_cons_succ, List.getElem_cons_zero, List.setIfInBounds_toArray, List.set_cons_zero, List.set_cons_succ]
  refine wpAnyH_take (i := 24) (v := ?_) rfl (by kernel_rfl) (by kernel_rfl) (by kernel_rfl) (fun _ _ _ h => h) (Or.inl ⟨by rfl, ?_⟩) hHeld ?_
  rotate_left
  · (intro W hSw; (try dsimp only at hSw); (try simp only [List.getElem_toArray, List.getElem_cons_succ, List.getElem_cons_zero]); go_simp; try with_reducible rfl)
  try simp only [Act.put, List.getElem_toArray, List.getElem_cons_succ, List.getElem_cons_zero, List.setIfInBounds_toArray, List.set_cons_zero, List.set_cons_succ]
  refine wpAnyH_take (i := 25) (v := ?_) rfl (by kernel_rfl) (by kernel_rfl) (by kernel_rfl) (fun _ _ _ h => h) (Or.inl ⟨by rfl, ?_⟩) hHeld ?_
  rotate_left
  · (intro W hSw; (try dsimp only at hSw); (try simp only [List.getElem_toArray, List.getElem_cons_succ, List.getElem_cons_zero]); go_simp; try with_reducible rfl)
  try simp only [Act.put, List.getElem_toArray, List.getElem_cons_succ, List.getElem_cons_zero, List.setIfInBounds_toArray, List.set_cons_zero, List.set_cons_succ]
  refine wpAnyH_ready (rs := [26]) (by kernel_rfl) (by simp) (AllReadyH.cons rfl (fun K hK => ?_) AllReadyH.nil)
  have h0 := hHeld
  clear hHeld
  try simp only [List.getElem_toArray, List.getElem_cons_succ, List.getElem_cons_zero]
  have H0 := Lib.hid h0
  clear h0
  go_simp
  go_at_call 20
  refine (known_any _ (Fr.pg H0.out HP.out)).mono ?_
  rintro e vv ⟨rfl, hb⟩
  have h1 := H0.out.ext hb
  clear hb H0
  go_wp2_with (fail)
  refine hK.out _ _ h1 (fun hHeld => ?_)
  clear hK K h1
  try simp only [Act.put, List.getElem_toArray, List.getElem_cons_succ, List.getElem_cons_zero, List.setIfInBounds_toArray, List.set_cons_zero, List.set_cons_succ]
  refine wpAnyH_take (i := 27) (v := ?_) rfl (by kernel_rfl) (by kernel_rfl) (by kernel_rfl) (fun _ _ _ h => h) (Or.inl ⟨by rfl, ?_⟩) hHeld ?_
  rotate_left
  · (intro W hSw; (try dsimp only at hSw); (try simp only [List.getElem_toArray, List.getElem_cons_succ, List.getElem_cons_zero]); go_simp; try with_reducible rfl)
  try simp only [Act.put, List.getElem_toArray, List.getElem_cons_succ, List.getElem_cons_zero, List.setIfInBounds_toArray, List.set_cons_zero, List.set_cons_succ]
  refine wpAnyH_take (i := 28) (v := ?_) rfl (by kernel_rfl) (by kernel_rfl) (by kernel_rfl) (fun _ _ _ h => h) (Or.inl ⟨by rfl, ?_⟩) hHeld ?_
  rotate_left
  · (intro W hSw; (try dsimp only at hSw); (try simp only [List.getElem_toArray, List.getElem_cons_succ, List.getElem_cons_zero]); go_simp; try with_reducible rfl)
  try simp only [Act.put, List.getElem_toArray, List.getElem_cons_succ, List.getElem_cons_zero, List.setIfInBounds_toArray, List.set_cons_zero, List.set_cons_succ]
  refine wpAnyH_done (by kernel_rfl) ?_ _
  have HB := Lib.hid hHeld.below
  clear hHeld
  go_wp2_with (fail)
  go_ret
  exact ⟨rfl, HB.out⟩
end Go.Proofs.YtcmlfenjjaanpaaDoor
