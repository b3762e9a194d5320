/- Layer 3's calls over numbers: MulAdd, Add, Neg, Order, May. -/
import Derived.Test.YtpliddkdahgbpaaDoorSq
namespace Go.Proofs.YtpliddkdahgbpaaDoor
set_option linter.unusedVariables false
set_option linter.unusedSimpArgs false
open Go.RowKit

theorem b4 : (18446744073709551616 : Nat) ^ 4 = 115792089237316195423570985008687907853269984665640564039457584007913129639936 := by decide
theorem key_end {fn : Func} {p : Tmp} (hr : fn.results = #[.cell p 25]) {frame : Act} {w w' : World} {g n : Nat} (hp : frame.tmps.getD p undef = .pointer (some ⟨g, 0, none⟩)) (hd : frame.defers = []) (hb : Blk w' g 25 (ks n)) (hB : Below w.heap.size w w') :
    bodyPost Tryd.prog fn (KeyPost n w) .ret frame w' :=
  bodyPost_ret (results_cell_row hr _ _ g 25 (ks n) (0, 0) _ hp hb Tryd.underlying25 rfl (info_ks n)) hd ⟨rfl, hB⟩
theorem wordsW (n : Nat) (w : World) (hn : n < 115792089237316195423570985008687907853269984665640564039457584007913129639936) : Calls Tryd.prog 25 #[.agg (ks n)] w (WPost 4 n w) := by
  have h := wordsOf_any n w hn
  unfold ElemPost at h
  simp only [es_ws] at h
  exact h
theorem bytesW (n : Nat) (w : World) (hn : n < 115792089237316195423570985008687907853269984665640564039457584007913129639936) : Calls Tryd.prog 29 #[.agg (ws 4 n)] w (KeyPost n w) := by
  have h := bytesOf_any n w hn
  simp only [es_ws] at h
  exact h
theorem mulAddL (a b c : Nat) (w : World) (ha : a < 115792089237316195423570985008687907853269984665640564039457584007913129639936) (hb : b < 115792089237316195423570985008687907853269984665640564039457584007913129639936) (hc : c < 115792089237316195423570985008687907853269984665640564039457584007913129639936) :
    Calls Tryd.prog 30 #[.agg (ws 4 a), .agg (ws 4 b), .agg (ws 4 c)] w (WPost 8 (a * b + c) w) := mulAdd8_any a b c w (by rw [b4]; exact ha) (by rw [b4]; exact hb) (by rw [b4]; exact hc)
theorem prod_lt {a b c : Nat} (ha : a < 115792089237316195423570985008687907853269984665640564039457584007913129639936) (hb : b < 115792089237316195423570985008687907853269984665640564039457584007913129639936) (hc : c < 115792089237316195423570985008687907853269984665640564039457584007913129639936) : a * b + c < 18446744073709551616 ^ 8 := by
  have h1 : a * b ≤ 115792089237316195423570985008687907853269984665640564039457584007913129639935 * 115792089237316195423570985008687907853269984665640564039457584007913129639935 := Nat.mul_le_mul (by omega) (by omega)
  have e : (18446744073709551616 : Nat) ^ 8 = 13407807929942597099574024998205846127479365820592393377723561443721764030073546976801874298166903427690031858186486050853753882811946569946433649006084096 := by decide
  rw [e]
  omega
theorem LL_lt : LL < 115792089237316195423570985008687907853269984665640564039457584007913129639936 := by rw [LL_eq]; omega
theorem ks_one_cells : ks 1 = #[.int .u8 1, .int .u8 0, .int .u8 0, .int .u8 0, .int .u8 0, .int .u8 0, .int .u8 0, .int .u8 0, .int .u8 0, .int .u8 0, .int .u8 0, .int .u8 0, .int .u8 0, .int .u8 0, .int .u8 0, .int .u8 0, .int .u8 0, .int .u8 0, .int .u8 0, .int .u8 0, .int .u8 0, .int .u8 0, .int .u8 0, .int .u8 0, .int .u8 0, .int .u8 0, .int .u8 0, .int .u8 0, .int .u8 0, .int .u8 0, .int .u8 0, .int .u8 0] := by kernel_rfl
theorem minusL_ex (s : Nat) (hs : s < 115792089237316195423570985008687907853269984665640564039457584007913129639936) : ∃ m c : Nat, (∀ w, Calls Tryd.prog 24 #[.agg (ws 4 s), .agg #[.int .u64 6346243789798364141, .int .u64 1503914060200516822, .int .u64 0, .int .u64 1152921504606846976]] w fun e w' => e = .returned (.tuple #[.agg (ws 4 m), .int .u64 (c : Int)]) ∧ Below w.heap.size w w') ∧ c = if s < LL then 1 else 0 := by
  have hl := LL_lt
  refine ⟨(s + 115792089237316195423570985008687907853269984665640564039457584007913129639936 - LL) % 115792089237316195423570985008687907853269984665640564039457584007913129639936, if s < LL then 1 else 0, fun w => ?_, rfl⟩
  have h := minus_any s LL w hs hl
  rw [ws_LL] at h
  refine h.mono ?_
  rintro e w' ⟨m, c, rfl, e1, e2, e3, hb⟩
  have em : m = (s + 115792089237316195423570985008687907853269984665640564039457584007913129639936 - LL) % 115792089237316195423570985008687907853269984665640564039457584007913129639936 := by
    have : c = 0 ∨ c = 1 := by omega
    rcases this with rfl | rfl <;> omega
  have ec : c = if s < LL then 1 else 0 := by
    have : c = 0 ∨ c = 1 := by omega
    split <;> omega
  rw [← em, ← ec]
  exact ⟨rfl, hb⟩
set_option maxRecDepth 100000 in
set_option maxHeartbeats 2000000 in
theorem mulAdd_key (a b c : Nat) (w : World) (hog : OG w) (ha : a < 115792089237316195423570985008687907853269984665640564039457584007913129639936) (hb : b < 115792089237316195423570985008687907853269984665640564039457584007913129639936) (hc : c < 115792089237316195423570985008687907853269984665640564039457584007913129639936) : Calls Tryd.prog 16 #[.agg (ks a), .agg (ks b), .agg (ks c)] w (KeyPost ((a * b + c) % LL) w) := by
  have hfr := (((((Fr.start w).row (ks a) 25 (g := w.heap.size) rfl).row (ks b) 25 (g := w.heap.size + 1) (by simp)).row (ks c) 25 (g := w.heap.size + 1 + 1) (by simp)).any (ks 0) 25 32 (ks_size 0) (g := w.heap.size + 1 + 1 + 1) (by simp))
  have hfr2 := hfr
  rw [ks_zero] at hfr2
  have HFR := Lib.hid hfr2
  clear hfr hfr2
  have HOG := Lib.hid hog
  have HA := Lib.hid ha
  have HB := Lib.hid hb
  have HC := Lib.hid hc
  clear hog ha hb hc
  obtain ⟨r, hr⟩ : ∃ r, r = (a * b + c) % LL := ⟨_, rfl⟩
  rw [← hr]
  have hrest := fun W ho => rest_any (a * b + c) W ho (prod_lt HA.out HB.out HC.out)
  rw [← hr] at hrest
  have HREST := Lib.hid hrest
  clear hr hrest
  go_enter Tryd.func16, Tryd.ntmps16
  go_wp2_with (fail)
  refine wp_region_held_drew (S := fun W => Fr w W [(w.heap.size + 1 + 1, 25, ks c), (w.heap.size + 1, 25, ks b), (w.heap.size, 25, ks a)] [(w.heap.size + 1 + 1 + 1, 25, 32)]) (by kernel_rfl) ?_ (fun hHeld => ?_)
  · exact HFR.out.drew
  refine wpAnyH_take (i := 0) (v := .agg (ks a)) rfl (by kernel_rfl) (by kernel_rfl) (by kernel_rfl) (fun _ _ _ h => h) (yields_row (by rfl) 25 (.tmp 3) rfl (w.heap.size) rfl 25 (ks a) _ (fun W (h : Fr _ W _ _) => h.get (by simp)) Tryd.underlying25 rfl (info_ks _)) hHeld ?_
  try simp only [Act.put, List.getElem_toArray, List.getElem_cons_succ, List.getElem_cons_zero, List.setIfInBounds_toArray, List.set_cons_zero, List.set_cons_succ]
  refine wpAnyH_take (i := 2) (v := .agg (ks b)) rfl (by kernel_rfl) (by kernel_rfl) (by kernel_rfl) (fun _ _ _ h => h) (yields_row (by rfl) 25 (.tmp 4) rfl (w.heap.size + 1) rfl 25 (ks b) _ (fun W (h : Fr _ W _ _) => h.get (by simp)) Tryd.underlying25 rfl (info_ks _)) hHeld ?_
  try simp only [Act.put, List.getElem_toArray, List.getElem_cons_succ, List.getElem_cons_zero, List.setIfInBounds_toArray, List.set_cons_zero, List.set_cons_succ]
  refine wpAnyH_take (i := 4) (v := .agg (ks c)) rfl (by kernel_rfl) (by kernel_rfl) (by kernel_rfl) (fun _ _ _ h => h) (yields_row (by rfl) 25 (.tmp 5) rfl (w.heap.size + 1 + 1) rfl 25 (ks c) _ (fun W (h : Fr _ W _ _) => h.get (by simp)) Tryd.underlying25 rfl (info_ks _)) hHeld ?_
  try simp only [Act.put, List.getElem_toArray, List.getElem_cons_succ, List.getElem_cons_zero, List.setIfInBounds_toArray, List.set_cons_zero, List.set_cons_succ]
  refine wpAnyH_ready (rs := [1]) (by kernel_rfl) (by simp) (AllReadyH.cons rfl (fun K hK => ?_) AllReadyH.nil)
  have h0 := hHeld
  clear hHeld
  try simp only [List.getElem_toArray, List.getElem_cons_succ, List.getElem_cons_zero]
  have H0 := Lib.hid h0
  clear h0
  go_simp
  go_at_call 25
  refine (wordsW a _ HA.out).mono ?_
  rintro e vv ⟨rfl, hb⟩
  have h1 := H0.out.ext hb
  clear hb H0
  go_wp2_with (fail)
  refine hK.out _ _ h1 (fun hHeld => ?_)
  clear hK K h1
  try simp only [Act.put, List.getElem_toArray, List.getElem_cons_succ, List.getElem_cons_zero, List.setIfInBounds_toArray, List.set_cons_zero, List.set_cons_succ]
  refine wpAnyH_ready (rs := [3]) (by kernel_rfl) (by simp) (AllReadyH.cons rfl (fun K hK => ?_) AllReadyH.nil)
  have h0 := hHeld
  clear hHeld
  try simp only [List.getElem_toArray, List.getElem_cons_succ, List.getElem_cons_zero]
  have H0 := Lib.hid h0
  clear h0
  go_simp
  go_at_call 25
  refine (wordsW b _ HB.out).mono ?_
  rintro e vv ⟨rfl, hb⟩
  have h1 := H0.out.ext hb
  clear hb H0
  go_wp2_with (fail)
  refine hK.out _ _ h1 (fun hHeld => ?_)
  clear hK K h1
  try simp only [Act.put, List.getElem_toArray, List.getElem_cons_succ, List.getElem_cons_zero, List.setIfInBounds_toArray, List.set_cons_zero, List.set_cons_succ]
  refine wpAnyH_ready (rs := [5]) (by kernel_rfl) (by simp) (AllReadyH.cons rfl (fun K hK => ?_) AllReadyH.nil)
  have h0 := hHeld
  clear hHeld
  try simp only [List.getElem_toArray, List.getElem_cons_succ, List.getElem_cons_zero]
  have H0 := Lib.hid h0
  clear h0
  go_simp
  go_at_call 25
  refine (wordsW c _ HC.out).mono ?_
  rintro e vv ⟨rfl, hb⟩
  have h1 := H0.out.ext hb
  clear hb H0
  go_wp2_with (fail)
  refine hK.out _ _ h1 (fun hHeld => ?_)
  clear hK K h1
  try simp only [Act.put, List.getElem_toArray, List.getElem_cons_succ, List.getElem_cons_zero, List.setIfInBounds_toArray, List.set_cons_zero, List.set_cons_succ]
  refine wpAnyH_ready (rs := [6]) (by kernel_rfl) (by simp) (AllReadyH.cons rfl (fun K hK => ?_) AllReadyH.nil)
  have h0 := hHeld
  clear hHeld
  try simp only [List.getElem_toArray, List.getElem_cons_succ, List.getElem_cons_zero]
  have H0 := Lib.hid h0
  clear h0
  go_simp
  go_at_call 30
  refine (mulAddL a b c _ HA.out HB.out HC.out).mono ?_
  rintro e vv ⟨rfl, hb⟩
  have h1 := H0.out.ext hb
  clear hb H0
  go_wp2_with (fail)
  refine hK.out _ _ h1 (fun hHeld => ?_)
  clear hK K h1
  try simp only [Act.put, List.getElem_toArray, List.getElem_cons_succ, List.getElem_cons_zero, List.setIfInBounds_toArray, List.set_cons_zero, List.set_cons_succ]
  refine wpAnyH_ready (rs := [7]) (by kernel_rfl) (by simp) (AllReadyH.cons rfl (fun K hK => ?_) AllReadyH.nil)
  have h0 := hHeld
  clear hHeld
  try simp only [List.getElem_toArray, List.getElem_cons_succ, List.getElem_cons_zero]
  have H0 := Lib.hid h0
  clear h0
  go_simp
  go_at_call 20
  refine (HREST.out _ (Fr.og H0.out HOG.out)).mono ?_
  rintro e vv ⟨rfl, hb⟩
  have h1 := H0.out.ext hb
  clear hb H0
  go_wp2_with (fail)
  refine hK.out _ _ h1 (fun hHeld => ?_)
  clear hK K h1
  try simp only [Act.put, List.getElem_toArray, List.getElem_cons_succ, List.getElem_cons_zero, List.setIfInBounds_toArray, List.set_cons_zero, List.set_cons_succ]
  refine wpAnyH_ready (rs := [8]) (by kernel_rfl) (by simp) (AllReadyH.cons rfl (fun K hK => ?_) AllReadyH.nil)
  have h0 := hHeld
  clear hHeld
  try simp only [List.getElem_toArray, List.getElem_cons_succ, List.getElem_cons_zero]
  rw [if_pos (by rfl)]
  obtain ⟨old, hold, kold⟩ := Fr.old h0 (g := w.heap.size + 1 + 1 + 1) (t := 25) (n := 32) (by simp)
  refine wp_store_row 25 (.tmp 6) (.tmp 14) rfl (w.heap.size + 1 + 1 + 1) (ks r) rfl rfl 25 old kold (info_ks _) hold (ks_one _) ?_
  refine hK.out _ _ (Fr.setAny h0 (g := w.heap.size + 1 + 1 + 1) (t := 25) (ks_size _) (by simp) (by simp <;> omega)) (fun hHeld => ?_)
  have kb := kold.setRow_same (ks r)
  clear hK K h0 hold
  try simp only [Act.put, List.getElem_toArray, List.getElem_cons_succ, List.getElem_cons_zero, List.setIfInBounds_toArray, List.set_cons_zero, List.set_cons_succ]
  refine wpAnyH_done (by kernel_rfl) ?_ _
  have HF := Lib.hid hHeld
  clear hHeld
  go_wp2_with (fail)
  exact key_end (g := w.heap.size + 1 + 1 + 1) rfl rfl rfl kb HF.out.below
set_option maxRecDepth 100000 in
set_option maxHeartbeats 2000000 in
theorem add_key (a b : Nat) (w : World) (hog : OG w) (ha : a < 115792089237316195423570985008687907853269984665640564039457584007913129639936) (hb : b < 115792089237316195423570985008687907853269984665640564039457584007913129639936) : Calls Tryd.prog 18 #[.agg (ks a), .agg (ks b)] w (KeyPost ((a + b) % LL) w) := by
  have hfr := ((((Fr.start w).row (ks a) 25 (g := w.heap.size) rfl).row (ks b) 25 (g := w.heap.size + 1) (by simp)).any (ks 0) 25 32 (ks_size 0) (g := w.heap.size + 1 + 1) (by simp))
  have hfr2 := hfr
  rw [ks_zero] at hfr2
  have HFR := Lib.hid hfr2
  clear hfr hfr2
  have HOG := Lib.hid hog
  have hc := fun W ho => mulAdd_key a 1 b W ho ha (by omega) hb
  rw [Nat.mul_one, ks_one_cells] at hc
  have HC := Lib.hid hc
  clear hog ha hb hc
  generalize (a + b) % LL = r at *
  have k0 := HFR.out.get (g := w.heap.size) (t := 25) (cs := ks a) (by simp)
  have k1 := HFR.out.get (g := w.heap.size + 1) (t := 25) (cs := ks b) (by simp)
  have hO := HFR.out.og HOG.out
  have HO := Lib.hid hO
  clear hO
  go_enter Tryd.func18, Tryd.ntmps18
  go_wp2_with (first | (refine wpList_load_row rfl 25 (.tmp 2) rfl (w.heap.size) rfl 25 (ks a) (0, 0) _ k0 Tryd.underlying25 rfl (info_ks a) ?_) | (refine wpList_load_row rfl 25 (.tmp 3) rfl (w.heap.size + 1) rfl 25 (ks b) (0, 0) _ k1 Tryd.underlying25 rfl (info_ks b) ?_))
  refine (HC.out _ HO.out).mono ?_
  rintro e v1 ⟨rfl, hb⟩
  have f1 := HFR.out.ext hb
  obtain ⟨old, hold, kR⟩ := f1.old (g := w.heap.size + 1 + 1) (t := 25) (n := 32) (by simp)
  have kS := kR.setRow_same (ks r)
  have hB := below_setRow f1.below (show w.heap.size ≤ w.heap.size + 1 + 1 by omega) (ks r)
  have hold' : old.size = (ks r).size := by rw [hold, ks_size]
  have HS := Lib.hid kS
  have HB := Lib.hid hB
  have HO2 := Lib.hid hold'
  clear hb f1 kS hB hold hold' k0 k1
  go_wp2_with (first | (refine wpList_store_row rfl 25 (.tmp 4) (.tmp 8) rfl (w.heap.size + 1 + 1) (ks r) rfl rfl 25 old kR (info_ks r) HO2.out (ks_one _) ?_))
  exact key_end (g := w.heap.size + 1 + 1) rfl rfl rfl HS.out HB.out
set_option maxRecDepth 100000 in
set_option maxHeartbeats 2000000 in
theorem order_key (w : World) (hog : OG w) : Calls Tryd.prog 19 #[] w (KeyPost LL w) := by
  have hfr := ((Fr.start w).any (ks 0) 25 32 (ks_size 0) (g := w.heap.size) rfl)
  have hfr2 := hfr
  rw [ks_zero] at hfr2
  have HFR := Lib.hid hfr2
  clear hfr hfr2
  have HOG := Lib.hid hog
  have hO := HFR.out.og hog
  obtain ⟨hz, p0, p1, p2, p3⟩ := hog
  have hc := fun W => bytesW LL W LL_lt
  rw [ws_LL] at hc
  have HC := Lib.hid hc
  have HO := Lib.hid hO
  clear hc hO
  obtain ⟨r, hr⟩ : ∃ r, r = LL := ⟨_, rfl⟩
  rw [← hr] at HC ⊢
  clear hr
  go_enter Tryd.func19, Tryd.ntmps19
  go_wp2_with (fail)
  refine (HC.out _).mono ?_
  rintro e v1 ⟨rfl, hb⟩
  have f1 := HFR.out.ext hb
  obtain ⟨old, hold, kR⟩ := f1.old (g := w.heap.size) (t := 25) (n := 32) (by simp)
  have kS := kR.setRow_same (ks r)
  have hB := below_setRow f1.below (Nat.le_refl _) (ks r)
  have hold' : old.size = (ks r).size := by rw [hold, ks_size]
  have HS := Lib.hid kS
  have HB := Lib.hid hB
  have HO2 := Lib.hid hold'
  clear hb f1 kS hB hold hold'
  go_wp2_with (first | (refine wpList_store_row rfl 25 (.tmp 0) (.tmp 2) rfl (w.heap.size) (ks r) rfl rfl 25 old kR (info_ks r) HO2.out (ks_one _) ?_))
  exact key_end (g := w.heap.size) rfl rfl rfl HS.out HB.out
theorem ws_LL1 : ws 4 (LL - 1) = #[.int .u64 6346243789798364140, .int .u64 1503914060200516822, .int .u64 0, .int .u64 1152921504606846976] := by kernel_rfl
set_option maxRecDepth 100000 in
set_option maxHeartbeats 2000000 in
theorem neg_key (a : Nat) (w : World) (hog : OG w) (ha : a < 115792089237316195423570985008687907853269984665640564039457584007913129639936) : Calls Tryd.prog 15 #[.agg (ks a)] w (KeyPost (a * (LL - 1) % LL) w) := by
  have hfr := (((Fr.start w).row (ks a) 25 (g := w.heap.size) rfl).any (ks 0) 25 32 (ks_size 0) (g := w.heap.size + 1) (by simp))
  have hfr2 := hfr
  rw [ks_zero] at hfr2
  have HFR := Lib.hid hfr2
  clear hfr hfr2
  have HOG := Lib.hid hog
  have hm := fun W ho => mulAdd_key a (LL - 1) 0 W ho ha (by rw [LL_eq]; omega) (by omega)
  rw [Nat.add_zero, ks_zero] at hm
  have hby := fun W => bytesW (LL - 1) W (by rw [LL_eq]; omega)
  rw [ws_LL1] at hby
  generalize a * (LL - 1) % LL = r at *
  obtain ⟨q, hq⟩ : ∃ q, q = LL - 1 := ⟨_, rfl⟩
  rw [← hq] at hm hby
  clear hq
  have HM := Lib.hid hm
  have HBY := Lib.hid hby
  clear hm hby ha
  obtain ⟨hz, p0, p1, p2, p3⟩ := hog
  have hg := HFR.out.row #[.int .u64 6346243789798364140, .int .u64 1503914060200516822, .int .u64 0, .int .u64 1152921504606846976] 47 (g := w.heap.size + 1 + 1) (by simp)
  have HG := Lib.hid hg
  clear hg
  go_enter Tryd.func15, Tryd.ntmps15
  go_wp2_with (fail)
  refine wp_region_held_drew (S := fun W => Fr w W [(w.heap.size + 1 + 1, 47, #[.int .u64 6346243789798364140, .int .u64 1503914060200516822, .int .u64 0, .int .u64 1152921504606846976]), (w.heap.size, 25, ks a)] [(w.heap.size + 1, 25, 32)]) (by kernel_rfl) ?_ (fun hHeld => ?_)
  · exact HG.out.drew
  refine wpAnyH_take (i := 0) (v := .agg (ks a)) rfl (by kernel_rfl) (by kernel_rfl) (by kernel_rfl) (fun _ _ _ h => h) (yields_row (by rfl) 25 (.tmp 1) rfl (w.heap.size) rfl 25 (ks a) _ (fun W (h : Fr _ W _ _) => h.get (by simp)) Tryd.underlying25 rfl (info_ks _)) hHeld ?_
  try simp only [Act.put, List.getElem_toArray, List.getElem_cons_succ, List.getElem_cons_zero, List.setIfInBounds_toArray, List.set_cons_zero, List.set_cons_succ]
  refine wpAnyH_take (i := 1) (v := .agg (#[.int .u64 6346243789798364140, .int .u64 1503914060200516822, .int .u64 0, .int .u64 1152921504606846976])) rfl (by kernel_rfl) (by kernel_rfl) (by kernel_rfl) (fun _ _ _ h => h) (yields_row (by rfl) 47 (.tmp 3) rfl (w.heap.size + 1 + 1) rfl 47 (#[.int .u64 6346243789798364140, .int .u64 1503914060200516822, .int .u64 0, .int .u64 1152921504606846976]) _ (fun W (h : Fr _ W _ _) => h.get (by simp)) Tryd.underlying47 rfl info_w4) hHeld ?_
  try simp only [Act.put, List.getElem_toArray, List.getElem_cons_succ, List.getElem_cons_zero, List.setIfInBounds_toArray, List.set_cons_zero, List.set_cons_succ]
  refine wpAnyH_take (i := 3) (v := ?_) rfl (by kernel_rfl) (by kernel_rfl) (by kernel_rfl) (fun _ _ _ h => h) (Or.inl ⟨by rfl, ?_⟩) hHeld ?_
  rotate_left
  · (intro W hSw; (try dsimp only at hSw); (try simp only [List.getElem_toArray, List.getElem_cons_succ, List.getElem_cons_zero]); go_simp; try with_reducible rfl)
  try simp only [Act.put, List.getElem_toArray, List.getElem_cons_succ, List.getElem_cons_zero, List.setIfInBounds_toArray, List.set_cons_zero, List.set_cons_succ]
  refine wpAnyH_ready (rs := [2]) (by kernel_rfl) (by simp) (AllReadyH.cons rfl (fun K hK => ?_) AllReadyH.nil)
  have h0 := hHeld
  clear hHeld
  try simp only [List.getElem_toArray, List.getElem_cons_succ, List.getElem_cons_zero]
  have H0 := Lib.hid h0
  clear h0
  go_simp
  go_at_call 29
  refine (HBY.out _).mono ?_
  rintro e vv ⟨rfl, hb⟩
  have h1 := H0.out.ext hb
  clear hb H0
  go_wp2_with (fail)
  refine hK.out _ _ h1 (fun hHeld => ?_)
  clear hK K h1
  try simp only [Act.put, List.getElem_toArray, List.getElem_cons_succ, List.getElem_cons_zero, List.setIfInBounds_toArray, List.set_cons_zero, List.set_cons_succ]
  refine wpAnyH_ready (rs := [4]) (by kernel_rfl) (by simp) (AllReadyH.cons rfl (fun K hK => ?_) AllReadyH.nil)
  have h0 := hHeld
  clear hHeld
  try simp only [List.getElem_toArray, List.getElem_cons_succ, List.getElem_cons_zero]
  have H0 := Lib.hid h0
  clear h0
  go_simp
  go_at_call 16
  refine (HM.out _ (Fr.og H0.out HOG.out)).mono ?_
  rintro e vv ⟨rfl, hb⟩
  have h1 := H0.out.ext hb
  clear hb H0
  go_wp2_with (fail)
  refine hK.out _ _ h1 (fun hHeld => ?_)
  clear hK K h1
  try simp only [Act.put, List.getElem_toArray, List.getElem_cons_succ, List.getElem_cons_zero, List.setIfInBounds_toArray, List.set_cons_zero, List.set_cons_succ]
  refine wpAnyH_ready (rs := [5]) (by kernel_rfl) (by simp) (AllReadyH.cons rfl (fun K hK => ?_) AllReadyH.nil)
  have h0 := hHeld
  clear hHeld
  try simp only [List.getElem_toArray, List.getElem_cons_succ, List.getElem_cons_zero]
  rw [if_pos (by rfl)]
  obtain ⟨old, hold, kold⟩ := Fr.old h0 (g := w.heap.size + 1) (t := 25) (n := 32) (by simp)
  refine wp_store_row 25 (.tmp 2) (.tmp 13) rfl (w.heap.size + 1) (ks r) rfl rfl 25 old kold (info_ks _) hold (ks_one _) ?_
  refine hK.out _ _ (Fr.setAny h0 (g := w.heap.size + 1) (t := 25) (ks_size _) (by simp) (by simp <;> omega)) (fun hHeld => ?_)
  have kb := kold.setRow_same (ks r)
  clear hK K h0 hold
  try simp only [Act.put, List.getElem_toArray, List.getElem_cons_succ, List.getElem_cons_zero, List.setIfInBounds_toArray, List.set_cons_zero, List.set_cons_succ]
  refine wpAnyH_done (by kernel_rfl) ?_ _
  have HF := Lib.hid hHeld
  clear hHeld
  go_wp2_with (fail)
  exact key_end (g := w.heap.size + 1) rfl rfl rfl kb HF.out.below
set_option maxRecDepth 100000 in
set_option maxHeartbeats 2000000 in
theorem may_key (a : Nat) (w : World) (hog : OG w) (ha : a < 115792089237316195423570985008687907853269984665640564039457584007913129639936) : Calls Tryd.prog 10 #[.agg (ks a)] w (fun e w' => e = .returned (.bool (decide (a < LL))) ∧ Below w.heap.size w w') := by
  have hfr := (Fr.start w).row (ks a) 25 (g := w.heap.size) rfl
  obtain ⟨m, c, hc, hcv⟩ := minusL_ex a ha
  have HC := Lib.hid hc
  have hO := hfr.og hog
  have HA := Lib.hid ha
  clear hc ha hog
  have hce : ((c : Int) == 1) = decide (a < LL) := by rw [hcv]; by_cases h : a < LL <;> simp [h]
  have HCE := Lib.hid hce
  clear hce hcv
  go_enter Tryd.func10, Tryd.ntmps10
  go_wp2_with (fail)
  obtain ⟨wx, hwx⟩ : ∃ wx : World, wx = w.alloc (Obj.cells (ks a) 25) := ⟨_, rfl⟩
  rw [← hwx] at hfr hO ⊢
  clear hwx
  have hn := hfr.now.sub (L' := [(w.heap.size, 25, ks a)]) (by simp)
  have HN := Lib.hid hn
  have HFR := Lib.hid hfr
  have HO := Lib.hid hO
  clear hn hfr hO
  refine wp_region_held_drew (S := fun W => Fn wx W [(w.heap.size, 25, ks a)]) (by kernel_rfl) ?_ (fun hHeld => ?_)
  · exact HN.out.drew
  refine wpAnyH_take (i := 0) (v := .agg (ks a)) rfl (by kernel_rfl) (by kernel_rfl) (by kernel_rfl) (fun _ _ _ h => h) (yields_row (by rfl) 25 (.tmp 1) rfl (w.heap.size) rfl 25 (ks a) _ (fun W (h : Fn _ W _) => h.get (by simp)) Tryd.underlying25 rfl (info_ks _)) hHeld ?_
  try simp only [Act.put, List.getElem_toArray, List.getElem_cons_succ, List.getElem_cons_zero, List.setIfInBounds_toArray, List.set_cons_zero, List.set_cons_succ]
  refine wpAnyH_take (i := 2) (v := .agg #[.int .u64 6346243789798364141, .int .u64 1503914060200516822, .int .u64 0, .int .u64 1152921504606846976]) rfl (by kernel_rfl) (by kernel_rfl) (by kernel_rfl) (fun _ _ _ h => h) (Or.inl ⟨by rfl, ?_⟩) hHeld ?_
  · (intro W hSw; have hO := HO.out.ext (show Fn wx W _ from hSw).below; clear hSw; obtain ⟨hz, p0, p1, p2, p3⟩ := hO; (try simp only [List.getElem_toArray, List.getElem_cons_succ, List.getElem_cons_zero]); go_simp; try with_reducible rfl)
  try simp only [Act.put, List.getElem_toArray, List.getElem_cons_succ, List.getElem_cons_zero, List.setIfInBounds_toArray, List.set_cons_zero, List.set_cons_succ]
  refine wpAnyH_ready (rs := [1, 7]) (by kernel_rfl) (by simp) (AllReadyH.cons rfl (fun K hK => ?_) (AllReadyH.cons rfl (fun K hK => ?_) AllReadyH.nil))
  · have h0 := hHeld
    clear hHeld
    try simp only [List.getElem_toArray, List.getElem_cons_succ, List.getElem_cons_zero]
    have H0 := Lib.hid h0
    clear h0
    go_simp
    go_at_call 25
    refine (wordsW a _ HA.out).mono ?_
    rintro e vv ⟨rfl, hb⟩
    have h1 := H0.out.ext hb
    clear hb H0
    go_wp2_with (fail)
    refine hK.out _ _ h1 (fun hHeld => ?_)
    clear hK K h1
    try simp only [Act.put, List.getElem_toArray, List.getElem_cons_succ, List.getElem_cons_zero, List.setIfInBounds_toArray, List.set_cons_zero, List.set_cons_succ]
    refine wpAnyH_ready (rs := [3, 7]) (by kernel_rfl) (by simp) (AllReadyH.cons rfl (fun K hK => ?_) (AllReadyH.cons rfl (fun K hK => ?_) AllReadyH.nil))
    · have h0 := hHeld
      clear hHeld
      try simp only [List.getElem_toArray, List.getElem_cons_succ, List.getElem_cons_zero]
      have H0 := Lib.hid h0
      clear h0
      go_simp
      go_at_call 24
      refine (HC.out _).mono ?_
      rintro e vv ⟨rfl, hb⟩
      have h1 := H0.out.ext hb
      clear hb H0
      go_wp2_with (fail)
      refine hK.out _ _ h1 (fun hHeld => ?_)
      clear hK K h1
      try simp only [Act.put, List.getElem_toArray, List.getElem_cons_succ, List.getElem_cons_zero, List.setIfInBounds_toArray, List.set_cons_zero, List.set_cons_succ]
      refine wpAnyH_take (i := 4) (v := ?_) rfl (by kernel_rfl) (by kernel_rfl) (by kernel_rfl) (fun _ _ _ h => h) (Or.inl ⟨by rfl, ?_⟩) hHeld ?_
      rotate_left
      · (intro W hSw; (try dsimp only at hSw); (try simp only [List.getElem_toArray, List.getElem_cons_succ, List.getElem_cons_zero]); go_simp; try with_reducible rfl)
      try simp only [Act.put, List.getElem_toArray, List.getElem_cons_succ, List.getElem_cons_zero, List.setIfInBounds_toArray, List.set_cons_zero, List.set_cons_succ]
      refine wpAnyH_take (i := 5) (v := ?_) rfl (by kernel_rfl) (by kernel_rfl) (by kernel_rfl) (fun _ _ _ h => h) (Or.inl ⟨by rfl, ?_⟩) hHeld ?_
      rotate_left
      · (intro W hSw; (try dsimp only at hSw); (try simp only [List.getElem_toArray, List.getElem_cons_succ, List.getElem_cons_zero]); go_simp; try with_reducible rfl)
      try simp only [Act.put, List.getElem_toArray, List.getElem_cons_succ, List.getElem_cons_zero, List.setIfInBounds_toArray, List.set_cons_zero, List.set_cons_succ]
      refine wpAnyH_take (i := 6) (v := ?_) rfl (by kernel_rfl) (by kernel_rfl) (by kernel_rfl) (fun _ _ _ h => h) (Or.inl ⟨by rfl, ?_⟩) hHeld ?_
      rotate_left
      · (intro W hSw; (try dsimp only at hSw); (try simp only [List.getElem_toArray, List.getElem_cons_succ, List.getElem_cons_zero]); go_simp; try with_reducible rfl)
      try simp only [Act.put, List.getElem_toArray, List.getElem_cons_succ, List.getElem_cons_zero, List.setIfInBounds_toArray, List.set_cons_zero, List.set_cons_succ]
      refine wpAnyH_ready (rs := [7]) (by kernel_rfl) (by simp) (AllReadyH.cons rfl (fun K hK => ?_) AllReadyH.nil)
      have h0 := hHeld
      clear hHeld
      try simp only [List.getElem_toArray, List.getElem_cons_succ, List.getElem_cons_zero]
      obtain ⟨kz, hg⟩ := Fn.fresh h0 47 #[.int .u64 0, .int .u64 0, .int .u64 0, .int .u64 0]
      have KZ := Lib.hid kz
      have HG := Lib.hid hg
      have H0 := Lib.hid h0
      clear kz hg h0
      go_simp
      refine hK.out _ _ (Fn.pass H0.out _) (fun hHeld => ?_)
      clear hK K H0
      try simp only [Act.put, List.getElem_toArray, List.getElem_cons_succ, List.getElem_cons_zero, List.setIfInBounds_toArray, List.set_cons_zero, List.set_cons_succ]
      refine wpAnyH_ready (rs := [8]) (by kernel_rfl) (by simp) (AllReadyH.cons rfl (fun K hK => ?_) AllReadyH.nil)
      have h0 := hHeld
      clear hHeld
      try simp only [List.getElem_toArray, List.getElem_cons_succ, List.getElem_cons_zero]
      rw [if_pos (by rfl)]
      refine wp_store_row 47 (.tmp 3) (.tmp 10) rfl _ (ws 4 m) rfl rfl 47 _ KZ.out (info_ws4 m) rfl (ws_one _ _) ?_
      refine hK.out _ _ (Fn.setFresh h0 HG.out _) (fun hHeld => ?_)
      have kb := KZ.out.setRow_same (ws 4 m)
      clear hK K h0
      try simp only [Act.put, List.getElem_toArray, List.getElem_cons_succ, List.getElem_cons_zero, List.setIfInBounds_toArray, List.set_cons_zero, List.set_cons_succ]
      refine wpAnyH_take (i := 9) (v := ?_) rfl (by kernel_rfl) (by kernel_rfl) (by kernel_rfl) (fun _ _ _ h => h) (Or.inl ⟨by rfl, ?_⟩) hHeld ?_
      rotate_left
      · (intro W hSw; (try dsimp only at hSw); (try simp only [List.getElem_toArray, List.getElem_cons_succ, List.getElem_cons_zero]); go_simp; try with_reducible rfl)
      try simp only [Act.put, List.getElem_toArray, List.getElem_cons_succ, List.getElem_cons_zero, List.setIfInBounds_toArray, List.set_cons_zero, List.set_cons_succ]
      refine wpAnyH_done (by kernel_rfl) ?_ _
      have HB := Lib.hid (HFR.out.ext hHeld.below)
      clear hHeld
      go_wp2_with (fail)
      simp only [HCE.out]
      go_ret
      exact ⟨rfl, HB.out.below⟩
    · have h0 := hHeld
      clear hHeld
      try simp only [List.getElem_toArray, List.getElem_cons_succ, List.getElem_cons_zero]
      obtain ⟨kz, hg⟩ := Fn.fresh h0 47 #[.int .u64 0, .int .u64 0, .int .u64 0, .int .u64 0]
      have KZ := Lib.hid kz
      have HG := Lib.hid hg
      have H0 := Lib.hid h0
      clear kz hg h0
      go_simp
      refine hK.out _ _ (Fn.pass H0.out _) (fun hHeld => ?_)
      clear hK K H0
      try simp only [Act.put, List.getElem_toArray, List.getElem_cons_succ, List.getElem_cons_zero, List.setIfInBounds_toArray, List.set_cons_zero, List.set_cons_succ]
      refine wpAnyH_ready (rs := [3]) (by kernel_rfl) (by simp) (AllReadyH.cons rfl (fun K hK => ?_) AllReadyH.nil)
      have h0 := hHeld
      clear hHeld
      try simp only [List.getElem_toArray, List.getElem_cons_succ, List.getElem_cons_zero]
      have H0 := Lib.hid h0
      clear h0
      go_simp
      go_at_call 24
      refine (HC.out _).mono ?_
      rintro e vv ⟨rfl, hb⟩
      have kz := KZ.out.below hb KZ.out.lt
      clear KZ
      have KZ := Lib.hid kz
      clear kz
      have h1 := H0.out.ext hb
      clear hb H0
      go_wp2_with (fail)
      refine hK.out _ _ h1 (fun hHeld => ?_)
      clear hK K h1
      try simp only [Act.put, List.getElem_toArray, List.getElem_cons_succ, List.getElem_cons_zero, List.setIfInBounds_toArray, List.set_cons_zero, List.set_cons_succ]
      refine wpAnyH_take (i := 4) (v := ?_) rfl (by kernel_rfl) (by kernel_rfl) (by kernel_rfl) (fun _ _ _ h => h) (Or.inl ⟨by rfl, ?_⟩) hHeld ?_
      rotate_left
      · (intro W hSw; (try dsimp only at hSw); (try simp only [List.getElem_toArray, List.getElem_cons_succ, List.getElem_cons_zero]); go_simp; try with_reducible rfl)
      try simp only [Act.put, List.getElem_toArray, List.getElem_cons_succ, List.getElem_cons_zero, List.setIfInBounds_toArray, List.set_cons_zero, List.set_cons_succ]
      refine wpAnyH_take (i := 5) (v := ?_) rfl (by kernel_rfl) (by kernel_rfl) (by kernel_rfl) (fun _ _ _ h => h) (Or.inl ⟨by rfl, ?_⟩) hHeld ?_
      rotate_left
      · (intro W hSw; (try dsimp only at hSw); (try simp only [List.getElem_toArray, List.getElem_cons_succ, List.getElem_cons_zero]); go_simp; try with_reducible rfl)
      try simp only [Act.put, List.getElem_toArray, List.getElem_cons_succ, List.getElem_cons_zero, List.setIfInBounds_toArray, List.set_cons_zero, List.set_cons_succ]
      refine wpAnyH_take (i := 6) (v := ?_) rfl (by kernel_rfl) (by kernel_rfl) (by kernel_rfl) (fun _ _ _ h => h) (Or.inl ⟨by rfl, ?_⟩) hHeld ?_
      rotate_left
      · (intro W hSw; (try dsimp only at hSw); (try simp only [List.getElem_toArray, List.getElem_cons_succ, List.getElem_cons_zero]); go_simp; try with_reducible rfl)
      try simp only [Act.put, List.getElem_toArray, List.getElem_cons_succ, List.getElem_cons_zero, List.setIfInBounds_toArray, List.set_cons_zero, List.set_cons_succ]
      refine wpAnyH_ready (rs := [8]) (by kernel_rfl) (by simp) (AllReadyH.cons rfl (fun K hK => ?_) AllReadyH.nil)
      have h0 := hHeld
      clear hHeld
      try simp only [List.getElem_toArray, List.getElem_cons_succ, List.getElem_cons_zero]
      rw [if_pos (by rfl)]
      refine wp_store_row 47 (.tmp 3) (.tmp 10) rfl _ (ws 4 m) rfl rfl 47 _ KZ.out (info_ws4 m) rfl (ws_one _ _) ?_
      refine hK.out _ _ (Fn.setFresh h0 HG.out _) (fun hHeld => ?_)
      have kb := KZ.out.setRow_same (ws 4 m)
      clear hK K h0
      try simp only [Act.put, List.getElem_toArray, List.getElem_cons_succ, List.getElem_cons_zero, List.setIfInBounds_toArray, List.set_cons_zero, List.set_cons_succ]
      refine wpAnyH_take (i := 9) (v := ?_) rfl (by kernel_rfl) (by kernel_rfl) (by kernel_rfl) (fun _ _ _ h => h) (Or.inl ⟨by rfl, ?_⟩) hHeld ?_
      rotate_left
      · (intro W hSw; (try dsimp only at hSw); (try simp only [List.getElem_toArray, List.getElem_cons_succ, List.getElem_cons_zero]); go_simp; try with_reducible rfl)
      try simp only [Act.put, List.getElem_toArray, List.getElem_cons_succ, List.getElem_cons_zero, List.setIfInBounds_toArray, List.set_cons_zero, List.set_cons_succ]
      refine wpAnyH_done (by kernel_rfl) ?_ _
      have HB := Lib.hid (HFR.out.ext hHeld.below)
      clear hHeld
      go_wp2_with (fail)
      simp only [HCE.out]
      go_ret
      exact ⟨rfl, HB.out.below⟩
  · have h0 := hHeld
    clear hHeld
    try simp only [List.getElem_toArray, List.getElem_cons_succ, List.getElem_cons_zero]
    obtain ⟨kz, hg⟩ := Fn.fresh h0 47 #[.int .u64 0, .int .u64 0, .int .u64 0, .int .u64 0]
    have KZ := Lib.hid kz
    have HG := Lib.hid hg
    have H0 := Lib.hid h0
    clear kz hg h0
    go_simp
    refine hK.out _ _ (Fn.pass H0.out _) (fun hHeld => ?_)
    clear hK K H0
    try simp only [Act.put, List.getElem_toArray, List.getElem_cons_succ, List.getElem_cons_zero, List.setIfInBounds_toArray, List.set_cons_zero, List.set_cons_succ]
    refine wpAnyH_ready (rs := [1]) (by kernel_rfl) (by simp) (AllReadyH.cons rfl (fun K hK => ?_) AllReadyH.nil)
    have h0 := hHeld
    clear hHeld
    try simp only [List.getElem_toArray, List.getElem_cons_succ, List.getElem_cons_zero]
    have H0 := Lib.hid h0
    clear h0
    go_simp
    go_at_call 25
    refine (wordsW a _ HA.out).mono ?_
    rintro e vv ⟨rfl, hb⟩
    have kz := KZ.out.below hb KZ.out.lt
    clear KZ
    have KZ := Lib.hid kz
    clear kz
    have h1 := H0.out.ext hb
    clear hb H0
    go_wp2_with (fail)
    refine hK.out _ _ h1 (fun hHeld => ?_)
    clear hK K h1
    try simp only [Act.put, List.getElem_toArray, List.getElem_cons_succ, List.getElem_cons_zero, List.setIfInBounds_toArray, List.set_cons_zero, List.set_cons_succ]
    refine wpAnyH_ready (rs := [3]) (by kernel_rfl) (by simp) (AllReadyH.cons rfl (fun K hK => ?_) AllReadyH.nil)
    have h0 := hHeld
    clear hHeld
    try simp only [List.getElem_toArray, List.getElem_cons_succ, List.getElem_cons_zero]
    have H0 := Lib.hid h0
    clear h0
    go_simp
    go_at_call 24
    refine (HC.out _).mono ?_
    rintro e vv ⟨rfl, hb⟩
    have kz := KZ.out.below hb KZ.out.lt
    clear KZ
    have KZ := Lib.hid kz
    clear kz
    have h1 := H0.out.ext hb
    clear hb H0
    go_wp2_with (fail)
    refine hK.out _ _ h1 (fun hHeld => ?_)
    clear hK K h1
    try simp only [Act.put, List.getElem_toArray, List.getElem_cons_succ, List.getElem_cons_zero, List.setIfInBounds_toArray, List.set_cons_zero, List.set_cons_succ]
    refine wpAnyH_take (i := 4) (v := ?_) rfl (by kernel_rfl) (by kernel_rfl) (by kernel_rfl) (fun _ _ _ h => h) (Or.inl ⟨by rfl, ?_⟩) hHeld ?_
    rotate_left
    · (intro W hSw; (try dsimp only at hSw); (try simp only [List.getElem_toArray, List.getElem_cons_succ, List.getElem_cons_zero]); go_simp; try with_reducible rfl)
    try simp only [Act.put, List.getElem_toArray, List.getElem_cons_succ, List.getElem_cons_zero, List.setIfInBounds_toArray, List.set_cons_zero, List.set_cons_succ]
    refine wpAnyH_take (i := 5) (v := ?_) rfl (by kernel_rfl) (by kernel_rfl) (by kernel_rfl) (fun _ _ _ h => h) (Or.inl ⟨by rfl, ?_⟩) hHeld ?_
    rotate_left
    · (intro W hSw; (try dsimp only at hSw); (try simp only [List.getElem_toArray, List.getElem_cons_succ, List.getElem_cons_zero]); go_simp; try with_reducible rfl)
    try simp only [Act.put, List.getElem_toArray, List.getElem_cons_succ, List.getElem_cons_zero, List.setIfInBounds_toArray, List.set_cons_zero, List.set_cons_succ]
    refine wpAnyH_take (i := 6) (v := ?_) rfl (by kernel_rfl) (by kernel_rfl) (by kernel_rfl) (fun _ _ _ h => h) (Or.inl ⟨by rfl, ?_⟩) hHeld ?_
    rotate_left
    · (intro W hSw; (try dsimp only at hSw); (try simp only [List.getElem_toArray, List.getElem_cons_succ, List.getElem_cons_zero]); go_simp; try with_reducible rfl)
    try simp only [Act.put, List.getElem_toArray, List.getElem_cons_succ, List.getElem_cons_zero, List.setIfInBounds_toArray, List.set_cons_zero, List.set_cons_succ]
    refine wpAnyH_ready (rs := [8]) (by kernel_rfl) (by simp) (AllReadyH.cons rfl (fun K hK => ?_) AllReadyH.nil)
    have h0 := hHeld
    clear hHeld
    try simp only [List.getElem_toArray, List.getElem_cons_succ, List.getElem_cons_zero]
    rw [if_pos (by rfl)]
    refine wp_store_row 47 (.tmp 3) (.tmp 10) rfl _ (ws 4 m) rfl rfl 47 _ KZ.out (info_ws4 m) rfl (ws_one _ _) ?_
    refine hK.out _ _ (Fn.setFresh h0 HG.out _) (fun hHeld => ?_)
    have kb := KZ.out.setRow_same (ws 4 m)
    clear hK K h0
    try simp only [Act.put, List.getElem_toArray, List.getElem_cons_succ, List.getElem_cons_zero, List.setIfInBounds_toArray, List.set_cons_zero, List.set_cons_succ]
    refine wpAnyH_take (i := 9) (v := ?_) rfl (by kernel_rfl) (by kernel_rfl) (by kernel_rfl) (fun _ _ _ h => h) (Or.inl ⟨by rfl, ?_⟩) hHeld ?_
    rotate_left
    · (intro W hSw; (try dsimp only at hSw); (try simp only [List.getElem_toArray, List.getElem_cons_succ, List.getElem_cons_zero]); go_simp; try with_reducible rfl)
    try simp only [Act.put, List.getElem_toArray, List.getElem_cons_succ, List.getElem_cons_zero, List.setIfInBounds_toArray, List.set_cons_zero, List.set_cons_succ]
    refine wpAnyH_done (by kernel_rfl) ?_ _
    have HB := Lib.hid (HFR.out.ext hHeld.below)
    clear hHeld
    go_wp2_with (fail)
    simp only [HCE.out]
    go_ret
    exact ⟨rfl, HB.out.below⟩
end Go.Proofs.YtpliddkdahgbpaaDoor
