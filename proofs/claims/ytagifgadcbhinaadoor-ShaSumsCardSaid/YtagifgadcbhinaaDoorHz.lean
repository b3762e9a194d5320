/- The start and the constants, as the program finds them. -/
import Derived.Test.YtagifgadcbhinaaDoorHy
namespace Go.Proofs.YtagifgadcbhinaaDoor
set_option linter.unusedVariables false
set_option linter.unusedSimpArgs false
open Go Go.RowKit

theorem size_u64z (W : World) : (sizeOf 35).run Tryd.prog W = .ok 1 W := by kernel_rfl
theorem same_beq (x y : Q4) : (x.l == y.l) = x.same y := by
  obtain ⟨a, b, c, d⟩ := x
  obtain ⟨e, f, g, h⟩ := y
  rw [Bool.eq_iff_iff]
  simp [Q4.l, Q4.same]
theorem number_eq (x y : Q4) (b : Bool) (h : x.same y = b) (W : World) : (Op.equalIn 10000 62 (.agg (us x.l)) (.agg (us y.l))).run Tryd.prog W = .ok b W := by
  have h2 := run_equalIn_nats (P := Tryd.prog) W 9998 62 35 4 .u64 Tryd.underlying62 Tryd.underlying35 size_u64z x.l y.l rfl rfl
  rw [same_beq, h] at h2
  exact h2
theorem lowN_ok {n p : Nat} {x y : Q4} (hx : x.ok) (h : lowN n p x = some y) : y.ok := by
  rcases lowN_cases h with ⟨_, rfl⟩ | ⟨_, q, m, _, hm, rfl⟩
  · exact hx
  · exact ⟨hx.a, by rw [hm]; exact subW_lt _ _, hx.c, hx.d⟩
/-- What the steps come to behind one that came from x to y. -/
def goesB (n p k : Nat) (x y z : Q4) : Bool := if y.same x then x.same z else chainB n p k y z
theorem chain_goes {n p k : Nat} {x z : Q4} (h : chainB n p (k + 1) x z = true) : ∃ y, lowN n p x = some y ∧ goesB n p k x y z = true := by
  rw [chainB] at h
  split at h
  · cases h
  · exact ⟨_, by assumption, h⟩
theorem goes_end {n p k : Nat} {x y z : Q4} (h : goesB n p k x y z = true) (e : y.same x = true) : x = z := by
  unfold goesB at h
  rw [if_pos e] at h
  exact (Q4.same_iff _ _).1 h
theorem goes_on {n p k : Nat} {x y z : Q4} (h : goesB n p k x y z = true) (e : y.same x = false) : ∃ j y', k = j + 1 ∧ lowN n p y = some y' ∧ goesB n p j y y' z = true := by
  unfold goesB at h
  rw [e] at h
  cases k with
  | zero => cases h
  | succ j =>
    obtain ⟨y', h1, h2⟩ := chain_goes h
    exact ⟨j, y', rfl, h1, h2⟩
theorem fracB_up {n p v c : Nat} (h : fracB n p v c = true) : wholeB n p v = true ∧ ∃ y, lowN n p ⟨v, 18446744073709551615, 0, 0⟩ = some y ∧ goesB n p 19 ⟨v, 18446744073709551615, 0, 0⟩ y ⟨v, c, 0, 0⟩ = true := by
  simp only [fracB, Bool.and_eq_true] at h
  exact ⟨h.1, chain_goes h.2⟩
attribute [local irreducible] lowN chainB goesB fracB wholeB Q4.same
set_option maxRecDepth 100000 in
set_option maxHeartbeats 2000000 in
theorem fraction_any (n p v c : Nat) (w : World) (hn : n < 18446744073709551616) (hp : p = 2 ∨ p = 3) (hv : v ≤ 60) (h : fracB n p v c = true) : Calls Tryd.prog 18 #[.int .u64 n, .int .i64 p] w fun e w' => e = .returned (.int .u64 (c : Int)) ∧ Below w.heap.size w w' := by
  obtain ⟨hw, y0, hy0, hg0⟩ := fracB_up h
  clear h
  have hx0 : (Q4.mk v 18446744073709551615 0 0).ok := ⟨by simp only; omega, by simp, by simp, by simp⟩
  have ew := whole_any n p v w hn (by omega) hv hw
  obtain ⟨x0, e0⟩ : ∃ q, q = Q4.mk v 18446744073709551615 0 0 := ⟨_, rfl⟩
  rw [← e0] at hy0 hg0 hx0
  have e0l : us x0.l = #[.int .u64 (v : Int), .int .u64 18446744073709551615, .int .u64 0, .int .u64 0] := by rw [e0]; rfl
  clear e0
  have f0 := (Fr.start w).row (us [0, 0, 0, 0]) 62 (g := w.heap.size) rfl
  have k0 := f0.get (g := w.heap.size) (t := 62) (cs := us [0, 0, 0, 0]) (by simp)
  have f1 := f0.setRowHead (by simp <;> omega) (by simp <;> omega) (us x0.l) (by omega)
  rw [us_zero4] at k0 f1
  have k1 := f1.get (g := w.heap.size) (t := 62) (cs := us x0.l) (by simp)
  have F1 := Lib.hid f1
  have HG := Lib.hid hg0
  have HY := Lib.hid hy0
  have EW := Lib.hid ew
  clear f0 f1 hw hg0 hy0 ew
  go_enter Tryd.func18, Tryd.ntmps18
  go_wp2_with (fail)
  refine EW.out.mono ?_
  rintro e w' ⟨rfl, rfl⟩
  have E0 := Lib.hid e0l
  clear e0l
  go_wp2_with (first | (refine wpList_store_row rfl 62 (.tmp 5) (.tmp 10) rfl (w.heap.size) (us x0.l) rfl (by rw [E0.out]; rfl) 62 (_) k0 (info_us size_number rfl) rfl (us_one _) ?_) | (refine wpList_load_row rfl 62 (.tmp 5) rfl (w.heap.size) rfl 62 (us x0.l) (0, 0) _ k1 Tryd.underlying62 rfl (info_us size_number rfl) ?_))
  refine (lowered_any x0 y0 n p _ hx0 hn hp HY.out).mono ?_
  rintro e v1 ⟨rfl, hb⟩
  clear k0 k1
  have f2 := F1.out.ext hb
  have hv1 : w.heap.size < v1.heap.size := by have := hb.size; simp at this; omega
  have f3 := f2.row (us [0, 0, 0, 0]) 62 rfl
  generalize hg6 : v1.heap.size = g6 at *
  have k6 := f3.get (g := g6) (t := 62) (cs := us [0, 0, 0, 0]) (by simp)
  have f4 := f3.setRowHead (by simp <;> omega) (by simp <;> omega) (us y0.l) (by omega)
  rw [us_zero4] at k6 f4
  have F4 := Lib.hid f4
  clear f2 f3 f4 hb F1
  go_wp2_with (first | (refine wpList_store_row rfl 62 (.tmp 6) (.tmp 14) rfl (g6) (us y0.l) rfl rfl 62 (_) k6 (info_us size_number rfl) rfl (us_one _) ?_))
  clear k6
  try simp only [Act.put, List.getElem_toArray, List.getElem_cons_succ, List.getElem_cons_zero, List.setIfInBounds_toArray, List.set_cons_zero, List.set_cons_succ]
  go_loopg [6] 19 (fun gk q wr => ∃ (g : Nat) (x y : Q4), q = .pointer (some ⟨g, 0, none⟩) ∧ x.ok ∧ Hid (lowN n p x = some y) ∧ Hid (goesB n p gk x y ⟨v, c, 0, 0⟩ = true) ∧ w.heap.size < g ∧ Fr w wr [(g, 62, us y.l), (w.heap.size, 62, us x.l)] [])
  case atStart => exact ⟨g6, x0, y0, rfl, hx0, HY, HG, hv1, F4.out⟩
  case round =>
    clear F4 HY HG hg6 hv1
    obtain ⟨g, x, y, rfl, hx, hl, hgo, hg, hF⟩ := hrel
    have ky := hF.get (g := g) (t := 62) (cs := us y.l) (by simp)
    have kx := hF.get (g := w.heap.size) (t := 62) (cs := us x.l) (by simp)
    have HF := Lib.hid hF
    clear hF
    have hyo := lowN_ok hx hl.out
    cases hs : y.same x
    · obtain ⟨j, y', rfl, h1, h2⟩ := goes_on hgo.out hs
      have he := number_eq y x false hs
      have H1 := Lib.hid h1
      have H2 := Lib.hid h2
      clear hs h1 h2 hgo hl
      have f1 : Fr w (wr.setRow (w.heap.size) (us y.l)) [(w.heap.size, 62, us y.l), (g, 62, us y.l)] [] := (HF.out.sub (L' := [(w.heap.size, 62, us x.l), (g, 62, us y.l)]) (by simp) (by simp)).setRowHead (by simp <;> omega) (by simp <;> omega) (us y.l) (Nat.le_refl _)
      have k6 := f1.get (g := g) (t := 62) (cs := us y.l) (by simp)
      have hsz : (wr.setRow (w.heap.size) (us y.l)).heap.size = wr.heap.size := by simp [World.setRow]
      have f2 := f1.row (us [0, 0, 0, 0]) 62 (g := wr.heap.size) hsz.symm
      have hg1 : w.heap.size < wr.heap.size := kx.lt
      have hg2 : g < wr.heap.size := ky.lt
      have k7 := f2.get (g := wr.heap.size) (t := 62) (cs := us [0, 0, 0, 0]) (by simp)
      have f3 := f2.setRowHead (by simp <;> omega) (by simp <;> omega) (us y.l) (by omega)
      rw [us_zero4] at k7 f3
      have k8 := f3.get (g := w.heap.size) (t := 62) (cs := us y.l) (by simp)
      have F3 := Lib.hid f3
      clear f1 f2 f3 HF
      go_wp2_with (first | (refine wpList_load_row rfl 62 (.tmp 6) rfl (g) rfl 62 (us y.l) (0, 0) _ ky Tryd.underlying62 rfl (info_us size_number rfl) ?_) | (refine wpList_load_row rfl 62 (.tmp 5) rfl (w.heap.size) rfl 62 (us x.l) (0, 0) _ kx Tryd.underlying62 rfl (info_us size_number rfl) ?_) | (refine wpList_store_row rfl 62 (.tmp 5) (.tmp 22) rfl (w.heap.size) (us y.l) rfl rfl 62 (_) kx (info_us size_number rfl) rfl (us_one _) ?_) | (refine wpList_load_row rfl 62 (.tmp 6) rfl (g) rfl 62 (us y.l) (0, 0) _ k6 Tryd.underlying62 rfl (info_us size_number rfl) ?_) | (refine wpList_store_row rfl 62 (.tmp 6) (.tmp 23) rfl (wr.heap.size) (us y.l) rfl rfl 62 (_) k7 (info_us size_number rfl) rfl (us_one _) ?_) | (refine wpList_load_row rfl 62 (.tmp 5) rfl (w.heap.size) rfl 62 (us y.l) (0, 0) _ k8 Tryd.underlying62 rfl (info_us size_number rfl) ?_))
      refine (lowered_any y y' n p _ hyo hn hp H1.out).mono ?_
      rintro e v2 ⟨rfl, hb⟩
      have f4 := F3.out.ext hb
      have k9 := f4.get (g := wr.heap.size) (t := 62) (cs := us y.l) (by simp)
      have f5 := f4.setRowHead (by simp <;> omega) (by simp <;> omega) (us y'.l) (by omega)
      have f6 := f5.sub (L' := [(wr.heap.size, 62, us y'.l), (w.heap.size, 62, us y.l)]) (R' := []) (by simp) (by simp)
      have F6 := Lib.hid f6
      clear f4 f5 f6 hb F3
      go_wp2_with (first | (refine wpList_store_row rfl 62 (.tmp 6) (.tmp 21) rfl (wr.heap.size) (us y'.l) rfl rfl 62 (_) k9 (info_us size_number rfl) rfl (us_one _) ?_))
      try simp only [Act.put, List.getElem_toArray, List.getElem_cons_succ, List.getElem_cons_zero, List.setIfInBounds_toArray, List.set_cons_zero, List.set_cons_succ]
      go_roundg j
      case measure => omega
      case rel => exact ⟨wr.heap.size, y, y', rfl, hyo, H1, H2, hg1, F6.out⟩
    · obtain rfl : x = _ := goes_end hgo.out hs
      have he := number_eq y _ true hs
      clear hs hgo hl
      have c1 := kx.cell 1
      rw [us_at (i := 1) (x := c) rfl] at c1
      go_wp2_with (first | (refine wpList_load_row rfl 62 (.tmp 6) rfl (g) rfl 62 (us y.l) (0, 0) _ ky Tryd.underlying62 rfl (info_us size_number rfl) ?_) | (refine wpList_load_row rfl 62 (.tmp 5) rfl (w.heap.size) rfl 62 (us _) (0, 0) _ kx Tryd.underlying62 rfl (info_us size_number rfl) ?_))
      go_ret
      exact ⟨rfl, HF.out.below⟩
/-- The global row of the primes, as the program's constants begin. -/
structure PM (w : World) : Prop where
  lt : 0 < w.heap.size
  c : ∀ i, i < 80 → w.cell? ⟨0, i, none⟩ = some (.int .u64 ((PR.getD i 0 : Nat) : Int))
theorem PM.below {w w' : World} {B : Nat} (h : PM w) (hb : Below B w w') (hB : 0 < B) (hs : w.heap.size ≤ w'.heap.size) : PM w' :=
  ⟨Nat.lt_of_lt_of_le h.lt hs, fun i hi => (hb.cell (p := ⟨0, i, none⟩) hB).trans (h.c i hi)⟩
theorem PM.ext {w w' : World} (h : PM w) (hb : Below w.heap.size w w') : PM w' := h.below hb h.lt hb.size
theorem PM.drew {w : World} (h : PM w) : PM w.drew := ⟨h.1, h.2⟩
theorem Fr.pm {w W : World} {L : List (Nat × TypeId × Array Value)} {R : List (Nat × TypeId × Nat)} (h : Fr w W L R) (hp : PM w) : PM W := hp.ext h.below
theorem low_ok : ((List.range 80).all fun i => Nat.ble (PR.getD i 0) 500 && (Nat.ble (rt2 (PR.getD i 0)) 60 && Nat.ble (rt3 (PR.getD i 0)) 60)) = true := by decide +kernel
theorem low_at {i : Nat} (hi : i < 80) : PR.getD i 0 ≤ 500 ∧ rt2 (PR.getD i 0) ≤ 60 ∧ rt3 (PR.getD i 0) ≤ 60 := by
  have h := List.all_eq_true.1 low_ok i (List.mem_range.2 hi)
  simp only [Bool.and_eq_true] at h
  exact ⟨Nat.le_of_ble_eq_true h.1, Nat.le_of_ble_eq_true h.2.1, Nat.le_of_ble_eq_true h.2.2⟩
theorem start_at {i : Nat} (hi : i < 8) : fracB (PR.getD i 0) 2 (rt2 (PR.getD i 0)) (HS.getD i 0) = true := List.all_eq_true.1 start_ok i (List.mem_range.2 hi)
theorem const_at {i : Nat} (hi : i < 80) : fracB (PR.getD i 0) 3 (rt3 (PR.getD i 0)) (HK.getD i 0) = true := List.all_eq_true.1 const_ok i (List.mem_range.2 hi)
/-- A call that answers a word. -/
def WPost (c : Nat) (w : World) (e : Ending) (w' : World) : Prop := e = .returned (.int .u64 (c : Int)) ∧ Below w.heap.size w w'
attribute [local irreducible] PR HS HK rt2 rt3
set_option maxHeartbeats 1000000 in
theorem start_in (k : Nat) (w : World) (hk : k < 8) (hp : PM w) : Calls Tryd.prog 10 #[.int .i64 k] w (WPost (HS.getD k 0) w) := by
  have hc := hp.c k (by omega)
  obtain ⟨l1, l2, l3⟩ := low_at (show k < 80 by omega)
  have hf := start_at hk
  generalize HH : HS.getD k 0 = c at *
  generalize rt2 (PR.getD k 0) = v at *
  generalize PR.getD k 0 = p at *
  have hx := fun W => fraction_any p 2 v c W (by omega) (by omega) (by omega) hf
  have HX := Lib.hid hx
  clear hx hf HH l2 l3
  go_enter Tryd.func10, Tryd.ntmps10
  go_wp2_with (fail)
  refine (HX.out _).mono ?_
  rintro e w' ⟨rfl, hb⟩
  go_wp2_with (fail)
  go_ret
  exact ⟨rfl, hb⟩
set_option maxHeartbeats 1000000 in
theorem start_out (i : Int) (w : World) (hi : i < 0 ∨ 8 ≤ i) : Calls Tryd.prog 10 #[.int .i64 i] w fun e w' => e = .returned (.int .u64 0) ∧ w = w' := by
  go_enter Tryd.func10, Tryd.ntmps10
  rcases hi with hi | hi
  · go_wp2_with (fail)
    go_ret
    exact ⟨rfl, rfl⟩
  · have h2 : ¬ i < 0 := by omega
    go_wp2_with (fail)
    go_ret
    exact ⟨rfl, rfl⟩
set_option maxHeartbeats 1000000 in
theorem constant_in (k : Nat) (w : World) (hk : k < 80) (hp : PM w) : Calls Tryd.prog 9 #[.int .i64 k] w (WPost (HK.getD k 0) w) := by
  have hc := hp.c k (by omega)
  obtain ⟨l1, l2, l3⟩ := low_at (show k < 80 by omega)
  have hf := const_at hk
  generalize HH : HK.getD k 0 = c at *
  generalize rt3 (PR.getD k 0) = v at *
  generalize PR.getD k 0 = p at *
  have hx := fun W => fraction_any p 3 v c W (by omega) (by omega) (by omega) hf
  have HX := Lib.hid hx
  clear hx hf HH l2 l3
  go_enter Tryd.func9, Tryd.ntmps9
  go_wp2_with (fail)
  refine (HX.out _).mono ?_
  rintro e w' ⟨rfl, hb⟩
  go_wp2_with (fail)
  go_ret
  exact ⟨rfl, hb⟩
set_option maxHeartbeats 1000000 in
theorem constant_out (i : Int) (w : World) (hi : i < 0 ∨ 80 ≤ i) : Calls Tryd.prog 9 #[.int .i64 i] w fun e w' => e = .returned (.int .u64 0) ∧ w = w' := by
  go_enter Tryd.func9, Tryd.ntmps9
  rcases hi with hi | hi
  · go_wp2_with (fail)
    go_ret
    exact ⟨rfl, rfl⟩
  · have h2 : ¬ i < 0 := by omega
    go_wp2_with (fail)
    go_ret
    exact ⟨rfl, rfl⟩
end Go.Proofs.YtagifgadcbhinaaDoor
