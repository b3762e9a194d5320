/- The program's whole roots, and its Newton step. -/
import Derived.Test.YtagifgadcbhinaaDoorHx
namespace Go.Proofs.YtagifgadcbhinaaDoor
set_option linter.unusedVariables false
set_option linter.unusedSimpArgs false
open Go Go.RowKit

theorem pow_low {v k : Nat} (hv : v ≤ 64) (hk : k ≤ 2) : v ^ k ≤ 4096 := Nat.le_trans (Nat.pow_le_pow_left hv k) (Nat.pow_le_pow_right (n := 64) (by omega) hk)
set_option maxHeartbeats 400000 in
theorem raised_any (v p : Nat) (w : World) (hv : v ≤ 64) (hp : p ≤ 3) : Calls Tryd.prog 29 #[.int .u64 v, .int .i64 p] w fun e w' => e = .returned (.int .u64 ((v ^ p : Nat) : Int)) ∧ w = w' := by
  go_enter Tryd.func29, Tryd.ntmps29
  go_wp2
  go_loop [5, 7] (fun a i => ∃ k : Nat, k ≤ p ∧ i = .int .i64 k ∧ ∃ m : Nat, a = .int .u64 m ∧ Hid (m = v ^ k)) (fun _ i => p - (intOf i).toNat)
  case atStart => exact ⟨0, Nat.zero_le _, rfl, 1, rfl, Lib.hid rfl⟩
  case round =>
    obtain ⟨k, hk, rfl, m, rfl, hm⟩ := hrel
    by_cases hlt : k < p
    · have hml : m ≤ 4096 := by rw [hm.out]; exact pow_low hv (by omega)
      have hx := mul_nat m v
      obtain ⟨x, e1⟩ : ∃ x, x = m * v := ⟨_, rfl⟩
      have hl : x ≤ 4096 * 64 := by rw [e1]; exact Nat.mul_le_mul hml hv
      rw [← e1, Nat.mod_eq_of_lt (by omega)] at hx
      have E1 := Lib.hid e1
      clear e1
      go_wp2
      go_round
      case rel =>
        refine ⟨k + 1, by omega, by go_num, x, rfl, Lib.hid ?_⟩
        rw [E1.out, hm.out, Nat.pow_succ]
      case measure => simp [intOf] <;> omega
    · go_wp2
      go_ret
      obtain rfl : k = p := by omega
      refine ⟨?_, rfl⟩
      have e9 : (v : Int) ^ k = (m : Int) := by rw [hm.out]; push_cast; rfl
      rw [e9]
      rfl
theorem wholeB_up {n p v : Nat} (h : wholeB n p v = true) : 1 ≤ v ∧ v ^ p ≤ n ∧ n + 1 ≤ (v + 1) ^ p := by
  simp only [wholeB, Bool.and_eq_true] at h
  obtain ⟨_, h1, h2, h3⟩ := h
  exact ⟨Nat.le_of_ble_eq_true h1, Nat.le_of_ble_eq_true h2, by simpa [Nat.blt] using h3⟩
set_option maxHeartbeats 400000 in
theorem whole_any (n p v : Nat) (w : World) (hn : n < 18446744073709551616) (hp : p ≤ 3) (hv : v ≤ 60) (h : wholeB n p v = true) : Calls Tryd.prog 25 #[.int .u64 n, .int .i64 p] w fun e w' => e = .returned (.int .u64 (v : Int)) ∧ w = w' := by
  obtain ⟨h1, h2, h3⟩ := wholeB_up h
  clear h
  have H2 := Lib.hid h2
  have H3 := Lib.hid h3
  clear h2 h3
  go_enter Tryd.func25, Tryd.ntmps25
  go_wp2
  go_loop [5] (fun a => ∃ k : Nat, k ≤ v ∧ 1 ≤ k ∧ a = .int .u64 k) (fun a => v - (intOf a).toNat)
  case atStart => exact ⟨1, h1, Nat.le_refl _, rfl⟩
  case round =>
    obtain ⟨k, hk, hk1, rfl⟩ := hrel
    have hr := raised_any (k + 1) p w (by omega) hp
    have hl : (k + 1) ^ p ≤ 262144 := Nat.le_trans (Nat.pow_le_pow_left (show k + 1 ≤ 64 by omega) p) (Nat.pow_le_pow_right (n := 64) (by omega) hp)
    have hc : k < v → (k + 1) ^ p ≤ n := fun h => Nat.le_trans (Nat.pow_le_pow_left (show k + 1 ≤ v by omega) p) H2.out
    have hd : ¬ k < v → ¬ (k + 1) ^ p ≤ n := fun h => by have := H3.out; have e : k = v := by omega
                                                         rw [e]; omega
    obtain ⟨m, e1⟩ : ∃ m, m = (k + 1) ^ p := ⟨_, rfl⟩
    rw [← e1] at hr hl hc hd
    rw [show ((k + 1 : Nat) : Int) = (k : Int) + 1 by omega] at hr
    clear e1
    have HR := Lib.hid hr
    clear hr
    by_cases hlt : k < v
    · have hm := hc hlt
      clear hc hd
      go_wp2_with (fail)
      refine HR.out.mono ?_
      rintro e w' ⟨rfl, rfl⟩
      go_wp2
      go_round
      case rel => exact ⟨k + 1, by omega, by omega, by go_num⟩
      case measure => simp [intOf] <;> omega
    · have hm := hd hlt
      clear hc hd
      go_wp2_with (fail)
      refine HR.out.mono ?_
      rintro e w' ⟨rfl, rfl⟩
      go_wp2
      go_ret
      obtain rfl : k = v := by omega
      exact ⟨rfl, rfl⟩
def bk (x : Q4) (k : Nat) : Q4 := if k = 0 then x else tmsN x x
theorem bk_zero (x : Q4) : bk x 0 = x := rfl
theorem bk_one (x : Q4) : bk x (0 + 1) = tmsN x x := rfl
theorem bk_ok {x : Q4} (h : x.ok) (k : Nat) : (bk x k).ok := by unfold bk; split; exact h; exact tmsN_ok _ _
theorem below_bk {p : Nat} (x : Q4) (hp : p = 2 ∨ p = 3) : belowN p x = bk x (p - 2) := by rcases hp with rfl | rfl <;> rfl
attribute [local irreducible] bk tmsN
theorem divC_lt {k y2 y1 y0 a b c q : Nat} (h : divC k y2 y1 y0 a b c = some q) : q < 18446744073709551616 := by
  unfold divC at h
  split at h
  · cases h
  · split at h
    · cases h
    · split at h
      · cases h
      · injection h with h
        rw [← h]
        exact Nat.mod_lt _ (by omega)
theorem divN_lt {hi lo y q : Nat} (hl : lo < 18446744073709551616) (h : divN hi lo y = some q) : q < 18446744073709551616 := by
  unfold divN at h
  split at h
  · cases h
  · split at h
    · injection h with h
      rw [← h]
      exact div_lt hl
    · exact divC_lt h
theorem lowN_cases {n p : Nat} {x y : Q4} (h : lowN n p x = some y) : ((allN p x).a < n ∧ y = x) ∨ (¬ (allN p x).a < n ∧ ∃ q m, divN (subW (allN p x).a n * 72057594037927936 % 18446744073709551616 ||| (allN p x).b / 256) ((allN p x).b * 72057594037927936 % 18446744073709551616) ((((slopeN p x).a * 72057594037927936 % 18446744073709551616 ||| (slopeN p x).b / 256) + 1) % 18446744073709551616) = some q ∧ m = subW x.b (max q 1) ∧ y = ⟨x.a, m, x.c, x.d⟩) := by
  unfold lowN at h
  simp only at h
  split at h
  · injection h with h
    exact Or.inl ⟨by assumption, h.symm⟩
  · refine Or.inr ⟨by assumption, ?_⟩
    split at h
    · cases h
    · rename_i q hq
      injection h with h
      exact ⟨q, _, hq, rfl, h.symm⟩
set_option maxRecDepth 100000 in
set_option maxHeartbeats 4000000 in
theorem lowered_any (x y : Q4) (n p : Nat) (w : World) (hx : x.ok) (hn : n < 18446744073709551616) (hp : p = 2 ∨ p = 3) (h : lowN n p x = some y) : Calls Tryd.prog 26 #[.agg (us x.l), .int .u64 n, .int .i64 p] w (RowPost y.l w) := by
  have f0 := ((Fr.start w).row (us x.l) 62 (g := w.heap.size) rfl).any (us [0, 0, 0, 0]) 62 4 rfl (g := w.heap.size + 1) (by simp)
  have f1 := f0.row (us [0, 0, 0, 0]) 62 (g := w.heap.size + 1 + 1) (by simp)
  have k3 := f0.get (g := w.heap.size) (t := 62) (cs := us x.l) (by simp)
  have k7 := f1.get (g := w.heap.size + 1 + 1) (t := 62) (cs := us [0, 0, 0, 0]) (by simp)
  have f2 := f1.setRowHead (by simp <;> omega) (by simp <;> omega) (us x.l) (by omega)
  rw [us_zero4] at k3 k7 f2
  have F2 := Lib.hid f2
  clear f0 f1 f2
  have hb2 := below_bk x hp
  have hpi : IntKind.i64.wrap ((p : Int) - 2) = ((p - 2 : Nat) : Int) := by rw [IntKind.wrap_i64]; omega
  have HL := lowN_cases h
  rw [show allN p x = tmsN (belowN p x) x from rfl, show slopeN p x = tmsN (belowN p x) ⟨p, 0, 0, 0⟩ from rfl, hb2] at HL
  have HL := Lib.hid HL
  clear h hb2
  obtain ⟨r, hr⟩ : ∃ r, r = p - 2 := ⟨_, rfl⟩
  rw [← hr] at hpi HL
  have hr1 : r ≤ 1 := by omega
  go_enter Tryd.func26, Tryd.ntmps26
  go_wp2_with (first | (refine wpList_load_row rfl 62 (.tmp 3) rfl (w.heap.size) rfl 62 (us x.l) (0, 0) _ k3 Tryd.underlying62 rfl (info_us size_number rfl) ?_) | (refine wpList_store_row rfl 62 (.tmp 7) (.tmp 13) rfl (w.heap.size + 1 + 1) (us x.l) rfl rfl 62 (_) k7 (info_us size_number rfl) rfl (us_one _) ?_))
  clear k3 k7
  go_loopw [16] (fun c wr => ∃ k : Nat, k ≤ r ∧ c = .int .i64 k ∧ Fr w wr [(w.heap.size + 1 + 1, 62, us (bk x k).l), (w.heap.size, 62, us x.l)] [(w.heap.size + 1, 62, 4)]) (fun c _ => r - (intOf c).toNat)
  case atStart => exact ⟨0, by omega, rfl, by rw [bk_zero]; exact F2.out⟩
  case round =>
    obtain ⟨k, hk, rfl, hF⟩ := hrel
    clear F2
    have k7 := hF.get (g := w.heap.size + 1 + 1) (t := 62) (cs := us (bk x k).l) (by simp)
    have k3 := hF.get (g := w.heap.size) (t := 62) (cs := us x.l) (by simp)
    have HF := Lib.hid hF
    clear hF
    by_cases hlt : k < r
    · obtain rfl : k = 0 := by omega
      go_wp2_with (first | (refine wpList_load_row rfl 62 (.tmp 7) rfl (w.heap.size + 1 + 1) rfl 62 (us (bk x 0).l) (0, 0) _ k7 Tryd.underlying62 rfl (info_us size_number rfl) ?_) | (refine wpList_load_row rfl 62 (.tmp 3) rfl (w.heap.size) rfl 62 (us x.l) (0, 0) _ k3 Tryd.underlying62 rfl (info_us size_number rfl) ?_))
      refine (times_any (bk x 0) x _ _ (bk_ok hx 0) hx rfl).mono ?_
      rintro e v ⟨rfl, hb⟩
      have f1 := HF.out.ext hb
      have k8 := f1.get (g := w.heap.size + 1 + 1) (t := 62) (cs := us (bk x 0).l) (by simp)
      have f2 := f1.setRowHead (by simp <;> omega) (by simp <;> omega) (us (tmsN (bk x 0) x).l) (by omega)
      rw [bk_zero] at f2
      rw [bk_zero]
      have F2 := Lib.hid f2
      clear f1 f2 hb k7 k3
      rw [bk_zero] at k8
      go_wp2_with (first | (refine wpList_store_row rfl 62 (.tmp 7) (.tmp 20) rfl (w.heap.size + 1 + 1) (us (tmsN x x).l) rfl rfl 62 (_) k8 (info_us size_number rfl) rfl (us_one _) ?_))
      go_round
      case rel => exact ⟨0 + 1, by omega, by go_num, by rw [bk_one]; exact F2.out⟩
      case measure => simp [intOf]; omega
    · obtain rfl : k = r := by omega
      have bo := bk_ok hx k
      have HL2 := HL.out
      obtain ⟨be, e1⟩ : ∃ q, q = bk x k := ⟨_, rfl⟩
      rw [← e1] at HL2 HF k7 bo
      have oa := tmsN_ok be x
      obtain ⟨al, e2⟩ : ∃ q, q = tmsN be x := ⟨_, rfl⟩
      rw [← e2] at HL2 oa
      have E2 := Lib.hid e2
      have os := tmsN_ok be ⟨p, 0, 0, 0⟩
      obtain ⟨sl, e3⟩ : ∃ q, q = tmsN be ⟨p, 0, 0, 0⟩ := ⟨_, rfl⟩
      rw [← e3] at HL2 os
      have E3 := Lib.hid e3
      clear e1 e2 e3 HL
      have HL := Lib.hid HL2
      clear HL2
      go_wp2_with (first | (refine wpList_load_row rfl 62 (.tmp 7) rfl (w.heap.size + 1 + 1) rfl 62 (us be.l) (0, 0) _ k7 Tryd.underlying62 rfl (info_us size_number rfl) ?_) | (refine wpList_load_row rfl 62 (.tmp 3) rfl (w.heap.size) rfl 62 (us x.l) (0, 0) _ k3 Tryd.underlying62 rfl (info_us size_number rfl) ?_))
      refine (times_any be x al _ bo hx E2.out).mono ?_
      rintro e v ⟨rfl, hb⟩
      clear k7 k3
      have f1 := HF.out.ext hb
      have f2 := f1.row (us [0, 0, 0, 0]) 62 rfl
      have hv : w.heap.size + 1 + 1 < v.heap.size := by have := hb.size; have := HF.out.get (g := w.heap.size + 1 + 1) (t := 62) (cs := us be.l) (by simp); have := this.lt; omega
      generalize hgv : v.heap.size = g8 at *
      have k8 := f2.get (g := g8) (t := 62) (cs := us [0, 0, 0, 0]) (by simp)
      have f3 := f2.setRowHead (by simp <;> omega) (by simp <;> omega) (us al.l) (by omega)
      rw [us_zero4] at k8 f3
      clear f1 f2 hb HF
      have k9 := f3.get (g := g8) (t := 62) (cs := us al.l) (by simp)
      have a0 := k9.cell 0
      rw [us_at (i := 0) (x := al.a) rfl] at a0
      have a1 := k9.cell 1
      rw [us_at (i := 1) (x := al.b) rfl] at a1
      have F3 := Lib.hid f3
      clear f3 k9
      rcases HL.out with ⟨hlt2, rfl⟩ | ⟨hge, q, m, hq, hm0, rfl⟩
      · have k3 := F3.out.get (g := w.heap.size) (t := 62) (cs := us y.l) (by simp)
        obtain ⟨old, ho, k6⟩ := F3.out.old (g := w.heap.size + 1) (t := 62) (n := 4) (by simp)
        have kS := k6.setRow_same (us y.l)
        have hB := below_setRow F3.out.below (show w.heap.size ≤ w.heap.size + 1 by omega) (us y.l)
        have HS := Lib.hid kS
        have HB := Lib.hid hB
        have ho' : old.size = (us y.l).size := by rw [ho]; rfl
        have HO := Lib.hid ho'
        clear kS hB F3 HL ho ho'
        go_wp2_with (first | (refine wpList_store_row rfl 62 (.tmp 8) (.tmp 24) rfl (g8) (us al.l) rfl rfl 62 (_) k8 (info_us size_number rfl) rfl (us_one _) ?_) | (refine wpList_load_row rfl 62 (.tmp 3) rfl (w.heap.size) rfl 62 (us y.l) (0, 0) _ k3 Tryd.underlying62 rfl (info_us size_number rfl) ?_) | (refine wpList_store_row rfl 62 (.tmp 6) (.tmp 29) rfl (w.heap.size + 1) (us y.l) rfl rfl 62 (old) k6 (info_us size_number rfl) HO.out (us_one _) ?_))
        exact row_end (n0 := 4) rfl size_number rfl rfl rfl rfl HS.out HB.out
      · have HM0 := Lib.hid hm0
        clear hm0
        have hql : q < 18446744073709551616 := divN_lt (Nat.mod_lt _ (by omega)) hq
        have k7 := F3.out.get (g := w.heap.size + 1 + 1) (t := 62) (cs := us be.l) (by simp)
        have hpu : IntKind.u64.wrap (p : Int) = (p : Int) := by rw [IntKind.wrap_u64]; omega
        go_wp2_with (first | (refine wpList_store_row rfl 62 (.tmp 8) (.tmp 24) rfl (g8) (us al.l) rfl rfl 62 (_) k8 (info_us size_number rfl) rfl (us_one _) ?_) | (refine wpList_load_row rfl 62 (.tmp 7) rfl (w.heap.size + 1 + 1) rfl 62 (us be.l) (0, 0) _ k7 Tryd.underlying62 rfl (info_us size_number rfl) ?_))
        refine (times_any be ⟨p, 0, 0, 0⟩ sl _ bo ⟨by simp only; omega, by simp, by simp, by simp⟩ E3.out).mono ?_
        rintro e v2 ⟨rfl, hb⟩
        clear k7 k8 a0 a1
        have f1 := F3.out.ext hb
        have f2 := f1.row (us [0, 0, 0, 0]) 62 rfl
        have hv2 : g8 < v2.heap.size := by have := hb.size; have := F3.out.get (g := g8) (t := 62) (cs := us al.l) (by simp); have := this.lt; omega
        generalize hgv2 : v2.heap.size = g9 at *
        have k8 := f2.get (g := g9) (t := 62) (cs := us [0, 0, 0, 0]) (by simp)
        have f3 := f2.setRowHead (by simp <;> omega) (by simp <;> omega) (us sl.l) (by omega)
        rw [us_zero4] at k8 f3
        clear f1 f2 hb F3
        have k9 := f3.get (g := g8) (t := 62) (cs := us al.l) (by simp)
        have a0 := k9.cell 0
        rw [us_at (i := 0) (x := al.a) rfl] at a0
        have a1 := k9.cell 1
        rw [us_at (i := 1) (x := al.b) rfl] at a1
        have k10 := f3.get (g := g9) (t := 62) (cs := us sl.l) (by simp)
        have s0 := k10.cell 0
        rw [us_at (i := 0) (x := sl.a) rfl] at s0
        have s1 := k10.cell 1
        rw [us_at (i := 1) (x := sl.b) rfl] at s1
        have F3 := Lib.hid f3
        clear f3 k9 k10
        obtain ⟨oa0, oa1, _, _⟩ := oa
        obtain ⟨os0, os1, _, _⟩ := os
        generalize al.a = A at *
        generalize al.b = B at *
        generalize sl.a = C at *
        generalize sl.b = D at *
        have q1 := sub_nat A n (by omega)
        have l1 := subW_lt A n
        generalize subW A n = m1 at *
        obtain ⟨m2, em2⟩ : ∃ q, q = m1 * 72057594037927936 % 18446744073709551616 := ⟨_, rfl⟩
        obtain ⟨m3, em3⟩ : ∃ q, q = B / 256 := ⟨_, rfl⟩
        obtain ⟨m5, em5⟩ : ∃ q, q = B * 72057594037927936 % 18446744073709551616 := ⟨_, rfl⟩
        obtain ⟨m6, em6⟩ : ∃ q, q = C * 72057594037927936 % 18446744073709551616 := ⟨_, rfl⟩
        obtain ⟨m7, em7⟩ : ∃ q, q = D / 256 := ⟨_, rfl⟩
        rw [← em2, ← em3, ← em5, ← em6, ← em7] at hq
        obtain ⟨m4, em4⟩ : ∃ q, q = m2 ||| m3 := ⟨_, rfl⟩
        obtain ⟨m8, em8⟩ : ∃ q, q = m6 ||| m7 := ⟨_, rfl⟩
        rw [← em4, ← em8] at hq
        obtain ⟨m9, em9⟩ : ∃ q, q = (m8 + 1) % 18446744073709551616 := ⟨_, rfl⟩
        rw [← em9] at hq
        have l2 : m2 < 18446744073709551616 := by omega
        have l3 : m3 < 18446744073709551616 := by omega
        have l5 : m5 < 18446744073709551616 := by omega
        have l6 : m6 < 18446744073709551616 := by omega
        have l7 : m7 < 18446744073709551616 := by omega
        have l9 : m9 < 18446744073709551616 := by omega
        have l4 : m4 < 18446744073709551616 := by rw [em4]; exact Nat.or_lt_two_pow (n := 64) l2 l3
        have q2 : IntKind.u64.wrap ((m1 : Int) * 72057594037927936) = (m2 : Int) := by rw [em2]; exact mul_nat m1 72057594037927936
        have q5 : IntKind.u64.wrap ((B : Int) * 72057594037927936) = (m5 : Int) := by rw [em5]; exact mul_nat B 72057594037927936
        have q6 : IntKind.u64.wrap ((C : Int) * 72057594037927936) = (m6 : Int) := by rw [em6]; exact mul_nat C 72057594037927936
        have q3 : (B : Int) / 256 = (m3 : Int) := by rw [em3]; rfl
        have q7 : (D : Int) / 256 = (m7 : Int) := by rw [em7]; rfl
        have q4 : bits .or .u64 (m2 : Int) (m3 : Int) = (m4 : Int) := by rw [em4]; exact u64_or_nat _ _ l2 l3
        have q8 : bits .or .u64 (m6 : Int) (m7 : Int) = (m8 : Int) := by rw [em8]; exact u64_or_nat _ _ l6 l7
        have q9 : IntKind.u64.wrap ((m8 : Int) + 1) = (m9 : Int) := by rw [em9]; exact add_nat m8 1
        clear em2 em3 em4 em5 em6 em7 em8 em9
        have HQ := Lib.hid hq
        clear hq
        go_wp2_with (first | (refine wpList_store_row rfl 62 (.tmp 9) (.tmp 34) rfl (g9) (us sl.l) rfl rfl 62 (_) k8 (info_us size_number rfl) rfl (us_one _) ?_))
        refine (div64_any m4 m5 m9 q _ l4 l5 l9 HQ.out).mono ?_
        rintro e v3 ⟨r, rfl, hb⟩
        clear k8 a0 a1 s0 s1
        have f1 := F3.out.ext hb
        have k3 := f1.get (g := w.heap.size) (t := 62) (cs := us x.l) (by simp)
        have x1 := k3.cell 1
        rw [us_at (i := 1) (x := x.b) rfl] at x1
        have F3 := Lib.hid f1
        clear f1 hb k3
        skip
        rcases Nat.eq_zero_or_pos q with h0 | h0
        · subst h0
          have q10 : IntKind.u64.wrap ((x.b : Int) - 1) = (m : Int) := by rw [HM0.out]; exact sub_nat x.b 1 (by omega)
          have k3 := F3.out.get (g := w.heap.size) (t := 62) (cs := us x.l) (by simp)
          have z1 := k3.frozen 1
          have k31 := k3.set_ 1 (.int .u64 (m : Int))
          have ek : (us x.l).setIfInBounds 1 (.int .u64 (m : Int)) = us (Q4.mk x.a m x.c x.d).l := us_set _ _ _
          rw [ek] at k31
          obtain ⟨old, ho, k60⟩ := F3.out.old (g := w.heap.size + 1) (t := 62) (n := 4) (by simp)
          have k6 : Blk (v3.setCell ⟨w.heap.size, 1, none⟩ (.int .u64 (m : Int))) (w.heap.size + 1) 62 old := k60.far (show w.heap.size + 1 ≠ w.heap.size by omega) _
          have hB0 : Below w.heap.size w (v3.setCell ⟨w.heap.size, 1, none⟩ (.int .u64 (m : Int))) := F3.out.below.setCell (Nat.le_refl _) _
          have kS := k6.setRow_same (us (Q4.mk x.a m x.c x.d).l)
          have hB := below_setRow hB0 (show w.heap.size ≤ w.heap.size + 1 by omega) (us (Q4.mk x.a m x.c x.d).l)
          have HS := Lib.hid kS
          have HB := Lib.hid hB
          have ho' : old.size = (us (Q4.mk x.a m x.c x.d).l).size := by rw [ho]; rfl
          have HO := Lib.hid ho'
          clear kS hB hB0 k60 F3 ho ho' ek
          go_wp2_with (first | (refine wpList_load_row rfl 62 (.tmp 3) rfl (w.heap.size) rfl 62 (us (Q4.mk x.a m x.c x.d).l) (0, 0) _ k31 Tryd.underlying62 rfl (info_us size_number rfl) ?_) | (refine wpList_store_row rfl 62 (.tmp 6) (.tmp 66) rfl (w.heap.size + 1) (us (Q4.mk x.a m x.c x.d).l) rfl rfl 62 (old) k6 (info_us size_number rfl) HO.out (us_one _) ?_))
          exact row_end (n0 := 4) rfl size_number rfl rfl rfl rfl HS.out HB.out
        · have q10 : IntKind.u64.wrap ((x.b : Int) - (q : Int)) = (m : Int) := by rw [HM0.out, show max q 1 = q by omega]; exact sub_nat x.b q (by omega)
          have k3 := F3.out.get (g := w.heap.size) (t := 62) (cs := us x.l) (by simp)
          have z1 := k3.frozen 1
          have k31 := k3.set_ 1 (.int .u64 (m : Int))
          have ek : (us x.l).setIfInBounds 1 (.int .u64 (m : Int)) = us (Q4.mk x.a m x.c x.d).l := us_set _ _ _
          rw [ek] at k31
          obtain ⟨old, ho, k60⟩ := F3.out.old (g := w.heap.size + 1) (t := 62) (n := 4) (by simp)
          have k6 : Blk (v3.setCell ⟨w.heap.size, 1, none⟩ (.int .u64 (m : Int))) (w.heap.size + 1) 62 old := k60.far (show w.heap.size + 1 ≠ w.heap.size by omega) _
          have hB0 : Below w.heap.size w (v3.setCell ⟨w.heap.size, 1, none⟩ (.int .u64 (m : Int))) := F3.out.below.setCell (Nat.le_refl _) _
          have kS := k6.setRow_same (us (Q4.mk x.a m x.c x.d).l)
          have hB := below_setRow hB0 (show w.heap.size ≤ w.heap.size + 1 by omega) (us (Q4.mk x.a m x.c x.d).l)
          have HS := Lib.hid kS
          have HB := Lib.hid hB
          have ho' : old.size = (us (Q4.mk x.a m x.c x.d).l).size := by rw [ho]; rfl
          have HO := Lib.hid ho'
          clear kS hB hB0 k60 F3 ho ho' ek
          go_wp2_with (first | (refine wpList_load_row rfl 62 (.tmp 3) rfl (w.heap.size) rfl 62 (us (Q4.mk x.a m x.c x.d).l) (0, 0) _ k31 Tryd.underlying62 rfl (info_us size_number rfl) ?_) | (refine wpList_store_row rfl 62 (.tmp 6) (.tmp 66) rfl (w.heap.size + 1) (us (Q4.mk x.a m x.c x.d).l) rfl rfl 62 (old) k6 (info_us size_number rfl) HO.out (us_one _) ?_))
          exact row_end (n0 := 4) rfl size_number rfl rfl rfl rfl HS.out HB.out
end Go.Proofs.YtagifgadcbhinaaDoor
