/- The document's number of a list of bits, and of bytes, modulo L (layer 3's bits, Reduce). -/
import Derived.Test.YtpliddkdahgbpaaDoorSh
namespace Go.Proofs.YtpliddkdahgbpaaDoor
set_option linter.unusedVariables false
set_option linter.unusedSimpArgs false
open Go Go.RowKit

/-- What is left behind j of m bits. -/
def gl (N m j : Nat) : Nat := N / 2 ^ (m - j) % LL
theorem gl_lt (N m j : Nat) : gl N m j < LL := Nat.mod_lt _ (by rw [LL_eq]; omega)
theorem gl_zero {N m : Nat} (h : N < 2 ^ m) : gl N m 0 = 0 := by
  unfold gl
  rw [Nat.sub_zero, Nat.div_eq_of_lt h, Nat.zero_mod]
theorem gl_end (N m : Nat) : gl N m m = N % LL := by
  unfold gl
  rw [Nat.sub_self, Nat.pow_zero, Nat.div_one]
theorem gl_step (N m j : Nat) (hj : j < m) : (2 * gl N m j + N / 2 ^ (m - 1 - j) % 2) % LL = gl N m (j + 1) := by
  unfold gl
  have h1 : m - (j + 1) = m - 1 - j := by omega
  have h2 : m - j = m - 1 - j + 1 := by omega
  have h3 : N / 2 ^ (m - 1 - j) = 2 * (N / 2 ^ (m - 1 - j + 1)) + N / 2 ^ (m - 1 - j) % 2 := by
    rw [Nat.pow_succ, ← Nat.div_div_eq_div_mul]
    omega
  rw [h1, h2]
  conv => rhs; rw [h3]
  rw [Nat.add_mod, Nat.mul_mod, Nat.mod_mod, ← Nat.mul_mod, ← Nat.add_mod]
set_option maxRecDepth 100000 in
set_option maxHeartbeats 2000000 in
theorem rbits_any (A : Option Addr) (m c B N : Nat) (w : World) (hl : BS w B A m c (hbl N m m)) (hB : B ≤ w.heap.size) (hm : m ≤ 1000) (hN : N < 2 ^ m) :
    Calls Tryd.prog 22 #[.slice A m c] w (NumPost (N % LL) w) := by
  have hfr := ((Fr.start w).any (ds 0) 44 16 (ds_size 0) (g := w.heap.size) rfl).row (ds 0) 44 (g := w.heap.size + 1) (by simp)
  rw [ds_zero] at hfr
  have HFR := Lib.hid hfr
  have hz := gl_zero hN
  have HZ := Lib.hid hz
  clear hfr hz hN
  go_enter Tryd.func22, Tryd.ntmps22
  go_wp2_with (fail)
  refine (rorder_any _).mono ?_
  rintro e v1 ⟨rfl, hb⟩
  have hf := HFR.out.ext hb
  have hf2 := hf.row (ds 0) 44 (g := v1.heap.size) rfl
  have hzo : w.heap.size + 1 < v1.heap.size := by have := (hf.get (g := w.heap.size + 1) (t := 44) (cs := #[.int .u64 0, .int .u64 0, .int .u64 0, .int .u64 0, .int .u64 0, .int .u64 0, .int .u64 0, .int .u64 0, .int .u64 0, .int .u64 0, .int .u64 0, .int .u64 0, .int .u64 0, .int .u64 0, .int .u64 0, .int .u64 0]) (by simp)).lt; omega
  have ka := hf2.get (g := v1.heap.size) (t := 44) (cs := ds 0) (by simp)
  have hf3 := hf2.setRowHead (by simp <;> omega) (by simp <;> omega) (ds LL) (by omega)
  rw [ds_zero] at hf3 ka
  have hso : (#[.int .u64 0, .int .u64 0, .int .u64 0, .int .u64 0, .int .u64 0, .int .u64 0, .int .u64 0, .int .u64 0, .int .u64 0, .int .u64 0, .int .u64 0, .int .u64 0, .int .u64 0, .int .u64 0, .int .u64 0, .int .u64 0] : Array Value).size = (ds LL).size := by rw [ds_size]; rfl
  have KA := Lib.hid ka
  have HSO := Lib.hid hso
  have HF3 := Lib.hid hf3
  clear hb hf hf2 ka hso hf3 HFR
  go_wp2_with (first | (refine wpList_store_row rfl 44 (.tmp 4) (.tmp 9) rfl (v1.heap.size) (ds LL) rfl rfl 44 _ KA.out (info_ds _) HSO.out (ds_one _) ?_))
  clear KA HSO
  go_loopw [5] (fun i wr => ∃ j : Nat, j ≤ m ∧ i = .int .i64 j ∧ Fr w wr [(w.heap.size + 1, 44, ds (gl N m j)), (v1.heap.size, 44, ds LL)] [(w.heap.size, 44, 16)]) (fun i _ => m - (intOf i).toNat)
  case atStart => exact ⟨0, by omega, rfl, by rw [HZ.out, ds_zero]; exact HF3.out.sub (by simp) (by simp)⟩
  case round =>
    obtain ⟨j, hj, rfl, hF⟩ := hrel
    clear HF3
    by_cases hlt : j < m
    · obtain ⟨b, o, x, rfl, hb', hx, hc⟩ := (hl.below (hF.below.mono hB)).at' hlt
      rw [hbl_get N m m hlt] at hx
      injection hx with hx
      have hb2 : N / 2 ^ (m - 1 - j) % 2 < 2 := Nat.mod_lt _ (by omega)
      have hxn : x.toNat = N / 2 ^ (m - 1 - j) % 2 := by rw [← hx, u8_nat (by omega)]
      rw [hxn] at hc
      have hst := gl_step N m j hlt
      have hgl := gl_lt N m j
      have HST := Lib.hid hst
      have HGL := Lib.hid hgl
      have HF := Lib.hid hF
      clear hF hst hgl hx hxn
      generalize N / 2 ^ (m - 1 - j) % 2 = d at *
      generalize gl N m j = r at *
      have hq : 2 * r + d < 65536 ^ 16 := by have := HGL.out; rw [LL_eq] at this; rw [d16]; omega
      have hr16 : r < 65536 ^ 16 := by omega
      have HQ := Lib.hid hq
      have HR16 := Lib.hid hr16
      clear hq hr16
      go_wp2_with (fail)
      try rw [decide_eq_true (show (j : Int) < (m : Int) by omega)]
      have hs0 := @scale_start 65536 r 2 d (by omega)
      have HS0 := Lib.hid hs0
      clear hs0
      go_loopw [7, 6] (fun i c' wq => ∃ k v cc : Nat, k ≤ 16 ∧ i = .int .i64 k ∧ c' = .int .u64 cc ∧ ScaleAt 65536 2 r d k v cc ∧ Fr w wq [(w.heap.size + 1, 44, ds v), (v1.heap.size, 44, ds LL)] [(w.heap.size, 44, 16)]) (fun i _ _ => 16 - (intOf i).toNat)
      case atStart => exact ⟨0, r, d, by omega, rfl, rfl, HS0.out, HF.out⟩
      case round =>
        obtain ⟨k, v, cc, hk, rfl, rfl, hS, hF⟩ := hrel
        clear HF HS0
        by_cases hkt : k < 16
        · have hV := hF.get (g := w.heap.size + 1) (t := 44) (cs := ds v) (by simp)
          have cv : wr.cell? ⟨w.heap.size + 1, k, none⟩ = some (.int .u64 ((v / 65536 ^ k % 65536 : Nat) : Int)) := by rw [hV.cell, ds_get _ hkt]
          have hf := hV.frozen k
          have hcc := hS.2.2
          have hx : v / 65536 ^ k % 65536 < 65536 := Nat.mod_lt _ (by omega)
          have hst := @scale_step 65536 2 r d k v cc (by omega) (by omega) hS
          have hpt := @ds_put v k ((2 * (v / 65536 ^ k % 65536) + cc) % 65536) hkt (Nat.mod_lt _ (by omega))
          have HST2 := Lib.hid hst
          have HPT := Lib.hid hpt
          have HF := Lib.hid hF
          clear hst hpt hS hF hV
          generalize v / 65536 ^ k % 65536 = y at *
          go_wp2
          go_roundw
          case rel =>
            have e1 : (2 * (y : Int) + cc) % 65536 = (((2 * y + cc) % 65536 : Nat) : Int) := by omega
            have e2 : (2 * (y : Int) + cc) / 65536 = (((2 * y + cc) / 65536 : Nat) : Int) := by omega
            rw [e1, e2]
            refine ⟨k + 1, _, _, by omega, by go_num, rfl, HST2.out, ?_⟩
            rw [← HPT.out]
            exact HF.out.setHead (by simp <;> omega) (by simp <;> omega) _ _ (by omega)
          case measure => simp [intOf] <;> omega
        · obtain rfl : k = 16 := by omega
          obtain rfl := scale_end hS HR16.out (by omega) HQ.out
          obtain ⟨q, hq⟩ : ∃ q, q = 2 * r + d := ⟨_, rfl⟩
          have hst := HST.out
          have hql : q < 2 * LL := by have := HGL.out; omega
          have hqb := HQ.out
          rw [← hq] at hF hst hqb
          rw [d16] at hqb
          have kq := hF.get (g := w.heap.size + 1) (t := 44) (cs := ds q) (by simp)
          have kl := hF.get (g := v1.heap.size) (t := 44) (cs := ds LL) (by simp)
          have hless := fun W => rless_any q LL W hqb LL_lt
          have HF := Lib.hid hF
          have HGS := Lib.hid hst
          have HQL := Lib.hid hql
          clear hS hF hst hql HST hq
          go_wp2_with (first | (refine wpList_load_row rfl 44 (.tmp 3) rfl (w.heap.size + 1) rfl 44 (ds q) (0, 0) _ kq Tryd.underlying44 rfl (info_ds _) ?_) | (refine wpList_load_row rfl 44 (.tmp 4) rfl (v1.heap.size) rfl 44 (ds LL) (0, 0) _ kl Tryd.underlying44 rfl (info_ds _) ?_))
          by_cases hc2 : q < LL
          · rw [decide_eq_true hc2] at hless
            have hg := HGS.out
            rw [Nat.mod_eq_of_lt hc2] at hg
            have HG := Lib.hid hg
            refine (hless _).mono ?_
            clear hless
            rintro e v2 ⟨rfl, hb⟩
            have hf := HF.out.ext hb
            have HF4 := Lib.hid hf
            clear hb hf kq kl hg
            go_wp2_with (fail)
            go_roundw
            case rel => exact ⟨j + 1, by omega, by go_num, by rw [← HG.out]; exact HF4.out⟩
            case measure => simp [intOf] <;> omega
          · rw [decide_eq_false hc2] at hless
            have hg := HGS.out
            rw [Nat.mod_eq_sub_mod (by omega), Nat.mod_eq_of_lt (by have := HQL.out; omega)] at hg
            have HG := Lib.hid hg
            refine (hless _).mono ?_
            clear hless
            rintro e v2 ⟨rfl, hb⟩
            have hf := HF.out.ext hb
            have kq2 := hf.get (g := w.heap.size + 1) (t := 44) (cs := ds q) (by simp)
            have kl2 := hf.get (g := v1.heap.size) (t := 44) (cs := ds LL) (by simp)
            have HF4 := Lib.hid hf
            clear hb hf kq kl hg
            go_wp2_with (first | (refine wpList_load_row rfl 44 (.tmp 3) rfl (w.heap.size + 1) rfl 44 (ds q) (0, 0) _ kq2 Tryd.underlying44 rfl (info_ds _) ?_) | (refine wpList_load_row rfl 44 (.tmp 4) rfl (v1.heap.size) rfl 44 (ds LL) (0, 0) _ kl2 Tryd.underlying44 rfl (info_ds _) ?_))
            refine (rminus_any q LL _ hqb (by omega)).mono ?_
            rintro e v3 ⟨rfl, hb⟩
            rw [HG.out]
            have hf := HF4.out.ext hb
            have kq3 := hf.get (g := w.heap.size + 1) (t := 44) (cs := ds q) (by simp)
            have hf5 := hf.setRowHead (by simp <;> omega) (by simp <;> omega) (ds (gl N m (j + 1))) (by omega)
            have hso : (ds q).size = (ds (gl N m (j + 1))).size := by rw [ds_size, ds_size]
            have HF5 := Lib.hid hf5
            have HSO := Lib.hid hso
            clear hb hf kq2 kl2 hf5 hso
            go_wp2_with (first | (refine wpList_store_row rfl 44 (.tmp 3) (.tmp 43) rfl (w.heap.size + 1) (ds (gl N m (j + 1))) rfl rfl 44 _ kq3 (info_ds _) HSO.out (ds_one _) ?_))
            go_roundw
            case rel => exact ⟨j + 1, by omega, by go_num, HF5.out⟩
            case measure => simp [intOf] <;> omega
    · obtain rfl : j = m := by omega
      rw [gl_end] at hF
      generalize N % LL = z at *
      have kT := hF.get (g := w.heap.size + 1) (t := 44) (cs := ds z) (by simp)
      obtain ⟨old, hold, kR⟩ := hF.old (g := w.heap.size) (t := 44) (n := 16) (by simp)
      have kS := kR.setRow_same (ds z)
      have hB2 := below_setRow hF.below (Nat.le_refl _) (ds z)
      have hold' : old.size = (ds z).size := by rw [hold, ds_size]
      have HS := Lib.hid kS
      have HB2 := Lib.hid hB2
      have HO := Lib.hid hold'
      clear hF kS hB2 hold hold'
      go_wp2_with (first | (refine wpList_load_row rfl 44 (.tmp 3) rfl (w.heap.size + 1) rfl 44 (ds z) (0, 0) _ kT Tryd.underlying44 rfl (info_ds z) ?_) | (refine wpList_store_row rfl 44 (.tmp 2) (.tmp 44) rfl (w.heap.size) (ds z) rfl rfl 44 old kR (info_ds z) HO.out (ds_one _) ?_))
      exact bodyPost_ret (results_cell_row rfl _ _ (w.heap.size) 44 (ds z) (0, 0) _ rfl HS.out Tryd.underlying44 rfl (info_ds z)) rfl ⟨rfl, HB2.out⟩

set_option maxRecDepth 100000 in
set_option maxHeartbeats 1000000 in
theorem rreduce_any (A : Option Addr) (n c B N : Nat) (w : World) (hl : BS w B A n c (kbl N n)) (hB : B ≤ w.heap.size) (hn : n ≤ 100) (hN : N < 256 ^ n) :
    Calls Tryd.prog 9 #[.slice A n c] w (KeyPost (N % LL) w) := by
  have hfr := (Fr.start w).any (ks 0) 25 32 (ks_size 0) (g := w.heap.size) rfl
  rw [ks_zero] at hfr
  have HFR := Lib.hid hfr
  have hz : N % LL < LL := Nat.mod_lt _ (by rw [LL_eq]; omega)
  have h2 : N < 2 ^ (8 * n) := by rw [Nat.pow_mul]; exact hN
  have HZ := Lib.hid hz
  have H2 := Lib.hid h2
  clear hfr hz h2 hN
  go_enter Tryd.func9, Tryd.ntmps9
  go_wp2_with (fail)
  refine (high_any A n c B N _ (hl.alloc hB _) (by simp; omega) hn).mono ?_
  rintro e v1 ⟨v, rfl, hown, hb⟩
  obtain ⟨A9, n9, c9, rfl, hbs9, hlo9⟩ := hown.form
  have hln := hbs9.len
  rw [hbl_len] at hln
  subst hln
  have hf := HFR.out.ext hb
  have HF := Lib.hid hf
  clear hb hf HFR hown hlo9
  go_wp2_with (fail)
  refine (rbits_any A9 (8 * n) c9 _ N _ hbs9 (Nat.le_refl _) (by omega) H2.out).mono ?_
  rintro e v2 ⟨rfl, hb⟩
  have hf := HF.out.ext hb
  have HF2 := Lib.hid hf
  clear hb hf hbs9
  generalize N % LL = z at *
  go_wp2_with (fail)
  refine (rbytes_any z _ (by have := HZ.out; have := LL_lt; omega)).mono ?_
  rintro e v3 ⟨rfl, hb⟩
  have hf := HF2.out.ext hb
  obtain ⟨old, hold, kR⟩ := hf.old (g := w.heap.size) (t := 25) (n := 32) (by simp)
  have kS := kR.setRow_same (ks z)
  have hB2 := below_setRow hf.below (Nat.le_refl _) (ks z)
  have hold' : old.size = (ks z).size := by rw [hold, ks_size]
  have HS := Lib.hid kS
  have HB2 := Lib.hid hB2
  have HO := Lib.hid hold'
  clear hb hf kS hB2 hold hold'
  go_wp2_with (first | (refine wpList_store_row rfl 25 (.tmp 2) (.tmp 6) rfl (w.heap.size) (ks z) rfl rfl 25 old kR (info_ks z) HO.out (ks_one _) ?_))
  exact key_end (g := w.heap.size) rfl rfl rfl HS.out HB2.out
end Go.Proofs.YtpliddkdahgbpaaDoor
