/- Walks of Bytes, Of, rootPower, Power, Inv, rootOfMinusOne. -/
import Derived.Test.YtnfckoamjeafhaaDoorFb
namespace Go.Proofs.YtnfckoamjeafhaaDoor
set_option linter.unusedVariables false
set_option linter.unusedSimpArgs false
open Go.RowKit

theorem key_end {fn : Func} {p : Tmp} (hr : fn.results = #[.cell p 23]) {a : Act} (hd : a.defers = []) {W w : World} {g n : Nat} (hp : a.tmps.getD p undef = .pointer (some ⟨g, 0, none⟩)) (hb : Blk w g 23 (ks n)) (hB : Below W.heap.size W w) :
    bodyPost Tryd.prog fn (KeyPost n W) .ret a w :=
  bodyPost_ret (results_cell_row hr _ _ g 23 (ks n) (0, 0) _ hp hb Tryd.underlying23 rfl (info_ks n)) hd ⟨rfl, hB⟩

set_option maxHeartbeats 1000000 in
theorem bytes_any (n : Nat) (w : World) (hn : n < 115792089237316195423570985008687907853269984665640564039457584007913129639936) :
    Calls Tryd.prog 8 #[.agg (es n)] w (KeyPost n w) := by
  have hfr := ((Fr.start w).row (es n) 27 (g := w.heap.size) rfl).any (ks 0) 23 32 (ks_size 0) (g := w.heap.size + 1) (by simp)
  have k0 := hfr.get (g := w.heap.size) (t := 27) (cs := es n) (by simp)
  rw [ks_zero] at hfr k0
  have HFR := Lib.hid hfr
  clear hfr
  go_enter Tryd.func8, Tryd.ntmps8
  go_wp2_with (first | (refine wpList_load_row rfl 25 (.tmp 3) rfl w.heap.size rfl 27 (es n) (0, 0) _ k0 Tryd.underlying25 rfl info_w4 ?_))
  refine (bytesOf_any n _ hn).mono ?_
  rintro e v ⟨rfl, hb⟩
  have hf := HFR.out.ext hb
  clear hb
  obtain ⟨old, hold, kR⟩ := hf.old (g := w.heap.size + 1) (t := 23) (n := 32) (by simp)
  have kS := kR.setRow_same (ks n)
  have hB := below_setRow hf.below (show w.heap.size ≤ w.heap.size + 1 by omega) (ks n)
  have hold' : old.size = (ks n).size := by rw [hold, ks_size]
  have HS := Lib.hid kS
  have HB := Lib.hid hB
  have HO := Lib.hid hold'
  clear hf kS hB hold hold' k0
  go_wp2_with (first | (refine wpList_store_row rfl 23 (.tmp 2) (.tmp 5) rfl (w.heap.size + 1) (ks n) rfl rfl 23 old kR (info_ks n) HO.out (ks_one _) ?_))
  exact key_end (g := w.heap.size + 1) rfl rfl rfl HS.out HB.out

theorem of_num (n : Nat) (hn : n < 115792089237316195423570985008687907853269984665640564039457584007913129639936) : num5 (wd0 n) (wd1 n) (wd2 n) (wd3 n % 9223372036854775808) 0 = n % 57896044618658097711785492504343953926634992332820282019728792003956564819968 := by
  unfold num5 wd0 wd1 wd2 wd3
  omega
set_option maxHeartbeats 1000000 in
theorem of_any (n : Nat) (w : World) (hpg : PG w) (hn : n < 115792089237316195423570985008687907853269984665640564039457584007913129639936) :
    Calls Tryd.prog 4 #[.agg (ks n)] w (ElemPost (n % 57896044618658097711785492504343953926634992332820282019728792003956564819968 % PP) w) := by
  have hfr := ((Fr.start w).row (ks n) 23 (g := w.heap.size) rfl).any (es 0) 27 4 rfl (g := w.heap.size + 1) (by simp)
  have k0 := hfr.get (g := w.heap.size) (t := 23) (cs := ks n) (by simp)
  rw [es_zero] at hfr k0
  have HFR := Lib.hid hfr
  have HPG := Lib.hid hpg
  have ho := of_num n hn
  have HON := Lib.hid ho
  have at_ := andNot_top (wd3 n) (wd3_lt n)
  clear hfr hpg ho
  go_enter Tryd.func4, Tryd.ntmps4
  go_wp2_with (first | (refine wpList_load_row rfl 23 (.tmp 1) rfl w.heap.size rfl 23 (ks n) (0, 0) _ k0 Tryd.underlying23 rfl (info_ks n) ?_))
  refine (wordsOf_any n _ hn).mono ?_
  rintro e v ⟨he, hb⟩
  rw [es_show] at he
  subst he
  have hf := (HFR.out.ext hb).row (es n) 25 (g := v.heap.size) rfl
  rw [es_show] at hf
  have hp1 := (((HPG.out.alloc _).alloc _).ext hb).alloc (.cells #[.int .u64 (wd0 n : Int), .int .u64 (wd1 n : Int), .int .u64 (wd2 n : Int), .int .u64 (wd3 n : Int)] 25)
  have HF := Lib.hid hf
  have HP1 := Lib.hid hp1
  clear hb k0 hf hp1
  go_wp2_with (fail)
  refine (settle_any (wd0 n) (wd1 n) (wd2 n) (wd3 n % 9223372036854775808) 0 _ HP1.out (wd0_lt n) (wd1_lt n) (wd2_lt n) (Nat.lt_of_le_of_lt (Nat.mod_le _ _) (wd3_lt n)) (by omega)).mono ?_
  rintro e v2 ⟨he, hb⟩
  rw [HON.out] at he
  subst he
  have hf2 := HF.out.ext hb
  clear hb
  obtain ⟨old, hold, kR⟩ := hf2.old (g := w.heap.size + 1) (t := 27) (n := 4) (by simp)
  generalize n % 57896044618658097711785492504343953926634992332820282019728792003956564819968 % PP = r at *
  have kS := kR.setRow_same (es r)
  have hB := below_setRow hf2.below (show w.heap.size ≤ w.heap.size + 1 by omega) (es r)
  have HS := Lib.hid kS
  have HB := Lib.hid hB
  have HO := Lib.hid hold
  clear hf2 kS hB hold
  go_wp2_with (first | (refine wpList_store_row rfl 27 (.tmp 2) (.tmp 15) rfl (w.heap.size + 1) (es r) rfl rfl 27 old kR info_elem HO.out (es_one _) ?_))
  exact elem_end (g := w.heap.size + 1) rfl rfl rfl HS.out HB.out

/-! Powers. -/
theorem es_of_num4 {n a b c d : Nat} (h : n = num4 a b c d) (ha : a < 18446744073709551616) (hb : b < 18446744073709551616) (hc : c < 18446744073709551616) (hd : d < 18446744073709551616) :
    es n = #[.int .u64 (a : Int), .int .u64 (b : Int), .int .u64 (c : Int), .int .u64 (d : Int)] := by
  obtain ⟨h0, h1, h2, h3⟩ := of_num4 h ha hb hc hd
  rw [es_show, h0, h1, h2, h3]
theorem rootPower_num : num4 18446744073709551613 18446744073709551615 18446744073709551615 1152921504606846975 = EE := by decide +kernel
set_option maxHeartbeats 1000000 in
theorem rootPower_any (w : World) : Calls Tryd.prog 22 #[] w (KeyPost EE w) := by
  have hfr := (Fr.start w).any (ks 0) 23 32 (ks_size 0) (g := w.heap.size) rfl
  rw [ks_zero] at hfr
  have HFR := Lib.hid hfr
  clear hfr
  have hb0 := bytesOf_any EE
  rw [show es EE = #[.int .u64 18446744073709551613, .int .u64 18446744073709551615, .int .u64 18446744073709551615, .int .u64 1152921504606846975] from es_of_num4 rootPower_num.symm (by decide) (by decide) (by decide) (by decide)] at hb0
  go_enter Tryd.func22, Tryd.ntmps22
  go_wp2_with (fail)
  refine (hb0 _ (by decide +kernel)).mono ?_
  rintro e v ⟨rfl, hb⟩
  have hf := HFR.out.ext hb
  clear hb hb0
  obtain ⟨old, hold, kR⟩ := hf.old (g := w.heap.size) (t := 23) (n := 32) (by simp)
  have kS := kR.setRow_same (ks EE)
  have hB := below_setRow hf.below (show w.heap.size ≤ w.heap.size by omega) (ks EE)
  have hold' : old.size = (ks EE).size := by rw [hold, ks_size]
  have HS := Lib.hid kS
  have HB := Lib.hid hB
  have HO := Lib.hid hold'
  clear hf kS hB hold hold'
  go_wp2_with (first | (refine wpList_store_row rfl 23 (.tmp 0) (.tmp 2) rfl w.heap.size (ks EE) rfl rfl 23 old kR (info_ks EE) HO.out (ks_one _) ?_))
  exact key_end (g := w.heap.size) rfl rfl rfl HS.out HB.out
end Go.Proofs.YtnfckoamjeafhaaDoor
