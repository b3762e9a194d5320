/- Words, contracts and walks (Sv, Yo), laid together. No condition. -/
import Derived.Test.YtcijaoihcckofaaDoorZob
import Derived.Deep.DeepCutAuto
import Derived.Deep.CutBlock
namespace Go.Proofs.YtcijaoihcckofaaDoor
set_option linter.unusedVariables false
set_option linter.unusedSimpArgs false
open Go Go.RowKit
theorem two_bytes_of (T j n : Nat) (h : n % 65536 = T / 65536 ^ j % 65536) : n % 256 = T / 256 ^ (2 * j) % 256 ∧ n / 256 % 256 = T / 256 ^ (2 * j + 1) % 256 := by
  have h1 := digit_low T j
  have h2 := digit_high T j
  rw [← h] at h1 h2
  refine ⟨?_, ?_⟩
  · rw [← h1]
    omega
  · rw [← h2]
    omega
theorem kbl_two (T j n : Nat) (h : n % 65536 = T / 65536 ^ j % 65536) : kbl T (2 * (j + 1)) = kbl T (2 * j) ++ [UInt8.ofNat (n % 256), UInt8.ofNat (n / 256 % 256)] := by
  obtain ⟨h1, h2⟩ := two_bytes_of T j n h
  rw [h1, h2, show 2 * (j + 1) = 2 * j + 1 + 1 by omega, kbl_step, kbl_step, List.append_assoc]
  rfl
theorem prod_lt66 {a b c : Nat} (ha : a < 115792089237316195423570985008687907853269984665640564039457584007913129639936) (hb : b < 115792089237316195423570985008687907853269984665640564039457584007913129639936) (hc : c < 115792089237316195423570985008687907853269984665640564039457584007913129639936) : a * b + c < 256 ^ 66 := by
  have h1 := prod_lt ha hb hc
  rw [← b512] at h1
  have h2 : (256 : Nat) ^ 66 = 256 ^ 64 * 65536 := by rw [Nat.pow_add 256 64 2]
  omega
set_option maxRecDepth 100000 in
set_option maxHeartbeats 16000000 in
theorem rmulAdd_any (a b c : Nat) (w : World) (ha : a < 115792089237316195423570985008687907853269984665640564039457584007913129639936) (hb : b < 115792089237316195423570985008687907853269984665640564039457584007913129639936) (hc : c < 115792089237316195423570985008687907853269984665640564039457584007913129639936) : Calls Tryd.prog 31 #[.agg (ks a), .agg (ks b), .agg (ks c)] w (KeyPost ((a * b + c) % LL) w) := by
  have hfr := ((((Fr.start w).row (ks a) 23 (g := w.heap.size) rfl).row (ks b) 23 (g := w.heap.size + 1) (by simp)).row (ks c) 23 (g := w.heap.size + 1 + 1) (by simp)).any (ks 0) 23 32 (ks_size 0) (g := w.heap.size + 1 + 1 + 1) (by simp)
  rw [ks_zero] at hfr
  have h66 := prod_lt66 ha hb hc
  have HA := Lib.hid ha
  have HBB := Lib.hid hb
  have HC := Lib.hid hc
  have H66 := Lib.hid h66
  clear ha hb hc h66
  obtain ⟨T, hT⟩ : ∃ T, T = a * b + c := ⟨_, rfl⟩
  obtain ⟨z, hz⟩ : ∃ z, z = (a * b + c) % LL := ⟨_, rfl⟩
  rw [← hz]
  have HT := Lib.hid hT
  have HZ := Lib.hid hz
  clear hT hz
  have hmk := fun W => run_mku (P := Tryd.prog) 86 24 Tryd.underlying86 info_u64 33 (by omega) W
  go_enter Tryd.func31, Tryd.ntmps31
  go_wp2_with (fail)
  obtain ⟨wx, hwx⟩ : ∃ wx : World, wx = (((w.alloc (.cells (ks a) 23)).alloc (.cells (ks b) 23)).alloc (.cells (ks c) 23)).alloc (.cells #[.int .u8 0, .int .u8 0, .int .u8 0, .int .u8 0, .int .u8 0, .int .u8 0, .int .u8 0, .int .u8 0, .int .u8 0, .int .u8 0, .int .u8 0, .int .u8 0, .int .u8 0, .int .u8 0, .int .u8 0, .int .u8 0, .int .u8 0, .int .u8 0, .int .u8 0, .int .u8 0, .int .u8 0, .int .u8 0, .int .u8 0, .int .u8 0, .int .u8 0, .int .u8 0, .int .u8 0, .int .u8 0, .int .u8 0, .int .u8 0, .int .u8 0, .int .u8 0] 23) := ⟨_, rfl⟩
  rw [← hwx] at hfr ⊢
  clear hwx
  have HF := Lib.hid hfr
  clear hfr
  go_cut [7, 8, 9] (fun s7 s8 s9 wz => ∃ g7 g8 g9 : Nat, s7 = .pointer (some ⟨g7, 0, none⟩) ∧ s8 = .pointer (some ⟨g8, 0, none⟩) ∧ s9 = .pointer (some ⟨g9, 0, none⟩) ∧ Blk wz g7 33 (ds a) ∧ Blk wz g8 33 (ds b) ∧ Blk wz g9 33 (ds c) ∧ Below wx.heap.size wx wz)
  case first =>
    as_aux_lemma =>
      have hn := (HF.out.now.sub (L' := [(w.heap.size + 1 + 1, 23, ks c), (w.heap.size + 1, 23, ks b), (w.heap.size, 23, ks a)]) (by simp))
      have HN := Lib.hid hn
      clear hn
      refine wp_region_held_drew (S := fun W => Fn wx W [(w.heap.size + 1 + 1, 23, ks c), (w.heap.size + 1, 23, ks b), (w.heap.size, 23, ks a)]) (by kernel_rfl) ?_ (fun hHeld => ?_)
      · exact HN.out.drew
      refine wpAnyH_take (i := 0) (v := .agg (ks a)) rfl (by kernel_rfl) (by kernel_rfl) (by kernel_rfl) (fun _ _ _ h => h) (yields_row (by rfl) 23 (.tmp 3) rfl (w.heap.size) rfl 23 (ks a) _ (fun W (h : Fn _ W _) => h.get (by simp)) Tryd.underlying23 rfl (info_ks _)) hHeld ?_
      try simp only [Act.put, List.getElem_toArray, List.getElem_cons_succ, List.getElem_cons_zero, List.setIfInBounds_toArray, List.set_cons_zero, List.set_cons_succ]
      refine wpAnyH_take (i := 2) (v := .agg (ks b)) rfl (by kernel_rfl) (by kernel_rfl) (by kernel_rfl) (fun _ _ _ h => h) (yields_row (by rfl) 23 (.tmp 4) rfl (w.heap.size + 1) rfl 23 (ks b) _ (fun W (h : Fn _ W _) => h.get (by simp)) Tryd.underlying23 rfl (info_ks _)) hHeld ?_
      try simp only [Act.put, List.getElem_toArray, List.getElem_cons_succ, List.getElem_cons_zero, List.setIfInBounds_toArray, List.set_cons_zero, List.set_cons_succ]
      refine wpAnyH_take (i := 4) (v := .agg (ks c)) rfl (by kernel_rfl) (by kernel_rfl) (by kernel_rfl) (fun _ _ _ h => h) (yields_row (by rfl) 23 (.tmp 5) rfl (w.heap.size + 1 + 1) rfl 23 (ks c) _ (fun W (h : Fn _ W _) => h.get (by simp)) Tryd.underlying23 rfl (info_ks _)) hHeld ?_
      try simp only [Act.put, List.getElem_toArray, List.getElem_cons_succ, List.getElem_cons_zero, List.setIfInBounds_toArray, List.set_cons_zero, List.set_cons_succ]
      refine wpAnyH_name ?_
      intro ops Q hops hQ
      have st3_678 : ∀ (g7 g8 g9 : Nat) (W : World), Fn wx W [(w.heap.size + 1 + 1, 23, ks c), (w.heap.size + 1, 23, ks b), (w.heap.size, 23, ks a)] → Blk W g7 33 #[.int .u64 0, .int .u64 0, .int .u64 0, .int .u64 0, .int .u64 0, .int .u64 0, .int .u64 0, .int .u64 0, .int .u64 0, .int .u64 0, .int .u64 0, .int .u64 0, .int .u64 0, .int .u64 0, .int .u64 0, .int .u64 0] → wx.heap.size ≤ g7 → Blk W g8 33 #[.int .u64 0, .int .u64 0, .int .u64 0, .int .u64 0, .int .u64 0, .int .u64 0, .int .u64 0, .int .u64 0, .int .u64 0, .int .u64 0, .int .u64 0, .int .u64 0, .int .u64 0, .int .u64 0, .int .u64 0, .int .u64 0] → wx.heap.size ≤ g8 → Blk W g9 33 #[.int .u64 0, .int .u64 0, .int .u64 0, .int .u64 0, .int .u64 0, .int .u64 0, .int .u64 0, .int .u64 0, .int .u64 0, .int .u64 0, .int .u64 0, .int .u64 0, .int .u64 0, .int .u64 0, .int .u64 0, .int .u64 0] → wx.heap.size ≤ g9 → g7 ≠ g8 → g7 ≠ g9 → g8 ≠ g9 → wpAnyH Tryd.prog .any ops Q (fun W => Fn wx W [(w.heap.size + 1 + 1, 23, ks c), (w.heap.size + 1, 23, ks b), (w.heap.size, 23, ks a)]) 3 #[true, true, true, true, true, true, true, true, true, false, false, false] { tmps := #[.agg (ks a), .agg (ks b), .agg (ks c), .pointer (some ⟨w.heap.size, 0, none⟩), .pointer (some ⟨w.heap.size + 1, 0, none⟩), .pointer (some ⟨w.heap.size + 1 + 1, 0, none⟩), .pointer (some ⟨w.heap.size + 1 + 1 + 1, 0, none⟩), .pointer (some ⟨g7, 0, none⟩), .pointer (some ⟨g8, 0, none⟩), .pointer (some ⟨g9, 0, none⟩), undef, undef, undef, undef, undef, undef, undef, .agg (ks a), .agg (ds a), .agg (ks b), .agg (ds b), .agg (ks c), .agg (ds c), undef, undef, undef, undef, undef, undef, undef, undef, undef, undef, undef, undef, undef, undef, undef, undef, undef, undef, undef, undef, undef, undef, undef, undef, undef, undef, undef, undef, undef, undef, undef, undef, undef, undef, undef, undef, undef, undef, undef, undef, undef, undef, undef, undef, undef, undef, undef, undef, undef, undef, undef, undef, undef, undef, undef, undef, undef, undef, undef, undef, undef, undef, undef], defers := [] } W := by
        as_aux_lemma =>
          intro g7 g8 g9 W hHeld K6 Z6 K7 Z7 K8 Z8 n6_7 n6_8 n7_8
          rw [← hops]
          rw [← hQ]
          have KK6 := Lib.hid K6
          clear K6
          have KK7 := Lib.hid K7
          clear K7
          have KK8 := Lib.hid K8
          clear K8
          refine wpAnyH_ready (rs := [9]) (by kernel_rfl) (by simp) (AllReadyH.cons rfl (fun K hK => ?_) AllReadyH.nil)
          have h0 := hHeld
          clear hHeld
          try simp only [List.getElem_toArray, List.getElem_cons_succ, List.getElem_cons_zero]
          rw [if_pos (by rfl)]
          refine wp_store_row 33 (.tmp 7) (.tmp 18) rfl g7 (ds a) rfl rfl 33 _ KK6.out (info_ds _) (by rw [ds_size]; rfl) (ds_one _) ?_
          refine hK.out _ _ (Fn.setFresh h0 Z6 _) (fun hHeld => ?_)
          have J6 := Lib.hid (KK6.out.setRow_same (ds a))
          clear KK6
          have KK6 := J6
          clear J6
          have J7 := Lib.hid (KK7.out.setRow_other (Ne.symm n6_7) (ds a))
          clear KK7
          have KK7 := J7
          clear J7
          have J8 := Lib.hid (KK8.out.setRow_other (Ne.symm n6_8) (ds a))
          clear KK8
          have KK8 := J8
          clear J8
          clear hK K h0
          try simp only [Act.put, List.getElem_toArray, List.getElem_cons_succ, List.getElem_cons_zero, List.setIfInBounds_toArray, List.set_cons_zero, List.set_cons_succ]
          refine wpAnyH_ready (rs := [10]) (by kernel_rfl) (by simp) (AllReadyH.cons rfl (fun K hK => ?_) AllReadyH.nil)
          have h0 := hHeld
          clear hHeld
          try simp only [List.getElem_toArray, List.getElem_cons_succ, List.getElem_cons_zero]
          rw [if_pos (by rfl)]
          refine wp_store_row 33 (.tmp 8) (.tmp 20) rfl g8 (ds b) rfl rfl 33 _ KK7.out (info_ds _) (by rw [ds_size]; rfl) (ds_one _) ?_
          refine hK.out _ _ (Fn.setFresh h0 Z7 _) (fun hHeld => ?_)
          have J7 := Lib.hid (KK7.out.setRow_same (ds b))
          clear KK7
          have KK7 := J7
          clear J7
          have J6 := Lib.hid (KK6.out.setRow_other n6_7 (ds b))
          clear KK6
          have KK6 := J6
          clear J6
          have J8 := Lib.hid (KK8.out.setRow_other (Ne.symm n7_8) (ds b))
          clear KK8
          have KK8 := J8
          clear J8
          clear hK K h0
          try simp only [Act.put, List.getElem_toArray, List.getElem_cons_succ, List.getElem_cons_zero, List.setIfInBounds_toArray, List.set_cons_zero, List.set_cons_succ]
          refine wpAnyH_ready (rs := [11]) (by kernel_rfl) (by simp) (AllReadyH.cons rfl (fun K hK => ?_) AllReadyH.nil)
          have h0 := hHeld
          clear hHeld
          try simp only [List.getElem_toArray, List.getElem_cons_succ, List.getElem_cons_zero]
          rw [if_pos (by rfl)]
          refine wp_store_row 33 (.tmp 9) (.tmp 22) rfl g9 (ds c) rfl rfl 33 _ KK8.out (info_ds _) (by rw [ds_size]; rfl) (ds_one _) ?_
          refine hK.out _ _ (Fn.setFresh h0 Z8 _) (fun hHeld => ?_)
          have J8 := Lib.hid (KK8.out.setRow_same (ds c))
          clear KK8
          have KK8 := J8
          clear J8
          have J6 := Lib.hid (KK6.out.setRow_other n6_8 (ds c))
          clear KK6
          have KK6 := J6
          clear J6
          have J7 := Lib.hid (KK7.out.setRow_other n7_8 (ds c))
          clear KK7
          have KK7 := J7
          clear J7
          clear hK K h0
          try simp only [Act.put, List.getElem_toArray, List.getElem_cons_succ, List.getElem_cons_zero, List.setIfInBounds_toArray, List.set_cons_zero, List.set_cons_succ]
          refine wpAnyH_done (by kernel_rfl) ?_ _
          have HB := Lib.hid hHeld.below
          clear hHeld
          go_wp2_with (fail)
          go_meet
          exact ⟨g7, g8, g9, rfl, rfl, rfl, KK6.out, KK7.out, KK8.out, HB.out⟩
      have st3_67 : ∀ (g7 g8 : Nat) (W : World), Fn wx W [(w.heap.size + 1 + 1, 23, ks c), (w.heap.size + 1, 23, ks b), (w.heap.size, 23, ks a)] → Blk W g7 33 #[.int .u64 0, .int .u64 0, .int .u64 0, .int .u64 0, .int .u64 0, .int .u64 0, .int .u64 0, .int .u64 0, .int .u64 0, .int .u64 0, .int .u64 0, .int .u64 0, .int .u64 0, .int .u64 0, .int .u64 0, .int .u64 0] → wx.heap.size ≤ g7 → Blk W g8 33 #[.int .u64 0, .int .u64 0, .int .u64 0, .int .u64 0, .int .u64 0, .int .u64 0, .int .u64 0, .int .u64 0, .int .u64 0, .int .u64 0, .int .u64 0, .int .u64 0, .int .u64 0, .int .u64 0, .int .u64 0, .int .u64 0] → wx.heap.size ≤ g8 → g7 ≠ g8 → wpAnyH Tryd.prog .any ops Q (fun W => Fn wx W [(w.heap.size + 1 + 1, 23, ks c), (w.heap.size + 1, 23, ks b), (w.heap.size, 23, ks a)]) 4 #[true, true, true, true, true, true, true, true, false, false, false, false] { tmps := #[.agg (ks a), .agg (ks b), .agg (ks c), .pointer (some ⟨w.heap.size, 0, none⟩), .pointer (some ⟨w.heap.size + 1, 0, none⟩), .pointer (some ⟨w.heap.size + 1 + 1, 0, none⟩), .pointer (some ⟨w.heap.size + 1 + 1 + 1, 0, none⟩), .pointer (some ⟨g7, 0, none⟩), .pointer (some ⟨g8, 0, none⟩), undef, undef, undef, undef, undef, undef, undef, undef, .agg (ks a), .agg (ds a), .agg (ks b), .agg (ds b), .agg (ks c), .agg (ds c), undef, undef, undef, undef, undef, undef, undef, undef, undef, undef, undef, undef, undef, undef, undef, undef, undef, undef, undef, undef, undef, undef, undef, undef, undef, undef, undef, undef, undef, undef, undef, undef, undef, undef, undef, undef, undef, undef, undef, undef, undef, undef, undef, undef, undef, undef, undef, undef, undef, undef, undef, undef, undef, undef, undef, undef, undef, undef, undef, undef, undef, undef, undef], defers := [] } W := by
        as_aux_lemma =>
          intro g7 g8 W hHeld K6 Z6 K7 Z7 n6_7
          rw [← hops]
          refine wpAnyH_ready (rs := [8]) (by kernel_rfl) (by simp) (AllReadyH.cons rfl (fun K hK => ?_) AllReadyH.nil)
          have h0 := hHeld
          clear hHeld
          try simp only [List.getElem_toArray, List.getElem_cons_succ, List.getElem_cons_zero]
          obtain ⟨kz, hg⟩ := Fn.fresh h0 33 #[.int .u64 0, .int .u64 0, .int .u64 0, .int .u64 0, .int .u64 0, .int .u64 0, .int .u64 0, .int .u64 0, .int .u64 0, .int .u64 0, .int .u64 0, .int .u64 0, .int .u64 0, .int .u64 0, .int .u64 0, .int .u64 0]
          have KZ := Lib.hid kz
          have HG := Lib.hid hg
          have H0 := Lib.hid h0
          clear kz hg h0
          have KH6 := Lib.hid K6
          have KH7 := Lib.hid K7
          go_simp
          refine hK.out _ _ (Fn.pass H0.out _) (fun hHeld => ?_)
          clear hK K H0
          try simp only [Act.put, List.getElem_toArray, List.getElem_cons_succ, List.getElem_cons_zero, List.setIfInBounds_toArray, List.set_cons_zero, List.set_cons_succ]
          have k6 := KH6.out.alloc (.cells #[.int .u64 0, .int .u64 0, .int .u64 0, .int .u64 0, .int .u64 0, .int .u64 0, .int .u64 0, .int .u64 0, .int .u64 0, .int .u64 0, .int .u64 0, .int .u64 0, .int .u64 0, .int .u64 0, .int .u64 0, .int .u64 0] 33)
          have k7 := KH7.out.alloc (.cells #[.int .u64 0, .int .u64 0, .int .u64 0, .int .u64 0, .int .u64 0, .int .u64 0, .int .u64 0, .int .u64 0, .int .u64 0, .int .u64 0, .int .u64 0, .int .u64 0, .int .u64 0, .int .u64 0, .int .u64 0, .int .u64 0] 33)
          have z6 := Z6
          have z7 := Z7
          have k8 := KZ.out
          have z8 := HG.out
          refine wpAnyH_cast (n' := 3) (l' := #[true, true, true, true, true, true, true, true, true, false, false, false]) (by kernel_rfl) (by kernel_rfl) ?_
          have hh := st3_678 g7 g8 _ _ hHeld k6 z6 k7 z7 k8 z8 n6_7 (Nat.ne_of_lt K6.lt) (Nat.ne_of_lt K7.lt)
          rw [← hops] at hh
          exact hh
      have st3_68 : ∀ (g7 g9 : Nat) (W : World), Fn wx W [(w.heap.size + 1 + 1, 23, ks c), (w.heap.size + 1, 23, ks b), (w.heap.size, 23, ks a)] → Blk W g7 33 #[.int .u64 0, .int .u64 0, .int .u64 0, .int .u64 0, .int .u64 0, .int .u64 0, .int .u64 0, .int .u64 0, .int .u64 0, .int .u64 0, .int .u64 0, .int .u64 0, .int .u64 0, .int .u64 0, .int .u64 0, .int .u64 0] → wx.heap.size ≤ g7 → Blk W g9 33 #[.int .u64 0, .int .u64 0, .int .u64 0, .int .u64 0, .int .u64 0, .int .u64 0, .int .u64 0, .int .u64 0, .int .u64 0, .int .u64 0, .int .u64 0, .int .u64 0, .int .u64 0, .int .u64 0, .int .u64 0, .int .u64 0] → wx.heap.size ≤ g9 → g7 ≠ g9 → wpAnyH Tryd.prog .any ops Q (fun W => Fn wx W [(w.heap.size + 1 + 1, 23, ks c), (w.heap.size + 1, 23, ks b), (w.heap.size, 23, ks a)]) 4 #[true, true, true, true, true, true, true, false, true, false, false, false] { tmps := #[.agg (ks a), .agg (ks b), .agg (ks c), .pointer (some ⟨w.heap.size, 0, none⟩), .pointer (some ⟨w.heap.size + 1, 0, none⟩), .pointer (some ⟨w.heap.size + 1 + 1, 0, none⟩), .pointer (some ⟨w.heap.size + 1 + 1 + 1, 0, none⟩), .pointer (some ⟨g7, 0, none⟩), undef, .pointer (some ⟨g9, 0, none⟩), undef, undef, undef, undef, undef, undef, undef, .agg (ks a), .agg (ds a), .agg (ks b), .agg (ds b), .agg (ks c), .agg (ds c), undef, undef, undef, undef, undef, undef, undef, undef, undef, undef, undef, undef, undef, undef, undef, undef, undef, undef, undef, undef, undef, undef, undef, undef, undef, undef, undef, undef, undef, undef, undef, undef, undef, undef, undef, undef, undef, undef, undef, undef, undef, undef, undef, undef, undef, undef, undef, undef, undef, undef, undef, undef, undef, undef, undef, undef, undef, undef, undef, undef, undef, undef, undef], defers := [] } W := by
        as_aux_lemma =>
          clear st3_67
          intro g7 g9 W hHeld K6 Z6 K8 Z8 n6_8
          rw [← hops]
          refine wpAnyH_ready (rs := [7]) (by kernel_rfl) (by simp) (AllReadyH.cons rfl (fun K hK => ?_) AllReadyH.nil)
          have h0 := hHeld
          clear hHeld
          try simp only [List.getElem_toArray, List.getElem_cons_succ, List.getElem_cons_zero]
          obtain ⟨kz, hg⟩ := Fn.fresh h0 33 #[.int .u64 0, .int .u64 0, .int .u64 0, .int .u64 0, .int .u64 0, .int .u64 0, .int .u64 0, .int .u64 0, .int .u64 0, .int .u64 0, .int .u64 0, .int .u64 0, .int .u64 0, .int .u64 0, .int .u64 0, .int .u64 0]
          have KZ := Lib.hid kz
          have HG := Lib.hid hg
          have H0 := Lib.hid h0
          clear kz hg h0
          have KH6 := Lib.hid K6
          have KH8 := Lib.hid K8
          go_simp
          refine hK.out _ _ (Fn.pass H0.out _) (fun hHeld => ?_)
          clear hK K H0
          try simp only [Act.put, List.getElem_toArray, List.getElem_cons_succ, List.getElem_cons_zero, List.setIfInBounds_toArray, List.set_cons_zero, List.set_cons_succ]
          have k6 := KH6.out.alloc (.cells #[.int .u64 0, .int .u64 0, .int .u64 0, .int .u64 0, .int .u64 0, .int .u64 0, .int .u64 0, .int .u64 0, .int .u64 0, .int .u64 0, .int .u64 0, .int .u64 0, .int .u64 0, .int .u64 0, .int .u64 0, .int .u64 0] 33)
          have k8 := KH8.out.alloc (.cells #[.int .u64 0, .int .u64 0, .int .u64 0, .int .u64 0, .int .u64 0, .int .u64 0, .int .u64 0, .int .u64 0, .int .u64 0, .int .u64 0, .int .u64 0, .int .u64 0, .int .u64 0, .int .u64 0, .int .u64 0, .int .u64 0] 33)
          have z6 := Z6
          have z8 := Z8
          have k7 := KZ.out
          have z7 := HG.out
          refine wpAnyH_cast (n' := 3) (l' := #[true, true, true, true, true, true, true, true, true, false, false, false]) (by kernel_rfl) (by kernel_rfl) ?_
          have hh := st3_678 g7 _ g9 _ hHeld k6 z6 k7 z7 k8 z8 (Nat.ne_of_lt K6.lt) n6_8 (Ne.symm (Nat.ne_of_lt K8.lt))
          rw [← hops] at hh
          exact hh
      have st3_78 : ∀ (g8 g9 : Nat) (W : World), Fn wx W [(w.heap.size + 1 + 1, 23, ks c), (w.heap.size + 1, 23, ks b), (w.heap.size, 23, ks a)] → Blk W g8 33 #[.int .u64 0, .int .u64 0, .int .u64 0, .int .u64 0, .int .u64 0, .int .u64 0, .int .u64 0, .int .u64 0, .int .u64 0, .int .u64 0, .int .u64 0, .int .u64 0, .int .u64 0, .int .u64 0, .int .u64 0, .int .u64 0] → wx.heap.size ≤ g8 → Blk W g9 33 #[.int .u64 0, .int .u64 0, .int .u64 0, .int .u64 0, .int .u64 0, .int .u64 0, .int .u64 0, .int .u64 0, .int .u64 0, .int .u64 0, .int .u64 0, .int .u64 0, .int .u64 0, .int .u64 0, .int .u64 0, .int .u64 0] → wx.heap.size ≤ g9 → g8 ≠ g9 → wpAnyH Tryd.prog .any ops Q (fun W => Fn wx W [(w.heap.size + 1 + 1, 23, ks c), (w.heap.size + 1, 23, ks b), (w.heap.size, 23, ks a)]) 4 #[true, true, true, true, true, true, false, true, true, false, false, false] { tmps := #[.agg (ks a), .agg (ks b), .agg (ks c), .pointer (some ⟨w.heap.size, 0, none⟩), .pointer (some ⟨w.heap.size + 1, 0, none⟩), .pointer (some ⟨w.heap.size + 1 + 1, 0, none⟩), .pointer (some ⟨w.heap.size + 1 + 1 + 1, 0, none⟩), undef, .pointer (some ⟨g8, 0, none⟩), .pointer (some ⟨g9, 0, none⟩), undef, undef, undef, undef, undef, undef, undef, .agg (ks a), .agg (ds a), .agg (ks b), .agg (ds b), .agg (ks c), .agg (ds c), undef, undef, undef, undef, undef, undef, undef, undef, undef, undef, undef, undef, undef, undef, undef, undef, undef, undef, undef, undef, undef, undef, undef, undef, undef, undef, undef, undef, undef, undef, undef, undef, undef, undef, undef, undef, undef, undef, undef, undef, undef, undef, undef, undef, undef, undef, undef, undef, undef, undef, undef, undef, undef, undef, undef, undef, undef, undef, undef, undef, undef, undef, undef], defers := [] } W := by
        as_aux_lemma =>
          clear st3_68 st3_67
          intro g8 g9 W hHeld K7 Z7 K8 Z8 n7_8
          rw [← hops]
          refine wpAnyH_ready (rs := [6]) (by kernel_rfl) (by simp) (AllReadyH.cons rfl (fun K hK => ?_) AllReadyH.nil)
          have h0 := hHeld
          clear hHeld
          try simp only [List.getElem_toArray, List.getElem_cons_succ, List.getElem_cons_zero]
          obtain ⟨kz, hg⟩ := Fn.fresh h0 33 #[.int .u64 0, .int .u64 0, .int .u64 0, .int .u64 0, .int .u64 0, .int .u64 0, .int .u64 0, .int .u64 0, .int .u64 0, .int .u64 0, .int .u64 0, .int .u64 0, .int .u64 0, .int .u64 0, .int .u64 0, .int .u64 0]
          have KZ := Lib.hid kz
          have HG := Lib.hid hg
          have H0 := Lib.hid h0
          clear kz hg h0
          have KH7 := Lib.hid K7
          have KH8 := Lib.hid K8
          go_simp
          refine hK.out _ _ (Fn.pass H0.out _) (fun hHeld => ?_)
          clear hK K H0
          try simp only [Act.put, List.getElem_toArray, List.getElem_cons_succ, List.getElem_cons_zero, List.setIfInBounds_toArray, List.set_cons_zero, List.set_cons_succ]
          have k7 := KH7.out.alloc (.cells #[.int .u64 0, .int .u64 0, .int .u64 0, .int .u64 0, .int .u64 0, .int .u64 0, .int .u64 0, .int .u64 0, .int .u64 0, .int .u64 0, .int .u64 0, .int .u64 0, .int .u64 0, .int .u64 0, .int .u64 0, .int .u64 0] 33)
          have k8 := KH8.out.alloc (.cells #[.int .u64 0, .int .u64 0, .int .u64 0, .int .u64 0, .int .u64 0, .int .u64 0, .int .u64 0, .int .u64 0, .int .u64 0, .int .u64 0, .int .u64 0, .int .u64 0, .int .u64 0, .int .u64 0, .int .u64 0, .int .u64 0] 33)
          have z7 := Z7
          have z8 := Z8
          have k6 := KZ.out
          have z6 := HG.out
          refine wpAnyH_cast (n' := 3) (l' := #[true, true, true, true, true, true, true, true, true, false, false, false]) (by kernel_rfl) (by kernel_rfl) ?_
          have hh := st3_678 _ g8 g9 _ hHeld k6 z6 k7 z7 k8 z8 (Ne.symm (Nat.ne_of_lt K7.lt)) (Ne.symm (Nat.ne_of_lt K8.lt)) n7_8
          rw [← hops] at hh
          exact hh
      have st2_678 : ∀ (g7 g8 g9 : Nat) (W : World), Fn wx W [(w.heap.size + 1 + 1, 23, ks c), (w.heap.size + 1, 23, ks b), (w.heap.size, 23, ks a)] → Blk W g7 33 #[.int .u64 0, .int .u64 0, .int .u64 0, .int .u64 0, .int .u64 0, .int .u64 0, .int .u64 0, .int .u64 0, .int .u64 0, .int .u64 0, .int .u64 0, .int .u64 0, .int .u64 0, .int .u64 0, .int .u64 0, .int .u64 0] → wx.heap.size ≤ g7 → Blk W g8 33 #[.int .u64 0, .int .u64 0, .int .u64 0, .int .u64 0, .int .u64 0, .int .u64 0, .int .u64 0, .int .u64 0, .int .u64 0, .int .u64 0, .int .u64 0, .int .u64 0, .int .u64 0, .int .u64 0, .int .u64 0, .int .u64 0] → wx.heap.size ≤ g8 → Blk W g9 33 #[.int .u64 0, .int .u64 0, .int .u64 0, .int .u64 0, .int .u64 0, .int .u64 0, .int .u64 0, .int .u64 0, .int .u64 0, .int .u64 0, .int .u64 0, .int .u64 0, .int .u64 0, .int .u64 0, .int .u64 0, .int .u64 0] → wx.heap.size ≤ g9 → g7 ≠ g8 → g7 ≠ g9 → g8 ≠ g9 → wpAnyH Tryd.prog .any ops Q (fun W => Fn wx W [(w.heap.size + 1 + 1, 23, ks c), (w.heap.size + 1, 23, ks b), (w.heap.size, 23, ks a)]) 4 #[true, true, true, true, true, false, true, true, true, false, false, false] { tmps := #[.agg (ks a), .agg (ks b), .agg (ks c), .pointer (some ⟨w.heap.size, 0, none⟩), .pointer (some ⟨w.heap.size + 1, 0, none⟩), .pointer (some ⟨w.heap.size + 1 + 1, 0, none⟩), .pointer (some ⟨w.heap.size + 1 + 1 + 1, 0, none⟩), .pointer (some ⟨g7, 0, none⟩), .pointer (some ⟨g8, 0, none⟩), .pointer (some ⟨g9, 0, none⟩), undef, undef, undef, undef, undef, undef, undef, .agg (ks a), .agg (ds a), .agg (ks b), .agg (ds b), .agg (ks c), undef, undef, undef, undef, undef, undef, undef, undef, undef, undef, undef, undef, undef, undef, undef, undef, undef, undef, undef, undef, undef, undef, undef, undef, undef, undef, undef, undef, undef, undef, undef, undef, undef, undef, undef, undef, undef, undef, undef, undef, undef, undef, undef, undef, undef, undef, undef, undef, undef, undef, undef, undef, undef, undef, undef, undef, undef, undef, undef, undef, undef, undef, undef, undef], defers := [] } W := by
        as_aux_lemma =>
          clear st3_78 st3_68 st3_67
          intro g7 g8 g9 W hHeld K6 Z6 K7 Z7 K8 Z8 n6_7 n6_8 n7_8
          rw [← hops]
          refine wpAnyH_ready (rs := [5]) (by kernel_rfl) (by simp) (AllReadyH.cons rfl (fun K hK => ?_) AllReadyH.nil)
          have KH6 := Lib.hid K6
          have KH7 := Lib.hid K7
          have KH8 := Lib.hid K8
          have h0 := hHeld
          clear hHeld
          try simp only [List.getElem_toArray, List.getElem_cons_succ, List.getElem_cons_zero]
          have H0 := Lib.hid h0
          clear h0
          go_simp
          go_at_call 53
          refine (rof_any c _ HC.out).mono ?_
          rintro e vv ⟨rfl, hb⟩
          have KJ6 := Lib.hid (KH6.out.below hb KH6.out.lt)
          have KJ7 := Lib.hid (KH7.out.below hb KH7.out.lt)
          have KJ8 := Lib.hid (KH8.out.below hb KH8.out.lt)
          have h1 := H0.out.ext hb
          clear hb H0
          go_wp2_with (fail)
          refine hK.out _ _ h1 (fun hHeld => ?_)
          clear hK K h1
          try simp only [Act.put, List.getElem_toArray, List.getElem_cons_succ, List.getElem_cons_zero, List.setIfInBounds_toArray, List.set_cons_zero, List.set_cons_succ]
          have k6 := KJ6.out
          have k7 := KJ7.out
          have k8 := KJ8.out
          have z6 := Z6
          have z7 := Z7
          have z8 := Z8
          refine wpAnyH_cast (n' := 3) (l' := #[true, true, true, true, true, true, true, true, true, false, false, false]) (by kernel_rfl) (by kernel_rfl) ?_
          have hh := st3_678 g7 g8 g9 _ hHeld k6 z6 k7 z7 k8 z8 n6_7 n6_8 n7_8
          rw [← hops] at hh
          exact hh
      have st3_6 : ∀ (g7 : Nat) (W : World), Fn wx W [(w.heap.size + 1 + 1, 23, ks c), (w.heap.size + 1, 23, ks b), (w.heap.size, 23, ks a)] → Blk W g7 33 #[.int .u64 0, .int .u64 0, .int .u64 0, .int .u64 0, .int .u64 0, .int .u64 0, .int .u64 0, .int .u64 0, .int .u64 0, .int .u64 0, .int .u64 0, .int .u64 0, .int .u64 0, .int .u64 0, .int .u64 0, .int .u64 0] → wx.heap.size ≤ g7 → wpAnyH Tryd.prog .any ops Q (fun W => Fn wx W [(w.heap.size + 1 + 1, 23, ks c), (w.heap.size + 1, 23, ks b), (w.heap.size, 23, ks a)]) 5 #[true, true, true, true, true, true, true, false, false, false, false, false] { tmps := #[.agg (ks a), .agg (ks b), .agg (ks c), .pointer (some ⟨w.heap.size, 0, none⟩), .pointer (some ⟨w.heap.size + 1, 0, none⟩), .pointer (some ⟨w.heap.size + 1 + 1, 0, none⟩), .pointer (some ⟨w.heap.size + 1 + 1 + 1, 0, none⟩), .pointer (some ⟨g7, 0, none⟩), undef, undef, undef, undef, undef, undef, undef, undef, undef, .agg (ks a), .agg (ds a), .agg (ks b), .agg (ds b), .agg (ks c), .agg (ds c), undef, undef, undef, undef, undef, undef, undef, undef, undef, undef, undef, undef, undef, undef, undef, undef, undef, undef, undef, undef, undef, undef, undef, undef, undef, undef, undef, undef, undef, undef, undef, undef, undef, undef, undef, undef, undef, undef, undef, undef, undef, undef, undef, undef, undef, undef, undef, undef, undef, undef, undef, undef, undef, undef, undef, undef, undef, undef, undef, undef, undef, undef, undef], defers := [] } W := by
        as_aux_lemma =>
          clear st2_678 st3_78 st3_678
          intro g7 W hHeld K6 Z6
          rw [← hops]
          refine wpAnyH_ready (rs := [7, 8]) (by kernel_rfl) (by simp) (AllReadyH.cons rfl (fun K hK => ?_) (AllReadyH.cons rfl (fun K hK => ?_) AllReadyH.nil))
          · have h0 := hHeld
            clear hHeld
            try simp only [List.getElem_toArray, List.getElem_cons_succ, List.getElem_cons_zero]
            obtain ⟨kz, hg⟩ := Fn.fresh h0 33 #[.int .u64 0, .int .u64 0, .int .u64 0, .int .u64 0, .int .u64 0, .int .u64 0, .int .u64 0, .int .u64 0, .int .u64 0, .int .u64 0, .int .u64 0, .int .u64 0, .int .u64 0, .int .u64 0, .int .u64 0, .int .u64 0]
            have KZ := Lib.hid kz
            have HG := Lib.hid hg
            have H0 := Lib.hid h0
            clear kz hg h0
            have KH6 := Lib.hid K6
            go_simp
            refine hK.out _ _ (Fn.pass H0.out _) (fun hHeld => ?_)
            clear hK K H0
            try simp only [Act.put, List.getElem_toArray, List.getElem_cons_succ, List.getElem_cons_zero, List.setIfInBounds_toArray, List.set_cons_zero, List.set_cons_succ]
            have k6 := KH6.out.alloc (.cells #[.int .u64 0, .int .u64 0, .int .u64 0, .int .u64 0, .int .u64 0, .int .u64 0, .int .u64 0, .int .u64 0, .int .u64 0, .int .u64 0, .int .u64 0, .int .u64 0, .int .u64 0, .int .u64 0, .int .u64 0, .int .u64 0] 33)
            have z6 := Z6
            have k7 := KZ.out
            have z7 := HG.out
            refine wpAnyH_cast (n' := 4) (l' := #[true, true, true, true, true, true, true, true, false, false, false, false]) (by kernel_rfl) (by kernel_rfl) ?_
            have hh := st3_67 g7 _ _ hHeld k6 z6 k7 z7 (Nat.ne_of_lt K6.lt)
            rw [← hops] at hh
            exact hh
          · have h0 := hHeld
            clear hHeld
            try simp only [List.getElem_toArray, List.getElem_cons_succ, List.getElem_cons_zero]
            obtain ⟨kz, hg⟩ := Fn.fresh h0 33 #[.int .u64 0, .int .u64 0, .int .u64 0, .int .u64 0, .int .u64 0, .int .u64 0, .int .u64 0, .int .u64 0, .int .u64 0, .int .u64 0, .int .u64 0, .int .u64 0, .int .u64 0, .int .u64 0, .int .u64 0, .int .u64 0]
            have KZ := Lib.hid kz
            have HG := Lib.hid hg
            have H0 := Lib.hid h0
            clear kz hg h0
            have KH6 := Lib.hid K6
            go_simp
            refine hK.out _ _ (Fn.pass H0.out _) (fun hHeld => ?_)
            clear hK K H0
            try simp only [Act.put, List.getElem_toArray, List.getElem_cons_succ, List.getElem_cons_zero, List.setIfInBounds_toArray, List.set_cons_zero, List.set_cons_succ]
            have k6 := KH6.out.alloc (.cells #[.int .u64 0, .int .u64 0, .int .u64 0, .int .u64 0, .int .u64 0, .int .u64 0, .int .u64 0, .int .u64 0, .int .u64 0, .int .u64 0, .int .u64 0, .int .u64 0, .int .u64 0, .int .u64 0, .int .u64 0, .int .u64 0] 33)
            have z6 := Z6
            have k8 := KZ.out
            have z8 := HG.out
            refine wpAnyH_cast (n' := 4) (l' := #[true, true, true, true, true, true, true, false, true, false, false, false]) (by kernel_rfl) (by kernel_rfl) ?_
            have hh := st3_68 g7 _ _ hHeld k6 z6 k8 z8 (Nat.ne_of_lt K6.lt)
            rw [← hops] at hh
            exact hh
      have st3_7 : ∀ (g8 : Nat) (W : World), Fn wx W [(w.heap.size + 1 + 1, 23, ks c), (w.heap.size + 1, 23, ks b), (w.heap.size, 23, ks a)] → Blk W g8 33 #[.int .u64 0, .int .u64 0, .int .u64 0, .int .u64 0, .int .u64 0, .int .u64 0, .int .u64 0, .int .u64 0, .int .u64 0, .int .u64 0, .int .u64 0, .int .u64 0, .int .u64 0, .int .u64 0, .int .u64 0, .int .u64 0] → wx.heap.size ≤ g8 → wpAnyH Tryd.prog .any ops Q (fun W => Fn wx W [(w.heap.size + 1 + 1, 23, ks c), (w.heap.size + 1, 23, ks b), (w.heap.size, 23, ks a)]) 5 #[true, true, true, true, true, true, false, true, false, false, false, false] { tmps := #[.agg (ks a), .agg (ks b), .agg (ks c), .pointer (some ⟨w.heap.size, 0, none⟩), .pointer (some ⟨w.heap.size + 1, 0, none⟩), .pointer (some ⟨w.heap.size + 1 + 1, 0, none⟩), .pointer (some ⟨w.heap.size + 1 + 1 + 1, 0, none⟩), undef, .pointer (some ⟨g8, 0, none⟩), undef, undef, undef, undef, undef, undef, undef, undef, .agg (ks a), .agg (ds a), .agg (ks b), .agg (ds b), .agg (ks c), .agg (ds c), undef, undef, undef, undef, undef, undef, undef, undef, undef, undef, undef, undef, undef, undef, undef, undef, undef, undef, undef, undef, undef, undef, undef, undef, undef, undef, undef, undef, undef, undef, undef, undef, undef, undef, undef, undef, undef, undef, undef, undef, undef, undef, undef, undef, undef, undef, undef, undef, undef, undef, undef, undef, undef, undef, undef, undef, undef, undef, undef, undef, undef, undef, undef], defers := [] } W := by
        as_aux_lemma =>
          clear st3_6 st2_678 st3_68 st3_678
          intro g8 W hHeld K7 Z7
          rw [← hops]
          refine wpAnyH_ready (rs := [6, 8]) (by kernel_rfl) (by simp) (AllReadyH.cons rfl (fun K hK => ?_) (AllReadyH.cons rfl (fun K hK => ?_) AllReadyH.nil))
          · have h0 := hHeld
            clear hHeld
            try simp only [List.getElem_toArray, List.getElem_cons_succ, List.getElem_cons_zero]
            obtain ⟨kz, hg⟩ := Fn.fresh h0 33 #[.int .u64 0, .int .u64 0, .int .u64 0, .int .u64 0, .int .u64 0, .int .u64 0, .int .u64 0, .int .u64 0, .int .u64 0, .int .u64 0, .int .u64 0, .int .u64 0, .int .u64 0, .int .u64 0, .int .u64 0, .int .u64 0]
            have KZ := Lib.hid kz
            have HG := Lib.hid hg
            have H0 := Lib.hid h0
            clear kz hg h0
            have KH7 := Lib.hid K7
            go_simp
            refine hK.out _ _ (Fn.pass H0.out _) (fun hHeld => ?_)
            clear hK K H0
            try simp only [Act.put, List.getElem_toArray, List.getElem_cons_succ, List.getElem_cons_zero, List.setIfInBounds_toArray, List.set_cons_zero, List.set_cons_succ]
            have k7 := KH7.out.alloc (.cells #[.int .u64 0, .int .u64 0, .int .u64 0, .int .u64 0, .int .u64 0, .int .u64 0, .int .u64 0, .int .u64 0, .int .u64 0, .int .u64 0, .int .u64 0, .int .u64 0, .int .u64 0, .int .u64 0, .int .u64 0, .int .u64 0] 33)
            have z7 := Z7
            have k6 := KZ.out
            have z6 := HG.out
            refine wpAnyH_cast (n' := 4) (l' := #[true, true, true, true, true, true, true, true, false, false, false, false]) (by kernel_rfl) (by kernel_rfl) ?_
            have hh := st3_67 _ g8 _ hHeld k6 z6 k7 z7 (Ne.symm (Nat.ne_of_lt K7.lt))
            rw [← hops] at hh
            exact hh
          · have h0 := hHeld
            clear hHeld
            try simp only [List.getElem_toArray, List.getElem_cons_succ, List.getElem_cons_zero]
            obtain ⟨kz, hg⟩ := Fn.fresh h0 33 #[.int .u64 0, .int .u64 0, .int .u64 0, .int .u64 0, .int .u64 0, .int .u64 0, .int .u64 0, .int .u64 0, .int .u64 0, .int .u64 0, .int .u64 0, .int .u64 0, .int .u64 0, .int .u64 0, .int .u64 0, .int .u64 0]
            have KZ := Lib.hid kz
            have HG := Lib.hid hg
            have H0 := Lib.hid h0
            clear kz hg h0
            have KH7 := Lib.hid K7
            go_simp
            refine hK.out _ _ (Fn.pass H0.out _) (fun hHeld => ?_)
            clear hK K H0
            try simp only [Act.put, List.getElem_toArray, List.getElem_cons_succ, List.getElem_cons_zero, List.setIfInBounds_toArray, List.set_cons_zero, List.set_cons_succ]
            have k7 := KH7.out.alloc (.cells #[.int .u64 0, .int .u64 0, .int .u64 0, .int .u64 0, .int .u64 0, .int .u64 0, .int .u64 0, .int .u64 0, .int .u64 0, .int .u64 0, .int .u64 0, .int .u64 0, .int .u64 0, .int .u64 0, .int .u64 0, .int .u64 0] 33)
            have z7 := Z7
            have k8 := KZ.out
            have z8 := HG.out
            refine wpAnyH_cast (n' := 4) (l' := #[true, true, true, true, true, true, false, true, true, false, false, false]) (by kernel_rfl) (by kernel_rfl) ?_
            have hh := st3_78 g8 _ _ hHeld k7 z7 k8 z8 (Nat.ne_of_lt K7.lt)
            rw [← hops] at hh
            exact hh
      have st3_8 : ∀ (g9 : Nat) (W : World), Fn wx W [(w.heap.size + 1 + 1, 23, ks c), (w.heap.size + 1, 23, ks b), (w.heap.size, 23, ks a)] → Blk W g9 33 #[.int .u64 0, .int .u64 0, .int .u64 0, .int .u64 0, .int .u64 0, .int .u64 0, .int .u64 0, .int .u64 0, .int .u64 0, .int .u64 0, .int .u64 0, .int .u64 0, .int .u64 0, .int .u64 0, .int .u64 0, .int .u64 0] → wx.heap.size ≤ g9 → wpAnyH Tryd.prog .any ops Q (fun W => Fn wx W [(w.heap.size + 1 + 1, 23, ks c), (w.heap.size + 1, 23, ks b), (w.heap.size, 23, ks a)]) 5 #[true, true, true, true, true, true, false, false, true, false, false, false] { tmps := #[.agg (ks a), .agg (ks b), .agg (ks c), .pointer (some ⟨w.heap.size, 0, none⟩), .pointer (some ⟨w.heap.size + 1, 0, none⟩), .pointer (some ⟨w.heap.size + 1 + 1, 0, none⟩), .pointer (some ⟨w.heap.size + 1 + 1 + 1, 0, none⟩), undef, undef, .pointer (some ⟨g9, 0, none⟩), undef, undef, undef, undef, undef, undef, undef, .agg (ks a), .agg (ds a), .agg (ks b), .agg (ds b), .agg (ks c), .agg (ds c), undef, undef, undef, undef, undef, undef, undef, undef, undef, undef, undef, undef, undef, undef, undef, undef, undef, undef, undef, undef, undef, undef, undef, undef, undef, undef, undef, undef, undef, undef, undef, undef, undef, undef, undef, undef, undef, undef, undef, undef, undef, undef, undef, undef, undef, undef, undef, undef, undef, undef, undef, undef, undef, undef, undef, undef, undef, undef, undef, undef, undef, undef, undef], defers := [] } W := by
        as_aux_lemma =>
          clear st3_7 st3_6 st2_678 st3_67 st3_678
          intro g9 W hHeld K8 Z8
          rw [← hops]
          refine wpAnyH_ready (rs := [6, 7]) (by kernel_rfl) (by simp) (AllReadyH.cons rfl (fun K hK => ?_) (AllReadyH.cons rfl (fun K hK => ?_) AllReadyH.nil))
          · have h0 := hHeld
            clear hHeld
            try simp only [List.getElem_toArray, List.getElem_cons_succ, List.getElem_cons_zero]
            obtain ⟨kz, hg⟩ := Fn.fresh h0 33 #[.int .u64 0, .int .u64 0, .int .u64 0, .int .u64 0, .int .u64 0, .int .u64 0, .int .u64 0, .int .u64 0, .int .u64 0, .int .u64 0, .int .u64 0, .int .u64 0, .int .u64 0, .int .u64 0, .int .u64 0, .int .u64 0]
            have KZ := Lib.hid kz
            have HG := Lib.hid hg
            have H0 := Lib.hid h0
            clear kz hg h0
            have KH8 := Lib.hid K8
            go_simp
            refine hK.out _ _ (Fn.pass H0.out _) (fun hHeld => ?_)
            clear hK K H0
            try simp only [Act.put, List.getElem_toArray, List.getElem_cons_succ, List.getElem_cons_zero, List.setIfInBounds_toArray, List.set_cons_zero, List.set_cons_succ]
            have k8 := KH8.out.alloc (.cells #[.int .u64 0, .int .u64 0, .int .u64 0, .int .u64 0, .int .u64 0, .int .u64 0, .int .u64 0, .int .u64 0, .int .u64 0, .int .u64 0, .int .u64 0, .int .u64 0, .int .u64 0, .int .u64 0, .int .u64 0, .int .u64 0] 33)
            have z8 := Z8
            have k6 := KZ.out
            have z6 := HG.out
            refine wpAnyH_cast (n' := 4) (l' := #[true, true, true, true, true, true, true, false, true, false, false, false]) (by kernel_rfl) (by kernel_rfl) ?_
            have hh := st3_68 _ g9 _ hHeld k6 z6 k8 z8 (Ne.symm (Nat.ne_of_lt K8.lt))
            rw [← hops] at hh
            exact hh
          · have h0 := hHeld
            clear hHeld
            try simp only [List.getElem_toArray, List.getElem_cons_succ, List.getElem_cons_zero]
            obtain ⟨kz, hg⟩ := Fn.fresh h0 33 #[.int .u64 0, .int .u64 0, .int .u64 0, .int .u64 0, .int .u64 0, .int .u64 0, .int .u64 0, .int .u64 0, .int .u64 0, .int .u64 0, .int .u64 0, .int .u64 0, .int .u64 0, .int .u64 0, .int .u64 0, .int .u64 0]
            have KZ := Lib.hid kz
            have HG := Lib.hid hg
            have H0 := Lib.hid h0
            clear kz hg h0
            have KH8 := Lib.hid K8
            go_simp
            refine hK.out _ _ (Fn.pass H0.out _) (fun hHeld => ?_)
            clear hK K H0
            try simp only [Act.put, List.getElem_toArray, List.getElem_cons_succ, List.getElem_cons_zero, List.setIfInBounds_toArray, List.set_cons_zero, List.set_cons_succ]
            have k8 := KH8.out.alloc (.cells #[.int .u64 0, .int .u64 0, .int .u64 0, .int .u64 0, .int .u64 0, .int .u64 0, .int .u64 0, .int .u64 0, .int .u64 0, .int .u64 0, .int .u64 0, .int .u64 0, .int .u64 0, .int .u64 0, .int .u64 0, .int .u64 0] 33)
            have z8 := Z8
            have k7 := KZ.out
            have z7 := HG.out
            refine wpAnyH_cast (n' := 4) (l' := #[true, true, true, true, true, true, false, true, true, false, false, false]) (by kernel_rfl) (by kernel_rfl) ?_
            have hh := st3_78 _ g9 _ hHeld k7 z7 k8 z8 (Ne.symm (Nat.ne_of_lt K8.lt))
            rw [← hops] at hh
            exact hh
      have st2_67 : ∀ (g7 g8 : Nat) (W : World), Fn wx W [(w.heap.size + 1 + 1, 23, ks c), (w.heap.size + 1, 23, ks b), (w.heap.size, 23, ks a)] → Blk W g7 33 #[.int .u64 0, .int .u64 0, .int .u64 0, .int .u64 0, .int .u64 0, .int .u64 0, .int .u64 0, .int .u64 0, .int .u64 0, .int .u64 0, .int .u64 0, .int .u64 0, .int .u64 0, .int .u64 0, .int .u64 0, .int .u64 0] → wx.heap.size ≤ g7 → Blk W g8 33 #[.int .u64 0, .int .u64 0, .int .u64 0, .int .u64 0, .int .u64 0, .int .u64 0, .int .u64 0, .int .u64 0, .int .u64 0, .int .u64 0, .int .u64 0, .int .u64 0, .int .u64 0, .int .u64 0, .int .u64 0, .int .u64 0] → wx.heap.size ≤ g8 → g7 ≠ g8 → wpAnyH Tryd.prog .any ops Q (fun W => Fn wx W [(w.heap.size + 1 + 1, 23, ks c), (w.heap.size + 1, 23, ks b), (w.heap.size, 23, ks a)]) 5 #[true, true, true, true, true, false, true, true, false, false, false, false] { tmps := #[.agg (ks a), .agg (ks b), .agg (ks c), .pointer (some ⟨w.heap.size, 0, none⟩), .pointer (some ⟨w.heap.size + 1, 0, none⟩), .pointer (some ⟨w.heap.size + 1 + 1, 0, none⟩), .pointer (some ⟨w.heap.size + 1 + 1 + 1, 0, none⟩), .pointer (some ⟨g7, 0, none⟩), .pointer (some ⟨g8, 0, none⟩), undef, undef, undef, undef, undef, undef, undef, undef, .agg (ks a), .agg (ds a), .agg (ks b), .agg (ds b), .agg (ks c), undef, undef, undef, undef, undef, undef, undef, undef, undef, undef, undef, undef, undef, undef, undef, undef, undef, undef, undef, undef, undef, undef, undef, undef, undef, undef, undef, undef, undef, undef, undef, undef, undef, undef, undef, undef, undef, undef, undef, undef, undef, undef, undef, undef, undef, undef, undef, undef, undef, undef, undef, undef, undef, undef, undef, undef, undef, undef, undef, undef, undef, undef, undef, undef], defers := [] } W := by
        as_aux_lemma =>
          clear st3_8 st3_7 st3_6 st3_78 st3_68 st3_678
          intro g7 g8 W hHeld K6 Z6 K7 Z7 n6_7
          rw [← hops]
          refine wpAnyH_ready (rs := [5, 8]) (by kernel_rfl) (by simp) (AllReadyH.cons rfl (fun K hK => ?_) (AllReadyH.cons rfl (fun K hK => ?_) AllReadyH.nil))
          · have KH6 := Lib.hid K6
            have KH7 := Lib.hid K7
            have h0 := hHeld
            clear hHeld
            try simp only [List.getElem_toArray, List.getElem_cons_succ, List.getElem_cons_zero]
            have H0 := Lib.hid h0
            clear h0
            go_simp
            go_at_call 53
            refine (rof_any c _ HC.out).mono ?_
            rintro e vv ⟨rfl, hb⟩
            have KJ6 := Lib.hid (KH6.out.below hb KH6.out.lt)
            have KJ7 := Lib.hid (KH7.out.below hb KH7.out.lt)
            have h1 := H0.out.ext hb
            clear hb H0
            go_wp2_with (fail)
            refine hK.out _ _ h1 (fun hHeld => ?_)
            clear hK K h1
            try simp only [Act.put, List.getElem_toArray, List.getElem_cons_succ, List.getElem_cons_zero, List.setIfInBounds_toArray, List.set_cons_zero, List.set_cons_succ]
            have k6 := KJ6.out
            have k7 := KJ7.out
            have z6 := Z6
            have z7 := Z7
            refine wpAnyH_cast (n' := 4) (l' := #[true, true, true, true, true, true, true, true, false, false, false, false]) (by kernel_rfl) (by kernel_rfl) ?_
            have hh := st3_67 g7 g8 _ hHeld k6 z6 k7 z7 n6_7
            rw [← hops] at hh
            exact hh
          · have h0 := hHeld
            clear hHeld
            try simp only [List.getElem_toArray, List.getElem_cons_succ, List.getElem_cons_zero]
            obtain ⟨kz, hg⟩ := Fn.fresh h0 33 #[.int .u64 0, .int .u64 0, .int .u64 0, .int .u64 0, .int .u64 0, .int .u64 0, .int .u64 0, .int .u64 0, .int .u64 0, .int .u64 0, .int .u64 0, .int .u64 0, .int .u64 0, .int .u64 0, .int .u64 0, .int .u64 0]
            have KZ := Lib.hid kz
            have HG := Lib.hid hg
            have H0 := Lib.hid h0
            clear kz hg h0
            have KH6 := Lib.hid K6
            have KH7 := Lib.hid K7
            go_simp
            refine hK.out _ _ (Fn.pass H0.out _) (fun hHeld => ?_)
            clear hK K H0
            try simp only [Act.put, List.getElem_toArray, List.getElem_cons_succ, List.getElem_cons_zero, List.setIfInBounds_toArray, List.set_cons_zero, List.set_cons_succ]
            have k6 := KH6.out.alloc (.cells #[.int .u64 0, .int .u64 0, .int .u64 0, .int .u64 0, .int .u64 0, .int .u64 0, .int .u64 0, .int .u64 0, .int .u64 0, .int .u64 0, .int .u64 0, .int .u64 0, .int .u64 0, .int .u64 0, .int .u64 0, .int .u64 0] 33)
            have k7 := KH7.out.alloc (.cells #[.int .u64 0, .int .u64 0, .int .u64 0, .int .u64 0, .int .u64 0, .int .u64 0, .int .u64 0, .int .u64 0, .int .u64 0, .int .u64 0, .int .u64 0, .int .u64 0, .int .u64 0, .int .u64 0, .int .u64 0, .int .u64 0] 33)
            have z6 := Z6
            have z7 := Z7
            have k8 := KZ.out
            have z8 := HG.out
            refine wpAnyH_cast (n' := 4) (l' := #[true, true, true, true, true, false, true, true, true, false, false, false]) (by kernel_rfl) (by kernel_rfl) ?_
            have hh := st2_678 g7 g8 _ _ hHeld k6 z6 k7 z7 k8 z8 n6_7 (Nat.ne_of_lt K6.lt) (Nat.ne_of_lt K7.lt)
            rw [← hops] at hh
            exact hh
      have st2_68 : ∀ (g7 g9 : Nat) (W : World), Fn wx W [(w.heap.size + 1 + 1, 23, ks c), (w.heap.size + 1, 23, ks b), (w.heap.size, 23, ks a)] → Blk W g7 33 #[.int .u64 0, .int .u64 0, .int .u64 0, .int .u64 0, .int .u64 0, .int .u64 0, .int .u64 0, .int .u64 0, .int .u64 0, .int .u64 0, .int .u64 0, .int .u64 0, .int .u64 0, .int .u64 0, .int .u64 0, .int .u64 0] → wx.heap.size ≤ g7 → Blk W g9 33 #[.int .u64 0, .int .u64 0, .int .u64 0, .int .u64 0, .int .u64 0, .int .u64 0, .int .u64 0, .int .u64 0, .int .u64 0, .int .u64 0, .int .u64 0, .int .u64 0, .int .u64 0, .int .u64 0, .int .u64 0, .int .u64 0] → wx.heap.size ≤ g9 → g7 ≠ g9 → wpAnyH Tryd.prog .any ops Q (fun W => Fn wx W [(w.heap.size + 1 + 1, 23, ks c), (w.heap.size + 1, 23, ks b), (w.heap.size, 23, ks a)]) 5 #[true, true, true, true, true, false, true, false, true, false, false, false] { tmps := #[.agg (ks a), .agg (ks b), .agg (ks c), .pointer (some ⟨w.heap.size, 0, none⟩), .pointer (some ⟨w.heap.size + 1, 0, none⟩), .pointer (some ⟨w.heap.size + 1 + 1, 0, none⟩), .pointer (some ⟨w.heap.size + 1 + 1 + 1, 0, none⟩), .pointer (some ⟨g7, 0, none⟩), undef, .pointer (some ⟨g9, 0, none⟩), undef, undef, undef, undef, undef, undef, undef, .agg (ks a), .agg (ds a), .agg (ks b), .agg (ds b), .agg (ks c), undef, undef, undef, undef, undef, undef, undef, undef, undef, undef, undef, undef, undef, undef, undef, undef, undef, undef, undef, undef, undef, undef, undef, undef, undef, undef, undef, undef, undef, undef, undef, undef, undef, undef, undef, undef, undef, undef, undef, undef, undef, undef, undef, undef, undef, undef, undef, undef, undef, undef, undef, undef, undef, undef, undef, undef, undef, undef, undef, undef, undef, undef, undef, undef], defers := [] } W := by
        as_aux_lemma =>
          clear st2_67 st3_8 st3_7 st3_6 st3_78 st3_67 st3_678
          intro g7 g9 W hHeld K6 Z6 K8 Z8 n6_8
          rw [← hops]
          refine wpAnyH_ready (rs := [5, 7]) (by kernel_rfl) (by simp) (AllReadyH.cons rfl (fun K hK => ?_) (AllReadyH.cons rfl (fun K hK => ?_) AllReadyH.nil))
          · have KH6 := Lib.hid K6
            have KH8 := Lib.hid K8
            have h0 := hHeld
            clear hHeld
            try simp only [List.getElem_toArray, List.getElem_cons_succ, List.getElem_cons_zero]
            have H0 := Lib.hid h0
            clear h0
            go_simp
            go_at_call 53
            refine (rof_any c _ HC.out).mono ?_
            rintro e vv ⟨rfl, hb⟩
            have KJ6 := Lib.hid (KH6.out.below hb KH6.out.lt)
            have KJ8 := Lib.hid (KH8.out.below hb KH8.out.lt)
            have h1 := H0.out.ext hb
            clear hb H0
            go_wp2_with (fail)
            refine hK.out _ _ h1 (fun hHeld => ?_)
            clear hK K h1
            try simp only [Act.put, List.getElem_toArray, List.getElem_cons_succ, List.getElem_cons_zero, List.setIfInBounds_toArray, List.set_cons_zero, List.set_cons_succ]
            have k6 := KJ6.out
            have k8 := KJ8.out
            have z6 := Z6
            have z8 := Z8
            refine wpAnyH_cast (n' := 4) (l' := #[true, true, true, true, true, true, true, false, true, false, false, false]) (by kernel_rfl) (by kernel_rfl) ?_
            have hh := st3_68 g7 g9 _ hHeld k6 z6 k8 z8 n6_8
            rw [← hops] at hh
            exact hh
          · have h0 := hHeld
            clear hHeld
            try simp only [List.getElem_toArray, List.getElem_cons_succ, List.getElem_cons_zero]
            obtain ⟨kz, hg⟩ := Fn.fresh h0 33 #[.int .u64 0, .int .u64 0, .int .u64 0, .int .u64 0, .int .u64 0, .int .u64 0, .int .u64 0, .int .u64 0, .int .u64 0, .int .u64 0, .int .u64 0, .int .u64 0, .int .u64 0, .int .u64 0, .int .u64 0, .int .u64 0]
            have KZ := Lib.hid kz
            have HG := Lib.hid hg
            have H0 := Lib.hid h0
            clear kz hg h0
            have KH6 := Lib.hid K6
            have KH8 := Lib.hid K8
            go_simp
            refine hK.out _ _ (Fn.pass H0.out _) (fun hHeld => ?_)
            clear hK K H0
            try simp only [Act.put, List.getElem_toArray, List.getElem_cons_succ, List.getElem_cons_zero, List.setIfInBounds_toArray, List.set_cons_zero, List.set_cons_succ]
            have k6 := KH6.out.alloc (.cells #[.int .u64 0, .int .u64 0, .int .u64 0, .int .u64 0, .int .u64 0, .int .u64 0, .int .u64 0, .int .u64 0, .int .u64 0, .int .u64 0, .int .u64 0, .int .u64 0, .int .u64 0, .int .u64 0, .int .u64 0, .int .u64 0] 33)
            have k8 := KH8.out.alloc (.cells #[.int .u64 0, .int .u64 0, .int .u64 0, .int .u64 0, .int .u64 0, .int .u64 0, .int .u64 0, .int .u64 0, .int .u64 0, .int .u64 0, .int .u64 0, .int .u64 0, .int .u64 0, .int .u64 0, .int .u64 0, .int .u64 0] 33)
            have z6 := Z6
            have z8 := Z8
            have k7 := KZ.out
            have z7 := HG.out
            refine wpAnyH_cast (n' := 4) (l' := #[true, true, true, true, true, false, true, true, true, false, false, false]) (by kernel_rfl) (by kernel_rfl) ?_
            have hh := st2_678 g7 _ g9 _ hHeld k6 z6 k7 z7 k8 z8 (Nat.ne_of_lt K6.lt) n6_8 (Ne.symm (Nat.ne_of_lt K8.lt))
            rw [← hops] at hh
            exact hh
      have st2_78 : ∀ (g8 g9 : Nat) (W : World), Fn wx W [(w.heap.size + 1 + 1, 23, ks c), (w.heap.size + 1, 23, ks b), (w.heap.size, 23, ks a)] → Blk W g8 33 #[.int .u64 0, .int .u64 0, .int .u64 0, .int .u64 0, .int .u64 0, .int .u64 0, .int .u64 0, .int .u64 0, .int .u64 0, .int .u64 0, .int .u64 0, .int .u64 0, .int .u64 0, .int .u64 0, .int .u64 0, .int .u64 0] → wx.heap.size ≤ g8 → Blk W g9 33 #[.int .u64 0, .int .u64 0, .int .u64 0, .int .u64 0, .int .u64 0, .int .u64 0, .int .u64 0, .int .u64 0, .int .u64 0, .int .u64 0, .int .u64 0, .int .u64 0, .int .u64 0, .int .u64 0, .int .u64 0, .int .u64 0] → wx.heap.size ≤ g9 → g8 ≠ g9 → wpAnyH Tryd.prog .any ops Q (fun W => Fn wx W [(w.heap.size + 1 + 1, 23, ks c), (w.heap.size + 1, 23, ks b), (w.heap.size, 23, ks a)]) 5 #[true, true, true, true, true, false, false, true, true, false, false, false] { tmps := #[.agg (ks a), .agg (ks b), .agg (ks c), .pointer (some ⟨w.heap.size, 0, none⟩), .pointer (some ⟨w.heap.size + 1, 0, none⟩), .pointer (some ⟨w.heap.size + 1 + 1, 0, none⟩), .pointer (some ⟨w.heap.size + 1 + 1 + 1, 0, none⟩), undef, .pointer (some ⟨g8, 0, none⟩), .pointer (some ⟨g9, 0, none⟩), undef, undef, undef, undef, undef, undef, undef, .agg (ks a), .agg (ds a), .agg (ks b), .agg (ds b), .agg (ks c), undef, undef, undef, undef, undef, undef, undef, undef, undef, undef, undef, undef, undef, undef, undef, undef, undef, undef, undef, undef, undef, undef, undef, undef, undef, undef, undef, undef, undef, undef, undef, undef, undef, undef, undef, undef, undef, undef, undef, undef, undef, undef, undef, undef, undef, undef, undef, undef, undef, undef, undef, undef, undef, undef, undef, undef, undef, undef, undef, undef, undef, undef, undef, undef], defers := [] } W := by
        as_aux_lemma =>
          clear st2_68 st2_67 st3_8 st3_7 st3_6 st3_68 st3_67 st3_678
          intro g8 g9 W hHeld K7 Z7 K8 Z8 n7_8
          rw [← hops]
          refine wpAnyH_ready (rs := [5, 6]) (by kernel_rfl) (by simp) (AllReadyH.cons rfl (fun K hK => ?_) (AllReadyH.cons rfl (fun K hK => ?_) AllReadyH.nil))
          · have KH7 := Lib.hid K7
            have KH8 := Lib.hid K8
            have h0 := hHeld
            clear hHeld
            try simp only [List.getElem_toArray, List.getElem_cons_succ, List.getElem_cons_zero]
            have H0 := Lib.hid h0
            clear h0
            go_simp
            go_at_call 53
            refine (rof_any c _ HC.out).mono ?_
            rintro e vv ⟨rfl, hb⟩
            have KJ7 := Lib.hid (KH7.out.below hb KH7.out.lt)
            have KJ8 := Lib.hid (KH8.out.below hb KH8.out.lt)
            have h1 := H0.out.ext hb
            clear hb H0
            go_wp2_with (fail)
            refine hK.out _ _ h1 (fun hHeld => ?_)
            clear hK K h1
            try simp only [Act.put, List.getElem_toArray, List.getElem_cons_succ, List.getElem_cons_zero, List.setIfInBounds_toArray, List.set_cons_zero, List.set_cons_succ]
            have k7 := KJ7.out
            have k8 := KJ8.out
            have z7 := Z7
            have z8 := Z8
            refine wpAnyH_cast (n' := 4) (l' := #[true, true, true, true, true, true, false, true, true, false, false, false]) (by kernel_rfl) (by kernel_rfl) ?_
            have hh := st3_78 g8 g9 _ hHeld k7 z7 k8 z8 n7_8
            rw [← hops] at hh
            exact hh
          · have h0 := hHeld
            clear hHeld
            try simp only [List.getElem_toArray, List.getElem_cons_succ, List.getElem_cons_zero]
            obtain ⟨kz, hg⟩ := Fn.fresh h0 33 #[.int .u64 0, .int .u64 0, .int .u64 0, .int .u64 0, .int .u64 0, .int .u64 0, .int .u64 0, .int .u64 0, .int .u64 0, .int .u64 0, .int .u64 0, .int .u64 0, .int .u64 0, .int .u64 0, .int .u64 0, .int .u64 0]
            have KZ := Lib.hid kz
            have HG := Lib.hid hg
            have H0 := Lib.hid h0
            clear kz hg h0
            have KH7 := Lib.hid K7
            have KH8 := Lib.hid K8
            go_simp
            refine hK.out _ _ (Fn.pass H0.out _) (fun hHeld => ?_)
            clear hK K H0
            try simp only [Act.put, List.getElem_toArray, List.getElem_cons_succ, List.getElem_cons_zero, List.setIfInBounds_toArray, List.set_cons_zero, List.set_cons_succ]
            have k7 := KH7.out.alloc (.cells #[.int .u64 0, .int .u64 0, .int .u64 0, .int .u64 0, .int .u64 0, .int .u64 0, .int .u64 0, .int .u64 0, .int .u64 0, .int .u64 0, .int .u64 0, .int .u64 0, .int .u64 0, .int .u64 0, .int .u64 0, .int .u64 0] 33)
            have k8 := KH8.out.alloc (.cells #[.int .u64 0, .int .u64 0, .int .u64 0, .int .u64 0, .int .u64 0, .int .u64 0, .int .u64 0, .int .u64 0, .int .u64 0, .int .u64 0, .int .u64 0, .int .u64 0, .int .u64 0, .int .u64 0, .int .u64 0, .int .u64 0] 33)
            have z7 := Z7
            have z8 := Z8
            have k6 := KZ.out
            have z6 := HG.out
            refine wpAnyH_cast (n' := 4) (l' := #[true, true, true, true, true, false, true, true, true, false, false, false]) (by kernel_rfl) (by kernel_rfl) ?_
            have hh := st2_678 _ g8 g9 _ hHeld k6 z6 k7 z7 k8 z8 (Ne.symm (Nat.ne_of_lt K7.lt)) (Ne.symm (Nat.ne_of_lt K8.lt)) n7_8
            rw [← hops] at hh
            exact hh
      have st1_678 : ∀ (g7 g8 g9 : Nat) (W : World), Fn wx W [(w.heap.size + 1 + 1, 23, ks c), (w.heap.size + 1, 23, ks b), (w.heap.size, 23, ks a)] → Blk W g7 33 #[.int .u64 0, .int .u64 0, .int .u64 0, .int .u64 0, .int .u64 0, .int .u64 0, .int .u64 0, .int .u64 0, .int .u64 0, .int .u64 0, .int .u64 0, .int .u64 0, .int .u64 0, .int .u64 0, .int .u64 0, .int .u64 0] → wx.heap.size ≤ g7 → Blk W g8 33 #[.int .u64 0, .int .u64 0, .int .u64 0, .int .u64 0, .int .u64 0, .int .u64 0, .int .u64 0, .int .u64 0, .int .u64 0, .int .u64 0, .int .u64 0, .int .u64 0, .int .u64 0, .int .u64 0, .int .u64 0, .int .u64 0] → wx.heap.size ≤ g8 → Blk W g9 33 #[.int .u64 0, .int .u64 0, .int .u64 0, .int .u64 0, .int .u64 0, .int .u64 0, .int .u64 0, .int .u64 0, .int .u64 0, .int .u64 0, .int .u64 0, .int .u64 0, .int .u64 0, .int .u64 0, .int .u64 0, .int .u64 0] → wx.heap.size ≤ g9 → g7 ≠ g8 → g7 ≠ g9 → g8 ≠ g9 → wpAnyH Tryd.prog .any ops Q (fun W => Fn wx W [(w.heap.size + 1 + 1, 23, ks c), (w.heap.size + 1, 23, ks b), (w.heap.size, 23, ks a)]) 5 #[true, true, true, false, true, false, true, true, true, false, false, false] { tmps := #[.agg (ks a), .agg (ks b), .agg (ks c), .pointer (some ⟨w.heap.size, 0, none⟩), .pointer (some ⟨w.heap.size + 1, 0, none⟩), .pointer (some ⟨w.heap.size + 1 + 1, 0, none⟩), .pointer (some ⟨w.heap.size + 1 + 1 + 1, 0, none⟩), .pointer (some ⟨g7, 0, none⟩), .pointer (some ⟨g8, 0, none⟩), .pointer (some ⟨g9, 0, none⟩), undef, undef, undef, undef, undef, undef, undef, .agg (ks a), .agg (ds a), .agg (ks b), undef, .agg (ks c), undef, undef, undef, undef, undef, undef, undef, undef, undef, undef, undef, undef, undef, undef, undef, undef, undef, undef, undef, undef, undef, undef, undef, undef, undef, undef, undef, undef, undef, undef, undef, undef, undef, undef, undef, undef, undef, undef, undef, undef, undef, undef, undef, undef, undef, undef, undef, undef, undef, undef, undef, undef, undef, undef, undef, undef, undef, undef, undef, undef, undef, undef, undef, undef], defers := [] } W := by
        as_aux_lemma =>
          clear st2_78 st2_68 st2_67 st3_8 st3_7 st3_6 st3_78 st3_68 st3_67 st3_678
          intro g7 g8 g9 W hHeld K6 Z6 K7 Z7 K8 Z8 n6_7 n6_8 n7_8
          rw [← hops]
          refine wpAnyH_ready (rs := [3]) (by kernel_rfl) (by simp) (AllReadyH.cons rfl (fun K hK => ?_) AllReadyH.nil)
          have KH6 := Lib.hid K6
          have KH7 := Lib.hid K7
          have KH8 := Lib.hid K8
          have h0 := hHeld
          clear hHeld
          try simp only [List.getElem_toArray, List.getElem_cons_succ, List.getElem_cons_zero]
          have H0 := Lib.hid h0
          clear h0
          go_simp
          go_at_call 53
          refine (rof_any b _ HBB.out).mono ?_
          rintro e vv ⟨rfl, hb⟩
          have KJ6 := Lib.hid (KH6.out.below hb KH6.out.lt)
          have KJ7 := Lib.hid (KH7.out.below hb KH7.out.lt)
          have KJ8 := Lib.hid (KH8.out.below hb KH8.out.lt)
          have h1 := H0.out.ext hb
          clear hb H0
          go_wp2_with (fail)
          refine hK.out _ _ h1 (fun hHeld => ?_)
          clear hK K h1
          try simp only [Act.put, List.getElem_toArray, List.getElem_cons_succ, List.getElem_cons_zero, List.setIfInBounds_toArray, List.set_cons_zero, List.set_cons_succ]
          have k6 := KJ6.out
          have k7 := KJ7.out
          have k8 := KJ8.out
          have z6 := Z6
          have z7 := Z7
          have z8 := Z8
          refine wpAnyH_cast (n' := 4) (l' := #[true, true, true, true, true, false, true, true, true, false, false, false]) (by kernel_rfl) (by kernel_rfl) ?_
          have hh := st2_678 g7 g8 g9 _ hHeld k6 z6 k7 z7 k8 z8 n6_7 n6_8 n7_8
          rw [← hops] at hh
          exact hh
      have st3_ : ∀ (W : World), Fn wx W [(w.heap.size + 1 + 1, 23, ks c), (w.heap.size + 1, 23, ks b), (w.heap.size, 23, ks a)] → wpAnyH Tryd.prog .any ops Q (fun W => Fn wx W [(w.heap.size + 1 + 1, 23, ks c), (w.heap.size + 1, 23, ks b), (w.heap.size, 23, ks a)]) 6 #[true, true, true, true, true, true, false, false, false, false, false, false] { tmps := #[.agg (ks a), .agg (ks b), .agg (ks c), .pointer (some ⟨w.heap.size, 0, none⟩), .pointer (some ⟨w.heap.size + 1, 0, none⟩), .pointer (some ⟨w.heap.size + 1 + 1, 0, none⟩), .pointer (some ⟨w.heap.size + 1 + 1 + 1, 0, none⟩), undef, undef, undef, undef, undef, undef, undef, undef, undef, undef, .agg (ks a), .agg (ds a), .agg (ks b), .agg (ds b), .agg (ks c), .agg (ds c), undef, undef, undef, undef, undef, undef, undef, undef, undef, undef, undef, undef, undef, undef, undef, undef, undef, undef, undef, undef, undef, undef, undef, undef, undef, undef, undef, undef, undef, undef, undef, undef, undef, undef, undef, undef, undef, undef, undef, undef, undef, undef, undef, undef, undef, undef, undef, undef, undef, undef, undef, undef, undef, undef, undef, undef, undef, undef, undef, undef, undef, undef, undef], defers := [] } W := by
        as_aux_lemma =>
          clear st1_678 st2_78 st2_68 st2_67 st2_678 st3_78 st3_68 st3_67 st3_678
          intro W hHeld
          rw [← hops]
          refine wpAnyH_ready (rs := [6, 7, 8]) (by kernel_rfl) (by simp) (AllReadyH.cons rfl (fun K hK => ?_) (AllReadyH.cons rfl (fun K hK => ?_) (AllReadyH.cons rfl (fun K hK => ?_) AllReadyH.nil)))
          · have h0 := hHeld
            clear hHeld
            try simp only [List.getElem_toArray, List.getElem_cons_succ, List.getElem_cons_zero]
            obtain ⟨kz, hg⟩ := Fn.fresh h0 33 #[.int .u64 0, .int .u64 0, .int .u64 0, .int .u64 0, .int .u64 0, .int .u64 0, .int .u64 0, .int .u64 0, .int .u64 0, .int .u64 0, .int .u64 0, .int .u64 0, .int .u64 0, .int .u64 0, .int .u64 0, .int .u64 0]
            have KZ := Lib.hid kz
            have HG := Lib.hid hg
            have H0 := Lib.hid h0
            clear kz hg h0
            go_simp
            refine hK.out _ _ (Fn.pass H0.out _) (fun hHeld => ?_)
            clear hK K H0
            try simp only [Act.put, List.getElem_toArray, List.getElem_cons_succ, List.getElem_cons_zero, List.setIfInBounds_toArray, List.set_cons_zero, List.set_cons_succ]
            have k6 := KZ.out
            have z6 := HG.out
            refine wpAnyH_cast (n' := 5) (l' := #[true, true, true, true, true, true, true, false, false, false, false, false]) (by kernel_rfl) (by kernel_rfl) ?_
            have hh := st3_6 _ _ hHeld k6 z6
            rw [← hops] at hh
            exact hh
          · have h0 := hHeld
            clear hHeld
            try simp only [List.getElem_toArray, List.getElem_cons_succ, List.getElem_cons_zero]
            obtain ⟨kz, hg⟩ := Fn.fresh h0 33 #[.int .u64 0, .int .u64 0, .int .u64 0, .int .u64 0, .int .u64 0, .int .u64 0, .int .u64 0, .int .u64 0, .int .u64 0, .int .u64 0, .int .u64 0, .int .u64 0, .int .u64 0, .int .u64 0, .int .u64 0, .int .u64 0]
            have KZ := Lib.hid kz
            have HG := Lib.hid hg
            have H0 := Lib.hid h0
            clear kz hg h0
            go_simp
            refine hK.out _ _ (Fn.pass H0.out _) (fun hHeld => ?_)
            clear hK K H0
            try simp only [Act.put, List.getElem_toArray, List.getElem_cons_succ, List.getElem_cons_zero, List.setIfInBounds_toArray, List.set_cons_zero, List.set_cons_succ]
            have k7 := KZ.out
            have z7 := HG.out
            refine wpAnyH_cast (n' := 5) (l' := #[true, true, true, true, true, true, false, true, false, false, false, false]) (by kernel_rfl) (by kernel_rfl) ?_
            have hh := st3_7 _ _ hHeld k7 z7
            rw [← hops] at hh
            exact hh
          · have h0 := hHeld
            clear hHeld
            try simp only [List.getElem_toArray, List.getElem_cons_succ, List.getElem_cons_zero]
            obtain ⟨kz, hg⟩ := Fn.fresh h0 33 #[.int .u64 0, .int .u64 0, .int .u64 0, .int .u64 0, .int .u64 0, .int .u64 0, .int .u64 0, .int .u64 0, .int .u64 0, .int .u64 0, .int .u64 0, .int .u64 0, .int .u64 0, .int .u64 0, .int .u64 0, .int .u64 0]
            have KZ := Lib.hid kz
            have HG := Lib.hid hg
            have H0 := Lib.hid h0
            clear kz hg h0
            go_simp
            refine hK.out _ _ (Fn.pass H0.out _) (fun hHeld => ?_)
            clear hK K H0
            try simp only [Act.put, List.getElem_toArray, List.getElem_cons_succ, List.getElem_cons_zero, List.setIfInBounds_toArray, List.set_cons_zero, List.set_cons_succ]
            have k8 := KZ.out
            have z8 := HG.out
            refine wpAnyH_cast (n' := 5) (l' := #[true, true, true, true, true, true, false, false, true, false, false, false]) (by kernel_rfl) (by kernel_rfl) ?_
            have hh := st3_8 _ _ hHeld k8 z8
            rw [← hops] at hh
            exact hh
      have st2_6 : ∀ (g7 : Nat) (W : World), Fn wx W [(w.heap.size + 1 + 1, 23, ks c), (w.heap.size + 1, 23, ks b), (w.heap.size, 23, ks a)] → Blk W g7 33 #[.int .u64 0, .int .u64 0, .int .u64 0, .int .u64 0, .int .u64 0, .int .u64 0, .int .u64 0, .int .u64 0, .int .u64 0, .int .u64 0, .int .u64 0, .int .u64 0, .int .u64 0, .int .u64 0, .int .u64 0, .int .u64 0] → wx.heap.size ≤ g7 → wpAnyH Tryd.prog .any ops Q (fun W => Fn wx W [(w.heap.size + 1 + 1, 23, ks c), (w.heap.size + 1, 23, ks b), (w.heap.size, 23, ks a)]) 6 #[true, true, true, true, true, false, true, false, false, false, false, false] { tmps := #[.agg (ks a), .agg (ks b), .agg (ks c), .pointer (some ⟨w.heap.size, 0, none⟩), .pointer (some ⟨w.heap.size + 1, 0, none⟩), .pointer (some ⟨w.heap.size + 1 + 1, 0, none⟩), .pointer (some ⟨w.heap.size + 1 + 1 + 1, 0, none⟩), .pointer (some ⟨g7, 0, none⟩), undef, undef, undef, undef, undef, undef, undef, undef, undef, .agg (ks a), .agg (ds a), .agg (ks b), .agg (ds b), .agg (ks c), undef, undef, undef, undef, undef, undef, undef, undef, undef, undef, undef, undef, undef, undef, undef, undef, undef, undef, undef, undef, undef, undef, undef, undef, undef, undef, undef, undef, undef, undef, undef, undef, undef, undef, undef, undef, undef, undef, undef, undef, undef, undef, undef, undef, undef, undef, undef, undef, undef, undef, undef, undef, undef, undef, undef, undef, undef, undef, undef, undef, undef, undef, undef, undef], defers := [] } W := by
        as_aux_lemma =>
          clear st3_ st1_678 st2_78 st3_8 st3_7 st2_678 st3_78 st3_68 st3_67 st3_678
          intro g7 W hHeld K6 Z6
          rw [← hops]
          refine wpAnyH_ready (rs := [5, 7, 8]) (by kernel_rfl) (by simp) (AllReadyH.cons rfl (fun K hK => ?_) (AllReadyH.cons rfl (fun K hK => ?_) (AllReadyH.cons rfl (fun K hK => ?_) AllReadyH.nil)))
          · have KH6 := Lib.hid K6
            have h0 := hHeld
            clear hHeld
            try simp only [List.getElem_toArray, List.getElem_cons_succ, List.getElem_cons_zero]
            have H0 := Lib.hid h0
            clear h0
            go_simp
            go_at_call 53
            refine (rof_any c _ HC.out).mono ?_
            rintro e vv ⟨rfl, hb⟩
            have KJ6 := Lib.hid (KH6.out.below hb KH6.out.lt)
            have h1 := H0.out.ext hb
            clear hb H0
            go_wp2_with (fail)
            refine hK.out _ _ h1 (fun hHeld => ?_)
            clear hK K h1
            try simp only [Act.put, List.getElem_toArray, List.getElem_cons_succ, List.getElem_cons_zero, List.setIfInBounds_toArray, List.set_cons_zero, List.set_cons_succ]
            have k6 := KJ6.out
            have z6 := Z6
            refine wpAnyH_cast (n' := 5) (l' := #[true, true, true, true, true, true, true, false, false, false, false, false]) (by kernel_rfl) (by kernel_rfl) ?_
            have hh := st3_6 g7 _ hHeld k6 z6
            rw [← hops] at hh
            exact hh
          · have h0 := hHeld
            clear hHeld
            try simp only [List.getElem_toArray, List.getElem_cons_succ, List.getElem_cons_zero]
            obtain ⟨kz, hg⟩ := Fn.fresh h0 33 #[.int .u64 0, .int .u64 0, .int .u64 0, .int .u64 0, .int .u64 0, .int .u64 0, .int .u64 0, .int .u64 0, .int .u64 0, .int .u64 0, .int .u64 0, .int .u64 0, .int .u64 0, .int .u64 0, .int .u64 0, .int .u64 0]
            have KZ := Lib.hid kz
            have HG := Lib.hid hg
            have H0 := Lib.hid h0
            clear kz hg h0
            have KH6 := Lib.hid K6
            go_simp
            refine hK.out _ _ (Fn.pass H0.out _) (fun hHeld => ?_)
            clear hK K H0
            try simp only [Act.put, List.getElem_toArray, List.getElem_cons_succ, List.getElem_cons_zero, List.setIfInBounds_toArray, List.set_cons_zero, List.set_cons_succ]
            have k6 := KH6.out.alloc (.cells #[.int .u64 0, .int .u64 0, .int .u64 0, .int .u64 0, .int .u64 0, .int .u64 0, .int .u64 0, .int .u64 0, .int .u64 0, .int .u64 0, .int .u64 0, .int .u64 0, .int .u64 0, .int .u64 0, .int .u64 0, .int .u64 0] 33)
            have z6 := Z6
            have k7 := KZ.out
            have z7 := HG.out
            refine wpAnyH_cast (n' := 5) (l' := #[true, true, true, true, true, false, true, true, false, false, false, false]) (by kernel_rfl) (by kernel_rfl) ?_
            have hh := st2_67 g7 _ _ hHeld k6 z6 k7 z7 (Nat.ne_of_lt K6.lt)
            rw [← hops] at hh
            exact hh
          · have h0 := hHeld
            clear hHeld
            try simp only [List.getElem_toArray, List.getElem_cons_succ, List.getElem_cons_zero]
            obtain ⟨kz, hg⟩ := Fn.fresh h0 33 #[.int .u64 0, .int .u64 0, .int .u64 0, .int .u64 0, .int .u64 0, .int .u64 0, .int .u64 0, .int .u64 0, .int .u64 0, .int .u64 0, .int .u64 0, .int .u64 0, .int .u64 0, .int .u64 0, .int .u64 0, .int .u64 0]
            have KZ := Lib.hid kz
            have HG := Lib.hid hg
            have H0 := Lib.hid h0
            clear kz hg h0
            have KH6 := Lib.hid K6
            go_simp
            refine hK.out _ _ (Fn.pass H0.out _) (fun hHeld => ?_)
            clear hK K H0
            try simp only [Act.put, List.getElem_toArray, List.getElem_cons_succ, List.getElem_cons_zero, List.setIfInBounds_toArray, List.set_cons_zero, List.set_cons_succ]
            have k6 := KH6.out.alloc (.cells #[.int .u64 0, .int .u64 0, .int .u64 0, .int .u64 0, .int .u64 0, .int .u64 0, .int .u64 0, .int .u64 0, .int .u64 0, .int .u64 0, .int .u64 0, .int .u64 0, .int .u64 0, .int .u64 0, .int .u64 0, .int .u64 0] 33)
            have z6 := Z6
            have k8 := KZ.out
            have z8 := HG.out
            refine wpAnyH_cast (n' := 5) (l' := #[true, true, true, true, true, false, true, false, true, false, false, false]) (by kernel_rfl) (by kernel_rfl) ?_
            have hh := st2_68 g7 _ _ hHeld k6 z6 k8 z8 (Nat.ne_of_lt K6.lt)
            rw [← hops] at hh
            exact hh
      have st2_7 : ∀ (g8 : Nat) (W : World), Fn wx W [(w.heap.size + 1 + 1, 23, ks c), (w.heap.size + 1, 23, ks b), (w.heap.size, 23, ks a)] → Blk W g8 33 #[.int .u64 0, .int .u64 0, .int .u64 0, .int .u64 0, .int .u64 0, .int .u64 0, .int .u64 0, .int .u64 0, .int .u64 0, .int .u64 0, .int .u64 0, .int .u64 0, .int .u64 0, .int .u64 0, .int .u64 0, .int .u64 0] → wx.heap.size ≤ g8 → wpAnyH Tryd.prog .any ops Q (fun W => Fn wx W [(w.heap.size + 1 + 1, 23, ks c), (w.heap.size + 1, 23, ks b), (w.heap.size, 23, ks a)]) 6 #[true, true, true, true, true, false, false, true, false, false, false, false] { tmps := #[.agg (ks a), .agg (ks b), .agg (ks c), .pointer (some ⟨w.heap.size, 0, none⟩), .pointer (some ⟨w.heap.size + 1, 0, none⟩), .pointer (some ⟨w.heap.size + 1 + 1, 0, none⟩), .pointer (some ⟨w.heap.size + 1 + 1 + 1, 0, none⟩), undef, .pointer (some ⟨g8, 0, none⟩), undef, undef, undef, undef, undef, undef, undef, undef, .agg (ks a), .agg (ds a), .agg (ks b), .agg (ds b), .agg (ks c), undef, undef, undef, undef, undef, undef, undef, undef, undef, undef, undef, undef, undef, undef, undef, undef, undef, undef, undef, undef, undef, undef, undef, undef, undef, undef, undef, undef, undef, undef, undef, undef, undef, undef, undef, undef, undef, undef, undef, undef, undef, undef, undef, undef, undef, undef, undef, undef, undef, undef, undef, undef, undef, undef, undef, undef, undef, undef, undef, undef, undef, undef, undef, undef], defers := [] } W := by
        as_aux_lemma =>
          clear st2_6 st3_ st1_678 st2_68 st3_8 st3_6 st2_678 st3_78 st3_68 st3_67 st3_678
          intro g8 W hHeld K7 Z7
          rw [← hops]
          refine wpAnyH_ready (rs := [5, 6, 8]) (by kernel_rfl) (by simp) (AllReadyH.cons rfl (fun K hK => ?_) (AllReadyH.cons rfl (fun K hK => ?_) (AllReadyH.cons rfl (fun K hK => ?_) AllReadyH.nil)))
          · have KH7 := Lib.hid K7
            have h0 := hHeld
            clear hHeld
            try simp only [List.getElem_toArray, List.getElem_cons_succ, List.getElem_cons_zero]
            have H0 := Lib.hid h0
            clear h0
            go_simp
            go_at_call 53
            refine (rof_any c _ HC.out).mono ?_
            rintro e vv ⟨rfl, hb⟩
            have KJ7 := Lib.hid (KH7.out.below hb KH7.out.lt)
            have h1 := H0.out.ext hb
            clear hb H0
            go_wp2_with (fail)
            refine hK.out _ _ h1 (fun hHeld => ?_)
            clear hK K h1
            try simp only [Act.put, List.getElem_toArray, List.getElem_cons_succ, List.getElem_cons_zero, List.setIfInBounds_toArray, List.set_cons_zero, List.set_cons_succ]
            have k7 := KJ7.out
            have z7 := Z7
            refine wpAnyH_cast (n' := 5) (l' := #[true, true, true, true, true, true, false, true, false, false, false, false]) (by kernel_rfl) (by kernel_rfl) ?_
            have hh := st3_7 g8 _ hHeld k7 z7
            rw [← hops] at hh
            exact hh
          · have h0 := hHeld
            clear hHeld
            try simp only [List.getElem_toArray, List.getElem_cons_succ, List.getElem_cons_zero]
            obtain ⟨kz, hg⟩ := Fn.fresh h0 33 #[.int .u64 0, .int .u64 0, .int .u64 0, .int .u64 0, .int .u64 0, .int .u64 0, .int .u64 0, .int .u64 0, .int .u64 0, .int .u64 0, .int .u64 0, .int .u64 0, .int .u64 0, .int .u64 0, .int .u64 0, .int .u64 0]
            have KZ := Lib.hid kz
            have HG := Lib.hid hg
            have H0 := Lib.hid h0
            clear kz hg h0
            have KH7 := Lib.hid K7
            go_simp
            refine hK.out _ _ (Fn.pass H0.out _) (fun hHeld => ?_)
            clear hK K H0
            try simp only [Act.put, List.getElem_toArray, List.getElem_cons_succ, List.getElem_cons_zero, List.setIfInBounds_toArray, List.set_cons_zero, List.set_cons_succ]
            have k7 := KH7.out.alloc (.cells #[.int .u64 0, .int .u64 0, .int .u64 0, .int .u64 0, .int .u64 0, .int .u64 0, .int .u64 0, .int .u64 0, .int .u64 0, .int .u64 0, .int .u64 0, .int .u64 0, .int .u64 0, .int .u64 0, .int .u64 0, .int .u64 0] 33)
            have z7 := Z7
            have k6 := KZ.out
            have z6 := HG.out
            refine wpAnyH_cast (n' := 5) (l' := #[true, true, true, true, true, false, true, true, false, false, false, false]) (by kernel_rfl) (by kernel_rfl) ?_
            have hh := st2_67 _ g8 _ hHeld k6 z6 k7 z7 (Ne.symm (Nat.ne_of_lt K7.lt))
            rw [← hops] at hh
            exact hh
          · have h0 := hHeld
            clear hHeld
            try simp only [List.getElem_toArray, List.getElem_cons_succ, List.getElem_cons_zero]
            obtain ⟨kz, hg⟩ := Fn.fresh h0 33 #[.int .u64 0, .int .u64 0, .int .u64 0, .int .u64 0, .int .u64 0, .int .u64 0, .int .u64 0, .int .u64 0, .int .u64 0, .int .u64 0, .int .u64 0, .int .u64 0, .int .u64 0, .int .u64 0, .int .u64 0, .int .u64 0]
            have KZ := Lib.hid kz
            have HG := Lib.hid hg
            have H0 := Lib.hid h0
            clear kz hg h0
            have KH7 := Lib.hid K7
            go_simp
            refine hK.out _ _ (Fn.pass H0.out _) (fun hHeld => ?_)
            clear hK K H0
            try simp only [Act.put, List.getElem_toArray, List.getElem_cons_succ, List.getElem_cons_zero, List.setIfInBounds_toArray, List.set_cons_zero, List.set_cons_succ]
            have k7 := KH7.out.alloc (.cells #[.int .u64 0, .int .u64 0, .int .u64 0, .int .u64 0, .int .u64 0, .int .u64 0, .int .u64 0, .int .u64 0, .int .u64 0, .int .u64 0, .int .u64 0, .int .u64 0, .int .u64 0, .int .u64 0, .int .u64 0, .int .u64 0] 33)
            have z7 := Z7
            have k8 := KZ.out
            have z8 := HG.out
            refine wpAnyH_cast (n' := 5) (l' := #[true, true, true, true, true, false, false, true, true, false, false, false]) (by kernel_rfl) (by kernel_rfl) ?_
            have hh := st2_78 g8 _ _ hHeld k7 z7 k8 z8 (Nat.ne_of_lt K7.lt)
            rw [← hops] at hh
            exact hh
      have st2_8 : ∀ (g9 : Nat) (W : World), Fn wx W [(w.heap.size + 1 + 1, 23, ks c), (w.heap.size + 1, 23, ks b), (w.heap.size, 23, ks a)] → Blk W g9 33 #[.int .u64 0, .int .u64 0, .int .u64 0, .int .u64 0, .int .u64 0, .int .u64 0, .int .u64 0, .int .u64 0, .int .u64 0, .int .u64 0, .int .u64 0, .int .u64 0, .int .u64 0, .int .u64 0, .int .u64 0, .int .u64 0] → wx.heap.size ≤ g9 → wpAnyH Tryd.prog .any ops Q (fun W => Fn wx W [(w.heap.size + 1 + 1, 23, ks c), (w.heap.size + 1, 23, ks b), (w.heap.size, 23, ks a)]) 6 #[true, true, true, true, true, false, false, false, true, false, false, false] { tmps := #[.agg (ks a), .agg (ks b), .agg (ks c), .pointer (some ⟨w.heap.size, 0, none⟩), .pointer (some ⟨w.heap.size + 1, 0, none⟩), .pointer (some ⟨w.heap.size + 1 + 1, 0, none⟩), .pointer (some ⟨w.heap.size + 1 + 1 + 1, 0, none⟩), undef, undef, .pointer (some ⟨g9, 0, none⟩), undef, undef, undef, undef, undef, undef, undef, .agg (ks a), .agg (ds a), .agg (ks b), .agg (ds b), .agg (ks c), undef, undef, undef, undef, undef, undef, undef, undef, undef, undef, undef, undef, undef, undef, undef, undef, undef, undef, undef, undef, undef, undef, undef, undef, undef, undef, undef, undef, undef, undef, undef, undef, undef, undef, undef, undef, undef, undef, undef, undef, undef, undef, undef, undef, undef, undef, undef, undef, undef, undef, undef, undef, undef, undef, undef, undef, undef, undef, undef, undef, undef, undef, undef, undef], defers := [] } W := by
        as_aux_lemma =>
          clear st2_7 st2_6 st3_ st1_678 st2_67 st3_7 st3_6 st2_678 st3_78 st3_68 st3_67 st3_678
          intro g9 W hHeld K8 Z8
          rw [← hops]
          refine wpAnyH_ready (rs := [5, 6, 7]) (by kernel_rfl) (by simp) (AllReadyH.cons rfl (fun K hK => ?_) (AllReadyH.cons rfl (fun K hK => ?_) (AllReadyH.cons rfl (fun K hK => ?_) AllReadyH.nil)))
          · have KH8 := Lib.hid K8
            have h0 := hHeld
            clear hHeld
            try simp only [List.getElem_toArray, List.getElem_cons_succ, List.getElem_cons_zero]
            have H0 := Lib.hid h0
            clear h0
            go_simp
            go_at_call 53
            refine (rof_any c _ HC.out).mono ?_
            rintro e vv ⟨rfl, hb⟩
            have KJ8 := Lib.hid (KH8.out.below hb KH8.out.lt)
            have h1 := H0.out.ext hb
            clear hb H0
            go_wp2_with (fail)
            refine hK.out _ _ h1 (fun hHeld => ?_)
            clear hK K h1
            try simp only [Act.put, List.getElem_toArray, List.getElem_cons_succ, List.getElem_cons_zero, List.setIfInBounds_toArray, List.set_cons_zero, List.set_cons_succ]
            have k8 := KJ8.out
            have z8 := Z8
            refine wpAnyH_cast (n' := 5) (l' := #[true, true, true, true, true, true, false, false, true, false, false, false]) (by kernel_rfl) (by kernel_rfl) ?_
            have hh := st3_8 g9 _ hHeld k8 z8
            rw [← hops] at hh
            exact hh
          · have h0 := hHeld
            clear hHeld
            try simp only [List.getElem_toArray, List.getElem_cons_succ, List.getElem_cons_zero]
            obtain ⟨kz, hg⟩ := Fn.fresh h0 33 #[.int .u64 0, .int .u64 0, .int .u64 0, .int .u64 0, .int .u64 0, .int .u64 0, .int .u64 0, .int .u64 0, .int .u64 0, .int .u64 0, .int .u64 0, .int .u64 0, .int .u64 0, .int .u64 0, .int .u64 0, .int .u64 0]
            have KZ := Lib.hid kz
            have HG := Lib.hid hg
            have H0 := Lib.hid h0
            clear kz hg h0
            have KH8 := Lib.hid K8
            go_simp
            refine hK.out _ _ (Fn.pass H0.out _) (fun hHeld => ?_)
            clear hK K H0
            try simp only [Act.put, List.getElem_toArray, List.getElem_cons_succ, List.getElem_cons_zero, List.setIfInBounds_toArray, List.set_cons_zero, List.set_cons_succ]
            have k8 := KH8.out.alloc (.cells #[.int .u64 0, .int .u64 0, .int .u64 0, .int .u64 0, .int .u64 0, .int .u64 0, .int .u64 0, .int .u64 0, .int .u64 0, .int .u64 0, .int .u64 0, .int .u64 0, .int .u64 0, .int .u64 0, .int .u64 0, .int .u64 0] 33)
            have z8 := Z8
            have k6 := KZ.out
            have z6 := HG.out
            refine wpAnyH_cast (n' := 5) (l' := #[true, true, true, true, true, false, true, false, true, false, false, false]) (by kernel_rfl) (by kernel_rfl) ?_
            have hh := st2_68 _ g9 _ hHeld k6 z6 k8 z8 (Ne.symm (Nat.ne_of_lt K8.lt))
            rw [← hops] at hh
            exact hh
          · have h0 := hHeld
            clear hHeld
            try simp only [List.getElem_toArray, List.getElem_cons_succ, List.getElem_cons_zero]
            obtain ⟨kz, hg⟩ := Fn.fresh h0 33 #[.int .u64 0, .int .u64 0, .int .u64 0, .int .u64 0, .int .u64 0, .int .u64 0, .int .u64 0, .int .u64 0, .int .u64 0, .int .u64 0, .int .u64 0, .int .u64 0, .int .u64 0, .int .u64 0, .int .u64 0, .int .u64 0]
            have KZ := Lib.hid kz
            have HG := Lib.hid hg
            have H0 := Lib.hid h0
            clear kz hg h0
            have KH8 := Lib.hid K8
            go_simp
            refine hK.out _ _ (Fn.pass H0.out _) (fun hHeld => ?_)
            clear hK K H0
            try simp only [Act.put, List.getElem_toArray, List.getElem_cons_succ, List.getElem_cons_zero, List.setIfInBounds_toArray, List.set_cons_zero, List.set_cons_succ]
            have k8 := KH8.out.alloc (.cells #[.int .u64 0, .int .u64 0, .int .u64 0, .int .u64 0, .int .u64 0, .int .u64 0, .int .u64 0, .int .u64 0, .int .u64 0, .int .u64 0, .int .u64 0, .int .u64 0, .int .u64 0, .int .u64 0, .int .u64 0, .int .u64 0] 33)
            have z8 := Z8
            have k7 := KZ.out
            have z7 := HG.out
            refine wpAnyH_cast (n' := 5) (l' := #[true, true, true, true, true, false, false, true, true, false, false, false]) (by kernel_rfl) (by kernel_rfl) ?_
            have hh := st2_78 _ g9 _ hHeld k7 z7 k8 z8 (Ne.symm (Nat.ne_of_lt K8.lt))
            rw [← hops] at hh
            exact hh
      have st1_67 : ∀ (g7 g8 : Nat) (W : World), Fn wx W [(w.heap.size + 1 + 1, 23, ks c), (w.heap.size + 1, 23, ks b), (w.heap.size, 23, ks a)] → Blk W g7 33 #[.int .u64 0, .int .u64 0, .int .u64 0, .int .u64 0, .int .u64 0, .int .u64 0, .int .u64 0, .int .u64 0, .int .u64 0, .int .u64 0, .int .u64 0, .int .u64 0, .int .u64 0, .int .u64 0, .int .u64 0, .int .u64 0] → wx.heap.size ≤ g7 → Blk W g8 33 #[.int .u64 0, .int .u64 0, .int .u64 0, .int .u64 0, .int .u64 0, .int .u64 0, .int .u64 0, .int .u64 0, .int .u64 0, .int .u64 0, .int .u64 0, .int .u64 0, .int .u64 0, .int .u64 0, .int .u64 0, .int .u64 0] → wx.heap.size ≤ g8 → g7 ≠ g8 → wpAnyH Tryd.prog .any ops Q (fun W => Fn wx W [(w.heap.size + 1 + 1, 23, ks c), (w.heap.size + 1, 23, ks b), (w.heap.size, 23, ks a)]) 6 #[true, true, true, false, true, false, true, true, false, false, false, false] { tmps := #[.agg (ks a), .agg (ks b), .agg (ks c), .pointer (some ⟨w.heap.size, 0, none⟩), .pointer (some ⟨w.heap.size + 1, 0, none⟩), .pointer (some ⟨w.heap.size + 1 + 1, 0, none⟩), .pointer (some ⟨w.heap.size + 1 + 1 + 1, 0, none⟩), .pointer (some ⟨g7, 0, none⟩), .pointer (some ⟨g8, 0, none⟩), undef, undef, undef, undef, undef, undef, undef, undef, .agg (ks a), .agg (ds a), .agg (ks b), undef, .agg (ks c), undef, undef, undef, undef, undef, undef, undef, undef, undef, undef, undef, undef, undef, undef, undef, undef, undef, undef, undef, undef, undef, undef, undef, undef, undef, undef, undef, undef, undef, undef, undef, undef, undef, undef, undef, undef, undef, undef, undef, undef, undef, undef, undef, undef, undef, undef, undef, undef, undef, undef, undef, undef, undef, undef, undef, undef, undef, undef, undef, undef, undef, undef, undef, undef], defers := [] } W := by
        as_aux_lemma =>
          clear st2_8 st2_7 st2_6 st3_ st2_78 st2_68 st3_8 st3_7 st3_6 st2_678 st3_78 st3_68 st3_67 st3_678
          intro g7 g8 W hHeld K6 Z6 K7 Z7 n6_7
          rw [← hops]
          refine wpAnyH_ready (rs := [3, 8]) (by kernel_rfl) (by simp) (AllReadyH.cons rfl (fun K hK => ?_) (AllReadyH.cons rfl (fun K hK => ?_) AllReadyH.nil))
          · have KH6 := Lib.hid K6
            have KH7 := Lib.hid K7
            have h0 := hHeld
            clear hHeld
            try simp only [List.getElem_toArray, List.getElem_cons_succ, List.getElem_cons_zero]
            have H0 := Lib.hid h0
            clear h0
            go_simp
            go_at_call 53
            refine (rof_any b _ HBB.out).mono ?_
            rintro e vv ⟨rfl, hb⟩
            have KJ6 := Lib.hid (KH6.out.below hb KH6.out.lt)
            have KJ7 := Lib.hid (KH7.out.below hb KH7.out.lt)
            have h1 := H0.out.ext hb
            clear hb H0
            go_wp2_with (fail)
            refine hK.out _ _ h1 (fun hHeld => ?_)
            clear hK K h1
            try simp only [Act.put, List.getElem_toArray, List.getElem_cons_succ, List.getElem_cons_zero, List.setIfInBounds_toArray, List.set_cons_zero, List.set_cons_succ]
            have k6 := KJ6.out
            have k7 := KJ7.out
            have z6 := Z6
            have z7 := Z7
            refine wpAnyH_cast (n' := 5) (l' := #[true, true, true, true, true, false, true, true, false, false, false, false]) (by kernel_rfl) (by kernel_rfl) ?_
            have hh := st2_67 g7 g8 _ hHeld k6 z6 k7 z7 n6_7
            rw [← hops] at hh
            exact hh
          · have h0 := hHeld
            clear hHeld
            try simp only [List.getElem_toArray, List.getElem_cons_succ, List.getElem_cons_zero]
            obtain ⟨kz, hg⟩ := Fn.fresh h0 33 #[.int .u64 0, .int .u64 0, .int .u64 0, .int .u64 0, .int .u64 0, .int .u64 0, .int .u64 0, .int .u64 0, .int .u64 0, .int .u64 0, .int .u64 0, .int .u64 0, .int .u64 0, .int .u64 0, .int .u64 0, .int .u64 0]
            have KZ := Lib.hid kz
            have HG := Lib.hid hg
            have H0 := Lib.hid h0
            clear kz hg h0
            have KH6 := Lib.hid K6
            have KH7 := Lib.hid K7
            go_simp
            refine hK.out _ _ (Fn.pass H0.out _) (fun hHeld => ?_)
            clear hK K H0
            try simp only [Act.put, List.getElem_toArray, List.getElem_cons_succ, List.getElem_cons_zero, List.setIfInBounds_toArray, List.set_cons_zero, List.set_cons_succ]
            have k6 := KH6.out.alloc (.cells #[.int .u64 0, .int .u64 0, .int .u64 0, .int .u64 0, .int .u64 0, .int .u64 0, .int .u64 0, .int .u64 0, .int .u64 0, .int .u64 0, .int .u64 0, .int .u64 0, .int .u64 0, .int .u64 0, .int .u64 0, .int .u64 0] 33)
            have k7 := KH7.out.alloc (.cells #[.int .u64 0, .int .u64 0, .int .u64 0, .int .u64 0, .int .u64 0, .int .u64 0, .int .u64 0, .int .u64 0, .int .u64 0, .int .u64 0, .int .u64 0, .int .u64 0, .int .u64 0, .int .u64 0, .int .u64 0, .int .u64 0] 33)
            have z6 := Z6
            have z7 := Z7
            have k8 := KZ.out
            have z8 := HG.out
            refine wpAnyH_cast (n' := 5) (l' := #[true, true, true, false, true, false, true, true, true, false, false, false]) (by kernel_rfl) (by kernel_rfl) ?_
            have hh := st1_678 g7 g8 _ _ hHeld k6 z6 k7 z7 k8 z8 n6_7 (Nat.ne_of_lt K6.lt) (Nat.ne_of_lt K7.lt)
            rw [← hops] at hh
            exact hh
      have st1_68 : ∀ (g7 g9 : Nat) (W : World), Fn wx W [(w.heap.size + 1 + 1, 23, ks c), (w.heap.size + 1, 23, ks b), (w.heap.size, 23, ks a)] → Blk W g7 33 #[.int .u64 0, .int .u64 0, .int .u64 0, .int .u64 0, .int .u64 0, .int .u64 0, .int .u64 0, .int .u64 0, .int .u64 0, .int .u64 0, .int .u64 0, .int .u64 0, .int .u64 0, .int .u64 0, .int .u64 0, .int .u64 0] → wx.heap.size ≤ g7 → Blk W g9 33 #[.int .u64 0, .int .u64 0, .int .u64 0, .int .u64 0, .int .u64 0, .int .u64 0, .int .u64 0, .int .u64 0, .int .u64 0, .int .u64 0, .int .u64 0, .int .u64 0, .int .u64 0, .int .u64 0, .int .u64 0, .int .u64 0] → wx.heap.size ≤ g9 → g7 ≠ g9 → wpAnyH Tryd.prog .any ops Q (fun W => Fn wx W [(w.heap.size + 1 + 1, 23, ks c), (w.heap.size + 1, 23, ks b), (w.heap.size, 23, ks a)]) 6 #[true, true, true, false, true, false, true, false, true, false, false, false] { tmps := #[.agg (ks a), .agg (ks b), .agg (ks c), .pointer (some ⟨w.heap.size, 0, none⟩), .pointer (some ⟨w.heap.size + 1, 0, none⟩), .pointer (some ⟨w.heap.size + 1 + 1, 0, none⟩), .pointer (some ⟨w.heap.size + 1 + 1 + 1, 0, none⟩), .pointer (some ⟨g7, 0, none⟩), undef, .pointer (some ⟨g9, 0, none⟩), undef, undef, undef, undef, undef, undef, undef, .agg (ks a), .agg (ds a), .agg (ks b), undef, .agg (ks c), undef, undef, undef, undef, undef, undef, undef, undef, undef, undef, undef, undef, undef, undef, undef, undef, undef, undef, undef, undef, undef, undef, undef, undef, undef, undef, undef, undef, undef, undef, undef, undef, undef, undef, undef, undef, undef, undef, undef, undef, undef, undef, undef, undef, undef, undef, undef, undef, undef, undef, undef, undef, undef, undef, undef, undef, undef, undef, undef, undef, undef, undef, undef, undef], defers := [] } W := by
        as_aux_lemma =>
          clear st1_67 st2_8 st2_7 st2_6 st3_ st2_78 st2_67 st3_8 st3_7 st3_6 st2_678 st3_78 st3_68 st3_67 st3_678
          intro g7 g9 W hHeld K6 Z6 K8 Z8 n6_8
          rw [← hops]
          refine wpAnyH_ready (rs := [3, 7]) (by kernel_rfl) (by simp) (AllReadyH.cons rfl (fun K hK => ?_) (AllReadyH.cons rfl (fun K hK => ?_) AllReadyH.nil))
          · have KH6 := Lib.hid K6
            have KH8 := Lib.hid K8
            have h0 := hHeld
            clear hHeld
            try simp only [List.getElem_toArray, List.getElem_cons_succ, List.getElem_cons_zero]
            have H0 := Lib.hid h0
            clear h0
            go_simp
            go_at_call 53
            refine (rof_any b _ HBB.out).mono ?_
            rintro e vv ⟨rfl, hb⟩
            have KJ6 := Lib.hid (KH6.out.below hb KH6.out.lt)
            have KJ8 := Lib.hid (KH8.out.below hb KH8.out.lt)
            have h1 := H0.out.ext hb
            clear hb H0
            go_wp2_with (fail)
            refine hK.out _ _ h1 (fun hHeld => ?_)
            clear hK K h1
            try simp only [Act.put, List.getElem_toArray, List.getElem_cons_succ, List.getElem_cons_zero, List.setIfInBounds_toArray, List.set_cons_zero, List.set_cons_succ]
            have k6 := KJ6.out
            have k8 := KJ8.out
            have z6 := Z6
            have z8 := Z8
            refine wpAnyH_cast (n' := 5) (l' := #[true, true, true, true, true, false, true, false, true, false, false, false]) (by kernel_rfl) (by kernel_rfl) ?_
            have hh := st2_68 g7 g9 _ hHeld k6 z6 k8 z8 n6_8
            rw [← hops] at hh
            exact hh
          · have h0 := hHeld
            clear hHeld
            try simp only [List.getElem_toArray, List.getElem_cons_succ, List.getElem_cons_zero]
            obtain ⟨kz, hg⟩ := Fn.fresh h0 33 #[.int .u64 0, .int .u64 0, .int .u64 0, .int .u64 0, .int .u64 0, .int .u64 0, .int .u64 0, .int .u64 0, .int .u64 0, .int .u64 0, .int .u64 0, .int .u64 0, .int .u64 0, .int .u64 0, .int .u64 0, .int .u64 0]
            have KZ := Lib.hid kz
            have HG := Lib.hid hg
            have H0 := Lib.hid h0
            clear kz hg h0
            have KH6 := Lib.hid K6
            have KH8 := Lib.hid K8
            go_simp
            refine hK.out _ _ (Fn.pass H0.out _) (fun hHeld => ?_)
            clear hK K H0
            try simp only [Act.put, List.getElem_toArray, List.getElem_cons_succ, List.getElem_cons_zero, List.setIfInBounds_toArray, List.set_cons_zero, List.set_cons_succ]
            have k6 := KH6.out.alloc (.cells #[.int .u64 0, .int .u64 0, .int .u64 0, .int .u64 0, .int .u64 0, .int .u64 0, .int .u64 0, .int .u64 0, .int .u64 0, .int .u64 0, .int .u64 0, .int .u64 0, .int .u64 0, .int .u64 0, .int .u64 0, .int .u64 0] 33)
            have k8 := KH8.out.alloc (.cells #[.int .u64 0, .int .u64 0, .int .u64 0, .int .u64 0, .int .u64 0, .int .u64 0, .int .u64 0, .int .u64 0, .int .u64 0, .int .u64 0, .int .u64 0, .int .u64 0, .int .u64 0, .int .u64 0, .int .u64 0, .int .u64 0] 33)
            have z6 := Z6
            have z8 := Z8
            have k7 := KZ.out
            have z7 := HG.out
            refine wpAnyH_cast (n' := 5) (l' := #[true, true, true, false, true, false, true, true, true, false, false, false]) (by kernel_rfl) (by kernel_rfl) ?_
            have hh := st1_678 g7 _ g9 _ hHeld k6 z6 k7 z7 k8 z8 (Nat.ne_of_lt K6.lt) n6_8 (Ne.symm (Nat.ne_of_lt K8.lt))
            rw [← hops] at hh
            exact hh
      have st1_78 : ∀ (g8 g9 : Nat) (W : World), Fn wx W [(w.heap.size + 1 + 1, 23, ks c), (w.heap.size + 1, 23, ks b), (w.heap.size, 23, ks a)] → Blk W g8 33 #[.int .u64 0, .int .u64 0, .int .u64 0, .int .u64 0, .int .u64 0, .int .u64 0, .int .u64 0, .int .u64 0, .int .u64 0, .int .u64 0, .int .u64 0, .int .u64 0, .int .u64 0, .int .u64 0, .int .u64 0, .int .u64 0] → wx.heap.size ≤ g8 → Blk W g9 33 #[.int .u64 0, .int .u64 0, .int .u64 0, .int .u64 0, .int .u64 0, .int .u64 0, .int .u64 0, .int .u64 0, .int .u64 0, .int .u64 0, .int .u64 0, .int .u64 0, .int .u64 0, .int .u64 0, .int .u64 0, .int .u64 0] → wx.heap.size ≤ g9 → g8 ≠ g9 → wpAnyH Tryd.prog .any ops Q (fun W => Fn wx W [(w.heap.size + 1 + 1, 23, ks c), (w.heap.size + 1, 23, ks b), (w.heap.size, 23, ks a)]) 6 #[true, true, true, false, true, false, false, true, true, false, false, false] { tmps := #[.agg (ks a), .agg (ks b), .agg (ks c), .pointer (some ⟨w.heap.size, 0, none⟩), .pointer (some ⟨w.heap.size + 1, 0, none⟩), .pointer (some ⟨w.heap.size + 1 + 1, 0, none⟩), .pointer (some ⟨w.heap.size + 1 + 1 + 1, 0, none⟩), undef, .pointer (some ⟨g8, 0, none⟩), .pointer (some ⟨g9, 0, none⟩), undef, undef, undef, undef, undef, undef, undef, .agg (ks a), .agg (ds a), .agg (ks b), undef, .agg (ks c), undef, undef, undef, undef, undef, undef, undef, undef, undef, undef, undef, undef, undef, undef, undef, undef, undef, undef, undef, undef, undef, undef, undef, undef, undef, undef, undef, undef, undef, undef, undef, undef, undef, undef, undef, undef, undef, undef, undef, undef, undef, undef, undef, undef, undef, undef, undef, undef, undef, undef, undef, undef, undef, undef, undef, undef, undef, undef, undef, undef, undef, undef, undef, undef], defers := [] } W := by
        as_aux_lemma =>
          clear st1_68 st1_67 st2_8 st2_7 st2_6 st3_ st2_68 st2_67 st3_8 st3_7 st3_6 st2_678 st3_78 st3_68 st3_67 st3_678
          intro g8 g9 W hHeld K7 Z7 K8 Z8 n7_8
          rw [← hops]
          refine wpAnyH_ready (rs := [3, 6]) (by kernel_rfl) (by simp) (AllReadyH.cons rfl (fun K hK => ?_) (AllReadyH.cons rfl (fun K hK => ?_) AllReadyH.nil))
          · have KH7 := Lib.hid K7
            have KH8 := Lib.hid K8
            have h0 := hHeld
            clear hHeld
            try simp only [List.getElem_toArray, List.getElem_cons_succ, List.getElem_cons_zero]
            have H0 := Lib.hid h0
            clear h0
            go_simp
            go_at_call 53
            refine (rof_any b _ HBB.out).mono ?_
            rintro e vv ⟨rfl, hb⟩
            have KJ7 := Lib.hid (KH7.out.below hb KH7.out.lt)
            have KJ8 := Lib.hid (KH8.out.below hb KH8.out.lt)
            have h1 := H0.out.ext hb
            clear hb H0
            go_wp2_with (fail)
            refine hK.out _ _ h1 (fun hHeld => ?_)
            clear hK K h1
            try simp only [Act.put, List.getElem_toArray, List.getElem_cons_succ, List.getElem_cons_zero, List.setIfInBounds_toArray, List.set_cons_zero, List.set_cons_succ]
            have k7 := KJ7.out
            have k8 := KJ8.out
            have z7 := Z7
            have z8 := Z8
            refine wpAnyH_cast (n' := 5) (l' := #[true, true, true, true, true, false, false, true, true, false, false, false]) (by kernel_rfl) (by kernel_rfl) ?_
            have hh := st2_78 g8 g9 _ hHeld k7 z7 k8 z8 n7_8
            rw [← hops] at hh
            exact hh
          · have h0 := hHeld
            clear hHeld
            try simp only [List.getElem_toArray, List.getElem_cons_succ, List.getElem_cons_zero]
            obtain ⟨kz, hg⟩ := Fn.fresh h0 33 #[.int .u64 0, .int .u64 0, .int .u64 0, .int .u64 0, .int .u64 0, .int .u64 0, .int .u64 0, .int .u64 0, .int .u64 0, .int .u64 0, .int .u64 0, .int .u64 0, .int .u64 0, .int .u64 0, .int .u64 0, .int .u64 0]
            have KZ := Lib.hid kz
            have HG := Lib.hid hg
            have H0 := Lib.hid h0
            clear kz hg h0
            have KH7 := Lib.hid K7
            have KH8 := Lib.hid K8
            go_simp
            refine hK.out _ _ (Fn.pass H0.out _) (fun hHeld => ?_)
            clear hK K H0
            try simp only [Act.put, List.getElem_toArray, List.getElem_cons_succ, List.getElem_cons_zero, List.setIfInBounds_toArray, List.set_cons_zero, List.set_cons_succ]
            have k7 := KH7.out.alloc (.cells #[.int .u64 0, .int .u64 0, .int .u64 0, .int .u64 0, .int .u64 0, .int .u64 0, .int .u64 0, .int .u64 0, .int .u64 0, .int .u64 0, .int .u64 0, .int .u64 0, .int .u64 0, .int .u64 0, .int .u64 0, .int .u64 0] 33)
            have k8 := KH8.out.alloc (.cells #[.int .u64 0, .int .u64 0, .int .u64 0, .int .u64 0, .int .u64 0, .int .u64 0, .int .u64 0, .int .u64 0, .int .u64 0, .int .u64 0, .int .u64 0, .int .u64 0, .int .u64 0, .int .u64 0, .int .u64 0, .int .u64 0] 33)
            have z7 := Z7
            have z8 := Z8
            have k6 := KZ.out
            have z6 := HG.out
            refine wpAnyH_cast (n' := 5) (l' := #[true, true, true, false, true, false, true, true, true, false, false, false]) (by kernel_rfl) (by kernel_rfl) ?_
            have hh := st1_678 _ g8 g9 _ hHeld k6 z6 k7 z7 k8 z8 (Ne.symm (Nat.ne_of_lt K7.lt)) (Ne.symm (Nat.ne_of_lt K8.lt)) n7_8
            rw [← hops] at hh
            exact hh
      have st0_678 : ∀ (g7 g8 g9 : Nat) (W : World), Fn wx W [(w.heap.size + 1 + 1, 23, ks c), (w.heap.size + 1, 23, ks b), (w.heap.size, 23, ks a)] → Blk W g7 33 #[.int .u64 0, .int .u64 0, .int .u64 0, .int .u64 0, .int .u64 0, .int .u64 0, .int .u64 0, .int .u64 0, .int .u64 0, .int .u64 0, .int .u64 0, .int .u64 0, .int .u64 0, .int .u64 0, .int .u64 0, .int .u64 0] → wx.heap.size ≤ g7 → Blk W g8 33 #[.int .u64 0, .int .u64 0, .int .u64 0, .int .u64 0, .int .u64 0, .int .u64 0, .int .u64 0, .int .u64 0, .int .u64 0, .int .u64 0, .int .u64 0, .int .u64 0, .int .u64 0, .int .u64 0, .int .u64 0, .int .u64 0] → wx.heap.size ≤ g8 → Blk W g9 33 #[.int .u64 0, .int .u64 0, .int .u64 0, .int .u64 0, .int .u64 0, .int .u64 0, .int .u64 0, .int .u64 0, .int .u64 0, .int .u64 0, .int .u64 0, .int .u64 0, .int .u64 0, .int .u64 0, .int .u64 0, .int .u64 0] → wx.heap.size ≤ g9 → g7 ≠ g8 → g7 ≠ g9 → g8 ≠ g9 → wpAnyH Tryd.prog .any ops Q (fun W => Fn wx W [(w.heap.size + 1 + 1, 23, ks c), (w.heap.size + 1, 23, ks b), (w.heap.size, 23, ks a)]) 6 #[true, false, true, false, true, false, true, true, true, false, false, false] { tmps := #[.agg (ks a), .agg (ks b), .agg (ks c), .pointer (some ⟨w.heap.size, 0, none⟩), .pointer (some ⟨w.heap.size + 1, 0, none⟩), .pointer (some ⟨w.heap.size + 1 + 1, 0, none⟩), .pointer (some ⟨w.heap.size + 1 + 1 + 1, 0, none⟩), .pointer (some ⟨g7, 0, none⟩), .pointer (some ⟨g8, 0, none⟩), .pointer (some ⟨g9, 0, none⟩), undef, undef, undef, undef, undef, undef, undef, .agg (ks a), undef, .agg (ks b), undef, .agg (ks c), undef, undef, undef, undef, undef, undef, undef, undef, undef, undef, undef, undef, undef, undef, undef, undef, undef, undef, undef, undef, undef, undef, undef, undef, undef, undef, undef, undef, undef, undef, undef, undef, undef, undef, undef, undef, undef, undef, undef, undef, undef, undef, undef, undef, undef, undef, undef, undef, undef, undef, undef, undef, undef, undef, undef, undef, undef, undef, undef, undef, undef, undef, undef, undef], defers := [] } W := by
        as_aux_lemma =>
          clear st1_78 st1_68 st1_67 st2_8 st2_7 st2_6 st3_ st2_78 st2_68 st2_67 st3_8 st3_7 st3_6 st2_678 st3_78 st3_68 st3_67 st3_678
          intro g7 g8 g9 W hHeld K6 Z6 K7 Z7 K8 Z8 n6_7 n6_8 n7_8
          rw [← hops]
          refine wpAnyH_ready (rs := [1]) (by kernel_rfl) (by simp) (AllReadyH.cons rfl (fun K hK => ?_) AllReadyH.nil)
          have KH6 := Lib.hid K6
          have KH7 := Lib.hid K7
          have KH8 := Lib.hid K8
          have h0 := hHeld
          clear hHeld
          try simp only [List.getElem_toArray, List.getElem_cons_succ, List.getElem_cons_zero]
          have H0 := Lib.hid h0
          clear h0
          go_simp
          go_at_call 53
          refine (rof_any a _ HA.out).mono ?_
          rintro e vv ⟨rfl, hb⟩
          have KJ6 := Lib.hid (KH6.out.below hb KH6.out.lt)
          have KJ7 := Lib.hid (KH7.out.below hb KH7.out.lt)
          have KJ8 := Lib.hid (KH8.out.below hb KH8.out.lt)
          have h1 := H0.out.ext hb
          clear hb H0
          go_wp2_with (fail)
          refine hK.out _ _ h1 (fun hHeld => ?_)
          clear hK K h1
          try simp only [Act.put, List.getElem_toArray, List.getElem_cons_succ, List.getElem_cons_zero, List.setIfInBounds_toArray, List.set_cons_zero, List.set_cons_succ]
          have k6 := KJ6.out
          have k7 := KJ7.out
          have k8 := KJ8.out
          have z6 := Z6
          have z7 := Z7
          have z8 := Z8
          refine wpAnyH_cast (n' := 5) (l' := #[true, true, true, false, true, false, true, true, true, false, false, false]) (by kernel_rfl) (by kernel_rfl) ?_
          have hh := st1_678 g7 g8 g9 _ hHeld k6 z6 k7 z7 k8 z8 n6_7 n6_8 n7_8
          rw [← hops] at hh
          exact hh
      have st2_ : ∀ (W : World), Fn wx W [(w.heap.size + 1 + 1, 23, ks c), (w.heap.size + 1, 23, ks b), (w.heap.size, 23, ks a)] → wpAnyH Tryd.prog .any ops Q (fun W => Fn wx W [(w.heap.size + 1 + 1, 23, ks c), (w.heap.size + 1, 23, ks b), (w.heap.size, 23, ks a)]) 7 #[true, true, true, true, true, false, false, false, false, false, false, false] { tmps := #[.agg (ks a), .agg (ks b), .agg (ks c), .pointer (some ⟨w.heap.size, 0, none⟩), .pointer (some ⟨w.heap.size + 1, 0, none⟩), .pointer (some ⟨w.heap.size + 1 + 1, 0, none⟩), .pointer (some ⟨w.heap.size + 1 + 1 + 1, 0, none⟩), undef, undef, undef, undef, undef, undef, undef, undef, undef, undef, .agg (ks a), .agg (ds a), .agg (ks b), .agg (ds b), .agg (ks c), undef, undef, undef, undef, undef, undef, undef, undef, undef, undef, undef, undef, undef, undef, undef, undef, undef, undef, undef, undef, undef, undef, undef, undef, undef, undef, undef, undef, undef, undef, undef, undef, undef, undef, undef, undef, undef, undef, undef, undef, undef, undef, undef, undef, undef, undef, undef, undef, undef, undef, undef, undef, undef, undef, undef, undef, undef, undef, undef, undef, undef, undef, undef, undef], defers := [] } W := by
        as_aux_lemma =>
          clear st0_678 st1_78 st1_68 st1_67 st1_678 st2_78 st2_68 st2_67 st3_8 st3_7 st3_6 st2_678 st3_78 st3_68 st3_67 st3_678
          intro W hHeld
          rw [← hops]
          refine wpAnyH_ready (rs := [5, 6, 7, 8]) (by kernel_rfl) (by simp) (AllReadyH.cons rfl (fun K hK => ?_) (AllReadyH.cons rfl (fun K hK => ?_) (AllReadyH.cons rfl (fun K hK => ?_) (AllReadyH.cons rfl (fun K hK => ?_) AllReadyH.nil))))
          · have h0 := hHeld
            clear hHeld
            try simp only [List.getElem_toArray, List.getElem_cons_succ, List.getElem_cons_zero]
            have H0 := Lib.hid h0
            clear h0
            go_simp
            go_at_call 53
            refine (rof_any c _ HC.out).mono ?_
            rintro e vv ⟨rfl, hb⟩
            have h1 := H0.out.ext hb
            clear hb H0
            go_wp2_with (fail)
            refine hK.out _ _ h1 (fun hHeld => ?_)
            clear hK K h1
            try simp only [Act.put, List.getElem_toArray, List.getElem_cons_succ, List.getElem_cons_zero, List.setIfInBounds_toArray, List.set_cons_zero, List.set_cons_succ]
            refine wpAnyH_cast (n' := 6) (l' := #[true, true, true, true, true, true, false, false, false, false, false, false]) (by kernel_rfl) (by kernel_rfl) ?_
            have hh := st3_ _ hHeld
            rw [← hops] at hh
            exact hh
          · have h0 := hHeld
            clear hHeld
            try simp only [List.getElem_toArray, List.getElem_cons_succ, List.getElem_cons_zero]
            obtain ⟨kz, hg⟩ := Fn.fresh h0 33 #[.int .u64 0, .int .u64 0, .int .u64 0, .int .u64 0, .int .u64 0, .int .u64 0, .int .u64 0, .int .u64 0, .int .u64 0, .int .u64 0, .int .u64 0, .int .u64 0, .int .u64 0, .int .u64 0, .int .u64 0, .int .u64 0]
            have KZ := Lib.hid kz
            have HG := Lib.hid hg
            have H0 := Lib.hid h0
            clear kz hg h0
            go_simp
            refine hK.out _ _ (Fn.pass H0.out _) (fun hHeld => ?_)
            clear hK K H0
            try simp only [Act.put, List.getElem_toArray, List.getElem_cons_succ, List.getElem_cons_zero, List.setIfInBounds_toArray, List.set_cons_zero, List.set_cons_succ]
            have k6 := KZ.out
            have z6 := HG.out
            refine wpAnyH_cast (n' := 6) (l' := #[true, true, true, true, true, false, true, false, false, false, false, false]) (by kernel_rfl) (by kernel_rfl) ?_
            have hh := st2_6 _ _ hHeld k6 z6
            rw [← hops] at hh
            exact hh
          · have h0 := hHeld
            clear hHeld
            try simp only [List.getElem_toArray, List.getElem_cons_succ, List.getElem_cons_zero]
            obtain ⟨kz, hg⟩ := Fn.fresh h0 33 #[.int .u64 0, .int .u64 0, .int .u64 0, .int .u64 0, .int .u64 0, .int .u64 0, .int .u64 0, .int .u64 0, .int .u64 0, .int .u64 0, .int .u64 0, .int .u64 0, .int .u64 0, .int .u64 0, .int .u64 0, .int .u64 0]
            have KZ := Lib.hid kz
            have HG := Lib.hid hg
            have H0 := Lib.hid h0
            clear kz hg h0
            go_simp
            refine hK.out _ _ (Fn.pass H0.out _) (fun hHeld => ?_)
            clear hK K H0
            try simp only [Act.put, List.getElem_toArray, List.getElem_cons_succ, List.getElem_cons_zero, List.setIfInBounds_toArray, List.set_cons_zero, List.set_cons_succ]
            have k7 := KZ.out
            have z7 := HG.out
            refine wpAnyH_cast (n' := 6) (l' := #[true, true, true, true, true, false, false, true, false, false, false, false]) (by kernel_rfl) (by kernel_rfl) ?_
            have hh := st2_7 _ _ hHeld k7 z7
            rw [← hops] at hh
            exact hh
          · have h0 := hHeld
            clear hHeld
            try simp only [List.getElem_toArray, List.getElem_cons_succ, List.getElem_cons_zero]
            obtain ⟨kz, hg⟩ := Fn.fresh h0 33 #[.int .u64 0, .int .u64 0, .int .u64 0, .int .u64 0, .int .u64 0, .int .u64 0, .int .u64 0, .int .u64 0, .int .u64 0, .int .u64 0, .int .u64 0, .int .u64 0, .int .u64 0, .int .u64 0, .int .u64 0, .int .u64 0]
            have KZ := Lib.hid kz
            have HG := Lib.hid hg
            have H0 := Lib.hid h0
            clear kz hg h0
            go_simp
            refine hK.out _ _ (Fn.pass H0.out _) (fun hHeld => ?_)
            clear hK K H0
            try simp only [Act.put, List.getElem_toArray, List.getElem_cons_succ, List.getElem_cons_zero, List.setIfInBounds_toArray, List.set_cons_zero, List.set_cons_succ]
            have k8 := KZ.out
            have z8 := HG.out
            refine wpAnyH_cast (n' := 6) (l' := #[true, true, true, true, true, false, false, false, true, false, false, false]) (by kernel_rfl) (by kernel_rfl) ?_
            have hh := st2_8 _ _ hHeld k8 z8
            rw [← hops] at hh
            exact hh
      have st1_6 : ∀ (g7 : Nat) (W : World), Fn wx W [(w.heap.size + 1 + 1, 23, ks c), (w.heap.size + 1, 23, ks b), (w.heap.size, 23, ks a)] → Blk W g7 33 #[.int .u64 0, .int .u64 0, .int .u64 0, .int .u64 0, .int .u64 0, .int .u64 0, .int .u64 0, .int .u64 0, .int .u64 0, .int .u64 0, .int .u64 0, .int .u64 0, .int .u64 0, .int .u64 0, .int .u64 0, .int .u64 0] → wx.heap.size ≤ g7 → wpAnyH Tryd.prog .any ops Q (fun W => Fn wx W [(w.heap.size + 1 + 1, 23, ks c), (w.heap.size + 1, 23, ks b), (w.heap.size, 23, ks a)]) 7 #[true, true, true, false, true, false, true, false, false, false, false, false] { tmps := #[.agg (ks a), .agg (ks b), .agg (ks c), .pointer (some ⟨w.heap.size, 0, none⟩), .pointer (some ⟨w.heap.size + 1, 0, none⟩), .pointer (some ⟨w.heap.size + 1 + 1, 0, none⟩), .pointer (some ⟨w.heap.size + 1 + 1 + 1, 0, none⟩), .pointer (some ⟨g7, 0, none⟩), undef, undef, undef, undef, undef, undef, undef, undef, undef, .agg (ks a), .agg (ds a), .agg (ks b), undef, .agg (ks c), undef, undef, undef, undef, undef, undef, undef, undef, undef, undef, undef, undef, undef, undef, undef, undef, undef, undef, undef, undef, undef, undef, undef, undef, undef, undef, undef, undef, undef, undef, undef, undef, undef, undef, undef, undef, undef, undef, undef, undef, undef, undef, undef, undef, undef, undef, undef, undef, undef, undef, undef, undef, undef, undef, undef, undef, undef, undef, undef, undef, undef, undef, undef, undef], defers := [] } W := by
        as_aux_lemma =>
          clear st2_ st0_678 st1_78 st2_8 st2_7 st3_ st1_678 st2_78 st2_68 st2_67 st3_8 st3_7 st3_6 st2_678 st3_78 st3_68 st3_67 st3_678
          intro g7 W hHeld K6 Z6
          rw [← hops]
          refine wpAnyH_ready (rs := [3, 7, 8]) (by kernel_rfl) (by simp) (AllReadyH.cons rfl (fun K hK => ?_) (AllReadyH.cons rfl (fun K hK => ?_) (AllReadyH.cons rfl (fun K hK => ?_) AllReadyH.nil)))
          · have KH6 := Lib.hid K6
            have h0 := hHeld
            clear hHeld
            try simp only [List.getElem_toArray, List.getElem_cons_succ, List.getElem_cons_zero]
            have H0 := Lib.hid h0
            clear h0
            go_simp
            go_at_call 53
            refine (rof_any b _ HBB.out).mono ?_
            rintro e vv ⟨rfl, hb⟩
            have KJ6 := Lib.hid (KH6.out.below hb KH6.out.lt)
            have h1 := H0.out.ext hb
            clear hb H0
            go_wp2_with (fail)
            refine hK.out _ _ h1 (fun hHeld => ?_)
            clear hK K h1
            try simp only [Act.put, List.getElem_toArray, List.getElem_cons_succ, List.getElem_cons_zero, List.setIfInBounds_toArray, List.set_cons_zero, List.set_cons_succ]
            have k6 := KJ6.out
            have z6 := Z6
            refine wpAnyH_cast (n' := 6) (l' := #[true, true, true, true, true, false, true, false, false, false, false, false]) (by kernel_rfl) (by kernel_rfl) ?_
            have hh := st2_6 g7 _ hHeld k6 z6
            rw [← hops] at hh
            exact hh
          · have h0 := hHeld
            clear hHeld
            try simp only [List.getElem_toArray, List.getElem_cons_succ, List.getElem_cons_zero]
            obtain ⟨kz, hg⟩ := Fn.fresh h0 33 #[.int .u64 0, .int .u64 0, .int .u64 0, .int .u64 0, .int .u64 0, .int .u64 0, .int .u64 0, .int .u64 0, .int .u64 0, .int .u64 0, .int .u64 0, .int .u64 0, .int .u64 0, .int .u64 0, .int .u64 0, .int .u64 0]
            have KZ := Lib.hid kz
            have HG := Lib.hid hg
            have H0 := Lib.hid h0
            clear kz hg h0
            have KH6 := Lib.hid K6
            go_simp
            refine hK.out _ _ (Fn.pass H0.out _) (fun hHeld => ?_)
            clear hK K H0
            try simp only [Act.put, List.getElem_toArray, List.getElem_cons_succ, List.getElem_cons_zero, List.setIfInBounds_toArray, List.set_cons_zero, List.set_cons_succ]
            have k6 := KH6.out.alloc (.cells #[.int .u64 0, .int .u64 0, .int .u64 0, .int .u64 0, .int .u64 0, .int .u64 0, .int .u64 0, .int .u64 0, .int .u64 0, .int .u64 0, .int .u64 0, .int .u64 0, .int .u64 0, .int .u64 0, .int .u64 0, .int .u64 0] 33)
            have z6 := Z6
            have k7 := KZ.out
            have z7 := HG.out
            refine wpAnyH_cast (n' := 6) (l' := #[true, true, true, false, true, false, true, true, false, false, false, false]) (by kernel_rfl) (by kernel_rfl) ?_
            have hh := st1_67 g7 _ _ hHeld k6 z6 k7 z7 (Nat.ne_of_lt K6.lt)
            rw [← hops] at hh
            exact hh
          · have h0 := hHeld
            clear hHeld
            try simp only [List.getElem_toArray, List.getElem_cons_succ, List.getElem_cons_zero]
            obtain ⟨kz, hg⟩ := Fn.fresh h0 33 #[.int .u64 0, .int .u64 0, .int .u64 0, .int .u64 0, .int .u64 0, .int .u64 0, .int .u64 0, .int .u64 0, .int .u64 0, .int .u64 0, .int .u64 0, .int .u64 0, .int .u64 0, .int .u64 0, .int .u64 0, .int .u64 0]
            have KZ := Lib.hid kz
            have HG := Lib.hid hg
            have H0 := Lib.hid h0
            clear kz hg h0
            have KH6 := Lib.hid K6
            go_simp
            refine hK.out _ _ (Fn.pass H0.out _) (fun hHeld => ?_)
            clear hK K H0
            try simp only [Act.put, List.getElem_toArray, List.getElem_cons_succ, List.getElem_cons_zero, List.setIfInBounds_toArray, List.set_cons_zero, List.set_cons_succ]
            have k6 := KH6.out.alloc (.cells #[.int .u64 0, .int .u64 0, .int .u64 0, .int .u64 0, .int .u64 0, .int .u64 0, .int .u64 0, .int .u64 0, .int .u64 0, .int .u64 0, .int .u64 0, .int .u64 0, .int .u64 0, .int .u64 0, .int .u64 0, .int .u64 0] 33)
            have z6 := Z6
            have k8 := KZ.out
            have z8 := HG.out
            refine wpAnyH_cast (n' := 6) (l' := #[true, true, true, false, true, false, true, false, true, false, false, false]) (by kernel_rfl) (by kernel_rfl) ?_
            have hh := st1_68 g7 _ _ hHeld k6 z6 k8 z8 (Nat.ne_of_lt K6.lt)
            rw [← hops] at hh
            exact hh
      have st1_7 : ∀ (g8 : Nat) (W : World), Fn wx W [(w.heap.size + 1 + 1, 23, ks c), (w.heap.size + 1, 23, ks b), (w.heap.size, 23, ks a)] → Blk W g8 33 #[.int .u64 0, .int .u64 0, .int .u64 0, .int .u64 0, .int .u64 0, .int .u64 0, .int .u64 0, .int .u64 0, .int .u64 0, .int .u64 0, .int .u64 0, .int .u64 0, .int .u64 0, .int .u64 0, .int .u64 0, .int .u64 0] → wx.heap.size ≤ g8 → wpAnyH Tryd.prog .any ops Q (fun W => Fn wx W [(w.heap.size + 1 + 1, 23, ks c), (w.heap.size + 1, 23, ks b), (w.heap.size, 23, ks a)]) 7 #[true, true, true, false, true, false, false, true, false, false, false, false] { tmps := #[.agg (ks a), .agg (ks b), .agg (ks c), .pointer (some ⟨w.heap.size, 0, none⟩), .pointer (some ⟨w.heap.size + 1, 0, none⟩), .pointer (some ⟨w.heap.size + 1 + 1, 0, none⟩), .pointer (some ⟨w.heap.size + 1 + 1 + 1, 0, none⟩), undef, .pointer (some ⟨g8, 0, none⟩), undef, undef, undef, undef, undef, undef, undef, undef, .agg (ks a), .agg (ds a), .agg (ks b), undef, .agg (ks c), undef, undef, undef, undef, undef, undef, undef, undef, undef, undef, undef, undef, undef, undef, undef, undef, undef, undef, undef, undef, undef, undef, undef, undef, undef, undef, undef, undef, undef, undef, undef, undef, undef, undef, undef, undef, undef, undef, undef, undef, undef, undef, undef, undef, undef, undef, undef, undef, undef, undef, undef, undef, undef, undef, undef, undef, undef, undef, undef, undef, undef, undef, undef, undef], defers := [] } W := by
        as_aux_lemma =>
          clear st1_6 st2_ st0_678 st1_68 st2_8 st2_6 st3_ st1_678 st2_78 st2_68 st2_67 st3_8 st3_7 st3_6 st2_678 st3_78 st3_68 st3_67 st3_678
          intro g8 W hHeld K7 Z7
          rw [← hops]
          refine wpAnyH_ready (rs := [3, 6, 8]) (by kernel_rfl) (by simp) (AllReadyH.cons rfl (fun K hK => ?_) (AllReadyH.cons rfl (fun K hK => ?_) (AllReadyH.cons rfl (fun K hK => ?_) AllReadyH.nil)))
          · have KH7 := Lib.hid K7
            have h0 := hHeld
            clear hHeld
            try simp only [List.getElem_toArray, List.getElem_cons_succ, List.getElem_cons_zero]
            have H0 := Lib.hid h0
            clear h0
            go_simp
            go_at_call 53
            refine (rof_any b _ HBB.out).mono ?_
            rintro e vv ⟨rfl, hb⟩
            have KJ7 := Lib.hid (KH7.out.below hb KH7.out.lt)
            have h1 := H0.out.ext hb
            clear hb H0
            go_wp2_with (fail)
            refine hK.out _ _ h1 (fun hHeld => ?_)
            clear hK K h1
            try simp only [Act.put, List.getElem_toArray, List.getElem_cons_succ, List.getElem_cons_zero, List.setIfInBounds_toArray, List.set_cons_zero, List.set_cons_succ]
            have k7 := KJ7.out
            have z7 := Z7
            refine wpAnyH_cast (n' := 6) (l' := #[true, true, true, true, true, false, false, true, false, false, false, false]) (by kernel_rfl) (by kernel_rfl) ?_
            have hh := st2_7 g8 _ hHeld k7 z7
            rw [← hops] at hh
            exact hh
          · have h0 := hHeld
            clear hHeld
            try simp only [List.getElem_toArray, List.getElem_cons_succ, List.getElem_cons_zero]
            obtain ⟨kz, hg⟩ := Fn.fresh h0 33 #[.int .u64 0, .int .u64 0, .int .u64 0, .int .u64 0, .int .u64 0, .int .u64 0, .int .u64 0, .int .u64 0, .int .u64 0, .int .u64 0, .int .u64 0, .int .u64 0, .int .u64 0, .int .u64 0, .int .u64 0, .int .u64 0]
            have KZ := Lib.hid kz
            have HG := Lib.hid hg
            have H0 := Lib.hid h0
            clear kz hg h0
            have KH7 := Lib.hid K7
            go_simp
            refine hK.out _ _ (Fn.pass H0.out _) (fun hHeld => ?_)
            clear hK K H0
            try simp only [Act.put, List.getElem_toArray, List.getElem_cons_succ, List.getElem_cons_zero, List.setIfInBounds_toArray, List.set_cons_zero, List.set_cons_succ]
            have k7 := KH7.out.alloc (.cells #[.int .u64 0, .int .u64 0, .int .u64 0, .int .u64 0, .int .u64 0, .int .u64 0, .int .u64 0, .int .u64 0, .int .u64 0, .int .u64 0, .int .u64 0, .int .u64 0, .int .u64 0, .int .u64 0, .int .u64 0, .int .u64 0] 33)
            have z7 := Z7
            have k6 := KZ.out
            have z6 := HG.out
            refine wpAnyH_cast (n' := 6) (l' := #[true, true, true, false, true, false, true, true, false, false, false, false]) (by kernel_rfl) (by kernel_rfl) ?_
            have hh := st1_67 _ g8 _ hHeld k6 z6 k7 z7 (Ne.symm (Nat.ne_of_lt K7.lt))
            rw [← hops] at hh
            exact hh
          · have h0 := hHeld
            clear hHeld
            try simp only [List.getElem_toArray, List.getElem_cons_succ, List.getElem_cons_zero]
            obtain ⟨kz, hg⟩ := Fn.fresh h0 33 #[.int .u64 0, .int .u64 0, .int .u64 0, .int .u64 0, .int .u64 0, .int .u64 0, .int .u64 0, .int .u64 0, .int .u64 0, .int .u64 0, .int .u64 0, .int .u64 0, .int .u64 0, .int .u64 0, .int .u64 0, .int .u64 0]
            have KZ := Lib.hid kz
            have HG := Lib.hid hg
            have H0 := Lib.hid h0
            clear kz hg h0
            have KH7 := Lib.hid K7
            go_simp
            refine hK.out _ _ (Fn.pass H0.out _) (fun hHeld => ?_)
            clear hK K H0
            try simp only [Act.put, List.getElem_toArray, List.getElem_cons_succ, List.getElem_cons_zero, List.setIfInBounds_toArray, List.set_cons_zero, List.set_cons_succ]
            have k7 := KH7.out.alloc (.cells #[.int .u64 0, .int .u64 0, .int .u64 0, .int .u64 0, .int .u64 0, .int .u64 0, .int .u64 0, .int .u64 0, .int .u64 0, .int .u64 0, .int .u64 0, .int .u64 0, .int .u64 0, .int .u64 0, .int .u64 0, .int .u64 0] 33)
            have z7 := Z7
            have k8 := KZ.out
            have z8 := HG.out
            refine wpAnyH_cast (n' := 6) (l' := #[true, true, true, false, true, false, false, true, true, false, false, false]) (by kernel_rfl) (by kernel_rfl) ?_
            have hh := st1_78 g8 _ _ hHeld k7 z7 k8 z8 (Nat.ne_of_lt K7.lt)
            rw [← hops] at hh
            exact hh
      have st1_8 : ∀ (g9 : Nat) (W : World), Fn wx W [(w.heap.size + 1 + 1, 23, ks c), (w.heap.size + 1, 23, ks b), (w.heap.size, 23, ks a)] → Blk W g9 33 #[.int .u64 0, .int .u64 0, .int .u64 0, .int .u64 0, .int .u64 0, .int .u64 0, .int .u64 0, .int .u64 0, .int .u64 0, .int .u64 0, .int .u64 0, .int .u64 0, .int .u64 0, .int .u64 0, .int .u64 0, .int .u64 0] → wx.heap.size ≤ g9 → wpAnyH Tryd.prog .any ops Q (fun W => Fn wx W [(w.heap.size + 1 + 1, 23, ks c), (w.heap.size + 1, 23, ks b), (w.heap.size, 23, ks a)]) 7 #[true, true, true, false, true, false, false, false, true, false, false, false] { tmps := #[.agg (ks a), .agg (ks b), .agg (ks c), .pointer (some ⟨w.heap.size, 0, none⟩), .pointer (some ⟨w.heap.size + 1, 0, none⟩), .pointer (some ⟨w.heap.size + 1 + 1, 0, none⟩), .pointer (some ⟨w.heap.size + 1 + 1 + 1, 0, none⟩), undef, undef, .pointer (some ⟨g9, 0, none⟩), undef, undef, undef, undef, undef, undef, undef, .agg (ks a), .agg (ds a), .agg (ks b), undef, .agg (ks c), undef, undef, undef, undef, undef, undef, undef, undef, undef, undef, undef, undef, undef, undef, undef, undef, undef, undef, undef, undef, undef, undef, undef, undef, undef, undef, undef, undef, undef, undef, undef, undef, undef, undef, undef, undef, undef, undef, undef, undef, undef, undef, undef, undef, undef, undef, undef, undef, undef, undef, undef, undef, undef, undef, undef, undef, undef, undef, undef, undef, undef, undef, undef, undef], defers := [] } W := by
        as_aux_lemma =>
          clear st1_7 st1_6 st2_ st0_678 st1_67 st2_7 st2_6 st3_ st1_678 st2_78 st2_68 st2_67 st3_8 st3_7 st3_6 st2_678 st3_78 st3_68 st3_67 st3_678
          intro g9 W hHeld K8 Z8
          rw [← hops]
          refine wpAnyH_ready (rs := [3, 6, 7]) (by kernel_rfl) (by simp) (AllReadyH.cons rfl (fun K hK => ?_) (AllReadyH.cons rfl (fun K hK => ?_) (AllReadyH.cons rfl (fun K hK => ?_) AllReadyH.nil)))
          · have KH8 := Lib.hid K8
            have h0 := hHeld
            clear hHeld
            try simp only [List.getElem_toArray, List.getElem_cons_succ, List.getElem_cons_zero]
            have H0 := Lib.hid h0
            clear h0
            go_simp
            go_at_call 53
            refine (rof_any b _ HBB.out).mono ?_
            rintro e vv ⟨rfl, hb⟩
            have KJ8 := Lib.hid (KH8.out.below hb KH8.out.lt)
            have h1 := H0.out.ext hb
            clear hb H0
            go_wp2_with (fail)
            refine hK.out _ _ h1 (fun hHeld => ?_)
            clear hK K h1
            try simp only [Act.put, List.getElem_toArray, List.getElem_cons_succ, List.getElem_cons_zero, List.setIfInBounds_toArray, List.set_cons_zero, List.set_cons_succ]
            have k8 := KJ8.out
            have z8 := Z8
            refine wpAnyH_cast (n' := 6) (l' := #[true, true, true, true, true, false, false, false, true, false, false, false]) (by kernel_rfl) (by kernel_rfl) ?_
            have hh := st2_8 g9 _ hHeld k8 z8
            rw [← hops] at hh
            exact hh
          · have h0 := hHeld
            clear hHeld
            try simp only [List.getElem_toArray, List.getElem_cons_succ, List.getElem_cons_zero]
            obtain ⟨kz, hg⟩ := Fn.fresh h0 33 #[.int .u64 0, .int .u64 0, .int .u64 0, .int .u64 0, .int .u64 0, .int .u64 0, .int .u64 0, .int .u64 0, .int .u64 0, .int .u64 0, .int .u64 0, .int .u64 0, .int .u64 0, .int .u64 0, .int .u64 0, .int .u64 0]
            have KZ := Lib.hid kz
            have HG := Lib.hid hg
            have H0 := Lib.hid h0
            clear kz hg h0
            have KH8 := Lib.hid K8
            go_simp
            refine hK.out _ _ (Fn.pass H0.out _) (fun hHeld => ?_)
            clear hK K H0
            try simp only [Act.put, List.getElem_toArray, List.getElem_cons_succ, List.getElem_cons_zero, List.setIfInBounds_toArray, List.set_cons_zero, List.set_cons_succ]
            have k8 := KH8.out.alloc (.cells #[.int .u64 0, .int .u64 0, .int .u64 0, .int .u64 0, .int .u64 0, .int .u64 0, .int .u64 0, .int .u64 0, .int .u64 0, .int .u64 0, .int .u64 0, .int .u64 0, .int .u64 0, .int .u64 0, .int .u64 0, .int .u64 0] 33)
            have z8 := Z8
            have k6 := KZ.out
            have z6 := HG.out
            refine wpAnyH_cast (n' := 6) (l' := #[true, true, true, false, true, false, true, false, true, false, false, false]) (by kernel_rfl) (by kernel_rfl) ?_
            have hh := st1_68 _ g9 _ hHeld k6 z6 k8 z8 (Ne.symm (Nat.ne_of_lt K8.lt))
            rw [← hops] at hh
            exact hh
          · have h0 := hHeld
            clear hHeld
            try simp only [List.getElem_toArray, List.getElem_cons_succ, List.getElem_cons_zero]
            obtain ⟨kz, hg⟩ := Fn.fresh h0 33 #[.int .u64 0, .int .u64 0, .int .u64 0, .int .u64 0, .int .u64 0, .int .u64 0, .int .u64 0, .int .u64 0, .int .u64 0, .int .u64 0, .int .u64 0, .int .u64 0, .int .u64 0, .int .u64 0, .int .u64 0, .int .u64 0]
            have KZ := Lib.hid kz
            have HG := Lib.hid hg
            have H0 := Lib.hid h0
            clear kz hg h0
            have KH8 := Lib.hid K8
            go_simp
            refine hK.out _ _ (Fn.pass H0.out _) (fun hHeld => ?_)
            clear hK K H0
            try simp only [Act.put, List.getElem_toArray, List.getElem_cons_succ, List.getElem_cons_zero, List.setIfInBounds_toArray, List.set_cons_zero, List.set_cons_succ]
            have k8 := KH8.out.alloc (.cells #[.int .u64 0, .int .u64 0, .int .u64 0, .int .u64 0, .int .u64 0, .int .u64 0, .int .u64 0, .int .u64 0, .int .u64 0, .int .u64 0, .int .u64 0, .int .u64 0, .int .u64 0, .int .u64 0, .int .u64 0, .int .u64 0] 33)
            have z8 := Z8
            have k7 := KZ.out
            have z7 := HG.out
            refine wpAnyH_cast (n' := 6) (l' := #[true, true, true, false, true, false, false, true, true, false, false, false]) (by kernel_rfl) (by kernel_rfl) ?_
            have hh := st1_78 _ g9 _ hHeld k7 z7 k8 z8 (Ne.symm (Nat.ne_of_lt K8.lt))
            rw [← hops] at hh
            exact hh
      have st0_67 : ∀ (g7 g8 : Nat) (W : World), Fn wx W [(w.heap.size + 1 + 1, 23, ks c), (w.heap.size + 1, 23, ks b), (w.heap.size, 23, ks a)] → Blk W g7 33 #[.int .u64 0, .int .u64 0, .int .u64 0, .int .u64 0, .int .u64 0, .int .u64 0, .int .u64 0, .int .u64 0, .int .u64 0, .int .u64 0, .int .u64 0, .int .u64 0, .int .u64 0, .int .u64 0, .int .u64 0, .int .u64 0] → wx.heap.size ≤ g7 → Blk W g8 33 #[.int .u64 0, .int .u64 0, .int .u64 0, .int .u64 0, .int .u64 0, .int .u64 0, .int .u64 0, .int .u64 0, .int .u64 0, .int .u64 0, .int .u64 0, .int .u64 0, .int .u64 0, .int .u64 0, .int .u64 0, .int .u64 0] → wx.heap.size ≤ g8 → g7 ≠ g8 → wpAnyH Tryd.prog .any ops Q (fun W => Fn wx W [(w.heap.size + 1 + 1, 23, ks c), (w.heap.size + 1, 23, ks b), (w.heap.size, 23, ks a)]) 7 #[true, false, true, false, true, false, true, true, false, false, false, false] { tmps := #[.agg (ks a), .agg (ks b), .agg (ks c), .pointer (some ⟨w.heap.size, 0, none⟩), .pointer (some ⟨w.heap.size + 1, 0, none⟩), .pointer (some ⟨w.heap.size + 1 + 1, 0, none⟩), .pointer (some ⟨w.heap.size + 1 + 1 + 1, 0, none⟩), .pointer (some ⟨g7, 0, none⟩), .pointer (some ⟨g8, 0, none⟩), undef, undef, undef, undef, undef, undef, undef, undef, .agg (ks a), undef, .agg (ks b), undef, .agg (ks c), undef, undef, undef, undef, undef, undef, undef, undef, undef, undef, undef, undef, undef, undef, undef, undef, undef, undef, undef, undef, undef, undef, undef, undef, undef, undef, undef, undef, undef, undef, undef, undef, undef, undef, undef, undef, undef, undef, undef, undef, undef, undef, undef, undef, undef, undef, undef, undef, undef, undef, undef, undef, undef, undef, undef, undef, undef, undef, undef, undef, undef, undef, undef, undef], defers := [] } W := by
        as_aux_lemma =>
          clear st1_8 st1_7 st1_6 st2_ st1_78 st1_68 st2_8 st2_7 st2_6 st3_ st1_678 st2_78 st2_68 st2_67 st3_8 st3_7 st3_6 st2_678 st3_78 st3_68 st3_67 st3_678
          intro g7 g8 W hHeld K6 Z6 K7 Z7 n6_7
          rw [← hops]
          refine wpAnyH_ready (rs := [1, 8]) (by kernel_rfl) (by simp) (AllReadyH.cons rfl (fun K hK => ?_) (AllReadyH.cons rfl (fun K hK => ?_) AllReadyH.nil))
          · have KH6 := Lib.hid K6
            have KH7 := Lib.hid K7
            have h0 := hHeld
            clear hHeld
            try simp only [List.getElem_toArray, List.getElem_cons_succ, List.getElem_cons_zero]
            have H0 := Lib.hid h0
            clear h0
            go_simp
            go_at_call 53
            refine (rof_any a _ HA.out).mono ?_
            rintro e vv ⟨rfl, hb⟩
            have KJ6 := Lib.hid (KH6.out.below hb KH6.out.lt)
            have KJ7 := Lib.hid (KH7.out.below hb KH7.out.lt)
            have h1 := H0.out.ext hb
            clear hb H0
            go_wp2_with (fail)
            refine hK.out _ _ h1 (fun hHeld => ?_)
            clear hK K h1
            try simp only [Act.put, List.getElem_toArray, List.getElem_cons_succ, List.getElem_cons_zero, List.setIfInBounds_toArray, List.set_cons_zero, List.set_cons_succ]
            have k6 := KJ6.out
            have k7 := KJ7.out
            have z6 := Z6
            have z7 := Z7
            refine wpAnyH_cast (n' := 6) (l' := #[true, true, true, false, true, false, true, true, false, false, false, false]) (by kernel_rfl) (by kernel_rfl) ?_
            have hh := st1_67 g7 g8 _ hHeld k6 z6 k7 z7 n6_7
            rw [← hops] at hh
            exact hh
          · have h0 := hHeld
            clear hHeld
            try simp only [List.getElem_toArray, List.getElem_cons_succ, List.getElem_cons_zero]
            obtain ⟨kz, hg⟩ := Fn.fresh h0 33 #[.int .u64 0, .int .u64 0, .int .u64 0, .int .u64 0, .int .u64 0, .int .u64 0, .int .u64 0, .int .u64 0, .int .u64 0, .int .u64 0, .int .u64 0, .int .u64 0, .int .u64 0, .int .u64 0, .int .u64 0, .int .u64 0]
            have KZ := Lib.hid kz
            have HG := Lib.hid hg
            have H0 := Lib.hid h0
            clear kz hg h0
            have KH6 := Lib.hid K6
            have KH7 := Lib.hid K7
            go_simp
            refine hK.out _ _ (Fn.pass H0.out _) (fun hHeld => ?_)
            clear hK K H0
            try simp only [Act.put, List.getElem_toArray, List.getElem_cons_succ, List.getElem_cons_zero, List.setIfInBounds_toArray, List.set_cons_zero, List.set_cons_succ]
            have k6 := KH6.out.alloc (.cells #[.int .u64 0, .int .u64 0, .int .u64 0, .int .u64 0, .int .u64 0, .int .u64 0, .int .u64 0, .int .u64 0, .int .u64 0, .int .u64 0, .int .u64 0, .int .u64 0, .int .u64 0, .int .u64 0, .int .u64 0, .int .u64 0] 33)
            have k7 := KH7.out.alloc (.cells #[.int .u64 0, .int .u64 0, .int .u64 0, .int .u64 0, .int .u64 0, .int .u64 0, .int .u64 0, .int .u64 0, .int .u64 0, .int .u64 0, .int .u64 0, .int .u64 0, .int .u64 0, .int .u64 0, .int .u64 0, .int .u64 0] 33)
            have z6 := Z6
            have z7 := Z7
            have k8 := KZ.out
            have z8 := HG.out
            refine wpAnyH_cast (n' := 6) (l' := #[true, false, true, false, true, false, true, true, true, false, false, false]) (by kernel_rfl) (by kernel_rfl) ?_
            have hh := st0_678 g7 g8 _ _ hHeld k6 z6 k7 z7 k8 z8 n6_7 (Nat.ne_of_lt K6.lt) (Nat.ne_of_lt K7.lt)
            rw [← hops] at hh
            exact hh
      have st0_68 : ∀ (g7 g9 : Nat) (W : World), Fn wx W [(w.heap.size + 1 + 1, 23, ks c), (w.heap.size + 1, 23, ks b), (w.heap.size, 23, ks a)] → Blk W g7 33 #[.int .u64 0, .int .u64 0, .int .u64 0, .int .u64 0, .int .u64 0, .int .u64 0, .int .u64 0, .int .u64 0, .int .u64 0, .int .u64 0, .int .u64 0, .int .u64 0, .int .u64 0, .int .u64 0, .int .u64 0, .int .u64 0] → wx.heap.size ≤ g7 → Blk W g9 33 #[.int .u64 0, .int .u64 0, .int .u64 0, .int .u64 0, .int .u64 0, .int .u64 0, .int .u64 0, .int .u64 0, .int .u64 0, .int .u64 0, .int .u64 0, .int .u64 0, .int .u64 0, .int .u64 0, .int .u64 0, .int .u64 0] → wx.heap.size ≤ g9 → g7 ≠ g9 → wpAnyH Tryd.prog .any ops Q (fun W => Fn wx W [(w.heap.size + 1 + 1, 23, ks c), (w.heap.size + 1, 23, ks b), (w.heap.size, 23, ks a)]) 7 #[true, false, true, false, true, false, true, false, true, false, false, false] { tmps := #[.agg (ks a), .agg (ks b), .agg (ks c), .pointer (some ⟨w.heap.size, 0, none⟩), .pointer (some ⟨w.heap.size + 1, 0, none⟩), .pointer (some ⟨w.heap.size + 1 + 1, 0, none⟩), .pointer (some ⟨w.heap.size + 1 + 1 + 1, 0, none⟩), .pointer (some ⟨g7, 0, none⟩), undef, .pointer (some ⟨g9, 0, none⟩), undef, undef, undef, undef, undef, undef, undef, .agg (ks a), undef, .agg (ks b), undef, .agg (ks c), undef, undef, undef, undef, undef, undef, undef, undef, undef, undef, undef, undef, undef, undef, undef, undef, undef, undef, undef, undef, undef, undef, undef, undef, undef, undef, undef, undef, undef, undef, undef, undef, undef, undef, undef, undef, undef, undef, undef, undef, undef, undef, undef, undef, undef, undef, undef, undef, undef, undef, undef, undef, undef, undef, undef, undef, undef, undef, undef, undef, undef, undef, undef, undef], defers := [] } W := by
        as_aux_lemma =>
          clear st0_67 st1_8 st1_7 st1_6 st2_ st1_78 st1_67 st2_8 st2_7 st2_6 st3_ st1_678 st2_78 st2_68 st2_67 st3_8 st3_7 st3_6 st2_678 st3_78 st3_68 st3_67 st3_678
          intro g7 g9 W hHeld K6 Z6 K8 Z8 n6_8
          rw [← hops]
          refine wpAnyH_ready (rs := [1, 7]) (by kernel_rfl) (by simp) (AllReadyH.cons rfl (fun K hK => ?_) (AllReadyH.cons rfl (fun K hK => ?_) AllReadyH.nil))
          · have KH6 := Lib.hid K6
            have KH8 := Lib.hid K8
            have h0 := hHeld
            clear hHeld
            try simp only [List.getElem_toArray, List.getElem_cons_succ, List.getElem_cons_zero]
            have H0 := Lib.hid h0
            clear h0
            go_simp
            go_at_call 53
            refine (rof_any a _ HA.out).mono ?_
            rintro e vv ⟨rfl, hb⟩
            have KJ6 := Lib.hid (KH6.out.below hb KH6.out.lt)
            have KJ8 := Lib.hid (KH8.out.below hb KH8.out.lt)
            have h1 := H0.out.ext hb
            clear hb H0
            go_wp2_with (fail)
            refine hK.out _ _ h1 (fun hHeld => ?_)
            clear hK K h1
            try simp only [Act.put, List.getElem_toArray, List.getElem_cons_succ, List.getElem_cons_zero, List.setIfInBounds_toArray, List.set_cons_zero, List.set_cons_succ]
            have k6 := KJ6.out
            have k8 := KJ8.out
            have z6 := Z6
            have z8 := Z8
            refine wpAnyH_cast (n' := 6) (l' := #[true, true, true, false, true, false, true, false, true, false, false, false]) (by kernel_rfl) (by kernel_rfl) ?_
            have hh := st1_68 g7 g9 _ hHeld k6 z6 k8 z8 n6_8
            rw [← hops] at hh
            exact hh
          · have h0 := hHeld
            clear hHeld
            try simp only [List.getElem_toArray, List.getElem_cons_succ, List.getElem_cons_zero]
            obtain ⟨kz, hg⟩ := Fn.fresh h0 33 #[.int .u64 0, .int .u64 0, .int .u64 0, .int .u64 0, .int .u64 0, .int .u64 0, .int .u64 0, .int .u64 0, .int .u64 0, .int .u64 0, .int .u64 0, .int .u64 0, .int .u64 0, .int .u64 0, .int .u64 0, .int .u64 0]
            have KZ := Lib.hid kz
            have HG := Lib.hid hg
            have H0 := Lib.hid h0
            clear kz hg h0
            have KH6 := Lib.hid K6
            have KH8 := Lib.hid K8
            go_simp
            refine hK.out _ _ (Fn.pass H0.out _) (fun hHeld => ?_)
            clear hK K H0
            try simp only [Act.put, List.getElem_toArray, List.getElem_cons_succ, List.getElem_cons_zero, List.setIfInBounds_toArray, List.set_cons_zero, List.set_cons_succ]
            have k6 := KH6.out.alloc (.cells #[.int .u64 0, .int .u64 0, .int .u64 0, .int .u64 0, .int .u64 0, .int .u64 0, .int .u64 0, .int .u64 0, .int .u64 0, .int .u64 0, .int .u64 0, .int .u64 0, .int .u64 0, .int .u64 0, .int .u64 0, .int .u64 0] 33)
            have k8 := KH8.out.alloc (.cells #[.int .u64 0, .int .u64 0, .int .u64 0, .int .u64 0, .int .u64 0, .int .u64 0, .int .u64 0, .int .u64 0, .int .u64 0, .int .u64 0, .int .u64 0, .int .u64 0, .int .u64 0, .int .u64 0, .int .u64 0, .int .u64 0] 33)
            have z6 := Z6
            have z8 := Z8
            have k7 := KZ.out
            have z7 := HG.out
            refine wpAnyH_cast (n' := 6) (l' := #[true, false, true, false, true, false, true, true, true, false, false, false]) (by kernel_rfl) (by kernel_rfl) ?_
            have hh := st0_678 g7 _ g9 _ hHeld k6 z6 k7 z7 k8 z8 (Nat.ne_of_lt K6.lt) n6_8 (Ne.symm (Nat.ne_of_lt K8.lt))
            rw [← hops] at hh
            exact hh
      have st0_78 : ∀ (g8 g9 : Nat) (W : World), Fn wx W [(w.heap.size + 1 + 1, 23, ks c), (w.heap.size + 1, 23, ks b), (w.heap.size, 23, ks a)] → Blk W g8 33 #[.int .u64 0, .int .u64 0, .int .u64 0, .int .u64 0, .int .u64 0, .int .u64 0, .int .u64 0, .int .u64 0, .int .u64 0, .int .u64 0, .int .u64 0, .int .u64 0, .int .u64 0, .int .u64 0, .int .u64 0, .int .u64 0] → wx.heap.size ≤ g8 → Blk W g9 33 #[.int .u64 0, .int .u64 0, .int .u64 0, .int .u64 0, .int .u64 0, .int .u64 0, .int .u64 0, .int .u64 0, .int .u64 0, .int .u64 0, .int .u64 0, .int .u64 0, .int .u64 0, .int .u64 0, .int .u64 0, .int .u64 0] → wx.heap.size ≤ g9 → g8 ≠ g9 → wpAnyH Tryd.prog .any ops Q (fun W => Fn wx W [(w.heap.size + 1 + 1, 23, ks c), (w.heap.size + 1, 23, ks b), (w.heap.size, 23, ks a)]) 7 #[true, false, true, false, true, false, false, true, true, false, false, false] { tmps := #[.agg (ks a), .agg (ks b), .agg (ks c), .pointer (some ⟨w.heap.size, 0, none⟩), .pointer (some ⟨w.heap.size + 1, 0, none⟩), .pointer (some ⟨w.heap.size + 1 + 1, 0, none⟩), .pointer (some ⟨w.heap.size + 1 + 1 + 1, 0, none⟩), undef, .pointer (some ⟨g8, 0, none⟩), .pointer (some ⟨g9, 0, none⟩), undef, undef, undef, undef, undef, undef, undef, .agg (ks a), undef, .agg (ks b), undef, .agg (ks c), undef, undef, undef, undef, undef, undef, undef, undef, undef, undef, undef, undef, undef, undef, undef, undef, undef, undef, undef, undef, undef, undef, undef, undef, undef, undef, undef, undef, undef, undef, undef, undef, undef, undef, undef, undef, undef, undef, undef, undef, undef, undef, undef, undef, undef, undef, undef, undef, undef, undef, undef, undef, undef, undef, undef, undef, undef, undef, undef, undef, undef, undef, undef, undef], defers := [] } W := by
        as_aux_lemma =>
          clear st0_68 st0_67 st1_8 st1_7 st1_6 st2_ st1_68 st1_67 st2_8 st2_7 st2_6 st3_ st1_678 st2_78 st2_68 st2_67 st3_8 st3_7 st3_6 st2_678 st3_78 st3_68 st3_67 st3_678
          intro g8 g9 W hHeld K7 Z7 K8 Z8 n7_8
          rw [← hops]
          refine wpAnyH_ready (rs := [1, 6]) (by kernel_rfl) (by simp) (AllReadyH.cons rfl (fun K hK => ?_) (AllReadyH.cons rfl (fun K hK => ?_) AllReadyH.nil))
          · have KH7 := Lib.hid K7
            have KH8 := Lib.hid K8
            have h0 := hHeld
            clear hHeld
            try simp only [List.getElem_toArray, List.getElem_cons_succ, List.getElem_cons_zero]
            have H0 := Lib.hid h0
            clear h0
            go_simp
            go_at_call 53
            refine (rof_any a _ HA.out).mono ?_
            rintro e vv ⟨rfl, hb⟩
            have KJ7 := Lib.hid (KH7.out.below hb KH7.out.lt)
            have KJ8 := Lib.hid (KH8.out.below hb KH8.out.lt)
            have h1 := H0.out.ext hb
            clear hb H0
            go_wp2_with (fail)
            refine hK.out _ _ h1 (fun hHeld => ?_)
            clear hK K h1
            try simp only [Act.put, List.getElem_toArray, List.getElem_cons_succ, List.getElem_cons_zero, List.setIfInBounds_toArray, List.set_cons_zero, List.set_cons_succ]
            have k7 := KJ7.out
            have k8 := KJ8.out
            have z7 := Z7
            have z8 := Z8
            refine wpAnyH_cast (n' := 6) (l' := #[true, true, true, false, true, false, false, true, true, false, false, false]) (by kernel_rfl) (by kernel_rfl) ?_
            have hh := st1_78 g8 g9 _ hHeld k7 z7 k8 z8 n7_8
            rw [← hops] at hh
            exact hh
          · have h0 := hHeld
            clear hHeld
            try simp only [List.getElem_toArray, List.getElem_cons_succ, List.getElem_cons_zero]
            obtain ⟨kz, hg⟩ := Fn.fresh h0 33 #[.int .u64 0, .int .u64 0, .int .u64 0, .int .u64 0, .int .u64 0, .int .u64 0, .int .u64 0, .int .u64 0, .int .u64 0, .int .u64 0, .int .u64 0, .int .u64 0, .int .u64 0, .int .u64 0, .int .u64 0, .int .u64 0]
            have KZ := Lib.hid kz
            have HG := Lib.hid hg
            have H0 := Lib.hid h0
            clear kz hg h0
            have KH7 := Lib.hid K7
            have KH8 := Lib.hid K8
            go_simp
            refine hK.out _ _ (Fn.pass H0.out _) (fun hHeld => ?_)
            clear hK K H0
            try simp only [Act.put, List.getElem_toArray, List.getElem_cons_succ, List.getElem_cons_zero, List.setIfInBounds_toArray, List.set_cons_zero, List.set_cons_succ]
            have k7 := KH7.out.alloc (.cells #[.int .u64 0, .int .u64 0, .int .u64 0, .int .u64 0, .int .u64 0, .int .u64 0, .int .u64 0, .int .u64 0, .int .u64 0, .int .u64 0, .int .u64 0, .int .u64 0, .int .u64 0, .int .u64 0, .int .u64 0, .int .u64 0] 33)
            have k8 := KH8.out.alloc (.cells #[.int .u64 0, .int .u64 0, .int .u64 0, .int .u64 0, .int .u64 0, .int .u64 0, .int .u64 0, .int .u64 0, .int .u64 0, .int .u64 0, .int .u64 0, .int .u64 0, .int .u64 0, .int .u64 0, .int .u64 0, .int .u64 0] 33)
            have z7 := Z7
            have z8 := Z8
            have k6 := KZ.out
            have z6 := HG.out
            refine wpAnyH_cast (n' := 6) (l' := #[true, false, true, false, true, false, true, true, true, false, false, false]) (by kernel_rfl) (by kernel_rfl) ?_
            have hh := st0_678 _ g8 g9 _ hHeld k6 z6 k7 z7 k8 z8 (Ne.symm (Nat.ne_of_lt K7.lt)) (Ne.symm (Nat.ne_of_lt K8.lt)) n7_8
            rw [← hops] at hh
            exact hh
      have st1_ : ∀ (W : World), Fn wx W [(w.heap.size + 1 + 1, 23, ks c), (w.heap.size + 1, 23, ks b), (w.heap.size, 23, ks a)] → wpAnyH Tryd.prog .any ops Q (fun W => Fn wx W [(w.heap.size + 1 + 1, 23, ks c), (w.heap.size + 1, 23, ks b), (w.heap.size, 23, ks a)]) 8 #[true, true, true, false, true, false, false, false, false, false, false, false] { tmps := #[.agg (ks a), .agg (ks b), .agg (ks c), .pointer (some ⟨w.heap.size, 0, none⟩), .pointer (some ⟨w.heap.size + 1, 0, none⟩), .pointer (some ⟨w.heap.size + 1 + 1, 0, none⟩), .pointer (some ⟨w.heap.size + 1 + 1 + 1, 0, none⟩), undef, undef, undef, undef, undef, undef, undef, undef, undef, undef, .agg (ks a), .agg (ds a), .agg (ks b), undef, .agg (ks c), undef, undef, undef, undef, undef, undef, undef, undef, undef, undef, undef, undef, undef, undef, undef, undef, undef, undef, undef, undef, undef, undef, undef, undef, undef, undef, undef, undef, undef, undef, undef, undef, undef, undef, undef, undef, undef, undef, undef, undef, undef, undef, undef, undef, undef, undef, undef, undef, undef, undef, undef, undef, undef, undef, undef, undef, undef, undef, undef, undef, undef, undef, undef, undef], defers := [] } W := by
        as_aux_lemma =>
          clear st0_78 st0_68 st0_67 st0_678 st1_78 st1_68 st1_67 st2_8 st2_7 st2_6 st3_ st1_678 st2_78 st2_68 st2_67 st3_8 st3_7 st3_6 st2_678 st3_78 st3_68 st3_67 st3_678
          intro W hHeld
          rw [← hops]
          refine wpAnyH_ready (rs := [3, 6, 7, 8]) (by kernel_rfl) (by simp) (AllReadyH.cons rfl (fun K hK => ?_) (AllReadyH.cons rfl (fun K hK => ?_) (AllReadyH.cons rfl (fun K hK => ?_) (AllReadyH.cons rfl (fun K hK => ?_) AllReadyH.nil))))
          · have h0 := hHeld
            clear hHeld
            try simp only [List.getElem_toArray, List.getElem_cons_succ, List.getElem_cons_zero]
            have H0 := Lib.hid h0
            clear h0
            go_simp
            go_at_call 53
            refine (rof_any b _ HBB.out).mono ?_
            rintro e vv ⟨rfl, hb⟩
            have h1 := H0.out.ext hb
            clear hb H0
            go_wp2_with (fail)
            refine hK.out _ _ h1 (fun hHeld => ?_)
            clear hK K h1
            try simp only [Act.put, List.getElem_toArray, List.getElem_cons_succ, List.getElem_cons_zero, List.setIfInBounds_toArray, List.set_cons_zero, List.set_cons_succ]
            refine wpAnyH_cast (n' := 7) (l' := #[true, true, true, true, true, false, false, false, false, false, false, false]) (by kernel_rfl) (by kernel_rfl) ?_
            have hh := st2_ _ hHeld
            rw [← hops] at hh
            exact hh
          · have h0 := hHeld
            clear hHeld
            try simp only [List.getElem_toArray, List.getElem_cons_succ, List.getElem_cons_zero]
            obtain ⟨kz, hg⟩ := Fn.fresh h0 33 #[.int .u64 0, .int .u64 0, .int .u64 0, .int .u64 0, .int .u64 0, .int .u64 0, .int .u64 0, .int .u64 0, .int .u64 0, .int .u64 0, .int .u64 0, .int .u64 0, .int .u64 0, .int .u64 0, .int .u64 0, .int .u64 0]
            have KZ := Lib.hid kz
            have HG := Lib.hid hg
            have H0 := Lib.hid h0
            clear kz hg h0
            go_simp
            refine hK.out _ _ (Fn.pass H0.out _) (fun hHeld => ?_)
            clear hK K H0
            try simp only [Act.put, List.getElem_toArray, List.getElem_cons_succ, List.getElem_cons_zero, List.setIfInBounds_toArray, List.set_cons_zero, List.set_cons_succ]
            have k6 := KZ.out
            have z6 := HG.out
            refine wpAnyH_cast (n' := 7) (l' := #[true, true, true, false, true, false, true, false, false, false, false, false]) (by kernel_rfl) (by kernel_rfl) ?_
            have hh := st1_6 _ _ hHeld k6 z6
            rw [← hops] at hh
            exact hh
          · have h0 := hHeld
            clear hHeld
            try simp only [List.getElem_toArray, List.getElem_cons_succ, List.getElem_cons_zero]
            obtain ⟨kz, hg⟩ := Fn.fresh h0 33 #[.int .u64 0, .int .u64 0, .int .u64 0, .int .u64 0, .int .u64 0, .int .u64 0, .int .u64 0, .int .u64 0, .int .u64 0, .int .u64 0, .int .u64 0, .int .u64 0, .int .u64 0, .int .u64 0, .int .u64 0, .int .u64 0]
            have KZ := Lib.hid kz
            have HG := Lib.hid hg
            have H0 := Lib.hid h0
            clear kz hg h0
            go_simp
            refine hK.out _ _ (Fn.pass H0.out _) (fun hHeld => ?_)
            clear hK K H0
            try simp only [Act.put, List.getElem_toArray, List.getElem_cons_succ, List.getElem_cons_zero, List.setIfInBounds_toArray, List.set_cons_zero, List.set_cons_succ]
            have k7 := KZ.out
            have z7 := HG.out
            refine wpAnyH_cast (n' := 7) (l' := #[true, true, true, false, true, false, false, true, false, false, false, false]) (by kernel_rfl) (by kernel_rfl) ?_
            have hh := st1_7 _ _ hHeld k7 z7
            rw [← hops] at hh
            exact hh
          · have h0 := hHeld
            clear hHeld
            try simp only [List.getElem_toArray, List.getElem_cons_succ, List.getElem_cons_zero]
            obtain ⟨kz, hg⟩ := Fn.fresh h0 33 #[.int .u64 0, .int .u64 0, .int .u64 0, .int .u64 0, .int .u64 0, .int .u64 0, .int .u64 0, .int .u64 0, .int .u64 0, .int .u64 0, .int .u64 0, .int .u64 0, .int .u64 0, .int .u64 0, .int .u64 0, .int .u64 0]
            have KZ := Lib.hid kz
            have HG := Lib.hid hg
            have H0 := Lib.hid h0
            clear kz hg h0
            go_simp
            refine hK.out _ _ (Fn.pass H0.out _) (fun hHeld => ?_)
            clear hK K H0
            try simp only [Act.put, List.getElem_toArray, List.getElem_cons_succ, List.getElem_cons_zero, List.setIfInBounds_toArray, List.set_cons_zero, List.set_cons_succ]
            have k8 := KZ.out
            have z8 := HG.out
            refine wpAnyH_cast (n' := 7) (l' := #[true, true, true, false, true, false, false, false, true, false, false, false]) (by kernel_rfl) (by kernel_rfl) ?_
            have hh := st1_8 _ _ hHeld k8 z8
            rw [← hops] at hh
            exact hh
      have st0_6 : ∀ (g7 : Nat) (W : World), Fn wx W [(w.heap.size + 1 + 1, 23, ks c), (w.heap.size + 1, 23, ks b), (w.heap.size, 23, ks a)] → Blk W g7 33 #[.int .u64 0, .int .u64 0, .int .u64 0, .int .u64 0, .int .u64 0, .int .u64 0, .int .u64 0, .int .u64 0, .int .u64 0, .int .u64 0, .int .u64 0, .int .u64 0, .int .u64 0, .int .u64 0, .int .u64 0, .int .u64 0] → wx.heap.size ≤ g7 → wpAnyH Tryd.prog .any ops Q (fun W => Fn wx W [(w.heap.size + 1 + 1, 23, ks c), (w.heap.size + 1, 23, ks b), (w.heap.size, 23, ks a)]) 8 #[true, false, true, false, true, false, true, false, false, false, false, false] { tmps := #[.agg (ks a), .agg (ks b), .agg (ks c), .pointer (some ⟨w.heap.size, 0, none⟩), .pointer (some ⟨w.heap.size + 1, 0, none⟩), .pointer (some ⟨w.heap.size + 1 + 1, 0, none⟩), .pointer (some ⟨w.heap.size + 1 + 1 + 1, 0, none⟩), .pointer (some ⟨g7, 0, none⟩), undef, undef, undef, undef, undef, undef, undef, undef, undef, .agg (ks a), undef, .agg (ks b), undef, .agg (ks c), undef, undef, undef, undef, undef, undef, undef, undef, undef, undef, undef, undef, undef, undef, undef, undef, undef, undef, undef, undef, undef, undef, undef, undef, undef, undef, undef, undef, undef, undef, undef, undef, undef, undef, undef, undef, undef, undef, undef, undef, undef, undef, undef, undef, undef, undef, undef, undef, undef, undef, undef, undef, undef, undef, undef, undef, undef, undef, undef, undef, undef, undef, undef, undef], defers := [] } W := by
        as_aux_lemma =>
          clear st1_ st0_78 st1_8 st1_7 st2_ st0_678 st1_78 st1_68 st1_67 st2_8 st2_7 st2_6 st3_ st1_678 st2_78 st2_68 st2_67 st3_8 st3_7 st3_6 st2_678 st3_78 st3_68 st3_67 st3_678
          intro g7 W hHeld K6 Z6
          rw [← hops]
          refine wpAnyH_ready (rs := [1, 7, 8]) (by kernel_rfl) (by simp) (AllReadyH.cons rfl (fun K hK => ?_) (AllReadyH.cons rfl (fun K hK => ?_) (AllReadyH.cons rfl (fun K hK => ?_) AllReadyH.nil)))
          · have KH6 := Lib.hid K6
            have h0 := hHeld
            clear hHeld
            try simp only [List.getElem_toArray, List.getElem_cons_succ, List.getElem_cons_zero]
            have H0 := Lib.hid h0
            clear h0
            go_simp
            go_at_call 53
            refine (rof_any a _ HA.out).mono ?_
            rintro e vv ⟨rfl, hb⟩
            have KJ6 := Lib.hid (KH6.out.below hb KH6.out.lt)
            have h1 := H0.out.ext hb
            clear hb H0
            go_wp2_with (fail)
            refine hK.out _ _ h1 (fun hHeld => ?_)
            clear hK K h1
            try simp only [Act.put, List.getElem_toArray, List.getElem_cons_succ, List.getElem_cons_zero, List.setIfInBounds_toArray, List.set_cons_zero, List.set_cons_succ]
            have k6 := KJ6.out
            have z6 := Z6
            refine wpAnyH_cast (n' := 7) (l' := #[true, true, true, false, true, false, true, false, false, false, false, false]) (by kernel_rfl) (by kernel_rfl) ?_
            have hh := st1_6 g7 _ hHeld k6 z6
            rw [← hops] at hh
            exact hh
          · have h0 := hHeld
            clear hHeld
            try simp only [List.getElem_toArray, List.getElem_cons_succ, List.getElem_cons_zero]
            obtain ⟨kz, hg⟩ := Fn.fresh h0 33 #[.int .u64 0, .int .u64 0, .int .u64 0, .int .u64 0, .int .u64 0, .int .u64 0, .int .u64 0, .int .u64 0, .int .u64 0, .int .u64 0, .int .u64 0, .int .u64 0, .int .u64 0, .int .u64 0, .int .u64 0, .int .u64 0]
            have KZ := Lib.hid kz
            have HG := Lib.hid hg
            have H0 := Lib.hid h0
            clear kz hg h0
            have KH6 := Lib.hid K6
            go_simp
            refine hK.out _ _ (Fn.pass H0.out _) (fun hHeld => ?_)
            clear hK K H0
            try simp only [Act.put, List.getElem_toArray, List.getElem_cons_succ, List.getElem_cons_zero, List.setIfInBounds_toArray, List.set_cons_zero, List.set_cons_succ]
            have k6 := KH6.out.alloc (.cells #[.int .u64 0, .int .u64 0, .int .u64 0, .int .u64 0, .int .u64 0, .int .u64 0, .int .u64 0, .int .u64 0, .int .u64 0, .int .u64 0, .int .u64 0, .int .u64 0, .int .u64 0, .int .u64 0, .int .u64 0, .int .u64 0] 33)
            have z6 := Z6
            have k7 := KZ.out
            have z7 := HG.out
            refine wpAnyH_cast (n' := 7) (l' := #[true, false, true, false, true, false, true, true, false, false, false, false]) (by kernel_rfl) (by kernel_rfl) ?_
            have hh := st0_67 g7 _ _ hHeld k6 z6 k7 z7 (Nat.ne_of_lt K6.lt)
            rw [← hops] at hh
            exact hh
          · have h0 := hHeld
            clear hHeld
            try simp only [List.getElem_toArray, List.getElem_cons_succ, List.getElem_cons_zero]
            obtain ⟨kz, hg⟩ := Fn.fresh h0 33 #[.int .u64 0, .int .u64 0, .int .u64 0, .int .u64 0, .int .u64 0, .int .u64 0, .int .u64 0, .int .u64 0, .int .u64 0, .int .u64 0, .int .u64 0, .int .u64 0, .int .u64 0, .int .u64 0, .int .u64 0, .int .u64 0]
            have KZ := Lib.hid kz
            have HG := Lib.hid hg
            have H0 := Lib.hid h0
            clear kz hg h0
            have KH6 := Lib.hid K6
            go_simp
            refine hK.out _ _ (Fn.pass H0.out _) (fun hHeld => ?_)
            clear hK K H0
            try simp only [Act.put, List.getElem_toArray, List.getElem_cons_succ, List.getElem_cons_zero, List.setIfInBounds_toArray, List.set_cons_zero, List.set_cons_succ]
            have k6 := KH6.out.alloc (.cells #[.int .u64 0, .int .u64 0, .int .u64 0, .int .u64 0, .int .u64 0, .int .u64 0, .int .u64 0, .int .u64 0, .int .u64 0, .int .u64 0, .int .u64 0, .int .u64 0, .int .u64 0, .int .u64 0, .int .u64 0, .int .u64 0] 33)
            have z6 := Z6
            have k8 := KZ.out
            have z8 := HG.out
            refine wpAnyH_cast (n' := 7) (l' := #[true, false, true, false, true, false, true, false, true, false, false, false]) (by kernel_rfl) (by kernel_rfl) ?_
            have hh := st0_68 g7 _ _ hHeld k6 z6 k8 z8 (Nat.ne_of_lt K6.lt)
            rw [← hops] at hh
            exact hh
      have st0_7 : ∀ (g8 : Nat) (W : World), Fn wx W [(w.heap.size + 1 + 1, 23, ks c), (w.heap.size + 1, 23, ks b), (w.heap.size, 23, ks a)] → Blk W g8 33 #[.int .u64 0, .int .u64 0, .int .u64 0, .int .u64 0, .int .u64 0, .int .u64 0, .int .u64 0, .int .u64 0, .int .u64 0, .int .u64 0, .int .u64 0, .int .u64 0, .int .u64 0, .int .u64 0, .int .u64 0, .int .u64 0] → wx.heap.size ≤ g8 → wpAnyH Tryd.prog .any ops Q (fun W => Fn wx W [(w.heap.size + 1 + 1, 23, ks c), (w.heap.size + 1, 23, ks b), (w.heap.size, 23, ks a)]) 8 #[true, false, true, false, true, false, false, true, false, false, false, false] { tmps := #[.agg (ks a), .agg (ks b), .agg (ks c), .pointer (some ⟨w.heap.size, 0, none⟩), .pointer (some ⟨w.heap.size + 1, 0, none⟩), .pointer (some ⟨w.heap.size + 1 + 1, 0, none⟩), .pointer (some ⟨w.heap.size + 1 + 1 + 1, 0, none⟩), undef, .pointer (some ⟨g8, 0, none⟩), undef, undef, undef, undef, undef, undef, undef, undef, .agg (ks a), undef, .agg (ks b), undef, .agg (ks c), undef, undef, undef, undef, undef, undef, undef, undef, undef, undef, undef, undef, undef, undef, undef, undef, undef, undef, undef, undef, undef, undef, undef, undef, undef, undef, undef, undef, undef, undef, undef, undef, undef, undef, undef, undef, undef, undef, undef, undef, undef, undef, undef, undef, undef, undef, undef, undef, undef, undef, undef, undef, undef, undef, undef, undef, undef, undef, undef, undef, undef, undef, undef, undef], defers := [] } W := by
        as_aux_lemma =>
          clear st0_6 st1_ st0_68 st1_8 st1_6 st2_ st0_678 st1_78 st1_68 st1_67 st2_8 st2_7 st2_6 st3_ st1_678 st2_78 st2_68 st2_67 st3_8 st3_7 st3_6 st2_678 st3_78 st3_68 st3_67 st3_678
          intro g8 W hHeld K7 Z7
          rw [← hops]
          refine wpAnyH_ready (rs := [1, 6, 8]) (by kernel_rfl) (by simp) (AllReadyH.cons rfl (fun K hK => ?_) (AllReadyH.cons rfl (fun K hK => ?_) (AllReadyH.cons rfl (fun K hK => ?_) AllReadyH.nil)))
          · have KH7 := Lib.hid K7
            have h0 := hHeld
            clear hHeld
            try simp only [List.getElem_toArray, List.getElem_cons_succ, List.getElem_cons_zero]
            have H0 := Lib.hid h0
            clear h0
            go_simp
            go_at_call 53
            refine (rof_any a _ HA.out).mono ?_
            rintro e vv ⟨rfl, hb⟩
            have KJ7 := Lib.hid (KH7.out.below hb KH7.out.lt)
            have h1 := H0.out.ext hb
            clear hb H0
            go_wp2_with (fail)
            refine hK.out _ _ h1 (fun hHeld => ?_)
            clear hK K h1
            try simp only [Act.put, List.getElem_toArray, List.getElem_cons_succ, List.getElem_cons_zero, List.setIfInBounds_toArray, List.set_cons_zero, List.set_cons_succ]
            have k7 := KJ7.out
            have z7 := Z7
            refine wpAnyH_cast (n' := 7) (l' := #[true, true, true, false, true, false, false, true, false, false, false, false]) (by kernel_rfl) (by kernel_rfl) ?_
            have hh := st1_7 g8 _ hHeld k7 z7
            rw [← hops] at hh
            exact hh
          · have h0 := hHeld
            clear hHeld
            try simp only [List.getElem_toArray, List.getElem_cons_succ, List.getElem_cons_zero]
            obtain ⟨kz, hg⟩ := Fn.fresh h0 33 #[.int .u64 0, .int .u64 0, .int .u64 0, .int .u64 0, .int .u64 0, .int .u64 0, .int .u64 0, .int .u64 0, .int .u64 0, .int .u64 0, .int .u64 0, .int .u64 0, .int .u64 0, .int .u64 0, .int .u64 0, .int .u64 0]
            have KZ := Lib.hid kz
            have HG := Lib.hid hg
            have H0 := Lib.hid h0
            clear kz hg h0
            have KH7 := Lib.hid K7
            go_simp
            refine hK.out _ _ (Fn.pass H0.out _) (fun hHeld => ?_)
            clear hK K H0
            try simp only [Act.put, List.getElem_toArray, List.getElem_cons_succ, List.getElem_cons_zero, List.setIfInBounds_toArray, List.set_cons_zero, List.set_cons_succ]
            have k7 := KH7.out.alloc (.cells #[.int .u64 0, .int .u64 0, .int .u64 0, .int .u64 0, .int .u64 0, .int .u64 0, .int .u64 0, .int .u64 0, .int .u64 0, .int .u64 0, .int .u64 0, .int .u64 0, .int .u64 0, .int .u64 0, .int .u64 0, .int .u64 0] 33)
            have z7 := Z7
            have k6 := KZ.out
            have z6 := HG.out
            refine wpAnyH_cast (n' := 7) (l' := #[true, false, true, false, true, false, true, true, false, false, false, false]) (by kernel_rfl) (by kernel_rfl) ?_
            have hh := st0_67 _ g8 _ hHeld k6 z6 k7 z7 (Ne.symm (Nat.ne_of_lt K7.lt))
            rw [← hops] at hh
            exact hh
          · have h0 := hHeld
            clear hHeld
            try simp only [List.getElem_toArray, List.getElem_cons_succ, List.getElem_cons_zero]
            obtain ⟨kz, hg⟩ := Fn.fresh h0 33 #[.int .u64 0, .int .u64 0, .int .u64 0, .int .u64 0, .int .u64 0, .int .u64 0, .int .u64 0, .int .u64 0, .int .u64 0, .int .u64 0, .int .u64 0, .int .u64 0, .int .u64 0, .int .u64 0, .int .u64 0, .int .u64 0]
            have KZ := Lib.hid kz
            have HG := Lib.hid hg
            have H0 := Lib.hid h0
            clear kz hg h0
            have KH7 := Lib.hid K7
            go_simp
            refine hK.out _ _ (Fn.pass H0.out _) (fun hHeld => ?_)
            clear hK K H0
            try simp only [Act.put, List.getElem_toArray, List.getElem_cons_succ, List.getElem_cons_zero, List.setIfInBounds_toArray, List.set_cons_zero, List.set_cons_succ]
            have k7 := KH7.out.alloc (.cells #[.int .u64 0, .int .u64 0, .int .u64 0, .int .u64 0, .int .u64 0, .int .u64 0, .int .u64 0, .int .u64 0, .int .u64 0, .int .u64 0, .int .u64 0, .int .u64 0, .int .u64 0, .int .u64 0, .int .u64 0, .int .u64 0] 33)
            have z7 := Z7
            have k8 := KZ.out
            have z8 := HG.out
            refine wpAnyH_cast (n' := 7) (l' := #[true, false, true, false, true, false, false, true, true, false, false, false]) (by kernel_rfl) (by kernel_rfl) ?_
            have hh := st0_78 g8 _ _ hHeld k7 z7 k8 z8 (Nat.ne_of_lt K7.lt)
            rw [← hops] at hh
            exact hh
      have st0_8 : ∀ (g9 : Nat) (W : World), Fn wx W [(w.heap.size + 1 + 1, 23, ks c), (w.heap.size + 1, 23, ks b), (w.heap.size, 23, ks a)] → Blk W g9 33 #[.int .u64 0, .int .u64 0, .int .u64 0, .int .u64 0, .int .u64 0, .int .u64 0, .int .u64 0, .int .u64 0, .int .u64 0, .int .u64 0, .int .u64 0, .int .u64 0, .int .u64 0, .int .u64 0, .int .u64 0, .int .u64 0] → wx.heap.size ≤ g9 → wpAnyH Tryd.prog .any ops Q (fun W => Fn wx W [(w.heap.size + 1 + 1, 23, ks c), (w.heap.size + 1, 23, ks b), (w.heap.size, 23, ks a)]) 8 #[true, false, true, false, true, false, false, false, true, false, false, false] { tmps := #[.agg (ks a), .agg (ks b), .agg (ks c), .pointer (some ⟨w.heap.size, 0, none⟩), .pointer (some ⟨w.heap.size + 1, 0, none⟩), .pointer (some ⟨w.heap.size + 1 + 1, 0, none⟩), .pointer (some ⟨w.heap.size + 1 + 1 + 1, 0, none⟩), undef, undef, .pointer (some ⟨g9, 0, none⟩), undef, undef, undef, undef, undef, undef, undef, .agg (ks a), undef, .agg (ks b), undef, .agg (ks c), undef, undef, undef, undef, undef, undef, undef, undef, undef, undef, undef, undef, undef, undef, undef, undef, undef, undef, undef, undef, undef, undef, undef, undef, undef, undef, undef, undef, undef, undef, undef, undef, undef, undef, undef, undef, undef, undef, undef, undef, undef, undef, undef, undef, undef, undef, undef, undef, undef, undef, undef, undef, undef, undef, undef, undef, undef, undef, undef, undef, undef, undef, undef, undef], defers := [] } W := by
        as_aux_lemma =>
          clear st0_7 st0_6 st1_ st0_67 st1_7 st1_6 st2_ st0_678 st1_78 st1_68 st1_67 st2_8 st2_7 st2_6 st3_ st1_678 st2_78 st2_68 st2_67 st3_8 st3_7 st3_6 st2_678 st3_78 st3_68 st3_67 st3_678
          intro g9 W hHeld K8 Z8
          rw [← hops]
          refine wpAnyH_ready (rs := [1, 6, 7]) (by kernel_rfl) (by simp) (AllReadyH.cons rfl (fun K hK => ?_) (AllReadyH.cons rfl (fun K hK => ?_) (AllReadyH.cons rfl (fun K hK => ?_) AllReadyH.nil)))
          · have KH8 := Lib.hid K8
            have h0 := hHeld
            clear hHeld
            try simp only [List.getElem_toArray, List.getElem_cons_succ, List.getElem_cons_zero]
            have H0 := Lib.hid h0
            clear h0
            go_simp
            go_at_call 53
            refine (rof_any a _ HA.out).mono ?_
            rintro e vv ⟨rfl, hb⟩
            have KJ8 := Lib.hid (KH8.out.below hb KH8.out.lt)
            have h1 := H0.out.ext hb
            clear hb H0
            go_wp2_with (fail)
            refine hK.out _ _ h1 (fun hHeld => ?_)
            clear hK K h1
            try simp only [Act.put, List.getElem_toArray, List.getElem_cons_succ, List.getElem_cons_zero, List.setIfInBounds_toArray, List.set_cons_zero, List.set_cons_succ]
            have k8 := KJ8.out
            have z8 := Z8
            refine wpAnyH_cast (n' := 7) (l' := #[true, true, true, false, true, false, false, false, true, false, false, false]) (by kernel_rfl) (by kernel_rfl) ?_
            have hh := st1_8 g9 _ hHeld k8 z8
            rw [← hops] at hh
            exact hh
          · have h0 := hHeld
            clear hHeld
            try simp only [List.getElem_toArray, List.getElem_cons_succ, List.getElem_cons_zero]
            obtain ⟨kz, hg⟩ := Fn.fresh h0 33 #[.int .u64 0, .int .u64 0, .int .u64 0, .int .u64 0, .int .u64 0, .int .u64 0, .int .u64 0, .int .u64 0, .int .u64 0, .int .u64 0, .int .u64 0, .int .u64 0, .int .u64 0, .int .u64 0, .int .u64 0, .int .u64 0]
            have KZ := Lib.hid kz
            have HG := Lib.hid hg
            have H0 := Lib.hid h0
            clear kz hg h0
            have KH8 := Lib.hid K8
            go_simp
            refine hK.out _ _ (Fn.pass H0.out _) (fun hHeld => ?_)
            clear hK K H0
            try simp only [Act.put, List.getElem_toArray, List.getElem_cons_succ, List.getElem_cons_zero, List.setIfInBounds_toArray, List.set_cons_zero, List.set_cons_succ]
            have k8 := KH8.out.alloc (.cells #[.int .u64 0, .int .u64 0, .int .u64 0, .int .u64 0, .int .u64 0, .int .u64 0, .int .u64 0, .int .u64 0, .int .u64 0, .int .u64 0, .int .u64 0, .int .u64 0, .int .u64 0, .int .u64 0, .int .u64 0, .int .u64 0] 33)
            have z8 := Z8
            have k6 := KZ.out
            have z6 := HG.out
            refine wpAnyH_cast (n' := 7) (l' := #[true, false, true, false, true, false, true, false, true, false, false, false]) (by kernel_rfl) (by kernel_rfl) ?_
            have hh := st0_68 _ g9 _ hHeld k6 z6 k8 z8 (Ne.symm (Nat.ne_of_lt K8.lt))
            rw [← hops] at hh
            exact hh
          · have h0 := hHeld
            clear hHeld
            try simp only [List.getElem_toArray, List.getElem_cons_succ, List.getElem_cons_zero]
            obtain ⟨kz, hg⟩ := Fn.fresh h0 33 #[.int .u64 0, .int .u64 0, .int .u64 0, .int .u64 0, .int .u64 0, .int .u64 0, .int .u64 0, .int .u64 0, .int .u64 0, .int .u64 0, .int .u64 0, .int .u64 0, .int .u64 0, .int .u64 0, .int .u64 0, .int .u64 0]
            have KZ := Lib.hid kz
            have HG := Lib.hid hg
            have H0 := Lib.hid h0
            clear kz hg h0
            have KH8 := Lib.hid K8
            go_simp
            refine hK.out _ _ (Fn.pass H0.out _) (fun hHeld => ?_)
            clear hK K H0
            try simp only [Act.put, List.getElem_toArray, List.getElem_cons_succ, List.getElem_cons_zero, List.setIfInBounds_toArray, List.set_cons_zero, List.set_cons_succ]
            have k8 := KH8.out.alloc (.cells #[.int .u64 0, .int .u64 0, .int .u64 0, .int .u64 0, .int .u64 0, .int .u64 0, .int .u64 0, .int .u64 0, .int .u64 0, .int .u64 0, .int .u64 0, .int .u64 0, .int .u64 0, .int .u64 0, .int .u64 0, .int .u64 0] 33)
            have z8 := Z8
            have k7 := KZ.out
            have z7 := HG.out
            refine wpAnyH_cast (n' := 7) (l' := #[true, false, true, false, true, false, false, true, true, false, false, false]) (by kernel_rfl) (by kernel_rfl) ?_
            have hh := st0_78 _ g9 _ hHeld k7 z7 k8 z8 (Ne.symm (Nat.ne_of_lt K8.lt))
            rw [← hops] at hh
            exact hh
      have st0_ : ∀ (W : World), Fn wx W [(w.heap.size + 1 + 1, 23, ks c), (w.heap.size + 1, 23, ks b), (w.heap.size, 23, ks a)] → wpAnyH Tryd.prog .any ops Q (fun W => Fn wx W [(w.heap.size + 1 + 1, 23, ks c), (w.heap.size + 1, 23, ks b), (w.heap.size, 23, ks a)]) 9 #[true, false, true, false, true, false, false, false, false, false, false, false] { tmps := #[.agg (ks a), .agg (ks b), .agg (ks c), .pointer (some ⟨w.heap.size, 0, none⟩), .pointer (some ⟨w.heap.size + 1, 0, none⟩), .pointer (some ⟨w.heap.size + 1 + 1, 0, none⟩), .pointer (some ⟨w.heap.size + 1 + 1 + 1, 0, none⟩), undef, undef, undef, undef, undef, undef, undef, undef, undef, undef, .agg (ks a), undef, .agg (ks b), undef, .agg (ks c), undef, undef, undef, undef, undef, undef, undef, undef, undef, undef, undef, undef, undef, undef, undef, undef, undef, undef, undef, undef, undef, undef, undef, undef, undef, undef, undef, undef, undef, undef, undef, undef, undef, undef, undef, undef, undef, undef, undef, undef, undef, undef, undef, undef, undef, undef, undef, undef, undef, undef, undef, undef, undef, undef, undef, undef, undef, undef, undef, undef, undef, undef, undef, undef], defers := [] } W := by
        as_aux_lemma =>
          clear st0_78 st0_68 st0_67 st1_8 st1_7 st1_6 st2_ st0_678 st1_78 st1_68 st1_67 st2_8 st2_7 st2_6 st3_ st1_678 st2_78 st2_68 st2_67 st3_8 st3_7 st3_6 st2_678 st3_78 st3_68 st3_67 st3_678
          intro W hHeld
          rw [← hops]
          refine wpAnyH_ready (rs := [1, 6, 7, 8]) (by kernel_rfl) (by simp) (AllReadyH.cons rfl (fun K hK => ?_) (AllReadyH.cons rfl (fun K hK => ?_) (AllReadyH.cons rfl (fun K hK => ?_) (AllReadyH.cons rfl (fun K hK => ?_) AllReadyH.nil))))
          · have h0 := hHeld
            clear hHeld
            try simp only [List.getElem_toArray, List.getElem_cons_succ, List.getElem_cons_zero]
            have H0 := Lib.hid h0
            clear h0
            go_simp
            go_at_call 53
            refine (rof_any a _ HA.out).mono ?_
            rintro e vv ⟨rfl, hb⟩
            have h1 := H0.out.ext hb
            clear hb H0
            go_wp2_with (fail)
            refine hK.out _ _ h1 (fun hHeld => ?_)
            clear hK K h1
            try simp only [Act.put, List.getElem_toArray, List.getElem_cons_succ, List.getElem_cons_zero, List.setIfInBounds_toArray, List.set_cons_zero, List.set_cons_succ]
            refine wpAnyH_cast (n' := 8) (l' := #[true, true, true, false, true, false, false, false, false, false, false, false]) (by kernel_rfl) (by kernel_rfl) ?_
            have hh := st1_ _ hHeld
            rw [← hops] at hh
            exact hh
          · have h0 := hHeld
            clear hHeld
            try simp only [List.getElem_toArray, List.getElem_cons_succ, List.getElem_cons_zero]
            obtain ⟨kz, hg⟩ := Fn.fresh h0 33 #[.int .u64 0, .int .u64 0, .int .u64 0, .int .u64 0, .int .u64 0, .int .u64 0, .int .u64 0, .int .u64 0, .int .u64 0, .int .u64 0, .int .u64 0, .int .u64 0, .int .u64 0, .int .u64 0, .int .u64 0, .int .u64 0]
            have KZ := Lib.hid kz
            have HG := Lib.hid hg
            have H0 := Lib.hid h0
            clear kz hg h0
            go_simp
            refine hK.out _ _ (Fn.pass H0.out _) (fun hHeld => ?_)
            clear hK K H0
            try simp only [Act.put, List.getElem_toArray, List.getElem_cons_succ, List.getElem_cons_zero, List.setIfInBounds_toArray, List.set_cons_zero, List.set_cons_succ]
            have k6 := KZ.out
            have z6 := HG.out
            refine wpAnyH_cast (n' := 8) (l' := #[true, false, true, false, true, false, true, false, false, false, false, false]) (by kernel_rfl) (by kernel_rfl) ?_
            have hh := st0_6 _ _ hHeld k6 z6
            rw [← hops] at hh
            exact hh
          · have h0 := hHeld
            clear hHeld
            try simp only [List.getElem_toArray, List.getElem_cons_succ, List.getElem_cons_zero]
            obtain ⟨kz, hg⟩ := Fn.fresh h0 33 #[.int .u64 0, .int .u64 0, .int .u64 0, .int .u64 0, .int .u64 0, .int .u64 0, .int .u64 0, .int .u64 0, .int .u64 0, .int .u64 0, .int .u64 0, .int .u64 0, .int .u64 0, .int .u64 0, .int .u64 0, .int .u64 0]
            have KZ := Lib.hid kz
            have HG := Lib.hid hg
            have H0 := Lib.hid h0
            clear kz hg h0
            go_simp
            refine hK.out _ _ (Fn.pass H0.out _) (fun hHeld => ?_)
            clear hK K H0
            try simp only [Act.put, List.getElem_toArray, List.getElem_cons_succ, List.getElem_cons_zero, List.setIfInBounds_toArray, List.set_cons_zero, List.set_cons_succ]
            have k7 := KZ.out
            have z7 := HG.out
            refine wpAnyH_cast (n' := 8) (l' := #[true, false, true, false, true, false, false, true, false, false, false, false]) (by kernel_rfl) (by kernel_rfl) ?_
            have hh := st0_7 _ _ hHeld k7 z7
            rw [← hops] at hh
            exact hh
          · have h0 := hHeld
            clear hHeld
            try simp only [List.getElem_toArray, List.getElem_cons_succ, List.getElem_cons_zero]
            obtain ⟨kz, hg⟩ := Fn.fresh h0 33 #[.int .u64 0, .int .u64 0, .int .u64 0, .int .u64 0, .int .u64 0, .int .u64 0, .int .u64 0, .int .u64 0, .int .u64 0, .int .u64 0, .int .u64 0, .int .u64 0, .int .u64 0, .int .u64 0, .int .u64 0, .int .u64 0]
            have KZ := Lib.hid kz
            have HG := Lib.hid hg
            have H0 := Lib.hid h0
            clear kz hg h0
            go_simp
            refine hK.out _ _ (Fn.pass H0.out _) (fun hHeld => ?_)
            clear hK K H0
            try simp only [Act.put, List.getElem_toArray, List.getElem_cons_succ, List.getElem_cons_zero, List.setIfInBounds_toArray, List.set_cons_zero, List.set_cons_succ]
            have k8 := KZ.out
            have z8 := HG.out
            refine wpAnyH_cast (n' := 8) (l' := #[true, false, true, false, true, false, false, false, true, false, false, false]) (by kernel_rfl) (by kernel_rfl) ?_
            have hh := st0_8 _ _ hHeld k8 z8
            rw [← hops] at hh
            exact hh
      refine wpAnyH_cast (n' := 9) (l' := #[true, false, true, false, true, false, false, false, false, false, false, false]) (by kernel_rfl) (by kernel_rfl) ?_
      exact st0_ _ hHeld
  case rest =>
    as_aux_lemma =>
      obtain ⟨g7, g8, g9, rfl, rfl, rfl, k7, k8, k9, hb⟩ := hcut
      have hf2 := ((((HF.out.ext hb).more k7).more k8).more k9).sub (L' := [(g9, 33, ds c), (g8, 33, ds b), (g7, 33, ds a)]) (R' := [(w.heap.size + 1 + 1 + 1, 23, 32)]) (by simp) (by simp)
      clear HF hb
      have m7 := k7.lt
      have m8 := k8.lt
      have m9 := k9.lt
      clear k7 k8 k9
      have hsz := hf2.size
      have hf3 := hf2.row (cs64 (List.replicate 33 0)) 24 (g := wc.heap.size) rfl
      have hres : w.heap.size + 1 + 1 + 1 < wc.heap.size := by obtain ⟨cs, _, k⟩ := hf2.old (g := w.heap.size + 1 + 1 + 1) (t := 23) (n := 32) (by simp); exact k.lt
      have hcol := col_start 33 a b c
      have HF := Lib.hid hf3
      have HCOL := Lib.hid hcol
      have hmk2 := hmk wc
      rw [show ((33 : Nat) : Int) = 33 from rfl] at hmk2
      clear hf2 hf3 hcol hmk
      go_wp2_with (fail)
      clear hmk2
      generalize hgd : wc.heap.size = gd at *
      clear hgd
      go_loopw [11] (fun i wr => ∃ (j : Nat) (l : List Nat), j ≤ 16 ∧ i = .int .i64 j ∧ ColAt 33 a b c j l ∧ Fr w wr [(gd, 24, cs64 l), (g9, 33, ds c), (g8, 33, ds b), (g7, 33, ds a)] [(w.heap.size + 1 + 1 + 1, 23, 32)]) (fun i _ => 16 - (intOf i).toNat)
      case atStart => exact ⟨0, _, by omega, rfl, HCOL.out, HF.out⟩
      case round =>
        obtain ⟨j, l, hj, rfl, hC, hF⟩ := hrel
        clear HF HCOL
        by_cases hlt : j < 16
        · have hll := hC.1
          have hD := hF.get (g := gd) (t := 24) (cs := cs64 l) (by simp)
          have hZ := hF.get (g := g9) (t := 33) (cs := ds c) (by simp)
          have cd : wr.cell? ⟨gd, j, none⟩ = some (.int .u64 ((l.getD j 0 : Nat) : Int)) := by rw [hD.cell, cs64_get _ (by omega)]
          have cz : wr.cell? ⟨g9, j, none⟩ = some (.int .u64 ((c / 65536 ^ j % 65536 : Nat) : Int)) := by rw [hZ.cell, ds_get _ hlt]
          have hf := hD.frozen j
          have hin := col_in (by omega) hC
          have hbd := hC.2.2 j
          have hcl : c / 65536 ^ j % 65536 < 65536 := Nat.mod_lt _ (by omega)
          have hst := cs64_set l j (l.getD j 0 + c / 65536 ^ j % 65536)
          have HST := Lib.hid hst
          have HIN := Lib.hid hin
          have HF := Lib.hid hF
          clear hst hin hF hC hD hZ
          have j33 : (j : Int) < 33 := by omega
          have hsum : IntKind.u64.wrap (((l.getD j 0 : Nat) : Int) + ((c / 65536 ^ j % 65536 : Nat) : Int)) = ((l.getD j 0 + c / 65536 ^ j % 65536 : Nat) : Int) := by rw [IntKind.wrap_u64]; omega
          generalize l.getD j 0 = dj at *
          generalize c / 65536 ^ j % 65536 = cj at *
          obtain ⟨sj, hsj⟩ : ∃ sj, sj = dj + cj := ⟨_, rfl⟩
          rw [← hsj] at hsum HST HIN
          clear hbd hcl hsj
          go_wp2_with (fail)
          have hne : gd ≠ g9 := by have := HF.out; omega
          refine wp_region_held_drew (S := fun W => W.cell? ⟨g9, j, none⟩ = some (.int .u64 (cj : Int))) (by kernel_rfl) ?_ (fun hHeld => ?_)
          · exact cz
          refine wpAnyH_take (i := 0) (v := ?_) rfl (by kernel_rfl) (by kernel_rfl) (by kernel_rfl) (fun _ _ _ h => h) (Or.inl ⟨by rfl, ?_⟩) hHeld ?_
          rotate_left
          · (intro W hSw; (try dsimp only at hSw); (try simp only [List.getElem_toArray, List.getElem_cons_succ, List.getElem_cons_zero]); go_simp; try with_reducible rfl)
          try simp only [Act.put, List.getElem_toArray, List.getElem_cons_succ, List.getElem_cons_zero, List.setIfInBounds_toArray, List.set_cons_zero, List.set_cons_succ]
          refine wpAnyH_take (i := 1) (v := ?_) rfl (by kernel_rfl) (by kernel_rfl) (by kernel_rfl) (fun _ _ _ h => h) (Or.inl ⟨by rfl, ?_⟩) hHeld ?_
          rotate_left
          · (intro W hSw; (try dsimp only at hSw); (try simp only [List.getElem_toArray, List.getElem_cons_succ, List.getElem_cons_zero]); go_simp; try with_reducible rfl)
          try simp only [Act.put, List.getElem_toArray, List.getElem_cons_succ, List.getElem_cons_zero, List.setIfInBounds_toArray, List.set_cons_zero, List.set_cons_succ]
          refine wpAnyH_take (i := 2) (v := ?_) rfl (by kernel_rfl) (by kernel_rfl) (by kernel_rfl) (fun _ _ _ h => h) (Or.inl ⟨by rfl, ?_⟩) hHeld ?_
          rotate_left
          · (intro W hSw; (try dsimp only at hSw); (try simp only [List.getElem_toArray, List.getElem_cons_succ, List.getElem_cons_zero]); go_simp; try with_reducible rfl)
          try simp only [Act.put, List.getElem_toArray, List.getElem_cons_succ, List.getElem_cons_zero, List.setIfInBounds_toArray, List.set_cons_zero, List.set_cons_succ]
          refine wpAnyH_take (i := 3) (v := ?_) rfl (by kernel_rfl) (by kernel_rfl) (by kernel_rfl) (fun _ _ _ h => h) (Or.inl ⟨by rfl, ?_⟩) hHeld ?_
          rotate_left
          · (intro W hSw; (try dsimp only at hSw); (try simp only [List.getElem_toArray, List.getElem_cons_succ, List.getElem_cons_zero]); go_simp; try with_reducible rfl)
          try simp only [Act.put, List.getElem_toArray, List.getElem_cons_succ, List.getElem_cons_zero, List.setIfInBounds_toArray, List.set_cons_zero, List.set_cons_succ]
          refine wpAnyH_take (i := 4) (v := ?_) rfl (by kernel_rfl) (by kernel_rfl) (by kernel_rfl) (fun _ _ _ h => h) (Or.inl ⟨by rfl, ?_⟩) hHeld ?_
          rotate_left
          · (intro W hSw; (try dsimp only at hSw); (try simp only [List.getElem_toArray, List.getElem_cons_succ, List.getElem_cons_zero]); go_simp; try with_reducible rfl)
          try simp only [Act.put, List.getElem_toArray, List.getElem_cons_succ, List.getElem_cons_zero, List.setIfInBounds_toArray, List.set_cons_zero, List.set_cons_succ]
          refine wpAnyH_take (i := 6) (v := ?_) rfl (by kernel_rfl) (by kernel_rfl) (by kernel_rfl) (fun _ _ _ h => h) (Or.inl ⟨by rfl, ?_⟩) hHeld ?_
          rotate_left
          · (intro W hSw; (try dsimp only at hSw); (try simp only [List.getElem_toArray, List.getElem_cons_succ, List.getElem_cons_zero]); go_simp; try with_reducible rfl)
          try simp only [Act.put, List.getElem_toArray, List.getElem_cons_succ, List.getElem_cons_zero, List.setIfInBounds_toArray, List.set_cons_zero, List.set_cons_succ]
          refine wpAnyH_take (i := 7) (v := ?_) rfl (by kernel_rfl) (by kernel_rfl) (by kernel_rfl) (fun _ _ _ h => h) (Or.inl ⟨by rfl, ?_⟩) hHeld ?_
          rotate_left
          · (intro W hSw; (try dsimp only at hSw); (try simp only [List.getElem_toArray, List.getElem_cons_succ, List.getElem_cons_zero]); go_simp; try with_reducible rfl)
          try simp only [Act.put, List.getElem_toArray, List.getElem_cons_succ, List.getElem_cons_zero, List.setIfInBounds_toArray, List.set_cons_zero, List.set_cons_succ]
          refine wpAnyH_take (i := 8) (v := ?_) rfl (by kernel_rfl) (by kernel_rfl) (by kernel_rfl) (fun _ _ _ h => h) (Or.inl ⟨by rfl, ?_⟩) hHeld ?_
          rotate_left
          · (intro W hSw; (try dsimp only at hSw); (try simp only [List.getElem_toArray, List.getElem_cons_succ, List.getElem_cons_zero]); go_simp; try with_reducible rfl)
          try simp only [Act.put, List.getElem_toArray, List.getElem_cons_succ, List.getElem_cons_zero, List.setIfInBounds_toArray, List.set_cons_zero, List.set_cons_succ]
          refine wpAnyH_ready (rs := [5]) (by kernel_rfl) (by simp) (AllReadyH.cons rfl (fun K hK => ?_) AllReadyH.nil)
          have h0 := hHeld
          clear hHeld
          try simp only [List.getElem_toArray, List.getElem_cons_succ, List.getElem_cons_zero]
          go_simp
          refine hK.out _ _ (h0) (fun hHeld => ?_)
          clear hK K h0
          try simp only [Act.put, List.getElem_toArray, List.getElem_cons_succ, List.getElem_cons_zero, List.setIfInBounds_toArray, List.set_cons_zero, List.set_cons_succ]
          refine wpAnyH_take (i := 9) (v := ?_) rfl (by kernel_rfl) (by kernel_rfl) (by kernel_rfl) (fun _ _ _ h => h) (Or.inl ⟨by rfl, ?_⟩) hHeld ?_
          rotate_left
          · (intro W hSw; (try dsimp only at hSw); (try simp only [List.getElem_toArray, List.getElem_cons_succ, List.getElem_cons_zero]); go_simp; try with_reducible rfl)
          try simp only [Act.put, List.getElem_toArray, List.getElem_cons_succ, List.getElem_cons_zero, List.setIfInBounds_toArray, List.set_cons_zero, List.set_cons_succ]
          refine wpAnyH_take (i := 10) (v := ?_) rfl (by kernel_rfl) (by kernel_rfl) (by kernel_rfl) (fun _ _ _ h => h) (Or.inl ⟨by rfl, ?_⟩) hHeld ?_
          rotate_left
          · (intro W hSw; (try dsimp only at hSw); (try simp only [List.getElem_toArray, List.getElem_cons_succ, List.getElem_cons_zero]); go_simp; try with_reducible rfl)
          try simp only [Act.put, List.getElem_toArray, List.getElem_cons_succ, List.getElem_cons_zero, List.setIfInBounds_toArray, List.set_cons_zero, List.set_cons_succ]
          refine wpAnyH_ready (rs := [11]) (by kernel_rfl) (by simp) (AllReadyH.cons rfl (fun K hK => ?_) AllReadyH.nil)
          have h0 := hHeld
          clear hHeld
          try simp only [List.getElem_toArray, List.getElem_cons_succ, List.getElem_cons_zero]
          go_simp
          refine hK.out _ _ ((World.cell?_setCell_far _ _ _ _ (by simp <;> omega)).trans h0) (fun hHeld => ?_)
          clear hK K h0
          try simp only [Act.put, List.getElem_toArray, List.getElem_cons_succ, List.getElem_cons_zero, List.setIfInBounds_toArray, List.set_cons_zero, List.set_cons_succ]
          refine wpAnyH_done (by kernel_rfl) ?_ _
          have HF2 := HF.out.drew.setHead (by simp <;> omega) (by simp <;> omega) j (.int .u64 (sj : Int)) (by omega)
          rw [HST.out] at HF2
          have HF3 := Lib.hid HF2
          clear HF2 HF HST cd cz hf hsum
          go_wp2_with (fail)
          try rw [decide_eq_true (show (j : Int) < 16 by omega)]
          obtain ⟨V, hV⟩ : ∃ V, V = c % 65536 ^ (j + 1) + a % 65536 ^ j * b := ⟨_, rfl⟩
          rw [← hV] at HIN
          have HV := Lib.hid hV
          clear hV
          go_loopw [12] (fun i wq => ∃ (k : Nat) (l : List Nat), k ≤ 16 ∧ i = .int .i64 k ∧ ColIn 33 a b V j k l ∧ Fr w wq [(gd, 24, cs64 l), (g9, 33, ds c), (g8, 33, ds b), (g7, 33, ds a)] [(w.heap.size + 1 + 1 + 1, 23, 32)]) (fun i _ => 16 - (intOf i).toNat)
          case atStart => exact ⟨0, _, by omega, rfl, HIN.out, HF3.out⟩
          case round =>
            obtain ⟨k, m, hk, rfl, hC, hF⟩ := hrel
            clear HF3 HIN
            by_cases hkt : k < 16
            · have hml := hC.1
              have hD := hF.get (g := gd) (t := 24) (cs := cs64 m) (by simp)
              have hX := hF.get (g := g7) (t := 33) (cs := ds a) (by simp)
              have hY := hF.get (g := g8) (t := 33) (cs := ds b) (by simp)
              have cd : wr.cell? ⟨gd, j + k, none⟩ = some (.int .u64 ((m.getD (j + k) 0 : Nat) : Int)) := by rw [hD.cell, cs64_get _ (by omega)]
              have cx : wr.cell? ⟨g7, j, none⟩ = some (.int .u64 ((a / 65536 ^ j % 65536 : Nat) : Int)) := by rw [hX.cell, ds_get _ hlt]
              have cy : wr.cell? ⟨g8, k, none⟩ = some (.int .u64 ((b / 65536 ^ k % 65536 : Nat) : Int)) := by rw [hY.cell, ds_get _ hkt]
              have hf := hD.frozen (j + k)
              obtain ⟨hin, hbd, hpl⟩ := col_step (k := k) (by omega) hC
              have hst := cs64_set m (j + k) (m.getD (j + k) 0 + a / 65536 ^ j % 65536 * (b / 65536 ^ k % 65536))
              have HST := Lib.hid hst
              have HIN := Lib.hid hin
              have HF := Lib.hid hF
              clear hst hin hF hC hD hX hY
              have hxy : IntKind.u64.wrap (((a / 65536 ^ j % 65536 : Nat) : Int) * ((b / 65536 ^ k % 65536 : Nat) : Int)) = ((a / 65536 ^ j % 65536 * (b / 65536 ^ k % 65536) : Nat) : Int) := by rw [← Int.natCast_mul, IntKind.wrap_u64]; omega
              generalize m.getD (j + k) 0 = dj at *
              generalize a / 65536 ^ j % 65536 = x at *
              generalize b / 65536 ^ k % 65536 = y at *
              obtain ⟨p, hp⟩ : ∃ p, p = x * y := ⟨_, rfl⟩
              rw [← hp] at hxy HST HIN hpl
              clear hp
              obtain ⟨sj, hsj⟩ : ∃ sj, sj = dj + p := ⟨_, rfl⟩
              rw [← hsj] at HST HIN
              have hsum : IntKind.u64.wrap ((dj : Int) + (p : Int)) = (sj : Int) := by rw [IntKind.wrap_u64]; omega
              clear hbd hpl hsj
              have b0 : IntKind.i64.wrap ((j : Int) + (k : Int)) = (j : Int) + (k : Int) := by rw [IntKind.wrap_i64]; omega
              have b1 : (0 : Int) ≤ (j : Int) + (k : Int) := by omega
              have b2 : (j : Int) + (k : Int) < 33 := by omega
              have b3 : ((j : Int) + (k : Int)).toNat = j + k := by omega
              have n7 : gd ≠ g7 := by omega
              have n8 : gd ≠ g8 := by omega
              go_wp2_with (fail)
              refine wp_region_held_drew (S := fun W => W.cell? ⟨g7, j, none⟩ = some (.int .u64 (x : Int)) ∧ W.cell? ⟨g8, k, none⟩ = some (.int .u64 (y : Int))) (by kernel_rfl) ?_ (fun hHeld => ?_)
              · exact ⟨cx, cy⟩
              refine wpAnyH_take (i := 0) (v := ?_) rfl (by kernel_rfl) (by kernel_rfl) (by kernel_rfl) (fun _ _ _ h => h) (Or.inl ⟨by rfl, ?_⟩) hHeld ?_
              rotate_left
              · (intro W hSw; (try dsimp only at hSw); (try simp only [List.getElem_toArray, List.getElem_cons_succ, List.getElem_cons_zero]); go_simp; try with_reducible rfl)
              try simp only [Act.put, List.getElem_toArray, List.getElem_cons_succ, List.getElem_cons_zero, List.setIfInBounds_toArray, List.set_cons_zero, List.set_cons_succ]
              refine wpAnyH_take (i := 1) (v := ?_) rfl (by kernel_rfl) (by kernel_rfl) (by kernel_rfl) (fun _ _ _ h => h) (Or.inl ⟨by rfl, ?_⟩) hHeld ?_
              rotate_left
              · (intro W hSw; (try dsimp only at hSw); (try simp only [List.getElem_toArray, List.getElem_cons_succ, List.getElem_cons_zero]); go_simp; try with_reducible rfl)
              try simp only [Act.put, List.getElem_toArray, List.getElem_cons_succ, List.getElem_cons_zero, List.setIfInBounds_toArray, List.set_cons_zero, List.set_cons_succ]
              refine wpAnyH_take (i := 2) (v := ?_) rfl (by kernel_rfl) (by kernel_rfl) (by kernel_rfl) (fun _ _ _ h => h) (Or.inl ⟨by rfl, ?_⟩) hHeld ?_
              rotate_left
              · (intro W hSw; (try dsimp only at hSw); (try simp only [List.getElem_toArray, List.getElem_cons_succ, List.getElem_cons_zero]); go_simp; try with_reducible rfl)
              try simp only [Act.put, List.getElem_toArray, List.getElem_cons_succ, List.getElem_cons_zero, List.setIfInBounds_toArray, List.set_cons_zero, List.set_cons_succ]
              refine wpAnyH_take (i := 3) (v := ?_) rfl (by kernel_rfl) (by kernel_rfl) (by kernel_rfl) (fun _ _ _ h => h) (Or.inl ⟨by rfl, ?_⟩) hHeld ?_
              rotate_left
              · (intro W hSw; (try dsimp only at hSw); (try simp only [List.getElem_toArray, List.getElem_cons_succ, List.getElem_cons_zero]); go_simp; try with_reducible rfl)
              try simp only [Act.put, List.getElem_toArray, List.getElem_cons_succ, List.getElem_cons_zero, List.setIfInBounds_toArray, List.set_cons_zero, List.set_cons_succ]
              refine wpAnyH_take (i := 4) (v := ?_) rfl (by kernel_rfl) (by kernel_rfl) (by kernel_rfl) (fun _ _ _ h => h) (Or.inl ⟨by rfl, ?_⟩) hHeld ?_
              rotate_left
              · (intro W hSw; (try dsimp only at hSw); (try simp only [List.getElem_toArray, List.getElem_cons_succ, List.getElem_cons_zero]); go_simp; try with_reducible rfl)
              try simp only [Act.put, List.getElem_toArray, List.getElem_cons_succ, List.getElem_cons_zero, List.setIfInBounds_toArray, List.set_cons_zero, List.set_cons_succ]
              refine wpAnyH_take (i := 5) (v := ?_) rfl (by kernel_rfl) (by kernel_rfl) (by kernel_rfl) (fun _ _ _ h => h) (Or.inl ⟨by rfl, ?_⟩) hHeld ?_
              rotate_left
              · (intro W hSw; (try dsimp only at hSw); (try simp only [List.getElem_toArray, List.getElem_cons_succ, List.getElem_cons_zero]); go_simp; try with_reducible rfl)
              try simp only [Act.put, List.getElem_toArray, List.getElem_cons_succ, List.getElem_cons_zero, List.setIfInBounds_toArray, List.set_cons_zero, List.set_cons_succ]
              refine wpAnyH_take (i := 6) (v := ?_) rfl (by kernel_rfl) (by kernel_rfl) (by kernel_rfl) (fun _ _ _ h => h) (Or.inl ⟨by rfl, ?_⟩) hHeld ?_
              rotate_left
              · (intro W hSw; (try dsimp only at hSw); (try simp only [List.getElem_toArray, List.getElem_cons_succ, List.getElem_cons_zero]); go_simp; try with_reducible rfl)
              try simp only [Act.put, List.getElem_toArray, List.getElem_cons_succ, List.getElem_cons_zero, List.setIfInBounds_toArray, List.set_cons_zero, List.set_cons_succ]
              refine wpAnyH_take (i := 7) (v := ?_) rfl (by kernel_rfl) (by kernel_rfl) (by kernel_rfl) (fun _ _ _ h => h) (Or.inl ⟨by rfl, ?_⟩) hHeld ?_
              rotate_left
              · (intro W hSw; (try dsimp only at hSw); (try simp only [List.getElem_toArray, List.getElem_cons_succ, List.getElem_cons_zero]); go_simp; try with_reducible rfl)
              try simp only [Act.put, List.getElem_toArray, List.getElem_cons_succ, List.getElem_cons_zero, List.setIfInBounds_toArray, List.set_cons_zero, List.set_cons_succ]
              refine wpAnyH_take (i := 8) (v := ?_) rfl (by kernel_rfl) (by kernel_rfl) (by kernel_rfl) (fun _ _ _ h => h) (Or.inl ⟨by rfl, ?_⟩) hHeld ?_
              rotate_left
              · (intro W hSw; (try dsimp only at hSw); (try simp only [List.getElem_toArray, List.getElem_cons_succ, List.getElem_cons_zero]); go_simp; try with_reducible rfl)
              try simp only [Act.put, List.getElem_toArray, List.getElem_cons_succ, List.getElem_cons_zero, List.setIfInBounds_toArray, List.set_cons_zero, List.set_cons_succ]
              refine wpAnyH_take (i := 10) (v := ?_) rfl (by kernel_rfl) (by kernel_rfl) (by kernel_rfl) (fun _ _ _ h => h) (Or.inl ⟨by rfl, ?_⟩) hHeld ?_
              rotate_left
              · (intro W hSw; (try dsimp only at hSw); (try simp only [List.getElem_toArray, List.getElem_cons_succ, List.getElem_cons_zero]); go_simp; try with_reducible rfl)
              try simp only [Act.put, List.getElem_toArray, List.getElem_cons_succ, List.getElem_cons_zero, List.setIfInBounds_toArray, List.set_cons_zero, List.set_cons_succ]
              refine wpAnyH_take (i := 11) (v := ?_) rfl (by kernel_rfl) (by kernel_rfl) (by kernel_rfl) (fun _ _ _ h => h) (Or.inl ⟨by rfl, ?_⟩) hHeld ?_
              rotate_left
              · (intro W hSw; (try dsimp only at hSw); (try simp only [List.getElem_toArray, List.getElem_cons_succ, List.getElem_cons_zero]); go_simp; try with_reducible rfl)
              try simp only [Act.put, List.getElem_toArray, List.getElem_cons_succ, List.getElem_cons_zero, List.setIfInBounds_toArray, List.set_cons_zero, List.set_cons_succ]
              refine wpAnyH_take (i := 12) (v := ?_) rfl (by kernel_rfl) (by kernel_rfl) (by kernel_rfl) (fun _ _ _ h => h) (Or.inl ⟨by rfl, ?_⟩) hHeld ?_
              rotate_left
              · (intro W hSw; (try dsimp only at hSw); (try simp only [List.getElem_toArray, List.getElem_cons_succ, List.getElem_cons_zero]); go_simp; try with_reducible rfl)
              try simp only [Act.put, List.getElem_toArray, List.getElem_cons_succ, List.getElem_cons_zero, List.setIfInBounds_toArray, List.set_cons_zero, List.set_cons_succ]
              refine wpAnyH_take (i := 13) (v := ?_) rfl (by kernel_rfl) (by kernel_rfl) (by kernel_rfl) (fun _ _ _ h => h) (Or.inl ⟨by rfl, ?_⟩) hHeld ?_
              rotate_left
              · (intro W hSw; (try dsimp only at hSw); (try simp only [List.getElem_toArray, List.getElem_cons_succ, List.getElem_cons_zero]); go_simp; try with_reducible rfl)
              try simp only [Act.put, List.getElem_toArray, List.getElem_cons_succ, List.getElem_cons_zero, List.setIfInBounds_toArray, List.set_cons_zero, List.set_cons_succ]
              refine wpAnyH_take (i := 14) (v := ?_) rfl (by kernel_rfl) (by kernel_rfl) (by kernel_rfl) (fun _ _ _ h => h) (Or.inl ⟨by rfl, ?_⟩) hHeld ?_
              rotate_left
              · (intro W hSw; (try dsimp only at hSw); (try simp only [List.getElem_toArray, List.getElem_cons_succ, List.getElem_cons_zero]); go_simp; try with_reducible rfl)
              try simp only [Act.put, List.getElem_toArray, List.getElem_cons_succ, List.getElem_cons_zero, List.setIfInBounds_toArray, List.set_cons_zero, List.set_cons_succ]
              refine wpAnyH_take (i := 15) (v := ?_) rfl (by kernel_rfl) (by kernel_rfl) (by kernel_rfl) (fun _ _ _ h => h) (Or.inl ⟨by rfl, ?_⟩) hHeld ?_
              rotate_left
              · (intro W hSw; (try dsimp only at hSw); (try simp only [List.getElem_toArray, List.getElem_cons_succ, List.getElem_cons_zero]); go_simp; try with_reducible rfl)
              try simp only [Act.put, List.getElem_toArray, List.getElem_cons_succ, List.getElem_cons_zero, List.setIfInBounds_toArray, List.set_cons_zero, List.set_cons_succ]
              refine wpAnyH_take (i := 16) (v := ?_) rfl (by kernel_rfl) (by kernel_rfl) (by kernel_rfl) (fun _ _ _ h => h) (Or.inl ⟨by rfl, ?_⟩) hHeld ?_
              rotate_left
              · (intro W hSw; (try dsimp only at hSw); (try simp only [List.getElem_toArray, List.getElem_cons_succ, List.getElem_cons_zero]); go_simp; try with_reducible rfl)
              try simp only [Act.put, List.getElem_toArray, List.getElem_cons_succ, List.getElem_cons_zero, List.setIfInBounds_toArray, List.set_cons_zero, List.set_cons_succ]
              refine wpAnyH_ready (rs := [9]) (by kernel_rfl) (by simp) (AllReadyH.cons rfl (fun K hK => ?_) AllReadyH.nil)
              have h0 := hHeld
              clear hHeld
              try simp only [List.getElem_toArray, List.getElem_cons_succ, List.getElem_cons_zero]
              go_simp
              refine hK.out _ _ (h0) (fun hHeld => ?_)
              clear hK K h0
              try simp only [Act.put, List.getElem_toArray, List.getElem_cons_succ, List.getElem_cons_zero, List.setIfInBounds_toArray, List.set_cons_zero, List.set_cons_succ]
              refine wpAnyH_take (i := 17) (v := ?_) rfl (by kernel_rfl) (by kernel_rfl) (by kernel_rfl) (fun _ _ _ h => h) (Or.inl ⟨by rfl, ?_⟩) hHeld ?_
              rotate_left
              · (intro W hSw; (try dsimp only at hSw); (try simp only [List.getElem_toArray, List.getElem_cons_succ, List.getElem_cons_zero]); go_simp; try with_reducible rfl)
              try simp only [Act.put, List.getElem_toArray, List.getElem_cons_succ, List.getElem_cons_zero, List.setIfInBounds_toArray, List.set_cons_zero, List.set_cons_succ]
              refine wpAnyH_take (i := 18) (v := ?_) rfl (by kernel_rfl) (by kernel_rfl) (by kernel_rfl) (fun _ _ _ h => h) (Or.inl ⟨by rfl, ?_⟩) hHeld ?_
              rotate_left
              · (intro W hSw; (try dsimp only at hSw); (try simp only [List.getElem_toArray, List.getElem_cons_succ, List.getElem_cons_zero]); go_simp; try with_reducible rfl)
              try simp only [Act.put, List.getElem_toArray, List.getElem_cons_succ, List.getElem_cons_zero, List.setIfInBounds_toArray, List.set_cons_zero, List.set_cons_succ]
              refine wpAnyH_ready (rs := [19]) (by kernel_rfl) (by simp) (AllReadyH.cons rfl (fun K hK => ?_) AllReadyH.nil)
              have h0 := hHeld
              clear hHeld
              try simp only [List.getElem_toArray, List.getElem_cons_succ, List.getElem_cons_zero]
              go_simp
              refine hK.out _ _ (⟨(World.cell?_setCell_far _ _ _ _ (by simp <;> omega)).trans h0.1, (World.cell?_setCell_far _ _ _ _ (by simp <;> omega)).trans h0.2⟩) (fun hHeld => ?_)
              clear hK K h0
              try simp only [Act.put, List.getElem_toArray, List.getElem_cons_succ, List.getElem_cons_zero, List.setIfInBounds_toArray, List.set_cons_zero, List.set_cons_succ]
              refine wpAnyH_done (by kernel_rfl) ?_ _
              go_wp2_with (fail)
              go_roundw
              case rel =>
                refine ⟨k + 1, _, by omega, by go_num, HIN.out, ?_⟩
                rw [← HST.out]
                exact HF.out.drew.setHead (by simp <;> omega) (by simp <;> omega) _ _ (by omega)
              case measure => simp [intOf] <;> omega
            · obtain rfl : k = 16 := by omega
              rw [HV.out] at hC
              have hat := col_end (by rw [d16]; exact HBB.out) hC
              have HAT := Lib.hid hat
              have HF := Lib.hid hF
              clear hat hC hF HV
              go_wp2_with (fail)
              go_roundw
              case rel => exact ⟨j + 1, m, by omega, by go_num, HAT.out, HF.out⟩
              case measure => simp [intOf] <;> omega
        · obtain rfl : j = 16 := by omega
          simp only [show ((16 : Nat) : Int) = 16 from rfl]
          have hTd : dval l = T := by rw [HT.out]; exact col_all (by rw [d16]; exact HA.out) (by rw [d16]; exact HC.out) hC
          have hll := hC.1
          have hbd := hC.2.2
          have hF2 := hF.sub (L' := [(gd, 24, cs64 l)]) (R' := [(w.heap.size + 1 + 1 + 1, 23, 32)]) (by simp) (by simp)
          have HF := Lib.hid hF2
          have HTD := Lib.hid hTd
          have hdw := (hF2.get (g := gd) (t := 24) (cs := cs64 l) (by simp)).lt
          clear hF hF2 hC hTd
          go_wp2_with (fail)
          obtain ⟨wb, hwb⟩ : ∃ wb : World, wb = wr := ⟨_, rfl⟩
          rw [← hwb] at HF hdw ⊢
          clear hwb
          have hsw := HF.out.size
          go_loopw [13, 14, 15] (fun v o i wq => ∃ j : Nat, j ≤ 33 ∧ i = .int .i64 j ∧ o = .int .u64 (ovr l j : Int) ∧ ovr l j ≤ 68800000000 ∧ OwnB wq wb.heap.size 5 v (kbl T (2 * j)) ∧ wb.heap.size ≤ wq.heap.size ∧ Fr w wq [(gd, 24, cs64 l)] [(w.heap.size + 1 + 1 + 1, 23, 32)]) (fun _ _ i _ => 33 - (intOf i).toNat)
          case atStart => exact ⟨0, by omega, rfl, by rw [ovr_zero]; rfl, by rw [ovr_zero]; omega, OwnB.nil _ _ _, Nat.le_refl _, HF.out⟩
          case round =>
            obtain ⟨j, hj, rfl, rfl, ho, hown, hwq, hF⟩ := hrel
            clear HF
            by_cases hlt : j < 33
            · have hD := hF.get (g := gd) (t := 24) (cs := cs64 l) (by simp)
              have cd : wr.cell? ⟨gd, j, none⟩ = some (.int .u64 ((l.getD j 0 : Nat) : Int)) := by rw [hD.cell, cs64_get _ (by omega)]
              have hdl := hbd j
              obtain ⟨n, hn⟩ : ∃ n, n = l.getD j 0 + ovr l j := ⟨_, rfl⟩
              have hdig := ovr_digit l j (by omega)
              have hov := ovr_step l j (by omega)
              rw [← hn] at hdig hov
              rw [HTD.out] at hdig
              have hk2 := kbl_two T j n hdig
              have hsum : IntKind.u64.wrap (((l.getD j 0 : Nat) : Int) + ((ovr l j : Nat) : Int)) = (n : Int) := by rw [IntKind.wrap_u64]; omega
              have hnl : n / 65536 ≤ 68800000000 := by omega
              have hu : (n : Int) % 256 = ((UInt8.ofNat (n % 256)).toNat : Int) := by rw [u8_nat (by omega)]; omega
              have hv : (n : Int) / 256 % 256 = ((UInt8.ofNat (n / 256 % 256)).toNat : Int) := by rw [u8_nat (by omega)]; omega
              obtain ⟨p, hp⟩ : ∃ p, p = UInt8.ofNat (n % 256) := ⟨_, rfl⟩
              obtain ⟨q, hq⟩ : ∃ q, q = UInt8.ofNat (n / 256 % 256) := ⟨_, rfl⟩
              rw [← hp] at hu hk2
              rw [← hq] at hv hk2
              obtain ⟨A9, n9, c9, rfl, hbs9, hlo9⟩ := hown.form
              have hbig : (kbl T (2 * j)).length + 2 ≤ 140737488355328 := by rw [kbl_len]; omega
              have j33 : (j : Int) < 33 := by omega
              have HOV := Lib.hid hov
              have HK2 := Lib.hid hk2
              have HU := Lib.hid hu
              have HV2 := Lib.hid hv
              have HBG := Lib.hid hbig
              have HNL := Lib.hid hnl
              have HF := Lib.hid hF
              clear hov hk2 hu hv hbig hnl hdig hn hp hq hF hD hdl ho hbs9
              generalize l.getD j 0 = dj at *
              generalize ovr l j = oj at *
              go_wp2_with (at_builtin; refine wpList_app_own rfl (.tmp 74) (.tmp 80) 87 rfl 5 Tryd.underlying87 info_u8 wb.heap.size (.slice A9 n9 c9) (kbl T (2 * j)) rfl (by exact hown.alloc _) (wr.heap.size + 1) 2 2 (some ⟨wr.heap.size, 0, none⟩) [p, q] rfl (by exact bs_newv2 wr 5 _ _ _ _ HU.out HV2.out) HBG.out (by simp <;> omega) ?_; intro v1 w1 hown1 hg1 hat1)
              go_roundw
              case rel =>
                refine ⟨j + 1, by omega, by go_num, by rw [← HOV.out, Int.natCast_ediv]; rfl, by rw [← HOV.out]; exact HNL.out, by rw [HK2.out]; exact hown1, by have := hg1.size; simp at this; omega, ?_⟩
                refine (HF.out.pass _).grow hg1 (fun p hp e => ?_) (fun p hp e => ?_) (fun g hg => by have := hlo9 g hg; omega)
                · have := hlo9 _ e.symm
                  simp at hp
                  subst hp
                  simp at this
                  omega
                · have := hlo9 _ e.symm
                  simp at hp
                  subst hp
                  simp at this
                  omega
              case measure => simp [intOf] <;> omega
            · obtain rfl : j = 33 := by omega
              obtain ⟨A9, n9, c9, rfl, hbs9, hlo9⟩ := hown.form
              have hln := hbs9.len
              rw [kbl_len] at hln
              subst hln
              have hT66 : T < 256 ^ 66 := by rw [HT.out]; exact H66.out
              have hred := fun W hl hB => rreduce_any A9 (2 * 33) c9 wr.heap.size T W hl hB (by omega) hT66
              rw [show T % LL = z by rw [HZ.out, HT.out]] at hred
              have HRED := Lib.hid hred
              have HF := Lib.hid hF
              clear hred hF hown hlo9 hT66
              go_wp2_with (fail)
              refine (HRED.out _ hbs9 (Nat.le_refl _)).mono ?_
              rintro e v2 ⟨rfl, hb⟩
              have hf := HF.out.ext hb
              obtain ⟨old, hold, kR⟩ := hf.old (g := w.heap.size + 1 + 1 + 1) (t := 23) (n := 32) (by simp)
              have kS := kR.setRow_same (ks z)
              have hB2 := below_setRow hf.below (show w.heap.size ≤ w.heap.size + 1 + 1 + 1 by omega) (ks z)
              have hold' : old.size = (ks z).size := by rw [hold, ks_size]
              have HS := Lib.hid kS
              have HB2 := Lib.hid hB2
              have HO := Lib.hid hold'
              clear hb hf kS hB2 hold hold' hbs9
              go_wp2_with (first | (refine wpList_store_row rfl 23 (.tmp 6) (.tmp 85) rfl (w.heap.size + 1 + 1 + 1) (ks z) rfl rfl 23 old kR (info_ks z) HO.out (ks_one _) ?_))
              exact key_end (g := w.heap.size + 1 + 1 + 1) rfl rfl rfl HS.out HB2.out
end Go.Proofs.YtcijaoihcckofaaDoor
namespace Go.Proofs.YtcijaoihcckofaaDoor
set_option linter.unusedVariables false
set_option linter.unusedSimpArgs false
set_option maxRecDepth 100000
open Go Go.RowKit
attribute [local irreducible] ev sv ks fx dv tv cv ds ptSet ptAdd ptMul rpAdd rpMul EE II TD BX BY BP Pt.add Pt.mul Pt.nil pbn LL PZ
theorem LL_pos : 0 < LL := by rw [LL_eq]; omega
theorem rmulAdd_nm {a b c z : Nat} (hz : z = (a * b + c) % LL) (ha : a < 115792089237316195423570985008687907853269984665640564039457584007913129639936) (hb : b < 115792089237316195423570985008687907853269984665640564039457584007913129639936) (hc : c < 115792089237316195423570985008687907853269984665640564039457584007913129639936) (w : World) : Calls Tryd.prog 31 #[.agg (ks a), .agg (ks b), .agg (ks c)] w (KeyPost z w) := by
  rw [hz]; exact rmulAdd_any a b c w ha hb hc
theorem mod_one {n z : Nat} (hz : z = (n * 1 + 0) % LL) : BP.mul n = BP.mul z := by
  rw [hz, Nat.mul_one, Nat.add_zero, Pt.mul_mod LL_mul]
theorem mul_LL {n : Nat} : (BP.mul n).mul LL = Pt.nil := by
  rw [Pt.mul_mul, Nat.mul_comm, ← Pt.mul_mul, LL_mul, Pt.nil_mul]
theorem mod_times {n t z : Nat} (hz : z = (n * t + 0) % LL) : (BP.mul n).mul t = BP.mul z := by
  rw [hz, Nat.add_zero, Pt.mul_mod LL_mul, Pt.mul_mul]
set_option maxHeartbeats 8000000 in
theorem law_order0 {n t : Nat} (hn : n < 115792089237316195423570985008687907853269984665640564039457584007913129639936) (ht : t < 256) (w : World) (hpg : PG w) : Calls Tryd.prog 7 #[.agg (ks n), .int .u8 ((t : Nat) : Int)] w (fun rr w' => rr = .returned (.bool true) ∧ Below w.heap.size w w') := by
  obtain ⟨z1, hz1⟩ : ∃ z : Nat, z = (n * 1 + 0) % LL := ⟨_, rfl⟩
  have lz1 : z1 < 115792089237316195423570985008687907853269984665640564039457584007913129639936 := by rw [hz1]; exact Nat.lt_trans (Nat.mod_lt _ LL_pos) LL_lt
  obtain ⟨z2, hz2⟩ : ∃ z : L4 PP, z = ptMul BE n 256 := ⟨_, rfl⟩
  have rz2 : RepS (Pt.mul BP n) z2 := by rw [hz2]; exact RepS.mul BE_rep hn
  obtain ⟨z3, hz3⟩ : ∃ z : L4 PP, z = ptMul BE z1 256 := ⟨_, rfl⟩
  have rz3 : RepS (Pt.mul BP z1) z3 := by rw [hz3]; exact RepS.mul BE_rep lz1
  obtain ⟨z4, hz4⟩ : ∃ z : L4 PP, z = ptMul z2 LL 256 := ⟨_, rfl⟩
  have rz4 : RepS (Pt.mul (Pt.mul BP n) LL) z4 := by rw [hz4]; exact RepS.mul rz2 LL_lt
  obtain ⟨z5, hz5⟩ : ∃ z : L4 PP, z = ptMul z2 t 256 := ⟨_, rfl⟩
  have rz5 : RepS (Pt.mul (Pt.mul BP n) t) z5 := by rw [hz5]; exact RepS.mul rz2 (by omega)
  obtain ⟨z6, hz6⟩ : ∃ z : Nat, z = (n * t + 0) % LL := ⟨_, rfl⟩
  have lz6 : z6 < 115792089237316195423570985008687907853269984665640564039457584007913129639936 := by rw [hz6]; exact Nat.lt_trans (Nat.mod_lt _ LL_pos) LL_lt
  obtain ⟨z7, hz7⟩ : ∃ z : L4 PP, z = ptMul BE z6 256 := ⟨_, rfl⟩
  have rz7 : RepS (Pt.mul BP z6) z7 := by rw [hz7]; exact RepS.mul BE_rep lz6
  refine calls_st (vs := [.agg (ks n), .int .u8 ((t : Nat) : Int)]) 44 Tryd.func7 rfl Tryd.ntmps7 rfl (fun a W H => ?_)
  replace H : St 44 w a W [(0, .agg (ks n)), (1, .int .u8 ((t : Nat) : Int))] [] := H
  refine wp_seq_k (fun K1 hK1 => ?_)
  refine rg_plain ?_
  refine pl_box rfl rfl (bx_keyr n) rfl rfl rfl rfl H ?_
  clear H a W
  intro g1 a W H
  refine pl_does (does_assign rfl rfl) rfl rfl rfl rfl H ?_
  clear H a W
  intro a W H
  refine pl_end ?_
  replace H : St 44 w a W [(4, .bool false), (2, .pointer (some ⟨g1, 0, none⟩)), (1, .int .u8 ((t : Nat) : Int))] [(g1, 23, ks n)] := H.pick [0, 1, 3] [0] rfl
  refine hK1 _ _ ?_
  clear hK1
  refine wp_seq_k (fun K2 hK2 => ?_)
  refine rg_plain ?_
  refine pl_new (news_of rfl al_ptZ) rfl rfl rfl rfl H ?_
  clear H a W
  intro g2 a W H
  refine pl_end ?_
  refine hK2 _ _ ?_
  clear hK2
  refine wp_seq_k (fun K3 hK3 => ?_)
  refine rg_plain ?_
  refine pl_does (does_call rfl ⟨_, Tryd.func30, by kernel_rfl⟩ rfl (fun W hb => rorder_any W)) rfl rfl rfl rfl H ?_
  clear H a W
  intro a W H
  refine pl_does (does_call rfl ⟨_, Tryd.func17, by kernel_rfl⟩ rfl (fun W hb => rbytes_any LL W LL_lt)) rfl rfl rfl rfl H ?_
  clear H a W
  intro a W H
  refine pl_new (news_of rfl al_key0) rfl rfl rfl rfl H ?_
  clear H a W
  intro g3 a W H
  refine pl_store rfl rfl rfl (k := 0) rfl (info_ks _) (by simp only [sv_size, ev_size, ks_size, fx_size, dv_size, ds_size, tv_size, cv_size] <;> rfl) (ks_one _) rfl rfl H ?_
  clear H a W
  intro a W H
  refine pl_end ?_
  replace H : St 44 w a W [(6, .pointer (some ⟨g3, 0, none⟩)), (5, .pointer (some ⟨g2, 0, none⟩)), (4, .bool false), (2, .pointer (some ⟨g1, 0, none⟩)), (1, .int .u8 ((t : Nat) : Int))] [(g3, 23, ks LL), (g2, 29, sv PZ), (g1, 23, ks n)] := H.pick [0, 3, 4, 5, 6] [0, 1, 2] rfl
  refine hK3 _ _ ?_
  clear hK3
  refine wp_seq_k (fun K4 hK4 => ?_)
  refine rg_plain ?_
  refine pl_does (does_load rfl rfl (k := 2) rfl Tryd.underlying23 rfl (info_ks _)) rfl rfl rfl rfl H ?_
  clear H a W
  intro a W H
  refine pl_does (does_build rfl rfl bd_key1) rfl rfl rfl rfl H ?_
  clear H a W
  intro a W H
  refine pl_does (does_build (ps := []) rfl rfl bd_key0) rfl rfl rfl rfl H ?_
  clear H a W
  intro a W H
  refine pl_does (does_call rfl ⟨_, Tryd.func31, by kernel_rfl⟩ rfl (fun W hb => rmulAdd_nm hz1 hn (by omega) (by omega) W)) rfl rfl rfl rfl H ?_
  clear H a W
  intro a W H
  refine pl_new (news_of rfl al_key0) rfl rfl rfl rfl H ?_
  clear H a W
  intro g4 a W H
  refine pl_store rfl rfl rfl (k := 0) rfl (info_ks _) (by simp only [sv_size, ev_size, ks_size, fx_size, dv_size, ds_size, tv_size, cv_size] <;> rfl) (ks_one _) rfl rfl H ?_
  clear H a W
  intro a W H
  refine pl_end ?_
  replace H : St 44 w a W [(7, .pointer (some ⟨g4, 0, none⟩)), (6, .pointer (some ⟨g3, 0, none⟩)), (5, .pointer (some ⟨g2, 0, none⟩)), (4, .bool false), (2, .pointer (some ⟨g1, 0, none⟩)), (1, .int .u8 ((t : Nat) : Int))] [(g4, 23, ks z1), (g3, 23, ks LL), (g2, 29, sv PZ), (g1, 23, ks n)] := H.pick [0, 5, 6, 7, 8, 9] [0, 1, 2, 3] rfl
  refine hK4 _ _ ?_
  clear hK4
  refine wp_seq_k (fun K5 hK5 => ?_)
  refine rg_plain ?_
  refine pl_does (does_load rfl rfl (k := 3) rfl Tryd.underlying23 rfl (info_ks _)) rfl rfl rfl rfl H ?_
  clear H a W
  intro a W H
  refine pl_does (does_call rfl ⟨_, Tryd.func29, by kernel_rfl⟩ rfl (fun W hb => base_pt hz2 W (hpg.ext hb))) rfl rfl rfl rfl H ?_
  clear H a W
  intro a W H
  refine pl_new (news_of rfl al_ptZ) rfl rfl rfl rfl H ?_
  clear H a W
  intro g5 a W H
  refine pl_store rfl rfl rfl (k := 0) rfl (info_pt _) (by simp only [sv_size, ev_size, ks_size, fx_size, dv_size, ds_size, tv_size, cv_size] <;> rfl) (sv_one _) rfl rfl H ?_
  clear H a W
  intro a W H
  refine pl_end ?_
  replace H : St 44 w a W [(8, .pointer (some ⟨g5, 0, none⟩)), (7, .pointer (some ⟨g4, 0, none⟩)), (6, .pointer (some ⟨g3, 0, none⟩)), (5, .pointer (some ⟨g2, 0, none⟩)), (4, .bool false), (2, .pointer (some ⟨g1, 0, none⟩)), (1, .int .u8 ((t : Nat) : Int))] [(g5, 29, sv z2), (g4, 23, ks z1), (g3, 23, ks LL), (g2, 29, sv PZ), (g1, 23, ks n)] := H.pick [0, 3, 4, 5, 6, 7, 8] [0, 1, 2, 3, 4] rfl
  refine hK5 _ _ ?_
  clear hK5
  refine wp_seq_k (fun K6 hK6 => ?_)
  refine wp_seq_k (fun K7 hK7 => ?_)
  refine drawnS [.val 17 (.agg (sv z2)) [] [0], .val 18 (.agg (ks z1)) [] [1], .val 19 (.agg (sv z3)) [1] [], .val 20 (.bool true) [0, 2] [], .val 21 (.bool false) [3] [], .val 22 (.bool false) [4] [], .val 23 (.agg (sv z2)) [5] [0], .val 24 (.agg (ks LL)) [5] [2], .val 25 (.agg (sv z4)) [6, 7, 5] [], .val 26 (.agg (sv PZ)) [5] [3], .val 27 (.bool true) [8, 9, 5] [], .val 28 (.bool false) [10, 5] [], .val 29 (.bool false) [5, 11] []] [0, 0, 2, 5, 8, 24, 32, 32, 224, 32, 800, 1056, 2080] (by kernel_rfl) (by kernel_rfl) (by kernel_rfl) H ⟨⟨does_load rfl rfl (k := 0) rfl Tryd.underlying29 rfl (info_pt _), wanted_none rfl⟩, ⟨does_load rfl rfl (k := 0) rfl Tryd.underlying23 rfl (info_ks _), wanted_none rfl⟩, ⟨does_call rfl ⟨_, Tryd.func29, by kernel_rfl⟩ rfl (fun W hb => base_pt hz3 W (hpg.ext hb)), wanted_none rfl⟩, ⟨does_call rfl ⟨_, Tryd.func25, by kernel_rfl⟩ rfl (fun W hb => equal_pt rz2 rz3 (decide_eq_true (mod_one hz1)) W (hpg.ext hb)), wanted_none rfl⟩, ⟨does_unOp rfl rfl (fun _ => rfl), wanted_none rfl⟩, ⟨does_move rfl rfl, wanted_none rfl⟩, ⟨does_load rfl rfl (k := 0) rfl Tryd.underlying29 rfl (info_pt _), wanted_some rfl rfl rfl rfl rfl⟩, ⟨does_load rfl rfl (k := 0) rfl Tryd.underlying23 rfl (info_ks _), wanted_some rfl rfl rfl rfl rfl⟩, ⟨does_call rfl ⟨_, Tryd.func27, by kernel_rfl⟩ rfl (fun W hb => mul_pt hz4 W (hpg.ext hb)), wanted_some rfl rfl rfl rfl rfl⟩, ⟨does_load rfl rfl (k := 0) rfl Tryd.underlying29 rfl (info_pt _), wanted_some rfl rfl rfl rfl rfl⟩, ⟨does_call rfl ⟨_, Tryd.func25, by kernel_rfl⟩ rfl (fun W hb => equal_pt rz4 PZ_rep (decide_eq_true mul_LL) W (hpg.ext hb)), wanted_some rfl rfl rfl rfl rfl⟩, ⟨does_unOp rfl rfl (fun _ => rfl), wanted_some rfl rfl rfl rfl rfl⟩, ⟨does_pick rfl rfl (fun hb => by cases hb) (fun _ => rfl), wanted_none rfl⟩, trivial⟩ ?_
  clear H a W
  intro G6 a W H
  replace H : St 44 w a W [(17, .agg (sv z2)), (18, .agg (ks z1)), (19, .agg (sv z3)), (20, .bool true), (21, .bool false), (22, .bool false), (23, .agg (sv z2)), (24, .agg (ks LL)), (25, .agg (sv z4)), (26, .agg (sv PZ)), (27, .bool true), (28, .bool false), (29, .bool false), (8, .pointer (some ⟨g5, 0, none⟩)), (7, .pointer (some ⟨g4, 0, none⟩)), (6, .pointer (some ⟨g3, 0, none⟩)), (5, .pointer (some ⟨g2, 0, none⟩)), (4, .bool false), (2, .pointer (some ⟨g1, 0, none⟩)), (1, .int .u8 ((t : Nat) : Int))] [(g5, 29, sv z2), (g4, 23, ks z1), (g3, 23, ks LL), (g2, 29, sv PZ), (g1, 23, ks n)] := H
  replace H : St 44 w a W [(29, .bool false), (8, .pointer (some ⟨g5, 0, none⟩)), (4, .bool false), (2, .pointer (some ⟨g1, 0, none⟩)), (1, .int .u8 ((t : Nat) : Int))] [(g5, 29, sv z2), (g1, 23, ks n)] := H.pick [12, 13, 17, 18, 19] [0, 4] rfl
  refine hK7 _ _ ?_
  clear hK7
  refine wp_cond_false (H.ev rfl) ?_
  refine wp_skip ?_
  refine hK6 _ _ ?_
  clear hK6
  refine wp_seq_k (fun K8 hK8 => ?_)
  replace H : St 44 w a W [(29, .bool false), (8, .pointer (some ⟨g5, 0, none⟩)), (2, .pointer (some ⟨g1, 0, none⟩)), (1, .int .u8 ((t : Nat) : Int))] [(g5, 29, sv z2), (g1, 23, ks n)] := H.pick [0, 1, 3, 4] [0, 1] rfl
  refine drawnS [.val 30 (.agg (sv z2)) [] [0], .val 31 (.int .u8 ((t : Nat) : Int)) [] [], .val 32 (.agg (ks t)) [1] [], .val 33 (.agg (sv z5)) [0, 2] [], .val 34 (.agg (ks n)) [] [1], .val 35 (.int .u8 ((t : Nat) : Int)) [] [], .val 36 (.agg (ks t)) [5] [], .val 37 (.agg (ks 0)) [] [], .val 38 (.agg (ks z6)) [4, 6, 7] [], .val 39 (.agg (sv z7)) [8] [], .val 40 (.bool true) [3, 9] [], .val 41 (.bool true) [10] [], .val 42 (.bool true) [11] [], .val 43 (.bool true) [11, 12] [], .val 4 (.bool true) [13] []] [0, 0, 2, 5, 0, 0, 32, 0, 216, 256, 520, 1024, 2048, 6144, 16383] (by kernel_rfl) (by kernel_rfl) (by kernel_rfl) H ⟨⟨does_load rfl rfl (k := 0) rfl Tryd.underlying29 rfl (info_pt _), wanted_none rfl⟩, ⟨does_move rfl rfl, wanted_none rfl⟩, ⟨does_build rfl rfl (bd_keyb (x := t) ht), wanted_none rfl⟩, ⟨does_call rfl ⟨_, Tryd.func27, by kernel_rfl⟩ rfl (fun W hb => mul_pt hz5 W (hpg.ext hb)), wanted_none rfl⟩, ⟨does_load rfl rfl (k := 0) rfl Tryd.underlying23 rfl (info_ks _), wanted_none rfl⟩, ⟨does_move rfl rfl, wanted_none rfl⟩, ⟨does_build rfl rfl (bd_keyb (x := t) ht), wanted_none rfl⟩, ⟨does_build (ps := []) rfl rfl bd_key0, wanted_none rfl⟩, ⟨does_call rfl ⟨_, Tryd.func31, by kernel_rfl⟩ rfl (fun W hb => rmulAdd_nm hz6 hn (by omega) (by omega) W), wanted_none rfl⟩, ⟨does_call rfl ⟨_, Tryd.func29, by kernel_rfl⟩ rfl (fun W hb => base_pt hz7 W (hpg.ext hb)), wanted_none rfl⟩, ⟨does_call rfl ⟨_, Tryd.func25, by kernel_rfl⟩ rfl (fun W hb => equal_pt rz5 rz7 (decide_eq_true (mod_times hz6)) W (hpg.ext hb)), wanted_none rfl⟩, ⟨does_move rfl rfl, wanted_none rfl⟩, ⟨does_call rfl ⟨_, Tryd.func14, by kernel_rfl⟩ rfl (fun W hb => known6 W (hpg.ext hb)), wanted_some rfl rfl rfl rfl rfl⟩, ⟨does_pick rfl rfl (fun _ => rfl) (fun hb => by cases hb), wanted_none rfl⟩, ⟨does_assign rfl rfl, wanted_none rfl⟩, trivial⟩ ?_
  clear H a W
  intro G7 a W H
  replace H : St 44 w a W [(30, .agg (sv z2)), (31, .int .u8 ((t : Nat) : Int)), (32, .agg (ks t)), (33, .agg (sv z5)), (34, .agg (ks n)), (35, .int .u8 ((t : Nat) : Int)), (36, .agg (ks t)), (37, .agg (ks 0)), (38, .agg (ks z6)), (39, .agg (sv z7)), (40, .bool true), (41, .bool true), (42, .bool true), (43, .bool true), (4, .bool true), (29, .bool false), (8, .pointer (some ⟨g5, 0, none⟩)), (2, .pointer (some ⟨g1, 0, none⟩)), (1, .int .u8 ((t : Nat) : Int))] [(g5, 29, sv z2), (g1, 23, ks n)] := H
  replace H : St 44 w a W [(4, .bool true)] [] := H.pick [14] [] rfl
  refine hK8 _ _ ?_
  clear hK8
  refine wp_ret ?_
  repeat (first | (with_reducible refine then_ret ?_) | (with_reducible refine blk_ret ?_))
  refine end_tmp (p := 4) rfl rfl H (fun hb => ?_)
  exact ⟨rfl, hb⟩
theorem law_order (n t : Nat) (w : World) (hpg : PG w) (hn : n < 115792089237316195423570985008687907853269984665640564039457584007913129639936) (ht : t < 256) : Calls Tryd.prog 7 #[.agg (ks n), .int .u8 (t : Int)] w (BPost true w) := law_order0 hn ht w hpg
end Go.Proofs.YtcijaoihcckofaaDoor
