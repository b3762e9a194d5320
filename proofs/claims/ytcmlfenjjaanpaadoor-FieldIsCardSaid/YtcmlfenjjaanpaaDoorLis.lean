/- The walk of FieldIs. -/
import Derived.Test.YtcmlfenjjaanpaaDoorFkn
import Derived.Test.YtcmlfenjjaanpaaDoorLk
import Derived.Deep.DeepCutAuto
import Derived.Deep.CutBlock
namespace Go.Proofs.YtcmlfenjjaanpaaDoor
set_option linter.unusedVariables false
set_option linter.unusedSimpArgs false
open Go.RowKit

section
variable (x y z : Fin PP)
theorem f_add_comm : x + y = y + x := by grind
theorem f_mul_comm : x * y = y * x := by grind
theorem f_add_assoc : x + y + z = x + (y + z) := by grind
theorem f_mul_assoc : x * y * z = x * (y * z) := by grind
theorem f_distr : x * (y + z) = x * y + x * z := by grind
theorem f_neg : x + -x = sm 0 := by rw [sm_zero]; grind
theorem f_zero : x + sm 0 = x := by rw [sm_zero]; grind
theorem f_one : x * sm 1 = x := by rw [sm_one]; grind
end
theorem f_inv0 {x y : Fin PP} (h : y = x ^ (PP - 2)) (hx : x = sm 0) : y = sm 0 := by
  rw [h, hx, sm_zero]
  exact fp_zero_pow _ (by rw [PP_eq]; omega)
theorem f_inv1 {x y : Fin PP} (h : y = x ^ (PP - 2)) (hx : ¬ x = sm 0) : x * y = sm 1 := by
  rw [h, sm_one]
  exact fp_inv PP_prime (by rw [← sm_zero]; exact hx)
set_option maxRecDepth 100000 in
set_option maxHeartbeats 4000000 in
theorem law_is (a b c : Nat) (w : World) (hpg : PG w) (ha : a < 115792089237316195423570985008687907853269984665640564039457584007913129639936) (hb : b < 115792089237316195423570985008687907853269984665640564039457584007913129639936) (hc : c < 115792089237316195423570985008687907853269984665640564039457584007913129639936) : Calls Tryd.prog 7 #[.agg (ks a), .agg (ks b), .agg (ks c)] w (BPost true w) := by
  have Ha := Lib.hid ha
  clear ha
  have Hb := Lib.hid hb
  clear hb
  have Hc := Lib.hid hc
  clear hc
  obtain ⟨x, hx⟩ : ∃ x, x = ofK a := ⟨_, rfl⟩
  have Hx := Lib.hid hx
  clear hx
  obtain ⟨y, hy⟩ : ∃ y, y = ofK b := ⟨_, rfl⟩
  have Hy := Lib.hid hy
  clear hy
  obtain ⟨z, hz⟩ : ∃ z, z = ofK c := ⟨_, rfl⟩
  have Hz := Lib.hid hz
  clear hz
  obtain ⟨ix, hix⟩ : ∃ y, y = x ^ (PP - 2) := ⟨_, rfl⟩
  have HIX := Lib.hid hix
  clear hix
  have hfr := (((Fr.start w).row (ks a) 23 (g := w.heap.size) rfl).row (ks b) 23 (g := w.heap.size + 1) (by simp)).row (ks c) 23 (g := w.heap.size + 1 + 1) (by simp)
  have hz : w.heap.size + 1 + 1 < (((w.alloc (.cells (ks a) 23)).alloc (.cells (ks b) 23)).alloc (.cells (ks c) 23)).heap.size := by simp <;> omega
  have HP := Lib.hid hpg
  have hpg0 := Fr.pg hfr hpg
  clear hpg
  go_enter Tryd.func7, Tryd.ntmps7
  go_wp2_with (fail)
  obtain ⟨wx, hwx⟩ : ∃ wx : World, wx = (((w.alloc (.cells (ks a) 23)).alloc (.cells (ks b) 23)).alloc (.cells (ks c) 23)) := ⟨_, rfl⟩
  rw [← hwx] at hfr hpg0 hz ⊢
  clear hwx
  have HF := Lib.hid hfr
  have HPG := Lib.hid hpg0
  clear hfr hpg0
  go_cut [7, 8, 9] (fun s7 s8 s9 wz => ∃ g7 g8 g9 : Nat, s7 = .pointer (some ⟨g7, 0, none⟩) ∧ s8 = .pointer (some ⟨g8, 0, none⟩) ∧ s9 = .pointer (some ⟨g9, 0, none⟩) ∧ Blk wz g7 33 (ev x) ∧ Blk wz g8 33 (ev y) ∧ Blk wz g9 33 (ev z) ∧ Below wx.heap.size wx wz)
  case first =>
    as_aux_lemma =>
      have hn := (HF.out.now.sub (L' := [(w.heap.size, 23, ks a), (w.heap.size + 1, 23, ks b), (w.heap.size + 1 + 1, 23, ks c)]) (by simp))
      have HN := Lib.hid hn
      clear hn
      refine wp_region_held_drew (S := fun W => Fn wx W [(w.heap.size, 23, ks a), (w.heap.size + 1, 23, ks b), (w.heap.size + 1 + 1, 23, ks c)]) (by kernel_rfl) ?_ (fun hHeld => ?_)
      · exact HN.out.drew
      refine wpAnyH_take (i := 0) (v := .agg (ks a)) rfl (by kernel_rfl) (by kernel_rfl) (by kernel_rfl) (fun _ _ _ h => h) (yields_row (by rfl) 23 (.tmp 3) rfl (w.heap.size) rfl 23 (ks a) _ (fun W (h : Fn _ W _) => h.get (by simp)) Tryd.underlying23 rfl (info_ks _)) hHeld ?_
      try simp only [Act.put, List.getElem_toArray, List.getElem_cons_succ, List.getElem_cons_zero, List.setIfInBounds_toArray, List.set_cons_zero, List.set_cons_succ]
      refine wpAnyH_take (i := 2) (v := .agg (ks b)) rfl (by kernel_rfl) (by kernel_rfl) (by kernel_rfl) (fun _ _ _ h => h) (yields_row (by rfl) 23 (.tmp 4) rfl (w.heap.size + 1) rfl 23 (ks b) _ (fun W (h : Fn _ W _) => h.get (by simp)) Tryd.underlying23 rfl (info_ks _)) hHeld ?_
      try simp only [Act.put, List.getElem_toArray, List.getElem_cons_succ, List.getElem_cons_zero, List.setIfInBounds_toArray, List.set_cons_zero, List.set_cons_succ]
      refine wpAnyH_take (i := 4) (v := .agg (ks c)) rfl (by kernel_rfl) (by kernel_rfl) (by kernel_rfl) (fun _ _ _ h => h) (yields_row (by rfl) 23 (.tmp 5) rfl (w.heap.size + 1 + 1) rfl 23 (ks c) _ (fun W (h : Fn _ W _) => h.get (by simp)) Tryd.underlying23 rfl (info_ks _)) hHeld ?_
      try simp only [Act.put, List.getElem_toArray, List.getElem_cons_succ, List.getElem_cons_zero, List.setIfInBounds_toArray, List.set_cons_zero, List.set_cons_succ]
      refine wpAnyH_name ?_
      intro ops Q hops hQ
      have st3_678 : ∀ (g7 g8 g9 : Nat) (W : World), Fn wx W [(w.heap.size, 23, ks a), (w.heap.size + 1, 23, ks b), (w.heap.size + 1 + 1, 23, ks c)] → Blk W g7 33 #[.int .u64 0, .int .u64 0, .int .u64 0, .int .u64 0] → wx.heap.size ≤ g7 → Blk W g8 33 #[.int .u64 0, .int .u64 0, .int .u64 0, .int .u64 0] → wx.heap.size ≤ g8 → Blk W g9 33 #[.int .u64 0, .int .u64 0, .int .u64 0, .int .u64 0] → wx.heap.size ≤ g9 → g7 ≠ g8 → g7 ≠ g9 → g8 ≠ g9 → wpAnyH Tryd.prog .any ops Q (fun W => Fn wx W [(w.heap.size, 23, ks a), (w.heap.size + 1, 23, ks b), (w.heap.size + 1 + 1, 23, ks c)]) 3 #[true, true, true, true, true, true, true, true, true, false, false, false] { tmps := #[.agg (ks a), .agg (ks b), .agg (ks c), .pointer (some ⟨w.heap.size, 0, none⟩), .pointer (some ⟨w.heap.size + 1, 0, none⟩), .pointer (some ⟨w.heap.size + 1 + 1, 0, none⟩), .bool false, .pointer (some ⟨g7, 0, none⟩), .pointer (some ⟨g8, 0, none⟩), .pointer (some ⟨g9, 0, none⟩), undef, undef, .agg (ks a), .agg (ev x), .agg (ks b), .agg (ev y), .agg (ks c), .agg (ev z), undef, undef, undef, undef, undef, undef, undef, undef, undef, undef, undef, undef, undef, undef, undef, undef, undef, undef, undef, undef, undef, undef, undef, undef, undef, undef, undef, undef, undef, undef, undef, undef, undef, undef, undef, undef, undef, undef, undef, undef, undef, undef, undef, undef, undef, undef, undef, undef, undef, undef, undef, undef, undef, undef, undef, undef, undef, undef, undef, undef, undef, undef, undef, undef, undef, undef, undef, undef, undef, undef, undef, undef, undef, undef, undef, undef, undef, undef, undef, undef, undef, undef, undef, undef, undef, undef, undef, undef, undef, undef, undef, undef, undef, undef, undef, undef, undef, undef, undef, undef, undef, undef, undef, undef, undef, undef], defers := [] } W := by
        as_aux_lemma =>
          intro g7 g8 g9 W hHeld K6 Z6 K7 Z7 K8 Z8 n6_7 n6_8 n7_8
          rw [← hops]
          rw [← hQ]
          have KK6 := Lib.hid K6
          clear K6
          have KK7 := Lib.hid K7
          clear K7
          have KK8 := Lib.hid K8
          clear K8
          refine wpAnyH_ready (rs := [9]) (by kernel_rfl) (by simp) (AllReadyH.cons rfl (fun K hK => ?_) AllReadyH.nil)
          have h0 := hHeld
          clear hHeld
          try simp only [List.getElem_toArray, List.getElem_cons_succ, List.getElem_cons_zero]
          rw [if_pos (by rfl)]
          refine wp_store_row 33 (.tmp 7) (.tmp 13) rfl g7 (ev x) rfl rfl 33 _ KK6.out (info_ev _) rfl (ev_one _) ?_
          refine hK.out _ _ (Fn.setFresh h0 Z6 _) (fun hHeld => ?_)
          have J6 := Lib.hid (KK6.out.setRow_same (ev x))
          clear KK6
          have KK6 := J6
          clear J6
          have J7 := Lib.hid (KK7.out.setRow_other (Ne.symm n6_7) (ev x))
          clear KK7
          have KK7 := J7
          clear J7
          have J8 := Lib.hid (KK8.out.setRow_other (Ne.symm n6_8) (ev x))
          clear KK8
          have KK8 := J8
          clear J8
          clear hK K h0
          try simp only [Act.put, List.getElem_toArray, List.getElem_cons_succ, List.getElem_cons_zero, List.setIfInBounds_toArray, List.set_cons_zero, List.set_cons_succ]
          refine wpAnyH_ready (rs := [10]) (by kernel_rfl) (by simp) (AllReadyH.cons rfl (fun K hK => ?_) AllReadyH.nil)
          have h0 := hHeld
          clear hHeld
          try simp only [List.getElem_toArray, List.getElem_cons_succ, List.getElem_cons_zero]
          rw [if_pos (by rfl)]
          refine wp_store_row 33 (.tmp 8) (.tmp 15) rfl g8 (ev y) rfl rfl 33 _ KK7.out (info_ev _) rfl (ev_one _) ?_
          refine hK.out _ _ (Fn.setFresh h0 Z7 _) (fun hHeld => ?_)
          have J7 := Lib.hid (KK7.out.setRow_same (ev y))
          clear KK7
          have KK7 := J7
          clear J7
          have J6 := Lib.hid (KK6.out.setRow_other n6_7 (ev y))
          clear KK6
          have KK6 := J6
          clear J6
          have J8 := Lib.hid (KK8.out.setRow_other (Ne.symm n7_8) (ev y))
          clear KK8
          have KK8 := J8
          clear J8
          clear hK K h0
          try simp only [Act.put, List.getElem_toArray, List.getElem_cons_succ, List.getElem_cons_zero, List.setIfInBounds_toArray, List.set_cons_zero, List.set_cons_succ]
          refine wpAnyH_ready (rs := [11]) (by kernel_rfl) (by simp) (AllReadyH.cons rfl (fun K hK => ?_) AllReadyH.nil)
          have h0 := hHeld
          clear hHeld
          try simp only [List.getElem_toArray, List.getElem_cons_succ, List.getElem_cons_zero]
          rw [if_pos (by rfl)]
          refine wp_store_row 33 (.tmp 9) (.tmp 17) rfl g9 (ev z) rfl rfl 33 _ KK8.out (info_ev _) rfl (ev_one _) ?_
          refine hK.out _ _ (Fn.setFresh h0 Z8 _) (fun hHeld => ?_)
          have J8 := Lib.hid (KK8.out.setRow_same (ev z))
          clear KK8
          have KK8 := J8
          clear J8
          have J6 := Lib.hid (KK6.out.setRow_other n6_8 (ev z))
          clear KK6
          have KK6 := J6
          clear J6
          have J7 := Lib.hid (KK7.out.setRow_other n7_8 (ev z))
          clear KK7
          have KK7 := J7
          clear J7
          clear hK K h0
          try simp only [Act.put, List.getElem_toArray, List.getElem_cons_succ, List.getElem_cons_zero, List.setIfInBounds_toArray, List.set_cons_zero, List.set_cons_succ]
          refine wpAnyH_done (by kernel_rfl) ?_ _
          have HB := Lib.hid hHeld.below
          clear hHeld
          go_wp2_with (fail)
          go_meet
          exact ⟨g7, g8, g9, rfl, rfl, rfl, KK6.out, KK7.out, KK8.out, HB.out⟩
      have st3_67 : ∀ (g7 g8 : Nat) (W : World), Fn wx W [(w.heap.size, 23, ks a), (w.heap.size + 1, 23, ks b), (w.heap.size + 1 + 1, 23, ks c)] → Blk W g7 33 #[.int .u64 0, .int .u64 0, .int .u64 0, .int .u64 0] → wx.heap.size ≤ g7 → Blk W g8 33 #[.int .u64 0, .int .u64 0, .int .u64 0, .int .u64 0] → wx.heap.size ≤ g8 → g7 ≠ g8 → wpAnyH Tryd.prog .any ops Q (fun W => Fn wx W [(w.heap.size, 23, ks a), (w.heap.size + 1, 23, ks b), (w.heap.size + 1 + 1, 23, ks c)]) 4 #[true, true, true, true, true, true, true, true, false, false, false, false] { tmps := #[.agg (ks a), .agg (ks b), .agg (ks c), .pointer (some ⟨w.heap.size, 0, none⟩), .pointer (some ⟨w.heap.size + 1, 0, none⟩), .pointer (some ⟨w.heap.size + 1 + 1, 0, none⟩), .bool false, .pointer (some ⟨g7, 0, none⟩), .pointer (some ⟨g8, 0, none⟩), undef, undef, undef, .agg (ks a), .agg (ev x), .agg (ks b), .agg (ev y), .agg (ks c), .agg (ev z), undef, undef, undef, undef, undef, undef, undef, undef, undef, undef, undef, undef, undef, undef, undef, undef, undef, undef, undef, undef, undef, undef, undef, undef, undef, undef, undef, undef, undef, undef, undef, undef, undef, undef, undef, undef, undef, undef, undef, undef, undef, undef, undef, undef, undef, undef, undef, undef, undef, undef, undef, undef, undef, undef, undef, undef, undef, undef, undef, undef, undef, undef, undef, undef, undef, undef, undef, undef, undef, undef, undef, undef, undef, undef, undef, undef, undef, undef, undef, undef, undef, undef, undef, undef, undef, undef, undef, undef, undef, undef, undef, undef, undef, undef, undef, undef, undef, undef, undef, undef, undef, undef, undef, undef, undef, undef], defers := [] } W := by
        as_aux_lemma =>
          intro g7 g8 W hHeld K6 Z6 K7 Z7 n6_7
          rw [← hops]
          refine wpAnyH_ready (rs := [8]) (by kernel_rfl) (by simp) (AllReadyH.cons rfl (fun K hK => ?_) AllReadyH.nil)
          have h0 := hHeld
          clear hHeld
          try simp only [List.getElem_toArray, List.getElem_cons_succ, List.getElem_cons_zero]
          obtain ⟨kz, hg⟩ := Fn.fresh h0 33 #[.int .u64 0, .int .u64 0, .int .u64 0, .int .u64 0]
          have KZ := Lib.hid kz
          have HG := Lib.hid hg
          have H0 := Lib.hid h0
          clear kz hg h0
          have KH6 := Lib.hid K6
          have KH7 := Lib.hid K7
          go_simp
          refine hK.out _ _ (Fn.pass H0.out _) (fun hHeld => ?_)
          clear hK K H0
          try simp only [Act.put, List.getElem_toArray, List.getElem_cons_succ, List.getElem_cons_zero, List.setIfInBounds_toArray, List.set_cons_zero, List.set_cons_succ]
          have k6 := KH6.out.alloc (.cells #[.int .u64 0, .int .u64 0, .int .u64 0, .int .u64 0] 33)
          have k7 := KH7.out.alloc (.cells #[.int .u64 0, .int .u64 0, .int .u64 0, .int .u64 0] 33)
          have z6 := Z6
          have z7 := Z7
          have k8 := KZ.out
          have z8 := HG.out
          refine wpAnyH_cast (n' := 3) (l' := #[true, true, true, true, true, true, true, true, true, false, false, false]) (by kernel_rfl) (by kernel_rfl) ?_
          have hh := st3_678 g7 g8 _ _ hHeld k6 z6 k7 z7 k8 z8 n6_7 (Nat.ne_of_lt K6.lt) (Nat.ne_of_lt K7.lt)
          rw [← hops] at hh
          exact hh
      have st3_68 : ∀ (g7 g9 : Nat) (W : World), Fn wx W [(w.heap.size, 23, ks a), (w.heap.size + 1, 23, ks b), (w.heap.size + 1 + 1, 23, ks c)] → Blk W g7 33 #[.int .u64 0, .int .u64 0, .int .u64 0, .int .u64 0] → wx.heap.size ≤ g7 → Blk W g9 33 #[.int .u64 0, .int .u64 0, .int .u64 0, .int .u64 0] → wx.heap.size ≤ g9 → g7 ≠ g9 → wpAnyH Tryd.prog .any ops Q (fun W => Fn wx W [(w.heap.size, 23, ks a), (w.heap.size + 1, 23, ks b), (w.heap.size + 1 + 1, 23, ks c)]) 4 #[true, true, true, true, true, true, true, false, true, false, false, false] { tmps := #[.agg (ks a), .agg (ks b), .agg (ks c), .pointer (some ⟨w.heap.size, 0, none⟩), .pointer (some ⟨w.heap.size + 1, 0, none⟩), .pointer (some ⟨w.heap.size + 1 + 1, 0, none⟩), .bool false, .pointer (some ⟨g7, 0, none⟩), undef, .pointer (some ⟨g9, 0, none⟩), undef, undef, .agg (ks a), .agg (ev x), .agg (ks b), .agg (ev y), .agg (ks c), .agg (ev z), undef, undef, undef, undef, undef, undef, undef, undef, undef, undef, undef, undef, undef, undef, undef, undef, undef, undef, undef, undef, undef, undef, undef, undef, undef, undef, undef, undef, undef, undef, undef, undef, undef, undef, undef, undef, undef, undef, undef, undef, undef, undef, undef, undef, undef, undef, undef, undef, undef, undef, undef, undef, undef, undef, undef, undef, undef, undef, undef, undef, undef, undef, undef, undef, undef, undef, undef, undef, undef, undef, undef, undef, undef, undef, undef, undef, undef, undef, undef, undef, undef, undef, undef, undef, undef, undef, undef, undef, undef, undef, undef, undef, undef, undef, undef, undef, undef, undef, undef, undef, undef, undef, undef, undef, undef, undef], defers := [] } W := by
        as_aux_lemma =>
          clear st3_67
          intro g7 g9 W hHeld K6 Z6 K8 Z8 n6_8
          rw [← hops]
          refine wpAnyH_ready (rs := [7]) (by kernel_rfl) (by simp) (AllReadyH.cons rfl (fun K hK => ?_) AllReadyH.nil)
          have h0 := hHeld
          clear hHeld
          try simp only [List.getElem_toArray, List.getElem_cons_succ, List.getElem_cons_zero]
          obtain ⟨kz, hg⟩ := Fn.fresh h0 33 #[.int .u64 0, .int .u64 0, .int .u64 0, .int .u64 0]
          have KZ := Lib.hid kz
          have HG := Lib.hid hg
          have H0 := Lib.hid h0
          clear kz hg h0
          have KH6 := Lib.hid K6
          have KH8 := Lib.hid K8
          go_simp
          refine hK.out _ _ (Fn.pass H0.out _) (fun hHeld => ?_)
          clear hK K H0
          try simp only [Act.put, List.getElem_toArray, List.getElem_cons_succ, List.getElem_cons_zero, List.setIfInBounds_toArray, List.set_cons_zero, List.set_cons_succ]
          have k6 := KH6.out.alloc (.cells #[.int .u64 0, .int .u64 0, .int .u64 0, .int .u64 0] 33)
          have k8 := KH8.out.alloc (.cells #[.int .u64 0, .int .u64 0, .int .u64 0, .int .u64 0] 33)
          have z6 := Z6
          have z8 := Z8
          have k7 := KZ.out
          have z7 := HG.out
          refine wpAnyH_cast (n' := 3) (l' := #[true, true, true, true, true, true, true, true, true, false, false, false]) (by kernel_rfl) (by kernel_rfl) ?_
          have hh := st3_678 g7 _ g9 _ hHeld k6 z6 k7 z7 k8 z8 (Nat.ne_of_lt K6.lt) n6_8 (Ne.symm (Nat.ne_of_lt K8.lt))
          rw [← hops] at hh
          exact hh
      have st3_78 : ∀ (g8 g9 : Nat) (W : World), Fn wx W [(w.heap.size, 23, ks a), (w.heap.size + 1, 23, ks b), (w.heap.size + 1 + 1, 23, ks c)] → Blk W g8 33 #[.int .u64 0, .int .u64 0, .int .u64 0, .int .u64 0] → wx.heap.size ≤ g8 → Blk W g9 33 #[.int .u64 0, .int .u64 0, .int .u64 0, .int .u64 0] → wx.heap.size ≤ g9 → g8 ≠ g9 → wpAnyH Tryd.prog .any ops Q (fun W => Fn wx W [(w.heap.size, 23, ks a), (w.heap.size + 1, 23, ks b), (w.heap.size + 1 + 1, 23, ks c)]) 4 #[true, true, true, true, true, true, false, true, true, false, false, false] { tmps := #[.agg (ks a), .agg (ks b), .agg (ks c), .pointer (some ⟨w.heap.size, 0, none⟩), .pointer (some ⟨w.heap.size + 1, 0, none⟩), .pointer (some ⟨w.heap.size + 1 + 1, 0, none⟩), .bool false, undef, .pointer (some ⟨g8, 0, none⟩), .pointer (some ⟨g9, 0, none⟩), undef, undef, .agg (ks a), .agg (ev x), .agg (ks b), .agg (ev y), .agg (ks c), .agg (ev z), undef, undef, undef, undef, undef, undef, undef, undef, undef, undef, undef, undef, undef, undef, undef, undef, undef, undef, undef, undef, undef, undef, undef, undef, undef, undef, undef, undef, undef, undef, undef, undef, undef, undef, undef, undef, undef, undef, undef, undef, undef, undef, undef, undef, undef, undef, undef, undef, undef, undef, undef, undef, undef, undef, undef, undef, undef, undef, undef, undef, undef, undef, undef, undef, undef, undef, undef, undef, undef, undef, undef, undef, undef, undef, undef, undef, undef, undef, undef, undef, undef, undef, undef, undef, undef, undef, undef, undef, undef, undef, undef, undef, undef, undef, undef, undef, undef, undef, undef, undef, undef, undef, undef, undef, undef, undef], defers := [] } W := by
        as_aux_lemma =>
          clear st3_68 st3_67
          intro g8 g9 W hHeld K7 Z7 K8 Z8 n7_8
          rw [← hops]
          refine wpAnyH_ready (rs := [6]) (by kernel_rfl) (by simp) (AllReadyH.cons rfl (fun K hK => ?_) AllReadyH.nil)
          have h0 := hHeld
          clear hHeld
          try simp only [List.getElem_toArray, List.getElem_cons_succ, List.getElem_cons_zero]
          obtain ⟨kz, hg⟩ := Fn.fresh h0 33 #[.int .u64 0, .int .u64 0, .int .u64 0, .int .u64 0]
          have KZ := Lib.hid kz
          have HG := Lib.hid hg
          have H0 := Lib.hid h0
          clear kz hg h0
          have KH7 := Lib.hid K7
          have KH8 := Lib.hid K8
          go_simp
          refine hK.out _ _ (Fn.pass H0.out _) (fun hHeld => ?_)
          clear hK K H0
          try simp only [Act.put, List.getElem_toArray, List.getElem_cons_succ, List.getElem_cons_zero, List.setIfInBounds_toArray, List.set_cons_zero, List.set_cons_succ]
          have k7 := KH7.out.alloc (.cells #[.int .u64 0, .int .u64 0, .int .u64 0, .int .u64 0] 33)
          have k8 := KH8.out.alloc (.cells #[.int .u64 0, .int .u64 0, .int .u64 0, .int .u64 0] 33)
          have z7 := Z7
          have z8 := Z8
          have k6 := KZ.out
          have z6 := HG.out
          refine wpAnyH_cast (n' := 3) (l' := #[true, true, true, true, true, true, true, true, true, false, false, false]) (by kernel_rfl) (by kernel_rfl) ?_
          have hh := st3_678 _ g8 g9 _ hHeld k6 z6 k7 z7 k8 z8 (Ne.symm (Nat.ne_of_lt K7.lt)) (Ne.symm (Nat.ne_of_lt K8.lt)) n7_8
          rw [← hops] at hh
          exact hh
      have st2_678 : ∀ (g7 g8 g9 : Nat) (W : World), Fn wx W [(w.heap.size, 23, ks a), (w.heap.size + 1, 23, ks b), (w.heap.size + 1 + 1, 23, ks c)] → Blk W g7 33 #[.int .u64 0, .int .u64 0, .int .u64 0, .int .u64 0] → wx.heap.size ≤ g7 → Blk W g8 33 #[.int .u64 0, .int .u64 0, .int .u64 0, .int .u64 0] → wx.heap.size ≤ g8 → Blk W g9 33 #[.int .u64 0, .int .u64 0, .int .u64 0, .int .u64 0] → wx.heap.size ≤ g9 → g7 ≠ g8 → g7 ≠ g9 → g8 ≠ g9 → wpAnyH Tryd.prog .any ops Q (fun W => Fn wx W [(w.heap.size, 23, ks a), (w.heap.size + 1, 23, ks b), (w.heap.size + 1 + 1, 23, ks c)]) 4 #[true, true, true, true, true, false, true, true, true, false, false, false] { tmps := #[.agg (ks a), .agg (ks b), .agg (ks c), .pointer (some ⟨w.heap.size, 0, none⟩), .pointer (some ⟨w.heap.size + 1, 0, none⟩), .pointer (some ⟨w.heap.size + 1 + 1, 0, none⟩), .bool false, .pointer (some ⟨g7, 0, none⟩), .pointer (some ⟨g8, 0, none⟩), .pointer (some ⟨g9, 0, none⟩), undef, undef, .agg (ks a), .agg (ev x), .agg (ks b), .agg (ev y), .agg (ks c), undef, undef, undef, undef, undef, undef, undef, undef, undef, undef, undef, undef, undef, undef, undef, undef, undef, undef, undef, undef, undef, undef, undef, undef, undef, undef, undef, undef, undef, undef, undef, undef, undef, undef, undef, undef, undef, undef, undef, undef, undef, undef, undef, undef, undef, undef, undef, undef, undef, undef, undef, undef, undef, undef, undef, undef, undef, undef, undef, undef, undef, undef, undef, undef, undef, undef, undef, undef, undef, undef, undef, undef, undef, undef, undef, undef, undef, undef, undef, undef, undef, undef, undef, undef, undef, undef, undef, undef, undef, undef, undef, undef, undef, undef, undef, undef, undef, undef, undef, undef, undef, undef, undef, undef, undef, undef, undef], defers := [] } W := by
        as_aux_lemma =>
          clear st3_78 st3_68 st3_67
          intro g7 g8 g9 W hHeld K6 Z6 K7 Z7 K8 Z8 n6_7 n6_8 n7_8
          rw [← hops]
          refine wpAnyH_ready (rs := [5]) (by kernel_rfl) (by simp) (AllReadyH.cons rfl (fun K hK => ?_) AllReadyH.nil)
          have KH6 := Lib.hid K6
          have KH7 := Lib.hid K7
          have KH8 := Lib.hid K8
          have h0 := hHeld
          clear hHeld
          try simp only [List.getElem_toArray, List.getElem_cons_succ, List.getElem_cons_zero]
          have H0 := Lib.hid h0
          clear h0
          go_simp
          go_at_call 14
          refine (ofR Hz.out _ (HPG.out.ext H0.out.below) Hc.out).mono ?_
          rintro e vv ⟨rfl, hb⟩
          have KJ6 := Lib.hid (KH6.out.below hb KH6.out.lt)
          have KJ7 := Lib.hid (KH7.out.below hb KH7.out.lt)
          have KJ8 := Lib.hid (KH8.out.below hb KH8.out.lt)
          have h1 := H0.out.ext hb
          clear hb H0
          go_wp2_with (fail)
          refine hK.out _ _ h1 (fun hHeld => ?_)
          clear hK K h1
          try simp only [Act.put, List.getElem_toArray, List.getElem_cons_succ, List.getElem_cons_zero, List.setIfInBounds_toArray, List.set_cons_zero, List.set_cons_succ]
          have k6 := KJ6.out
          have k7 := KJ7.out
          have k8 := KJ8.out
          have z6 := Z6
          have z7 := Z7
          have z8 := Z8
          refine wpAnyH_cast (n' := 3) (l' := #[true, true, true, true, true, true, true, true, true, false, false, false]) (by kernel_rfl) (by kernel_rfl) ?_
          have hh := st3_678 g7 g8 g9 _ hHeld k6 z6 k7 z7 k8 z8 n6_7 n6_8 n7_8
          rw [← hops] at hh
          exact hh
      have st3_6 : ∀ (g7 : Nat) (W : World), Fn wx W [(w.heap.size, 23, ks a), (w.heap.size + 1, 23, ks b), (w.heap.size + 1 + 1, 23, ks c)] → Blk W g7 33 #[.int .u64 0, .int .u64 0, .int .u64 0, .int .u64 0] → wx.heap.size ≤ g7 → wpAnyH Tryd.prog .any ops Q (fun W => Fn wx W [(w.heap.size, 23, ks a), (w.heap.size + 1, 23, ks b), (w.heap.size + 1 + 1, 23, ks c)]) 5 #[true, true, true, true, true, true, true, false, false, false, false, false] { tmps := #[.agg (ks a), .agg (ks b), .agg (ks c), .pointer (some ⟨w.heap.size, 0, none⟩), .pointer (some ⟨w.heap.size + 1, 0, none⟩), .pointer (some ⟨w.heap.size + 1 + 1, 0, none⟩), .bool false, .pointer (some ⟨g7, 0, none⟩), undef, undef, undef, undef, .agg (ks a), .agg (ev x), .agg (ks b), .agg (ev y), .agg (ks c), .agg (ev z), undef, undef, undef, undef, undef, undef, undef, undef, undef, undef, undef, undef, undef, undef, undef, undef, undef, undef, undef, undef, undef, undef, undef, undef, undef, undef, undef, undef, undef, undef, undef, undef, undef, undef, undef, undef, undef, undef, undef, undef, undef, undef, undef, undef, undef, undef, undef, undef, undef, undef, undef, undef, undef, undef, undef, undef, undef, undef, undef, undef, undef, undef, undef, undef, undef, undef, undef, undef, undef, undef, undef, undef, undef, undef, undef, undef, undef, undef, undef, undef, undef, undef, undef, undef, undef, undef, undef, undef, undef, undef, undef, undef, undef, undef, undef, undef, undef, undef, undef, undef, undef, undef, undef, undef, undef, undef], defers := [] } W := by
        as_aux_lemma =>
          clear st2_678 st3_78 st3_678
          intro g7 W hHeld K6 Z6
          rw [← hops]
          refine wpAnyH_ready (rs := [7, 8]) (by kernel_rfl) (by simp) (AllReadyH.cons rfl (fun K hK => ?_) (AllReadyH.cons rfl (fun K hK => ?_) AllReadyH.nil))
          · have h0 := hHeld
            clear hHeld
            try simp only [List.getElem_toArray, List.getElem_cons_succ, List.getElem_cons_zero]
            obtain ⟨kz, hg⟩ := Fn.fresh h0 33 #[.int .u64 0, .int .u64 0, .int .u64 0, .int .u64 0]
            have KZ := Lib.hid kz
            have HG := Lib.hid hg
            have H0 := Lib.hid h0
            clear kz hg h0
            have KH6 := Lib.hid K6
            go_simp
            refine hK.out _ _ (Fn.pass H0.out _) (fun hHeld => ?_)
            clear hK K H0
            try simp only [Act.put, List.getElem_toArray, List.getElem_cons_succ, List.getElem_cons_zero, List.setIfInBounds_toArray, List.set_cons_zero, List.set_cons_succ]
            have k6 := KH6.out.alloc (.cells #[.int .u64 0, .int .u64 0, .int .u64 0, .int .u64 0] 33)
            have z6 := Z6
            have k7 := KZ.out
            have z7 := HG.out
            refine wpAnyH_cast (n' := 4) (l' := #[true, true, true, true, true, true, true, true, false, false, false, false]) (by kernel_rfl) (by kernel_rfl) ?_
            have hh := st3_67 g7 _ _ hHeld k6 z6 k7 z7 (Nat.ne_of_lt K6.lt)
            rw [← hops] at hh
            exact hh
          · have h0 := hHeld
            clear hHeld
            try simp only [List.getElem_toArray, List.getElem_cons_succ, List.getElem_cons_zero]
            obtain ⟨kz, hg⟩ := Fn.fresh h0 33 #[.int .u64 0, .int .u64 0, .int .u64 0, .int .u64 0]
            have KZ := Lib.hid kz
            have HG := Lib.hid hg
            have H0 := Lib.hid h0
            clear kz hg h0
            have KH6 := Lib.hid K6
            go_simp
            refine hK.out _ _ (Fn.pass H0.out _) (fun hHeld => ?_)
            clear hK K H0
            try simp only [Act.put, List.getElem_toArray, List.getElem_cons_succ, List.getElem_cons_zero, List.setIfInBounds_toArray, List.set_cons_zero, List.set_cons_succ]
            have k6 := KH6.out.alloc (.cells #[.int .u64 0, .int .u64 0, .int .u64 0, .int .u64 0] 33)
            have z6 := Z6
            have k8 := KZ.out
            have z8 := HG.out
            refine wpAnyH_cast (n' := 4) (l' := #[true, true, true, true, true, true, true, false, true, false, false, false]) (by kernel_rfl) (by kernel_rfl) ?_
            have hh := st3_68 g7 _ _ hHeld k6 z6 k8 z8 (Nat.ne_of_lt K6.lt)
            rw [← hops] at hh
            exact hh
      have st3_7 : ∀ (g8 : Nat) (W : World), Fn wx W [(w.heap.size, 23, ks a), (w.heap.size + 1, 23, ks b), (w.heap.size + 1 + 1, 23, ks c)] → Blk W g8 33 #[.int .u64 0, .int .u64 0, .int .u64 0, .int .u64 0] → wx.heap.size ≤ g8 → wpAnyH Tryd.prog .any ops Q (fun W => Fn wx W [(w.heap.size, 23, ks a), (w.heap.size + 1, 23, ks b), (w.heap.size + 1 + 1, 23, ks c)]) 5 #[true, true, true, true, true, true, false, true, false, false, false, false] { tmps := #[.agg (ks a), .agg (ks b), .agg (ks c), .pointer (some ⟨w.heap.size, 0, none⟩), .pointer (some ⟨w.heap.size + 1, 0, none⟩), .pointer (some ⟨w.heap.size + 1 + 1, 0, none⟩), .bool false, undef, .pointer (some ⟨g8, 0, none⟩), undef, undef, undef, .agg (ks a), .agg (ev x), .agg (ks b), .agg (ev y), .agg (ks c), .agg (ev z), undef, undef, undef, undef, undef, undef, undef, undef, undef, undef, undef, undef, undef, undef, undef, undef, undef, undef, undef, undef, undef, undef, undef, undef, undef, undef, undef, undef, undef, undef, undef, undef, undef, undef, undef, undef, undef, undef, undef, undef, undef, undef, undef, undef, undef, undef, undef, undef, undef, undef, undef, undef, undef, undef, undef, undef, undef, undef, undef, undef, undef, undef, undef, undef, undef, undef, undef, undef, undef, undef, undef, undef, undef, undef, undef, undef, undef, undef, undef, undef, undef, undef, undef, undef, undef, undef, undef, undef, undef, undef, undef, undef, undef, undef, undef, undef, undef, undef, undef, undef, undef, undef, undef, undef, undef, undef], defers := [] } W := by
        as_aux_lemma =>
          clear st3_6 st2_678 st3_68 st3_678
          intro g8 W hHeld K7 Z7
          rw [← hops]
          refine wpAnyH_ready (rs := [6, 8]) (by kernel_rfl) (by simp) (AllReadyH.cons rfl (fun K hK => ?_) (AllReadyH.cons rfl (fun K hK => ?_) AllReadyH.nil))
          · have h0 := hHeld
            clear hHeld
            try simp only [List.getElem_toArray, List.getElem_cons_succ, List.getElem_cons_zero]
            obtain ⟨kz, hg⟩ := Fn.fresh h0 33 #[.int .u64 0, .int .u64 0, .int .u64 0, .int .u64 0]
            have KZ := Lib.hid kz
            have HG := Lib.hid hg
            have H0 := Lib.hid h0
            clear kz hg h0
            have KH7 := Lib.hid K7
            go_simp
            refine hK.out _ _ (Fn.pass H0.out _) (fun hHeld => ?_)
            clear hK K H0
            try simp only [Act.put, List.getElem_toArray, List.getElem_cons_succ, List.getElem_cons_zero, List.setIfInBounds_toArray, List.set_cons_zero, List.set_cons_succ]
            have k7 := KH7.out.alloc (.cells #[.int .u64 0, .int .u64 0, .int .u64 0, .int .u64 0] 33)
            have z7 := Z7
            have k6 := KZ.out
            have z6 := HG.out
            refine wpAnyH_cast (n' := 4) (l' := #[true, true, true, true, true, true, true, true, false, false, false, false]) (by kernel_rfl) (by kernel_rfl) ?_
            have hh := st3_67 _ g8 _ hHeld k6 z6 k7 z7 (Ne.symm (Nat.ne_of_lt K7.lt))
            rw [← hops] at hh
            exact hh
          · have h0 := hHeld
            clear hHeld
            try simp only [List.getElem_toArray, List.getElem_cons_succ, List.getElem_cons_zero]
            obtain ⟨kz, hg⟩ := Fn.fresh h0 33 #[.int .u64 0, .int .u64 0, .int .u64 0, .int .u64 0]
            have KZ := Lib.hid kz
            have HG := Lib.hid hg
            have H0 := Lib.hid h0
            clear kz hg h0
            have KH7 := Lib.hid K7
            go_simp
            refine hK.out _ _ (Fn.pass H0.out _) (fun hHeld => ?_)
            clear hK K H0
            try simp only [Act.put, List.getElem_toArray, List.getElem_cons_succ, List.getElem_cons_zero, List.setIfInBounds_toArray, List.set_cons_zero, List.set_cons_succ]
            have k7 := KH7.out.alloc (.cells #[.int .u64 0, .int .u64 0, .int .u64 0, .int .u64 0] 33)
            have z7 := Z7
            have k8 := KZ.out
            have z8 := HG.out
            refine wpAnyH_cast (n' := 4) (l' := #[true, true, true, true, true, true, false, true, true, false, false, false]) (by kernel_rfl) (by kernel_rfl) ?_
            have hh := st3_78 g8 _ _ hHeld k7 z7 k8 z8 (Nat.ne_of_lt K7.lt)
            rw [← hops] at hh
            exact hh
      have st3_8 : ∀ (g9 : Nat) (W : World), Fn wx W [(w.heap.size, 23, ks a), (w.heap.size + 1, 23, ks b), (w.heap.size + 1 + 1, 23, ks c)] → Blk W g9 33 #[.int .u64 0, .int .u64 0, .int .u64 0, .int .u64 0] → wx.heap.size ≤ g9 → wpAnyH Tryd.prog .any ops Q (fun W => Fn wx W [(w.heap.size, 23, ks a), (w.heap.size + 1, 23, ks b), (w.heap.size + 1 + 1, 23, ks c)]) 5 #[true, true, true, true, true, true, false, false, true, false, false, false] { tmps := #[.agg (ks a), .agg (ks b), .agg (ks c), .pointer (some ⟨w.heap.size, 0, none⟩), .pointer (some ⟨w.heap.size + 1, 0, none⟩), .pointer (some ⟨w.heap.size + 1 + 1, 0, none⟩), .bool false, undef, undef, .pointer (some ⟨g9, 0, none⟩), undef, undef, .agg (ks a), .agg (ev x), .agg (ks b), .agg (ev y), .agg (ks c), .agg (ev z), undef, undef, undef, undef, undef, undef, undef, undef, undef, undef, undef, undef, undef, undef, undef, undef, undef, undef, undef, undef, undef, undef, undef, undef, undef, undef, undef, undef, undef, undef, undef, undef, undef, undef, undef, undef, undef, undef, undef, undef, undef, undef, undef, undef, undef, undef, undef, undef, undef, undef, undef, undef, undef, undef, undef, undef, undef, undef, undef, undef, undef, undef, undef, undef, undef, undef, undef, undef, undef, undef, undef, undef, undef, undef, undef, undef, undef, undef, undef, undef, undef, undef, undef, undef, undef, undef, undef, undef, undef, undef, undef, undef, undef, undef, undef, undef, undef, undef, undef, undef, undef, undef, undef, undef, undef, undef], defers := [] } W := by
        as_aux_lemma =>
          clear st3_7 st3_6 st2_678 st3_67 st3_678
          intro g9 W hHeld K8 Z8
          rw [← hops]
          refine wpAnyH_ready (rs := [6, 7]) (by kernel_rfl) (by simp) (AllReadyH.cons rfl (fun K hK => ?_) (AllReadyH.cons rfl (fun K hK => ?_) AllReadyH.nil))
          · have h0 := hHeld
            clear hHeld
            try simp only [List.getElem_toArray, List.getElem_cons_succ, List.getElem_cons_zero]
            obtain ⟨kz, hg⟩ := Fn.fresh h0 33 #[.int .u64 0, .int .u64 0, .int .u64 0, .int .u64 0]
            have KZ := Lib.hid kz
            have HG := Lib.hid hg
            have H0 := Lib.hid h0
            clear kz hg h0
            have KH8 := Lib.hid K8
            go_simp
            refine hK.out _ _ (Fn.pass H0.out _) (fun hHeld => ?_)
            clear hK K H0
            try simp only [Act.put, List.getElem_toArray, List.getElem_cons_succ, List.getElem_cons_zero, List.setIfInBounds_toArray, List.set_cons_zero, List.set_cons_succ]
            have k8 := KH8.out.alloc (.cells #[.int .u64 0, .int .u64 0, .int .u64 0, .int .u64 0] 33)
            have z8 := Z8
            have k6 := KZ.out
            have z6 := HG.out
            refine wpAnyH_cast (n' := 4) (l' := #[true, true, true, true, true, true, true, false, true, false, false, false]) (by kernel_rfl) (by kernel_rfl) ?_
            have hh := st3_68 _ g9 _ hHeld k6 z6 k8 z8 (Ne.symm (Nat.ne_of_lt K8.lt))
            rw [← hops] at hh
            exact hh
          · have h0 := hHeld
            clear hHeld
            try simp only [List.getElem_toArray, List.getElem_cons_succ, List.getElem_cons_zero]
            obtain ⟨kz, hg⟩ := Fn.fresh h0 33 #[.int .u64 0, .int .u64 0, .int .u64 0, .int .u64 0]
            have KZ := Lib.hid kz
            have HG := Lib.hid hg
            have H0 := Lib.hid h0
            clear kz hg h0
            have KH8 := Lib.hid K8
            go_simp
            refine hK.out _ _ (Fn.pass H0.out _) (fun hHeld => ?_)
            clear hK K H0
            try simp only [Act.put, List.getElem_toArray, List.getElem_cons_succ, List.getElem_cons_zero, List.setIfInBounds_toArray, List.set_cons_zero, List.set_cons_succ]
            have k8 := KH8.out.alloc (.cells #[.int .u64 0, .int .u64 0, .int .u64 0, .int .u64 0] 33)
            have z8 := Z8
            have k7 := KZ.out
            have z7 := HG.out
            refine wpAnyH_cast (n' := 4) (l' := #[true, true, true, true, true, true, false, true, true, false, false, false]) (by kernel_rfl) (by kernel_rfl) ?_
            have hh := st3_78 _ g9 _ hHeld k7 z7 k8 z8 (Ne.symm (Nat.ne_of_lt K8.lt))
            rw [← hops] at hh
            exact hh
      have st2_67 : ∀ (g7 g8 : Nat) (W : World), Fn wx W [(w.heap.size, 23, ks a), (w.heap.size + 1, 23, ks b), (w.heap.size + 1 + 1, 23, ks c)] → Blk W g7 33 #[.int .u64 0, .int .u64 0, .int .u64 0, .int .u64 0] → wx.heap.size ≤ g7 → Blk W g8 33 #[.int .u64 0, .int .u64 0, .int .u64 0, .int .u64 0] → wx.heap.size ≤ g8 → g7 ≠ g8 → wpAnyH Tryd.prog .any ops Q (fun W => Fn wx W [(w.heap.size, 23, ks a), (w.heap.size + 1, 23, ks b), (w.heap.size + 1 + 1, 23, ks c)]) 5 #[true, true, true, true, true, false, true, true, false, false, false, false] { tmps := #[.agg (ks a), .agg (ks b), .agg (ks c), .pointer (some ⟨w.heap.size, 0, none⟩), .pointer (some ⟨w.heap.size + 1, 0, none⟩), .pointer (some ⟨w.heap.size + 1 + 1, 0, none⟩), .bool false, .pointer (some ⟨g7, 0, none⟩), .pointer (some ⟨g8, 0, none⟩), undef, undef, undef, .agg (ks a), .agg (ev x), .agg (ks b), .agg (ev y), .agg (ks c), undef, undef, undef, undef, undef, undef, undef, undef, undef, undef, undef, undef, undef, undef, undef, undef, undef, undef, undef, undef, undef, undef, undef, undef, undef, undef, undef, undef, undef, undef, undef, undef, undef, undef, undef, undef, undef, undef, undef, undef, undef, undef, undef, undef, undef, undef, undef, undef, undef, undef, undef, undef, undef, undef, undef, undef, undef, undef, undef, undef, undef, undef, undef, undef, undef, undef, undef, undef, undef, undef, undef, undef, undef, undef, undef, undef, undef, undef, undef, undef, undef, undef, undef, undef, undef, undef, undef, undef, undef, undef, undef, undef, undef, undef, undef, undef, undef, undef, undef, undef, undef, undef, undef, undef, undef, undef, undef], defers := [] } W := by
        as_aux_lemma =>
          clear st3_8 st3_7 st3_6 st3_78 st3_68 st3_678
          intro g7 g8 W hHeld K6 Z6 K7 Z7 n6_7
          rw [← hops]
          refine wpAnyH_ready (rs := [5, 8]) (by kernel_rfl) (by simp) (AllReadyH.cons rfl (fun K hK => ?_) (AllReadyH.cons rfl (fun K hK => ?_) AllReadyH.nil))
          · have KH6 := Lib.hid K6
            have KH7 := Lib.hid K7
            have h0 := hHeld
            clear hHeld
            try simp only [List.getElem_toArray, List.getElem_cons_succ, List.getElem_cons_zero]
            have H0 := Lib.hid h0
            clear h0
            go_simp
            go_at_call 14
            refine (ofR Hz.out _ (HPG.out.ext H0.out.below) Hc.out).mono ?_
            rintro e vv ⟨rfl, hb⟩
            have KJ6 := Lib.hid (KH6.out.below hb KH6.out.lt)
            have KJ7 := Lib.hid (KH7.out.below hb KH7.out.lt)
            have h1 := H0.out.ext hb
            clear hb H0
            go_wp2_with (fail)
            refine hK.out _ _ h1 (fun hHeld => ?_)
            clear hK K h1
            try simp only [Act.put, List.getElem_toArray, List.getElem_cons_succ, List.getElem_cons_zero, List.setIfInBounds_toArray, List.set_cons_zero, List.set_cons_succ]
            have k6 := KJ6.out
            have k7 := KJ7.out
            have z6 := Z6
            have z7 := Z7
            refine wpAnyH_cast (n' := 4) (l' := #[true, true, true, true, true, true, true, true, false, false, false, false]) (by kernel_rfl) (by kernel_rfl) ?_
            have hh := st3_67 g7 g8 _ hHeld k6 z6 k7 z7 n6_7
            rw [← hops] at hh
            exact hh
          · have h0 := hHeld
            clear hHeld
            try simp only [List.getElem_toArray, List.getElem_cons_succ, List.getElem_cons_zero]
            obtain ⟨kz, hg⟩ := Fn.fresh h0 33 #[.int .u64 0, .int .u64 0, .int .u64 0, .int .u64 0]
            have KZ := Lib.hid kz
            have HG := Lib.hid hg
            have H0 := Lib.hid h0
            clear kz hg h0
            have KH6 := Lib.hid K6
            have KH7 := Lib.hid K7
            go_simp
            refine hK.out _ _ (Fn.pass H0.out _) (fun hHeld => ?_)
            clear hK K H0
            try simp only [Act.put, List.getElem_toArray, List.getElem_cons_succ, List.getElem_cons_zero, List.setIfInBounds_toArray, List.set_cons_zero, List.set_cons_succ]
            have k6 := KH6.out.alloc (.cells #[.int .u64 0, .int .u64 0, .int .u64 0, .int .u64 0] 33)
            have k7 := KH7.out.alloc (.cells #[.int .u64 0, .int .u64 0, .int .u64 0, .int .u64 0] 33)
            have z6 := Z6
            have z7 := Z7
            have k8 := KZ.out
            have z8 := HG.out
            refine wpAnyH_cast (n' := 4) (l' := #[true, true, true, true, true, false, true, true, true, false, false, false]) (by kernel_rfl) (by kernel_rfl) ?_
            have hh := st2_678 g7 g8 _ _ hHeld k6 z6 k7 z7 k8 z8 n6_7 (Nat.ne_of_lt K6.lt) (Nat.ne_of_lt K7.lt)
            rw [← hops] at hh
            exact hh
      have st2_68 : ∀ (g7 g9 : Nat) (W : World), Fn wx W [(w.heap.size, 23, ks a), (w.heap.size + 1, 23, ks b), (w.heap.size + 1 + 1, 23, ks c)] → Blk W g7 33 #[.int .u64 0, .int .u64 0, .int .u64 0, .int .u64 0] → wx.heap.size ≤ g7 → Blk W g9 33 #[.int .u64 0, .int .u64 0, .int .u64 0, .int .u64 0] → wx.heap.size ≤ g9 → g7 ≠ g9 → wpAnyH Tryd.prog .any ops Q (fun W => Fn wx W [(w.heap.size, 23, ks a), (w.heap.size + 1, 23, ks b), (w.heap.size + 1 + 1, 23, ks c)]) 5 #[true, true, true, true, true, false, true, false, true, false, false, false] { tmps := #[.agg (ks a), .agg (ks b), .agg (ks c), .pointer (some ⟨w.heap.size, 0, none⟩), .pointer (some ⟨w.heap.size + 1, 0, none⟩), .pointer (some ⟨w.heap.size + 1 + 1, 0, none⟩), .bool false, .pointer (some ⟨g7, 0, none⟩), undef, .pointer (some ⟨g9, 0, none⟩), undef, undef, .agg (ks a), .agg (ev x), .agg (ks b), .agg (ev y), .agg (ks c), undef, undef, undef, undef, undef, undef, undef, undef, undef, undef, undef, undef, undef, undef, undef, undef, undef, undef, undef, undef, undef, undef, undef, undef, undef, undef, undef, undef, undef, undef, undef, undef, undef, undef, undef, undef, undef, undef, undef, undef, undef, undef, undef, undef, undef, undef, undef, undef, undef, undef, undef, undef, undef, undef, undef, undef, undef, undef, undef, undef, undef, undef, undef, undef, undef, undef, undef, undef, undef, undef, undef, undef, undef, undef, undef, undef, undef, undef, undef, undef, undef, undef, undef, undef, undef, undef, undef, undef, undef, undef, undef, undef, undef, undef, undef, undef, undef, undef, undef, undef, undef, undef, undef, undef, undef, undef, undef], defers := [] } W := by
        as_aux_lemma =>
          clear st2_67 st3_8 st3_7 st3_6 st3_78 st3_67 st3_678
          intro g7 g9 W hHeld K6 Z6 K8 Z8 n6_8
          rw [← hops]
          refine wpAnyH_ready (rs := [5, 7]) (by kernel_rfl) (by simp) (AllReadyH.cons rfl (fun K hK => ?_) (AllReadyH.cons rfl (fun K hK => ?_) AllReadyH.nil))
          · have KH6 := Lib.hid K6
            have KH8 := Lib.hid K8
            have h0 := hHeld
            clear hHeld
            try simp only [List.getElem_toArray, List.getElem_cons_succ, List.getElem_cons_zero]
            have H0 := Lib.hid h0
            clear h0
            go_simp
            go_at_call 14
            refine (ofR Hz.out _ (HPG.out.ext H0.out.below) Hc.out).mono ?_
            rintro e vv ⟨rfl, hb⟩
            have KJ6 := Lib.hid (KH6.out.below hb KH6.out.lt)
            have KJ8 := Lib.hid (KH8.out.below hb KH8.out.lt)
            have h1 := H0.out.ext hb
            clear hb H0
            go_wp2_with (fail)
            refine hK.out _ _ h1 (fun hHeld => ?_)
            clear hK K h1
            try simp only [Act.put, List.getElem_toArray, List.getElem_cons_succ, List.getElem_cons_zero, List.setIfInBounds_toArray, List.set_cons_zero, List.set_cons_succ]
            have k6 := KJ6.out
            have k8 := KJ8.out
            have z6 := Z6
            have z8 := Z8
            refine wpAnyH_cast (n' := 4) (l' := #[true, true, true, true, true, true, true, false, true, false, false, false]) (by kernel_rfl) (by kernel_rfl) ?_
            have hh := st3_68 g7 g9 _ hHeld k6 z6 k8 z8 n6_8
            rw [← hops] at hh
            exact hh
          · have h0 := hHeld
            clear hHeld
            try simp only [List.getElem_toArray, List.getElem_cons_succ, List.getElem_cons_zero]
            obtain ⟨kz, hg⟩ := Fn.fresh h0 33 #[.int .u64 0, .int .u64 0, .int .u64 0, .int .u64 0]
            have KZ := Lib.hid kz
            have HG := Lib.hid hg
            have H0 := Lib.hid h0
            clear kz hg h0
            have KH6 := Lib.hid K6
            have KH8 := Lib.hid K8
            go_simp
            refine hK.out _ _ (Fn.pass H0.out _) (fun hHeld => ?_)
            clear hK K H0
            try simp only [Act.put, List.getElem_toArray, List.getElem_cons_succ, List.getElem_cons_zero, List.setIfInBounds_toArray, List.set_cons_zero, List.set_cons_succ]
            have k6 := KH6.out.alloc (.cells #[.int .u64 0, .int .u64 0, .int .u64 0, .int .u64 0] 33)
            have k8 := KH8.out.alloc (.cells #[.int .u64 0, .int .u64 0, .int .u64 0, .int .u64 0] 33)
            have z6 := Z6
            have z8 := Z8
            have k7 := KZ.out
            have z7 := HG.out
            refine wpAnyH_cast (n' := 4) (l' := #[true, true, true, true, true, false, true, true, true, false, false, false]) (by kernel_rfl) (by kernel_rfl) ?_
            have hh := st2_678 g7 _ g9 _ hHeld k6 z6 k7 z7 k8 z8 (Nat.ne_of_lt K6.lt) n6_8 (Ne.symm (Nat.ne_of_lt K8.lt))
            rw [← hops] at hh
            exact hh
      have st2_78 : ∀ (g8 g9 : Nat) (W : World), Fn wx W [(w.heap.size, 23, ks a), (w.heap.size + 1, 23, ks b), (w.heap.size + 1 + 1, 23, ks c)] → Blk W g8 33 #[.int .u64 0, .int .u64 0, .int .u64 0, .int .u64 0] → wx.heap.size ≤ g8 → Blk W g9 33 #[.int .u64 0, .int .u64 0, .int .u64 0, .int .u64 0] → wx.heap.size ≤ g9 → g8 ≠ g9 → wpAnyH Tryd.prog .any ops Q (fun W => Fn wx W [(w.heap.size, 23, ks a), (w.heap.size + 1, 23, ks b), (w.heap.size + 1 + 1, 23, ks c)]) 5 #[true, true, true, true, true, false, false, true, true, false, false, false] { tmps := #[.agg (ks a), .agg (ks b), .agg (ks c), .pointer (some ⟨w.heap.size, 0, none⟩), .pointer (some ⟨w.heap.size + 1, 0, none⟩), .pointer (some ⟨w.heap.size + 1 + 1, 0, none⟩), .bool false, undef, .pointer (some ⟨g8, 0, none⟩), .pointer (some ⟨g9, 0, none⟩), undef, undef, .agg (ks a), .agg (ev x), .agg (ks b), .agg (ev y), .agg (ks c), undef, undef, undef, undef, undef, undef, undef, undef, undef, undef, undef, undef, undef, undef, undef, undef, undef, undef, undef, undef, undef, undef, undef, undef, undef, undef, undef, undef, undef, undef, undef, undef, undef, undef, undef, undef, undef, undef, undef, undef, undef, undef, undef, undef, undef, undef, undef, undef, undef, undef, undef, undef, undef, undef, undef, undef, undef, undef, undef, undef, undef, undef, undef, undef, undef, undef, undef, undef, undef, undef, undef, undef, undef, undef, undef, undef, undef, undef, undef, undef, undef, undef, undef, undef, undef, undef, undef, undef, undef, undef, undef, undef, undef, undef, undef, undef, undef, undef, undef, undef, undef, undef, undef, undef, undef, undef, undef], defers := [] } W := by
        as_aux_lemma =>
          clear st2_68 st2_67 st3_8 st3_7 st3_6 st3_68 st3_67 st3_678
          intro g8 g9 W hHeld K7 Z7 K8 Z8 n7_8
          rw [← hops]
          refine wpAnyH_ready (rs := [5, 6]) (by kernel_rfl) (by simp) (AllReadyH.cons rfl (fun K hK => ?_) (AllReadyH.cons rfl (fun K hK => ?_) AllReadyH.nil))
          · have KH7 := Lib.hid K7
            have KH8 := Lib.hid K8
            have h0 := hHeld
            clear hHeld
            try simp only [List.getElem_toArray, List.getElem_cons_succ, List.getElem_cons_zero]
            have H0 := Lib.hid h0
            clear h0
            go_simp
            go_at_call 14
            refine (ofR Hz.out _ (HPG.out.ext H0.out.below) Hc.out).mono ?_
            rintro e vv ⟨rfl, hb⟩
            have KJ7 := Lib.hid (KH7.out.below hb KH7.out.lt)
            have KJ8 := Lib.hid (KH8.out.below hb KH8.out.lt)
            have h1 := H0.out.ext hb
            clear hb H0
            go_wp2_with (fail)
            refine hK.out _ _ h1 (fun hHeld => ?_)
            clear hK K h1
            try simp only [Act.put, List.getElem_toArray, List.getElem_cons_succ, List.getElem_cons_zero, List.setIfInBounds_toArray, List.set_cons_zero, List.set_cons_succ]
            have k7 := KJ7.out
            have k8 := KJ8.out
            have z7 := Z7
            have z8 := Z8
            refine wpAnyH_cast (n' := 4) (l' := #[true, true, true, true, true, true, false, true, true, false, false, false]) (by kernel_rfl) (by kernel_rfl) ?_
            have hh := st3_78 g8 g9 _ hHeld k7 z7 k8 z8 n7_8
            rw [← hops] at hh
            exact hh
          · have h0 := hHeld
            clear hHeld
            try simp only [List.getElem_toArray, List.getElem_cons_succ, List.getElem_cons_zero]
            obtain ⟨kz, hg⟩ := Fn.fresh h0 33 #[.int .u64 0, .int .u64 0, .int .u64 0, .int .u64 0]
            have KZ := Lib.hid kz
            have HG := Lib.hid hg
            have H0 := Lib.hid h0
            clear kz hg h0
            have KH7 := Lib.hid K7
            have KH8 := Lib.hid K8
            go_simp
            refine hK.out _ _ (Fn.pass H0.out _) (fun hHeld => ?_)
            clear hK K H0
            try simp only [Act.put, List.getElem_toArray, List.getElem_cons_succ, List.getElem_cons_zero, List.setIfInBounds_toArray, List.set_cons_zero, List.set_cons_succ]
            have k7 := KH7.out.alloc (.cells #[.int .u64 0, .int .u64 0, .int .u64 0, .int .u64 0] 33)
            have k8 := KH8.out.alloc (.cells #[.int .u64 0, .int .u64 0, .int .u64 0, .int .u64 0] 33)
            have z7 := Z7
            have z8 := Z8
            have k6 := KZ.out
            have z6 := HG.out
            refine wpAnyH_cast (n' := 4) (l' := #[true, true, true, true, true, false, true, true, true, false, false, false]) (by kernel_rfl) (by kernel_rfl) ?_
            have hh := st2_678 _ g8 g9 _ hHeld k6 z6 k7 z7 k8 z8 (Ne.symm (Nat.ne_of_lt K7.lt)) (Ne.symm (Nat.ne_of_lt K8.lt)) n7_8
            rw [← hops] at hh
            exact hh
      have st1_678 : ∀ (g7 g8 g9 : Nat) (W : World), Fn wx W [(w.heap.size, 23, ks a), (w.heap.size + 1, 23, ks b), (w.heap.size + 1 + 1, 23, ks c)] → Blk W g7 33 #[.int .u64 0, .int .u64 0, .int .u64 0, .int .u64 0] → wx.heap.size ≤ g7 → Blk W g8 33 #[.int .u64 0, .int .u64 0, .int .u64 0, .int .u64 0] → wx.heap.size ≤ g8 → Blk W g9 33 #[.int .u64 0, .int .u64 0, .int .u64 0, .int .u64 0] → wx.heap.size ≤ g9 → g7 ≠ g8 → g7 ≠ g9 → g8 ≠ g9 → wpAnyH Tryd.prog .any ops Q (fun W => Fn wx W [(w.heap.size, 23, ks a), (w.heap.size + 1, 23, ks b), (w.heap.size + 1 + 1, 23, ks c)]) 5 #[true, true, true, false, true, false, true, true, true, false, false, false] { tmps := #[.agg (ks a), .agg (ks b), .agg (ks c), .pointer (some ⟨w.heap.size, 0, none⟩), .pointer (some ⟨w.heap.size + 1, 0, none⟩), .pointer (some ⟨w.heap.size + 1 + 1, 0, none⟩), .bool false, .pointer (some ⟨g7, 0, none⟩), .pointer (some ⟨g8, 0, none⟩), .pointer (some ⟨g9, 0, none⟩), undef, undef, .agg (ks a), .agg (ev x), .agg (ks b), undef, .agg (ks c), undef, undef, undef, undef, undef, undef, undef, undef, undef, undef, undef, undef, undef, undef, undef, undef, undef, undef, undef, undef, undef, undef, undef, undef, undef, undef, undef, undef, undef, undef, undef, undef, undef, undef, undef, undef, undef, undef, undef, undef, undef, undef, undef, undef, undef, undef, undef, undef, undef, undef, undef, undef, undef, undef, undef, undef, undef, undef, undef, undef, undef, undef, undef, undef, undef, undef, undef, undef, undef, undef, undef, undef, undef, undef, undef, undef, undef, undef, undef, undef, undef, undef, undef, undef, undef, undef, undef, undef, undef, undef, undef, undef, undef, undef, undef, undef, undef, undef, undef, undef, undef, undef, undef, undef, undef, undef, undef], defers := [] } W := by
        as_aux_lemma =>
          clear st2_78 st2_68 st2_67 st3_8 st3_7 st3_6 st3_78 st3_68 st3_67 st3_678
          intro g7 g8 g9 W hHeld K6 Z6 K7 Z7 K8 Z8 n6_7 n6_8 n7_8
          rw [← hops]
          refine wpAnyH_ready (rs := [3]) (by kernel_rfl) (by simp) (AllReadyH.cons rfl (fun K hK => ?_) AllReadyH.nil)
          have KH6 := Lib.hid K6
          have KH7 := Lib.hid K7
          have KH8 := Lib.hid K8
          have h0 := hHeld
          clear hHeld
          try simp only [List.getElem_toArray, List.getElem_cons_succ, List.getElem_cons_zero]
          have H0 := Lib.hid h0
          clear h0
          go_simp
          go_at_call 14
          refine (ofR Hy.out _ (HPG.out.ext H0.out.below) Hb.out).mono ?_
          rintro e vv ⟨rfl, hb⟩
          have KJ6 := Lib.hid (KH6.out.below hb KH6.out.lt)
          have KJ7 := Lib.hid (KH7.out.below hb KH7.out.lt)
          have KJ8 := Lib.hid (KH8.out.below hb KH8.out.lt)
          have h1 := H0.out.ext hb
          clear hb H0
          go_wp2_with (fail)
          refine hK.out _ _ h1 (fun hHeld => ?_)
          clear hK K h1
          try simp only [Act.put, List.getElem_toArray, List.getElem_cons_succ, List.getElem_cons_zero, List.setIfInBounds_toArray, List.set_cons_zero, List.set_cons_succ]
          have k6 := KJ6.out
          have k7 := KJ7.out
          have k8 := KJ8.out
          have z6 := Z6
          have z7 := Z7
          have z8 := Z8
          refine wpAnyH_cast (n' := 4) (l' := #[true, true, true, true, true, false, true, true, true, false, false, false]) (by kernel_rfl) (by kernel_rfl) ?_
          have hh := st2_678 g7 g8 g9 _ hHeld k6 z6 k7 z7 k8 z8 n6_7 n6_8 n7_8
          rw [← hops] at hh
          exact hh
      have st3_ : ∀ (W : World), Fn wx W [(w.heap.size, 23, ks a), (w.heap.size + 1, 23, ks b), (w.heap.size + 1 + 1, 23, ks c)] → wpAnyH Tryd.prog .any ops Q (fun W => Fn wx W [(w.heap.size, 23, ks a), (w.heap.size + 1, 23, ks b), (w.heap.size + 1 + 1, 23, ks c)]) 6 #[true, true, true, true, true, true, false, false, false, false, false, false] { tmps := #[.agg (ks a), .agg (ks b), .agg (ks c), .pointer (some ⟨w.heap.size, 0, none⟩), .pointer (some ⟨w.heap.size + 1, 0, none⟩), .pointer (some ⟨w.heap.size + 1 + 1, 0, none⟩), .bool false, undef, undef, undef, undef, undef, .agg (ks a), .agg (ev x), .agg (ks b), .agg (ev y), .agg (ks c), .agg (ev z), undef, undef, undef, undef, undef, undef, undef, undef, undef, undef, undef, undef, undef, undef, undef, undef, undef, undef, undef, undef, undef, undef, undef, undef, undef, undef, undef, undef, undef, undef, undef, undef, undef, undef, undef, undef, undef, undef, undef, undef, undef, undef, undef, undef, undef, undef, undef, undef, undef, undef, undef, undef, undef, undef, undef, undef, undef, undef, undef, undef, undef, undef, undef, undef, undef, undef, undef, undef, undef, undef, undef, undef, undef, undef, undef, undef, undef, undef, undef, undef, undef, undef, undef, undef, undef, undef, undef, undef, undef, undef, undef, undef, undef, undef, undef, undef, undef, undef, undef, undef, undef, undef, undef, undef, undef, undef], defers := [] } W := by
        as_aux_lemma =>
          clear st1_678 st2_78 st2_68 st2_67 st2_678 st3_78 st3_68 st3_67 st3_678
          intro W hHeld
          rw [← hops]
          refine wpAnyH_ready (rs := [6, 7, 8]) (by kernel_rfl) (by simp) (AllReadyH.cons rfl (fun K hK => ?_) (AllReadyH.cons rfl (fun K hK => ?_) (AllReadyH.cons rfl (fun K hK => ?_) AllReadyH.nil)))
          · have h0 := hHeld
            clear hHeld
            try simp only [List.getElem_toArray, List.getElem_cons_succ, List.getElem_cons_zero]
            obtain ⟨kz, hg⟩ := Fn.fresh h0 33 #[.int .u64 0, .int .u64 0, .int .u64 0, .int .u64 0]
            have KZ := Lib.hid kz
            have HG := Lib.hid hg
            have H0 := Lib.hid h0
            clear kz hg h0
            go_simp
            refine hK.out _ _ (Fn.pass H0.out _) (fun hHeld => ?_)
            clear hK K H0
            try simp only [Act.put, List.getElem_toArray, List.getElem_cons_succ, List.getElem_cons_zero, List.setIfInBounds_toArray, List.set_cons_zero, List.set_cons_succ]
            have k6 := KZ.out
            have z6 := HG.out
            refine wpAnyH_cast (n' := 5) (l' := #[true, true, true, true, true, true, true, false, false, false, false, false]) (by kernel_rfl) (by kernel_rfl) ?_
            have hh := st3_6 _ _ hHeld k6 z6
            rw [← hops] at hh
            exact hh
          · have h0 := hHeld
            clear hHeld
            try simp only [List.getElem_toArray, List.getElem_cons_succ, List.getElem_cons_zero]
            obtain ⟨kz, hg⟩ := Fn.fresh h0 33 #[.int .u64 0, .int .u64 0, .int .u64 0, .int .u64 0]
            have KZ := Lib.hid kz
            have HG := Lib.hid hg
            have H0 := Lib.hid h0
            clear kz hg h0
            go_simp
            refine hK.out _ _ (Fn.pass H0.out _) (fun hHeld => ?_)
            clear hK K H0
            try simp only [Act.put, List.getElem_toArray, List.getElem_cons_succ, List.getElem_cons_zero, List.setIfInBounds_toArray, List.set_cons_zero, List.set_cons_succ]
            have k7 := KZ.out
            have z7 := HG.out
            refine wpAnyH_cast (n' := 5) (l' := #[true, true, true, true, true, true, false, true, false, false, false, false]) (by kernel_rfl) (by kernel_rfl) ?_
            have hh := st3_7 _ _ hHeld k7 z7
            rw [← hops] at hh
            exact hh
          · have h0 := hHeld
            clear hHeld
            try simp only [List.getElem_toArray, List.getElem_cons_succ, List.getElem_cons_zero]
            obtain ⟨kz, hg⟩ := Fn.fresh h0 33 #[.int .u64 0, .int .u64 0, .int .u64 0, .int .u64 0]
            have KZ := Lib.hid kz
            have HG := Lib.hid hg
            have H0 := Lib.hid h0
            clear kz hg h0
            go_simp
            refine hK.out _ _ (Fn.pass H0.out _) (fun hHeld => ?_)
            clear hK K H0
            try simp only [Act.put, List.getElem_toArray, List.getElem_cons_succ, List.getElem_cons_zero, List.setIfInBounds_toArray, List.set_cons_zero, List.set_cons_succ]
            have k8 := KZ.out
            have z8 := HG.out
            refine wpAnyH_cast (n' := 5) (l' := #[true, true, true, true, true, true, false, false, true, false, false, false]) (by kernel_rfl) (by kernel_rfl) ?_
            have hh := st3_8 _ _ hHeld k8 z8
            rw [← hops] at hh
            exact hh
      have st2_6 : ∀ (g7 : Nat) (W : World), Fn wx W [(w.heap.size, 23, ks a), (w.heap.size + 1, 23, ks b), (w.heap.size + 1 + 1, 23, ks c)] → Blk W g7 33 #[.int .u64 0, .int .u64 0, .int .u64 0, .int .u64 0] → wx.heap.size ≤ g7 → wpAnyH Tryd.prog .any ops Q (fun W => Fn wx W [(w.heap.size, 23, ks a), (w.heap.size + 1, 23, ks b), (w.heap.size + 1 + 1, 23, ks c)]) 6 #[true, true, true, true, true, false, true, false, false, false, false, false] { tmps := #[.agg (ks a), .agg (ks b), .agg (ks c), .pointer (some ⟨w.heap.size, 0, none⟩), .pointer (some ⟨w.heap.size + 1, 0, none⟩), .pointer (some ⟨w.heap.size + 1 + 1, 0, none⟩), .bool false, .pointer (some ⟨g7, 0, none⟩), undef, undef, undef, undef, .agg (ks a), .agg (ev x), .agg (ks b), .agg (ev y), .agg (ks c), undef, undef, undef, undef, undef, undef, undef, undef, undef, undef, undef, undef, undef, undef, undef, undef, undef, undef, undef, undef, undef, undef, undef, undef, undef, undef, undef, undef, undef, undef, undef, undef, undef, undef, undef, undef, undef, undef, undef, undef, undef, undef, undef, undef, undef, undef, undef, undef, undef, undef, undef, undef, undef, undef, undef, undef, undef, undef, undef, undef, undef, undef, undef, undef, undef, undef, undef, undef, undef, undef, undef, undef, undef, undef, undef, undef, undef, undef, undef, undef, undef, undef, undef, undef, undef, undef, undef, undef, undef, undef, undef, undef, undef, undef, undef, undef, undef, undef, undef, undef, undef, undef, undef, undef, undef, undef, undef], defers := [] } W := by
        as_aux_lemma =>
          clear st3_ st1_678 st2_78 st3_8 st3_7 st2_678 st3_78 st3_68 st3_67 st3_678
          intro g7 W hHeld K6 Z6
          rw [← hops]
          refine wpAnyH_ready (rs := [5, 7, 8]) (by kernel_rfl) (by simp) (AllReadyH.cons rfl (fun K hK => ?_) (AllReadyH.cons rfl (fun K hK => ?_) (AllReadyH.cons rfl (fun K hK => ?_) AllReadyH.nil)))
          · have KH6 := Lib.hid K6
            have h0 := hHeld
            clear hHeld
            try simp only [List.getElem_toArray, List.getElem_cons_succ, List.getElem_cons_zero]
            have H0 := Lib.hid h0
            clear h0
            go_simp
            go_at_call 14
            refine (ofR Hz.out _ (HPG.out.ext H0.out.below) Hc.out).mono ?_
            rintro e vv ⟨rfl, hb⟩
            have KJ6 := Lib.hid (KH6.out.below hb KH6.out.lt)
            have h1 := H0.out.ext hb
            clear hb H0
            go_wp2_with (fail)
            refine hK.out _ _ h1 (fun hHeld => ?_)
            clear hK K h1
            try simp only [Act.put, List.getElem_toArray, List.getElem_cons_succ, List.getElem_cons_zero, List.setIfInBounds_toArray, List.set_cons_zero, List.set_cons_succ]
            have k6 := KJ6.out
            have z6 := Z6
            refine wpAnyH_cast (n' := 5) (l' := #[true, true, true, true, true, true, true, false, false, false, false, false]) (by kernel_rfl) (by kernel_rfl) ?_
            have hh := st3_6 g7 _ hHeld k6 z6
            rw [← hops] at hh
            exact hh
          · have h0 := hHeld
            clear hHeld
            try simp only [List.getElem_toArray, List.getElem_cons_succ, List.getElem_cons_zero]
            obtain ⟨kz, hg⟩ := Fn.fresh h0 33 #[.int .u64 0, .int .u64 0, .int .u64 0, .int .u64 0]
            have KZ := Lib.hid kz
            have HG := Lib.hid hg
            have H0 := Lib.hid h0
            clear kz hg h0
            have KH6 := Lib.hid K6
            go_simp
            refine hK.out _ _ (Fn.pass H0.out _) (fun hHeld => ?_)
            clear hK K H0
            try simp only [Act.put, List.getElem_toArray, List.getElem_cons_succ, List.getElem_cons_zero, List.setIfInBounds_toArray, List.set_cons_zero, List.set_cons_succ]
            have k6 := KH6.out.alloc (.cells #[.int .u64 0, .int .u64 0, .int .u64 0, .int .u64 0] 33)
            have z6 := Z6
            have k7 := KZ.out
            have z7 := HG.out
            refine wpAnyH_cast (n' := 5) (l' := #[true, true, true, true, true, false, true, true, false, false, false, false]) (by kernel_rfl) (by kernel_rfl) ?_
            have hh := st2_67 g7 _ _ hHeld k6 z6 k7 z7 (Nat.ne_of_lt K6.lt)
            rw [← hops] at hh
            exact hh
          · have h0 := hHeld
            clear hHeld
            try simp only [List.getElem_toArray, List.getElem_cons_succ, List.getElem_cons_zero]
            obtain ⟨kz, hg⟩ := Fn.fresh h0 33 #[.int .u64 0, .int .u64 0, .int .u64 0, .int .u64 0]
            have KZ := Lib.hid kz
            have HG := Lib.hid hg
            have H0 := Lib.hid h0
            clear kz hg h0
            have KH6 := Lib.hid K6
            go_simp
            refine hK.out _ _ (Fn.pass H0.out _) (fun hHeld => ?_)
            clear hK K H0
            try simp only [Act.put, List.getElem_toArray, List.getElem_cons_succ, List.getElem_cons_zero, List.setIfInBounds_toArray, List.set_cons_zero, List.set_cons_succ]
            have k6 := KH6.out.alloc (.cells #[.int .u64 0, .int .u64 0, .int .u64 0, .int .u64 0] 33)
            have z6 := Z6
            have k8 := KZ.out
            have z8 := HG.out
            refine wpAnyH_cast (n' := 5) (l' := #[true, true, true, true, true, false, true, false, true, false, false, false]) (by kernel_rfl) (by kernel_rfl) ?_
            have hh := st2_68 g7 _ _ hHeld k6 z6 k8 z8 (Nat.ne_of_lt K6.lt)
            rw [← hops] at hh
            exact hh
      have st2_7 : ∀ (g8 : Nat) (W : World), Fn wx W [(w.heap.size, 23, ks a), (w.heap.size + 1, 23, ks b), (w.heap.size + 1 + 1, 23, ks c)] → Blk W g8 33 #[.int .u64 0, .int .u64 0, .int .u64 0, .int .u64 0] → wx.heap.size ≤ g8 → wpAnyH Tryd.prog .any ops Q (fun W => Fn wx W [(w.heap.size, 23, ks a), (w.heap.size + 1, 23, ks b), (w.heap.size + 1 + 1, 23, ks c)]) 6 #[true, true, true, true, true, false, false, true, false, false, false, false] { tmps := #[.agg (ks a), .agg (ks b), .agg (ks c), .pointer (some ⟨w.heap.size, 0, none⟩), .pointer (some ⟨w.heap.size + 1, 0, none⟩), .pointer (some ⟨w.heap.size + 1 + 1, 0, none⟩), .bool false, undef, .pointer (some ⟨g8, 0, none⟩), undef, undef, undef, .agg (ks a), .agg (ev x), .agg (ks b), .agg (ev y), .agg (ks c), undef, undef, undef, undef, undef, undef, undef, undef, undef, undef, undef, undef, undef, undef, undef, undef, undef, undef, undef, undef, undef, undef, undef, undef, undef, undef, undef, undef, undef, undef, undef, undef, undef, undef, undef, undef, undef, undef, undef, undef, undef, undef, undef, undef, undef, undef, undef, undef, undef, undef, undef, undef, undef, undef, undef, undef, undef, undef, undef, undef, undef, undef, undef, undef, undef, undef, undef, undef, undef, undef, undef, undef, undef, undef, undef, undef, undef, undef, undef, undef, undef, undef, undef, undef, undef, undef, undef, undef, undef, undef, undef, undef, undef, undef, undef, undef, undef, undef, undef, undef, undef, undef, undef, undef, undef, undef, undef], defers := [] } W := by
        as_aux_lemma =>
          clear st2_6 st3_ st1_678 st2_68 st3_8 st3_6 st2_678 st3_78 st3_68 st3_67 st3_678
          intro g8 W hHeld K7 Z7
          rw [← hops]
          refine wpAnyH_ready (rs := [5, 6, 8]) (by kernel_rfl) (by simp) (AllReadyH.cons rfl (fun K hK => ?_) (AllReadyH.cons rfl (fun K hK => ?_) (AllReadyH.cons rfl (fun K hK => ?_) AllReadyH.nil)))
          · have KH7 := Lib.hid K7
            have h0 := hHeld
            clear hHeld
            try simp only [List.getElem_toArray, List.getElem_cons_succ, List.getElem_cons_zero]
            have H0 := Lib.hid h0
            clear h0
            go_simp
            go_at_call 14
            refine (ofR Hz.out _ (HPG.out.ext H0.out.below) Hc.out).mono ?_
            rintro e vv ⟨rfl, hb⟩
            have KJ7 := Lib.hid (KH7.out.below hb KH7.out.lt)
            have h1 := H0.out.ext hb
            clear hb H0
            go_wp2_with (fail)
            refine hK.out _ _ h1 (fun hHeld => ?_)
            clear hK K h1
            try simp only [Act.put, List.getElem_toArray, List.getElem_cons_succ, List.getElem_cons_zero, List.setIfInBounds_toArray, List.set_cons_zero, List.set_cons_succ]
            have k7 := KJ7.out
            have z7 := Z7
            refine wpAnyH_cast (n' := 5) (l' := #[true, true, true, true, true, true, false, true, false, false, false, false]) (by kernel_rfl) (by kernel_rfl) ?_
            have hh := st3_7 g8 _ hHeld k7 z7
            rw [← hops] at hh
            exact hh
          · have h0 := hHeld
            clear hHeld
            try simp only [List.getElem_toArray, List.getElem_cons_succ, List.getElem_cons_zero]
            obtain ⟨kz, hg⟩ := Fn.fresh h0 33 #[.int .u64 0, .int .u64 0, .int .u64 0, .int .u64 0]
            have KZ := Lib.hid kz
            have HG := Lib.hid hg
            have H0 := Lib.hid h0
            clear kz hg h0
            have KH7 := Lib.hid K7
            go_simp
            refine hK.out _ _ (Fn.pass H0.out _) (fun hHeld => ?_)
            clear hK K H0
            try simp only [Act.put, List.getElem_toArray, List.getElem_cons_succ, List.getElem_cons_zero, List.setIfInBounds_toArray, List.set_cons_zero, List.set_cons_succ]
            have k7 := KH7.out.alloc (.cells #[.int .u64 0, .int .u64 0, .int .u64 0, .int .u64 0] 33)
            have z7 := Z7
            have k6 := KZ.out
            have z6 := HG.out
            refine wpAnyH_cast (n' := 5) (l' := #[true, true, true, true, true, false, true, true, false, false, false, false]) (by kernel_rfl) (by kernel_rfl) ?_
            have hh := st2_67 _ g8 _ hHeld k6 z6 k7 z7 (Ne.symm (Nat.ne_of_lt K7.lt))
            rw [← hops] at hh
            exact hh
          · have h0 := hHeld
            clear hHeld
            try simp only [List.getElem_toArray, List.getElem_cons_succ, List.getElem_cons_zero]
            obtain ⟨kz, hg⟩ := Fn.fresh h0 33 #[.int .u64 0, .int .u64 0, .int .u64 0, .int .u64 0]
            have KZ := Lib.hid kz
            have HG := Lib.hid hg
            have H0 := Lib.hid h0
            clear kz hg h0
            have KH7 := Lib.hid K7
            go_simp
            refine hK.out _ _ (Fn.pass H0.out _) (fun hHeld => ?_)
            clear hK K H0
            try simp only [Act.put, List.getElem_toArray, List.getElem_cons_succ, List.getElem_cons_zero, List.setIfInBounds_toArray, List.set_cons_zero, List.set_cons_succ]
            have k7 := KH7.out.alloc (.cells #[.int .u64 0, .int .u64 0, .int .u64 0, .int .u64 0] 33)
            have z7 := Z7
            have k8 := KZ.out
            have z8 := HG.out
            refine wpAnyH_cast (n' := 5) (l' := #[true, true, true, true, true, false, false, true, true, false, false, false]) (by kernel_rfl) (by kernel_rfl) ?_
            have hh := st2_78 g8 _ _ hHeld k7 z7 k8 z8 (Nat.ne_of_lt K7.lt)
            rw [← hops] at hh
            exact hh
      have st2_8 : ∀ (g9 : Nat) (W : World), Fn wx W [(w.heap.size, 23, ks a), (w.heap.size + 1, 23, ks b), (w.heap.size + 1 + 1, 23, ks c)] → Blk W g9 33 #[.int .u64 0, .int .u64 0, .int .u64 0, .int .u64 0] → wx.heap.size ≤ g9 → wpAnyH Tryd.prog .any ops Q (fun W => Fn wx W [(w.heap.size, 23, ks a), (w.heap.size + 1, 23, ks b), (w.heap.size + 1 + 1, 23, ks c)]) 6 #[true, true, true, true, true, false, false, false, true, false, false, false] { tmps := #[.agg (ks a), .agg (ks b), .agg (ks c), .pointer (some ⟨w.heap.size, 0, none⟩), .pointer (some ⟨w.heap.size + 1, 0, none⟩), .pointer (some ⟨w.heap.size + 1 + 1, 0, none⟩), .bool false, undef, undef, .pointer (some ⟨g9, 0, none⟩), undef, undef, .agg (ks a), .agg (ev x), .agg (ks b), .agg (ev y), .agg (ks c), undef, undef, undef, undef, undef, undef, undef, undef, undef, undef, undef, undef, undef, undef, undef, undef, undef, undef, undef, undef, undef, undef, undef, undef, undef, undef, undef, undef, undef, undef, undef, undef, undef, undef, undef, undef, undef, undef, undef, undef, undef, undef, undef, undef, undef, undef, undef, undef, undef, undef, undef, undef, undef, undef, undef, undef, undef, undef, undef, undef, undef, undef, undef, undef, undef, undef, undef, undef, undef, undef, undef, undef, undef, undef, undef, undef, undef, undef, undef, undef, undef, undef, undef, undef, undef, undef, undef, undef, undef, undef, undef, undef, undef, undef, undef, undef, undef, undef, undef, undef, undef, undef, undef, undef, undef, undef, undef], defers := [] } W := by
        as_aux_lemma =>
          clear st2_7 st2_6 st3_ st1_678 st2_67 st3_7 st3_6 st2_678 st3_78 st3_68 st3_67 st3_678
          intro g9 W hHeld K8 Z8
          rw [← hops]
          refine wpAnyH_ready (rs := [5, 6, 7]) (by kernel_rfl) (by simp) (AllReadyH.cons rfl (fun K hK => ?_) (AllReadyH.cons rfl (fun K hK => ?_) (AllReadyH.cons rfl (fun K hK => ?_) AllReadyH.nil)))
          · have KH8 := Lib.hid K8
            have h0 := hHeld
            clear hHeld
            try simp only [List.getElem_toArray, List.getElem_cons_succ, List.getElem_cons_zero]
            have H0 := Lib.hid h0
            clear h0
            go_simp
            go_at_call 14
            refine (ofR Hz.out _ (HPG.out.ext H0.out.below) Hc.out).mono ?_
            rintro e vv ⟨rfl, hb⟩
            have KJ8 := Lib.hid (KH8.out.below hb KH8.out.lt)
            have h1 := H0.out.ext hb
            clear hb H0
            go_wp2_with (fail)
            refine hK.out _ _ h1 (fun hHeld => ?_)
            clear hK K h1
            try simp only [Act.put, List.getElem_toArray, List.getElem_cons_succ, List.getElem_cons_zero, List.setIfInBounds_toArray, List.set_cons_zero, List.set_cons_succ]
            have k8 := KJ8.out
            have z8 := Z8
            refine wpAnyH_cast (n' := 5) (l' := #[true, true, true, true, true, true, false, false, true, false, false, false]) (by kernel_rfl) (by kernel_rfl) ?_
            have hh := st3_8 g9 _ hHeld k8 z8
            rw [← hops] at hh
            exact hh
          · have h0 := hHeld
            clear hHeld
            try simp only [List.getElem_toArray, List.getElem_cons_succ, List.getElem_cons_zero]
            obtain ⟨kz, hg⟩ := Fn.fresh h0 33 #[.int .u64 0, .int .u64 0, .int .u64 0, .int .u64 0]
            have KZ := Lib.hid kz
            have HG := Lib.hid hg
            have H0 := Lib.hid h0
            clear kz hg h0
            have KH8 := Lib.hid K8
            go_simp
            refine hK.out _ _ (Fn.pass H0.out _) (fun hHeld => ?_)
            clear hK K H0
            try simp only [Act.put, List.getElem_toArray, List.getElem_cons_succ, List.getElem_cons_zero, List.setIfInBounds_toArray, List.set_cons_zero, List.set_cons_succ]
            have k8 := KH8.out.alloc (.cells #[.int .u64 0, .int .u64 0, .int .u64 0, .int .u64 0] 33)
            have z8 := Z8
            have k6 := KZ.out
            have z6 := HG.out
            refine wpAnyH_cast (n' := 5) (l' := #[true, true, true, true, true, false, true, false, true, false, false, false]) (by kernel_rfl) (by kernel_rfl) ?_
            have hh := st2_68 _ g9 _ hHeld k6 z6 k8 z8 (Ne.symm (Nat.ne_of_lt K8.lt))
            rw [← hops] at hh
            exact hh
          · have h0 := hHeld
            clear hHeld
            try simp only [List.getElem_toArray, List.getElem_cons_succ, List.getElem_cons_zero]
            obtain ⟨kz, hg⟩ := Fn.fresh h0 33 #[.int .u64 0, .int .u64 0, .int .u64 0, .int .u64 0]
            have KZ := Lib.hid kz
            have HG := Lib.hid hg
            have H0 := Lib.hid h0
            clear kz hg h0
            have KH8 := Lib.hid K8
            go_simp
            refine hK.out _ _ (Fn.pass H0.out _) (fun hHeld => ?_)
            clear hK K H0
            try simp only [Act.put, List.getElem_toArray, List.getElem_cons_succ, List.getElem_cons_zero, List.setIfInBounds_toArray, List.set_cons_zero, List.set_cons_succ]
            have k8 := KH8.out.alloc (.cells #[.int .u64 0, .int .u64 0, .int .u64 0, .int .u64 0] 33)
            have z8 := Z8
            have k7 := KZ.out
            have z7 := HG.out
            refine wpAnyH_cast (n' := 5) (l' := #[true, true, true, true, true, false, false, true, true, false, false, false]) (by kernel_rfl) (by kernel_rfl) ?_
            have hh := st2_78 _ g9 _ hHeld k7 z7 k8 z8 (Ne.symm (Nat.ne_of_lt K8.lt))
            rw [← hops] at hh
            exact hh
      have st1_67 : ∀ (g7 g8 : Nat) (W : World), Fn wx W [(w.heap.size, 23, ks a), (w.heap.size + 1, 23, ks b), (w.heap.size + 1 + 1, 23, ks c)] → Blk W g7 33 #[.int .u64 0, .int .u64 0, .int .u64 0, .int .u64 0] → wx.heap.size ≤ g7 → Blk W g8 33 #[.int .u64 0, .int .u64 0, .int .u64 0, .int .u64 0] → wx.heap.size ≤ g8 → g7 ≠ g8 → wpAnyH Tryd.prog .any ops Q (fun W => Fn wx W [(w.heap.size, 23, ks a), (w.heap.size + 1, 23, ks b), (w.heap.size + 1 + 1, 23, ks c)]) 6 #[true, true, true, false, true, false, true, true, false, false, false, false] { tmps := #[.agg (ks a), .agg (ks b), .agg (ks c), .pointer (some ⟨w.heap.size, 0, none⟩), .pointer (some ⟨w.heap.size + 1, 0, none⟩), .pointer (some ⟨w.heap.size + 1 + 1, 0, none⟩), .bool false, .pointer (some ⟨g7, 0, none⟩), .pointer (some ⟨g8, 0, none⟩), undef, undef, undef, .agg (ks a), .agg (ev x), .agg (ks b), undef, .agg (ks c), undef, undef, undef, undef, undef, undef, undef, undef, undef, undef, undef, undef, undef, undef, undef, undef, undef, undef, undef, undef, undef, undef, undef, undef, undef, undef, undef, undef, undef, undef, undef, undef, undef, undef, undef, undef, undef, undef, undef, undef, undef, undef, undef, undef, undef, undef, undef, undef, undef, undef, undef, undef, undef, undef, undef, undef, undef, undef, undef, undef, undef, undef, undef, undef, undef, undef, undef, undef, undef, undef, undef, undef, undef, undef, undef, undef, undef, undef, undef, undef, undef, undef, undef, undef, undef, undef, undef, undef, undef, undef, undef, undef, undef, undef, undef, undef, undef, undef, undef, undef, undef, undef, undef, undef, undef, undef, undef], defers := [] } W := by
        as_aux_lemma =>
          clear st2_8 st2_7 st2_6 st3_ st2_78 st2_68 st3_8 st3_7 st3_6 st2_678 st3_78 st3_68 st3_67 st3_678
          intro g7 g8 W hHeld K6 Z6 K7 Z7 n6_7
          rw [← hops]
          refine wpAnyH_ready (rs := [3, 8]) (by kernel_rfl) (by simp) (AllReadyH.cons rfl (fun K hK => ?_) (AllReadyH.cons rfl (fun K hK => ?_) AllReadyH.nil))
          · have KH6 := Lib.hid K6
            have KH7 := Lib.hid K7
            have h0 := hHeld
            clear hHeld
            try simp only [List.getElem_toArray, List.getElem_cons_succ, List.getElem_cons_zero]
            have H0 := Lib.hid h0
            clear h0
            go_simp
            go_at_call 14
            refine (ofR Hy.out _ (HPG.out.ext H0.out.below) Hb.out).mono ?_
            rintro e vv ⟨rfl, hb⟩
            have KJ6 := Lib.hid (KH6.out.below hb KH6.out.lt)
            have KJ7 := Lib.hid (KH7.out.below hb KH7.out.lt)
            have h1 := H0.out.ext hb
            clear hb H0
            go_wp2_with (fail)
            refine hK.out _ _ h1 (fun hHeld => ?_)
            clear hK K h1
            try simp only [Act.put, List.getElem_toArray, List.getElem_cons_succ, List.getElem_cons_zero, List.setIfInBounds_toArray, List.set_cons_zero, List.set_cons_succ]
            have k6 := KJ6.out
            have k7 := KJ7.out
            have z6 := Z6
            have z7 := Z7
            refine wpAnyH_cast (n' := 5) (l' := #[true, true, true, true, true, false, true, true, false, false, false, false]) (by kernel_rfl) (by kernel_rfl) ?_
            have hh := st2_67 g7 g8 _ hHeld k6 z6 k7 z7 n6_7
            rw [← hops] at hh
            exact hh
          · have h0 := hHeld
            clear hHeld
            try simp only [List.getElem_toArray, List.getElem_cons_succ, List.getElem_cons_zero]
            obtain ⟨kz, hg⟩ := Fn.fresh h0 33 #[.int .u64 0, .int .u64 0, .int .u64 0, .int .u64 0]
            have KZ := Lib.hid kz
            have HG := Lib.hid hg
            have H0 := Lib.hid h0
            clear kz hg h0
            have KH6 := Lib.hid K6
            have KH7 := Lib.hid K7
            go_simp
            refine hK.out _ _ (Fn.pass H0.out _) (fun hHeld => ?_)
            clear hK K H0
            try simp only [Act.put, List.getElem_toArray, List.getElem_cons_succ, List.getElem_cons_zero, List.setIfInBounds_toArray, List.set_cons_zero, List.set_cons_succ]
            have k6 := KH6.out.alloc (.cells #[.int .u64 0, .int .u64 0, .int .u64 0, .int .u64 0] 33)
            have k7 := KH7.out.alloc (.cells #[.int .u64 0, .int .u64 0, .int .u64 0, .int .u64 0] 33)
            have z6 := Z6
            have z7 := Z7
            have k8 := KZ.out
            have z8 := HG.out
            refine wpAnyH_cast (n' := 5) (l' := #[true, true, true, false, true, false, true, true, true, false, false, false]) (by kernel_rfl) (by kernel_rfl) ?_
            have hh := st1_678 g7 g8 _ _ hHeld k6 z6 k7 z7 k8 z8 n6_7 (Nat.ne_of_lt K6.lt) (Nat.ne_of_lt K7.lt)
            rw [← hops] at hh
            exact hh
      have st1_68 : ∀ (g7 g9 : Nat) (W : World), Fn wx W [(w.heap.size, 23, ks a), (w.heap.size + 1, 23, ks b), (w.heap.size + 1 + 1, 23, ks c)] → Blk W g7 33 #[.int .u64 0, .int .u64 0, .int .u64 0, .int .u64 0] → wx.heap.size ≤ g7 → Blk W g9 33 #[.int .u64 0, .int .u64 0, .int .u64 0, .int .u64 0] → wx.heap.size ≤ g9 → g7 ≠ g9 → wpAnyH Tryd.prog .any ops Q (fun W => Fn wx W [(w.heap.size, 23, ks a), (w.heap.size + 1, 23, ks b), (w.heap.size + 1 + 1, 23, ks c)]) 6 #[true, true, true, false, true, false, true, false, true, false, false, false] { tmps := #[.agg (ks a), .agg (ks b), .agg (ks c), .pointer (some ⟨w.heap.size, 0, none⟩), .pointer (some ⟨w.heap.size + 1, 0, none⟩), .pointer (some ⟨w.heap.size + 1 + 1, 0, none⟩), .bool false, .pointer (some ⟨g7, 0, none⟩), undef, .pointer (some ⟨g9, 0, none⟩), undef, undef, .agg (ks a), .agg (ev x), .agg (ks b), undef, .agg (ks c), undef, undef, undef, undef, undef, undef, undef, undef, undef, undef, undef, undef, undef, undef, undef, undef, undef, undef, undef, undef, undef, undef, undef, undef, undef, undef, undef, undef, undef, undef, undef, undef, undef, undef, undef, undef, undef, undef, undef, undef, undef, undef, undef, undef, undef, undef, undef, undef, undef, undef, undef, undef, undef, undef, undef, undef, undef, undef, undef, undef, undef, undef, undef, undef, undef, undef, undef, undef, undef, undef, undef, undef, undef, undef, undef, undef, undef, undef, undef, undef, undef, undef, undef, undef, undef, undef, undef, undef, undef, undef, undef, undef, undef, undef, undef, undef, undef, undef, undef, undef, undef, undef, undef, undef, undef, undef, undef], defers := [] } W := by
        as_aux_lemma =>
          clear st1_67 st2_8 st2_7 st2_6 st3_ st2_78 st2_67 st3_8 st3_7 st3_6 st2_678 st3_78 st3_68 st3_67 st3_678
          intro g7 g9 W hHeld K6 Z6 K8 Z8 n6_8
          rw [← hops]
          refine wpAnyH_ready (rs := [3, 7]) (by kernel_rfl) (by simp) (AllReadyH.cons rfl (fun K hK => ?_) (AllReadyH.cons rfl (fun K hK => ?_) AllReadyH.nil))
          · have KH6 := Lib.hid K6
            have KH8 := Lib.hid K8
            have h0 := hHeld
            clear hHeld
            try simp only [List.getElem_toArray, List.getElem_cons_succ, List.getElem_cons_zero]
            have H0 := Lib.hid h0
            clear h0
            go_simp
            go_at_call 14
            refine (ofR Hy.out _ (HPG.out.ext H0.out.below) Hb.out).mono ?_
            rintro e vv ⟨rfl, hb⟩
            have KJ6 := Lib.hid (KH6.out.below hb KH6.out.lt)
            have KJ8 := Lib.hid (KH8.out.below hb KH8.out.lt)
            have h1 := H0.out.ext hb
            clear hb H0
            go_wp2_with (fail)
            refine hK.out _ _ h1 (fun hHeld => ?_)
            clear hK K h1
            try simp only [Act.put, List.getElem_toArray, List.getElem_cons_succ, List.getElem_cons_zero, List.setIfInBounds_toArray, List.set_cons_zero, List.set_cons_succ]
            have k6 := KJ6.out
            have k8 := KJ8.out
            have z6 := Z6
            have z8 := Z8
            refine wpAnyH_cast (n' := 5) (l' := #[true, true, true, true, true, false, true, false, true, false, false, false]) (by kernel_rfl) (by kernel_rfl) ?_
            have hh := st2_68 g7 g9 _ hHeld k6 z6 k8 z8 n6_8
            rw [← hops] at hh
            exact hh
          · have h0 := hHeld
            clear hHeld
            try simp only [List.getElem_toArray, List.getElem_cons_succ, List.getElem_cons_zero]
            obtain ⟨kz, hg⟩ := Fn.fresh h0 33 #[.int .u64 0, .int .u64 0, .int .u64 0, .int .u64 0]
            have KZ := Lib.hid kz
            have HG := Lib.hid hg
            have H0 := Lib.hid h0
            clear kz hg h0
            have KH6 := Lib.hid K6
            have KH8 := Lib.hid K8
            go_simp
            refine hK.out _ _ (Fn.pass H0.out _) (fun hHeld => ?_)
            clear hK K H0
            try simp only [Act.put, List.getElem_toArray, List.getElem_cons_succ, List.getElem_cons_zero, List.setIfInBounds_toArray, List.set_cons_zero, List.set_cons_succ]
            have k6 := KH6.out.alloc (.cells #[.int .u64 0, .int .u64 0, .int .u64 0, .int .u64 0] 33)
            have k8 := KH8.out.alloc (.cells #[.int .u64 0, .int .u64 0, .int .u64 0, .int .u64 0] 33)
            have z6 := Z6
            have z8 := Z8
            have k7 := KZ.out
            have z7 := HG.out
            refine wpAnyH_cast (n' := 5) (l' := #[true, true, true, false, true, false, true, true, true, false, false, false]) (by kernel_rfl) (by kernel_rfl) ?_
            have hh := st1_678 g7 _ g9 _ hHeld k6 z6 k7 z7 k8 z8 (Nat.ne_of_lt K6.lt) n6_8 (Ne.symm (Nat.ne_of_lt K8.lt))
            rw [← hops] at hh
            exact hh
      have st1_78 : ∀ (g8 g9 : Nat) (W : World), Fn wx W [(w.heap.size, 23, ks a), (w.heap.size + 1, 23, ks b), (w.heap.size + 1 + 1, 23, ks c)] → Blk W g8 33 #[.int .u64 0, .int .u64 0, .int .u64 0, .int .u64 0] → wx.heap.size ≤ g8 → Blk W g9 33 #[.int .u64 0, .int .u64 0, .int .u64 0, .int .u64 0] → wx.heap.size ≤ g9 → g8 ≠ g9 → wpAnyH Tryd.prog .any ops Q (fun W => Fn wx W [(w.heap.size, 23, ks a), (w.heap.size + 1, 23, ks b), (w.heap.size + 1 + 1, 23, ks c)]) 6 #[true, true, true, false, true, false, false, true, true, false, false, false] { tmps := #[.agg (ks a), .agg (ks b), .agg (ks c), .pointer (some ⟨w.heap.size, 0, none⟩), .pointer (some ⟨w.heap.size + 1, 0, none⟩), .pointer (some ⟨w.heap.size + 1 + 1, 0, none⟩), .bool false, undef, .pointer (some ⟨g8, 0, none⟩), .pointer (some ⟨g9, 0, none⟩), undef, undef, .agg (ks a), .agg (ev x), .agg (ks b), undef, .agg (ks c), undef, undef, undef, undef, undef, undef, undef, undef, undef, undef, undef, undef, undef, undef, undef, undef, undef, undef, undef, undef, undef, undef, undef, undef, undef, undef, undef, undef, undef, undef, undef, undef, undef, undef, undef, undef, undef, undef, undef, undef, undef, undef, undef, undef, undef, undef, undef, undef, undef, undef, undef, undef, undef, undef, undef, undef, undef, undef, undef, undef, undef, undef, undef, undef, undef, undef, undef, undef, undef, undef, undef, undef, undef, undef, undef, undef, undef, undef, undef, undef, undef, undef, undef, undef, undef, undef, undef, undef, undef, undef, undef, undef, undef, undef, undef, undef, undef, undef, undef, undef, undef, undef, undef, undef, undef, undef, undef], defers := [] } W := by
        as_aux_lemma =>
          clear st1_68 st1_67 st2_8 st2_7 st2_6 st3_ st2_68 st2_67 st3_8 st3_7 st3_6 st2_678 st3_78 st3_68 st3_67 st3_678
          intro g8 g9 W hHeld K7 Z7 K8 Z8 n7_8
          rw [← hops]
          refine wpAnyH_ready (rs := [3, 6]) (by kernel_rfl) (by simp) (AllReadyH.cons rfl (fun K hK => ?_) (AllReadyH.cons rfl (fun K hK => ?_) AllReadyH.nil))
          · have KH7 := Lib.hid K7
            have KH8 := Lib.hid K8
            have h0 := hHeld
            clear hHeld
            try simp only [List.getElem_toArray, List.getElem_cons_succ, List.getElem_cons_zero]
            have H0 := Lib.hid h0
            clear h0
            go_simp
            go_at_call 14
            refine (ofR Hy.out _ (HPG.out.ext H0.out.below) Hb.out).mono ?_
            rintro e vv ⟨rfl, hb⟩
            have KJ7 := Lib.hid (KH7.out.below hb KH7.out.lt)
            have KJ8 := Lib.hid (KH8.out.below hb KH8.out.lt)
            have h1 := H0.out.ext hb
            clear hb H0
            go_wp2_with (fail)
            refine hK.out _ _ h1 (fun hHeld => ?_)
            clear hK K h1
            try simp only [Act.put, List.getElem_toArray, List.getElem_cons_succ, List.getElem_cons_zero, List.setIfInBounds_toArray, List.set_cons_zero, List.set_cons_succ]
            have k7 := KJ7.out
            have k8 := KJ8.out
            have z7 := Z7
            have z8 := Z8
            refine wpAnyH_cast (n' := 5) (l' := #[true, true, true, true, true, false, false, true, true, false, false, false]) (by kernel_rfl) (by kernel_rfl) ?_
            have hh := st2_78 g8 g9 _ hHeld k7 z7 k8 z8 n7_8
            rw [← hops] at hh
            exact hh
          · have h0 := hHeld
            clear hHeld
            try simp only [List.getElem_toArray, List.getElem_cons_succ, List.getElem_cons_zero]
            obtain ⟨kz, hg⟩ := Fn.fresh h0 33 #[.int .u64 0, .int .u64 0, .int .u64 0, .int .u64 0]
            have KZ := Lib.hid kz
            have HG := Lib.hid hg
            have H0 := Lib.hid h0
            clear kz hg h0
            have KH7 := Lib.hid K7
            have KH8 := Lib.hid K8
            go_simp
            refine hK.out _ _ (Fn.pass H0.out _) (fun hHeld => ?_)
            clear hK K H0
            try simp only [Act.put, List.getElem_toArray, List.getElem_cons_succ, List.getElem_cons_zero, List.setIfInBounds_toArray, List.set_cons_zero, List.set_cons_succ]
            have k7 := KH7.out.alloc (.cells #[.int .u64 0, .int .u64 0, .int .u64 0, .int .u64 0] 33)
            have k8 := KH8.out.alloc (.cells #[.int .u64 0, .int .u64 0, .int .u64 0, .int .u64 0] 33)
            have z7 := Z7
            have z8 := Z8
            have k6 := KZ.out
            have z6 := HG.out
            refine wpAnyH_cast (n' := 5) (l' := #[true, true, true, false, true, false, true, true, true, false, false, false]) (by kernel_rfl) (by kernel_rfl) ?_
            have hh := st1_678 _ g8 g9 _ hHeld k6 z6 k7 z7 k8 z8 (Ne.symm (Nat.ne_of_lt K7.lt)) (Ne.symm (Nat.ne_of_lt K8.lt)) n7_8
            rw [← hops] at hh
            exact hh
      have st0_678 : ∀ (g7 g8 g9 : Nat) (W : World), Fn wx W [(w.heap.size, 23, ks a), (w.heap.size + 1, 23, ks b), (w.heap.size + 1 + 1, 23, ks c)] → Blk W g7 33 #[.int .u64 0, .int .u64 0, .int .u64 0, .int .u64 0] → wx.heap.size ≤ g7 → Blk W g8 33 #[.int .u64 0, .int .u64 0, .int .u64 0, .int .u64 0] → wx.heap.size ≤ g8 → Blk W g9 33 #[.int .u64 0, .int .u64 0, .int .u64 0, .int .u64 0] → wx.heap.size ≤ g9 → g7 ≠ g8 → g7 ≠ g9 → g8 ≠ g9 → wpAnyH Tryd.prog .any ops Q (fun W => Fn wx W [(w.heap.size, 23, ks a), (w.heap.size + 1, 23, ks b), (w.heap.size + 1 + 1, 23, ks c)]) 6 #[true, false, true, false, true, false, true, true, true, false, false, false] { tmps := #[.agg (ks a), .agg (ks b), .agg (ks c), .pointer (some ⟨w.heap.size, 0, none⟩), .pointer (some ⟨w.heap.size + 1, 0, none⟩), .pointer (some ⟨w.heap.size + 1 + 1, 0, none⟩), .bool false, .pointer (some ⟨g7, 0, none⟩), .pointer (some ⟨g8, 0, none⟩), .pointer (some ⟨g9, 0, none⟩), undef, undef, .agg (ks a), undef, .agg (ks b), undef, .agg (ks c), undef, undef, undef, undef, undef, undef, undef, undef, undef, undef, undef, undef, undef, undef, undef, undef, undef, undef, undef, undef, undef, undef, undef, undef, undef, undef, undef, undef, undef, undef, undef, undef, undef, undef, undef, undef, undef, undef, undef, undef, undef, undef, undef, undef, undef, undef, undef, undef, undef, undef, undef, undef, undef, undef, undef, undef, undef, undef, undef, undef, undef, undef, undef, undef, undef, undef, undef, undef, undef, undef, undef, undef, undef, undef, undef, undef, undef, undef, undef, undef, undef, undef, undef, undef, undef, undef, undef, undef, undef, undef, undef, undef, undef, undef, undef, undef, undef, undef, undef, undef, undef, undef, undef, undef, undef, undef, undef], defers := [] } W := by
        as_aux_lemma =>
          clear st1_78 st1_68 st1_67 st2_8 st2_7 st2_6 st3_ st2_78 st2_68 st2_67 st3_8 st3_7 st3_6 st2_678 st3_78 st3_68 st3_67 st3_678
          intro g7 g8 g9 W hHeld K6 Z6 K7 Z7 K8 Z8 n6_7 n6_8 n7_8
          rw [← hops]
          refine wpAnyH_ready (rs := [1]) (by kernel_rfl) (by simp) (AllReadyH.cons rfl (fun K hK => ?_) AllReadyH.nil)
          have KH6 := Lib.hid K6
          have KH7 := Lib.hid K7
          have KH8 := Lib.hid K8
          have h0 := hHeld
          clear hHeld
          try simp only [List.getElem_toArray, List.getElem_cons_succ, List.getElem_cons_zero]
          have H0 := Lib.hid h0
          clear h0
          go_simp
          go_at_call 14
          refine (ofR Hx.out _ (HPG.out.ext H0.out.below) Ha.out).mono ?_
          rintro e vv ⟨rfl, hb⟩
          have KJ6 := Lib.hid (KH6.out.below hb KH6.out.lt)
          have KJ7 := Lib.hid (KH7.out.below hb KH7.out.lt)
          have KJ8 := Lib.hid (KH8.out.below hb KH8.out.lt)
          have h1 := H0.out.ext hb
          clear hb H0
          go_wp2_with (fail)
          refine hK.out _ _ h1 (fun hHeld => ?_)
          clear hK K h1
          try simp only [Act.put, List.getElem_toArray, List.getElem_cons_succ, List.getElem_cons_zero, List.setIfInBounds_toArray, List.set_cons_zero, List.set_cons_succ]
          have k6 := KJ6.out
          have k7 := KJ7.out
          have k8 := KJ8.out
          have z6 := Z6
          have z7 := Z7
          have z8 := Z8
          refine wpAnyH_cast (n' := 5) (l' := #[true, true, true, false, true, false, true, true, true, false, false, false]) (by kernel_rfl) (by kernel_rfl) ?_
          have hh := st1_678 g7 g8 g9 _ hHeld k6 z6 k7 z7 k8 z8 n6_7 n6_8 n7_8
          rw [← hops] at hh
          exact hh
      have st2_ : ∀ (W : World), Fn wx W [(w.heap.size, 23, ks a), (w.heap.size + 1, 23, ks b), (w.heap.size + 1 + 1, 23, ks c)] → wpAnyH Tryd.prog .any ops Q (fun W => Fn wx W [(w.heap.size, 23, ks a), (w.heap.size + 1, 23, ks b), (w.heap.size + 1 + 1, 23, ks c)]) 7 #[true, true, true, true, true, false, false, false, false, false, false, false] { tmps := #[.agg (ks a), .agg (ks b), .agg (ks c), .pointer (some ⟨w.heap.size, 0, none⟩), .pointer (some ⟨w.heap.size + 1, 0, none⟩), .pointer (some ⟨w.heap.size + 1 + 1, 0, none⟩), .bool false, undef, undef, undef, undef, undef, .agg (ks a), .agg (ev x), .agg (ks b), .agg (ev y), .agg (ks c), undef, undef, undef, undef, undef, undef, undef, undef, undef, undef, undef, undef, undef, undef, undef, undef, undef, undef, undef, undef, undef, undef, undef, undef, undef, undef, undef, undef, undef, undef, undef, undef, undef, undef, undef, undef, undef, undef, undef, undef, undef, undef, undef, undef, undef, undef, undef, undef, undef, undef, undef, undef, undef, undef, undef, undef, undef, undef, undef, undef, undef, undef, undef, undef, undef, undef, undef, undef, undef, undef, undef, undef, undef, undef, undef, undef, undef, undef, undef, undef, undef, undef, undef, undef, undef, undef, undef, undef, undef, undef, undef, undef, undef, undef, undef, undef, undef, undef, undef, undef, undef, undef, undef, undef, undef, undef, undef], defers := [] } W := by
        as_aux_lemma =>
          clear st0_678 st1_78 st1_68 st1_67 st1_678 st2_78 st2_68 st2_67 st3_8 st3_7 st3_6 st2_678 st3_78 st3_68 st3_67 st3_678
          intro W hHeld
          rw [← hops]
          refine wpAnyH_ready (rs := [5, 6, 7, 8]) (by kernel_rfl) (by simp) (AllReadyH.cons rfl (fun K hK => ?_) (AllReadyH.cons rfl (fun K hK => ?_) (AllReadyH.cons rfl (fun K hK => ?_) (AllReadyH.cons rfl (fun K hK => ?_) AllReadyH.nil))))
          · have h0 := hHeld
            clear hHeld
            try simp only [List.getElem_toArray, List.getElem_cons_succ, List.getElem_cons_zero]
            have H0 := Lib.hid h0
            clear h0
            go_simp
            go_at_call 14
            refine (ofR Hz.out _ (HPG.out.ext H0.out.below) Hc.out).mono ?_
            rintro e vv ⟨rfl, hb⟩
            have h1 := H0.out.ext hb
            clear hb H0
            go_wp2_with (fail)
            refine hK.out _ _ h1 (fun hHeld => ?_)
            clear hK K h1
            try simp only [Act.put, List.getElem_toArray, List.getElem_cons_succ, List.getElem_cons_zero, List.setIfInBounds_toArray, List.set_cons_zero, List.set_cons_succ]
            refine wpAnyH_cast (n' := 6) (l' := #[true, true, true, true, true, true, false, false, false, false, false, false]) (by kernel_rfl) (by kernel_rfl) ?_
            have hh := st3_ _ hHeld
            rw [← hops] at hh
            exact hh
          · have h0 := hHeld
            clear hHeld
            try simp only [List.getElem_toArray, List.getElem_cons_succ, List.getElem_cons_zero]
            obtain ⟨kz, hg⟩ := Fn.fresh h0 33 #[.int .u64 0, .int .u64 0, .int .u64 0, .int .u64 0]
            have KZ := Lib.hid kz
            have HG := Lib.hid hg
            have H0 := Lib.hid h0
            clear kz hg h0
            go_simp
            refine hK.out _ _ (Fn.pass H0.out _) (fun hHeld => ?_)
            clear hK K H0
            try simp only [Act.put, List.getElem_toArray, List.getElem_cons_succ, List.getElem_cons_zero, List.setIfInBounds_toArray, List.set_cons_zero, List.set_cons_succ]
            have k6 := KZ.out
            have z6 := HG.out
            refine wpAnyH_cast (n' := 6) (l' := #[true, true, true, true, true, false, true, false, false, false, false, false]) (by kernel_rfl) (by kernel_rfl) ?_
            have hh := st2_6 _ _ hHeld k6 z6
            rw [← hops] at hh
            exact hh
          · have h0 := hHeld
            clear hHeld
            try simp only [List.getElem_toArray, List.getElem_cons_succ, List.getElem_cons_zero]
            obtain ⟨kz, hg⟩ := Fn.fresh h0 33 #[.int .u64 0, .int .u64 0, .int .u64 0, .int .u64 0]
            have KZ := Lib.hid kz
            have HG := Lib.hid hg
            have H0 := Lib.hid h0
            clear kz hg h0
            go_simp
            refine hK.out _ _ (Fn.pass H0.out _) (fun hHeld => ?_)
            clear hK K H0
            try simp only [Act.put, List.getElem_toArray, List.getElem_cons_succ, List.getElem_cons_zero, List.setIfInBounds_toArray, List.set_cons_zero, List.set_cons_succ]
            have k7 := KZ.out
            have z7 := HG.out
            refine wpAnyH_cast (n' := 6) (l' := #[true, true, true, true, true, false, false, true, false, false, false, false]) (by kernel_rfl) (by kernel_rfl) ?_
            have hh := st2_7 _ _ hHeld k7 z7
            rw [← hops] at hh
            exact hh
          · have h0 := hHeld
            clear hHeld
            try simp only [List.getElem_toArray, List.getElem_cons_succ, List.getElem_cons_zero]
            obtain ⟨kz, hg⟩ := Fn.fresh h0 33 #[.int .u64 0, .int .u64 0, .int .u64 0, .int .u64 0]
            have KZ := Lib.hid kz
            have HG := Lib.hid hg
            have H0 := Lib.hid h0
            clear kz hg h0
            go_simp
            refine hK.out _ _ (Fn.pass H0.out _) (fun hHeld => ?_)
            clear hK K H0
            try simp only [Act.put, List.getElem_toArray, List.getElem_cons_succ, List.getElem_cons_zero, List.setIfInBounds_toArray, List.set_cons_zero, List.set_cons_succ]
            have k8 := KZ.out
            have z8 := HG.out
            refine wpAnyH_cast (n' := 6) (l' := #[true, true, true, true, true, false, false, false, true, false, false, false]) (by kernel_rfl) (by kernel_rfl) ?_
            have hh := st2_8 _ _ hHeld k8 z8
            rw [← hops] at hh
            exact hh
      have st1_6 : ∀ (g7 : Nat) (W : World), Fn wx W [(w.heap.size, 23, ks a), (w.heap.size + 1, 23, ks b), (w.heap.size + 1 + 1, 23, ks c)] → Blk W g7 33 #[.int .u64 0, .int .u64 0, .int .u64 0, .int .u64 0] → wx.heap.size ≤ g7 → wpAnyH Tryd.prog .any ops Q (fun W => Fn wx W [(w.heap.size, 23, ks a), (w.heap.size + 1, 23, ks b), (w.heap.size + 1 + 1, 23, ks c)]) 7 #[true, true, true, false, true, false, true, false, false, false, false, false] { tmps := #[.agg (ks a), .agg (ks b), .agg (ks c), .pointer (some ⟨w.heap.size, 0, none⟩), .pointer (some ⟨w.heap.size + 1, 0, none⟩), .pointer (some ⟨w.heap.size + 1 + 1, 0, none⟩), .bool false, .pointer (some ⟨g7, 0, none⟩), undef, undef, undef, undef, .agg (ks a), .agg (ev x), .agg (ks b), undef, .agg (ks c), undef, undef, undef, undef, undef, undef, undef, undef, undef, undef, undef, undef, undef, undef, undef, undef, undef, undef, undef, undef, undef, undef, undef, undef, undef, undef, undef, undef, undef, undef, undef, undef, undef, undef, undef, undef, undef, undef, undef, undef, undef, undef, undef, undef, undef, undef, undef, undef, undef, undef, undef, undef, undef, undef, undef, undef, undef, undef, undef, undef, undef, undef, undef, undef, undef, undef, undef, undef, undef, undef, undef, undef, undef, undef, undef, undef, undef, undef, undef, undef, undef, undef, undef, undef, undef, undef, undef, undef, undef, undef, undef, undef, undef, undef, undef, undef, undef, undef, undef, undef, undef, undef, undef, undef, undef, undef, undef], defers := [] } W := by
        as_aux_lemma =>
          clear st2_ st0_678 st1_78 st2_8 st2_7 st3_ st1_678 st2_78 st2_68 st2_67 st3_8 st3_7 st3_6 st2_678 st3_78 st3_68 st3_67 st3_678
          intro g7 W hHeld K6 Z6
          rw [← hops]
          refine wpAnyH_ready (rs := [3, 7, 8]) (by kernel_rfl) (by simp) (AllReadyH.cons rfl (fun K hK => ?_) (AllReadyH.cons rfl (fun K hK => ?_) (AllReadyH.cons rfl (fun K hK => ?_) AllReadyH.nil)))
          · have KH6 := Lib.hid K6
            have h0 := hHeld
            clear hHeld
            try simp only [List.getElem_toArray, List.getElem_cons_succ, List.getElem_cons_zero]
            have H0 := Lib.hid h0
            clear h0
            go_simp
            go_at_call 14
            refine (ofR Hy.out _ (HPG.out.ext H0.out.below) Hb.out).mono ?_
            rintro e vv ⟨rfl, hb⟩
            have KJ6 := Lib.hid (KH6.out.below hb KH6.out.lt)
            have h1 := H0.out.ext hb
            clear hb H0
            go_wp2_with (fail)
            refine hK.out _ _ h1 (fun hHeld => ?_)
            clear hK K h1
            try simp only [Act.put, List.getElem_toArray, List.getElem_cons_succ, List.getElem_cons_zero, List.setIfInBounds_toArray, List.set_cons_zero, List.set_cons_succ]
            have k6 := KJ6.out
            have z6 := Z6
            refine wpAnyH_cast (n' := 6) (l' := #[true, true, true, true, true, false, true, false, false, false, false, false]) (by kernel_rfl) (by kernel_rfl) ?_
            have hh := st2_6 g7 _ hHeld k6 z6
            rw [← hops] at hh
            exact hh
          · have h0 := hHeld
            clear hHeld
            try simp only [List.getElem_toArray, List.getElem_cons_succ, List.getElem_cons_zero]
            obtain ⟨kz, hg⟩ := Fn.fresh h0 33 #[.int .u64 0, .int .u64 0, .int .u64 0, .int .u64 0]
            have KZ := Lib.hid kz
            have HG := Lib.hid hg
            have H0 := Lib.hid h0
            clear kz hg h0
            have KH6 := Lib.hid K6
            go_simp
            refine hK.out _ _ (Fn.pass H0.out _) (fun hHeld => ?_)
            clear hK K H0
            try simp only [Act.put, List.getElem_toArray, List.getElem_cons_succ, List.getElem_cons_zero, List.setIfInBounds_toArray, List.set_cons_zero, List.set_cons_succ]
            have k6 := KH6.out.alloc (.cells #[.int .u64 0, .int .u64 0, .int .u64 0, .int .u64 0] 33)
            have z6 := Z6
            have k7 := KZ.out
            have z7 := HG.out
            refine wpAnyH_cast (n' := 6) (l' := #[true, true, true, false, true, false, true, true, false, false, false, false]) (by kernel_rfl) (by kernel_rfl) ?_
            have hh := st1_67 g7 _ _ hHeld k6 z6 k7 z7 (Nat.ne_of_lt K6.lt)
            rw [← hops] at hh
            exact hh
          · have h0 := hHeld
            clear hHeld
            try simp only [List.getElem_toArray, List.getElem_cons_succ, List.getElem_cons_zero]
            obtain ⟨kz, hg⟩ := Fn.fresh h0 33 #[.int .u64 0, .int .u64 0, .int .u64 0, .int .u64 0]
            have KZ := Lib.hid kz
            have HG := Lib.hid hg
            have H0 := Lib.hid h0
            clear kz hg h0
            have KH6 := Lib.hid K6
            go_simp
            refine hK.out _ _ (Fn.pass H0.out _) (fun hHeld => ?_)
            clear hK K H0
            try simp only [Act.put, List.getElem_toArray, List.getElem_cons_succ, List.getElem_cons_zero, List.setIfInBounds_toArray, List.set_cons_zero, List.set_cons_succ]
            have k6 := KH6.out.alloc (.cells #[.int .u64 0, .int .u64 0, .int .u64 0, .int .u64 0] 33)
            have z6 := Z6
            have k8 := KZ.out
            have z8 := HG.out
            refine wpAnyH_cast (n' := 6) (l' := #[true, true, true, false, true, false, true, false, true, false, false, false]) (by kernel_rfl) (by kernel_rfl) ?_
            have hh := st1_68 g7 _ _ hHeld k6 z6 k8 z8 (Nat.ne_of_lt K6.lt)
            rw [← hops] at hh
            exact hh
      have st1_7 : ∀ (g8 : Nat) (W : World), Fn wx W [(w.heap.size, 23, ks a), (w.heap.size + 1, 23, ks b), (w.heap.size + 1 + 1, 23, ks c)] → Blk W g8 33 #[.int .u64 0, .int .u64 0, .int .u64 0, .int .u64 0] → wx.heap.size ≤ g8 → wpAnyH Tryd.prog .any ops Q (fun W => Fn wx W [(w.heap.size, 23, ks a), (w.heap.size + 1, 23, ks b), (w.heap.size + 1 + 1, 23, ks c)]) 7 #[true, true, true, false, true, false, false, true, false, false, false, false] { tmps := #[.agg (ks a), .agg (ks b), .agg (ks c), .pointer (some ⟨w.heap.size, 0, none⟩), .pointer (some ⟨w.heap.size + 1, 0, none⟩), .pointer (some ⟨w.heap.size + 1 + 1, 0, none⟩), .bool false, undef, .pointer (some ⟨g8, 0, none⟩), undef, undef, undef, .agg (ks a), .agg (ev x), .agg (ks b), undef, .agg (ks c), undef, undef, undef, undef, undef, undef, undef, undef, undef, undef, undef, undef, undef, undef, undef, undef, undef, undef, undef, undef, undef, undef, undef, undef, undef, undef, undef, undef, undef, undef, undef, undef, undef, undef, undef, undef, undef, undef, undef, undef, undef, undef, undef, undef, undef, undef, undef, undef, undef, undef, undef, undef, undef, undef, undef, undef, undef, undef, undef, undef, undef, undef, undef, undef, undef, undef, undef, undef, undef, undef, undef, undef, undef, undef, undef, undef, undef, undef, undef, undef, undef, undef, undef, undef, undef, undef, undef, undef, undef, undef, undef, undef, undef, undef, undef, undef, undef, undef, undef, undef, undef, undef, undef, undef, undef, undef, undef], defers := [] } W := by
        as_aux_lemma =>
          clear st1_6 st2_ st0_678 st1_68 st2_8 st2_6 st3_ st1_678 st2_78 st2_68 st2_67 st3_8 st3_7 st3_6 st2_678 st3_78 st3_68 st3_67 st3_678
          intro g8 W hHeld K7 Z7
          rw [← hops]
          refine wpAnyH_ready (rs := [3, 6, 8]) (by kernel_rfl) (by simp) (AllReadyH.cons rfl (fun K hK => ?_) (AllReadyH.cons rfl (fun K hK => ?_) (AllReadyH.cons rfl (fun K hK => ?_) AllReadyH.nil)))
          · have KH7 := Lib.hid K7
            have h0 := hHeld
            clear hHeld
            try simp only [List.getElem_toArray, List.getElem_cons_succ, List.getElem_cons_zero]
            have H0 := Lib.hid h0
            clear h0
            go_simp
            go_at_call 14
            refine (ofR Hy.out _ (HPG.out.ext H0.out.below) Hb.out).mono ?_
            rintro e vv ⟨rfl, hb⟩
            have KJ7 := Lib.hid (KH7.out.below hb KH7.out.lt)
            have h1 := H0.out.ext hb
            clear hb H0
            go_wp2_with (fail)
            refine hK.out _ _ h1 (fun hHeld => ?_)
            clear hK K h1
            try simp only [Act.put, List.getElem_toArray, List.getElem_cons_succ, List.getElem_cons_zero, List.setIfInBounds_toArray, List.set_cons_zero, List.set_cons_succ]
            have k7 := KJ7.out
            have z7 := Z7
            refine wpAnyH_cast (n' := 6) (l' := #[true, true, true, true, true, false, false, true, false, false, false, false]) (by kernel_rfl) (by kernel_rfl) ?_
            have hh := st2_7 g8 _ hHeld k7 z7
            rw [← hops] at hh
            exact hh
          · have h0 := hHeld
            clear hHeld
            try simp only [List.getElem_toArray, List.getElem_cons_succ, List.getElem_cons_zero]
            obtain ⟨kz, hg⟩ := Fn.fresh h0 33 #[.int .u64 0, .int .u64 0, .int .u64 0, .int .u64 0]
            have KZ := Lib.hid kz
            have HG := Lib.hid hg
            have H0 := Lib.hid h0
            clear kz hg h0
            have KH7 := Lib.hid K7
            go_simp
            refine hK.out _ _ (Fn.pass H0.out _) (fun hHeld => ?_)
            clear hK K H0
            try simp only [Act.put, List.getElem_toArray, List.getElem_cons_succ, List.getElem_cons_zero, List.setIfInBounds_toArray, List.set_cons_zero, List.set_cons_succ]
            have k7 := KH7.out.alloc (.cells #[.int .u64 0, .int .u64 0, .int .u64 0, .int .u64 0] 33)
            have z7 := Z7
            have k6 := KZ.out
            have z6 := HG.out
            refine wpAnyH_cast (n' := 6) (l' := #[true, true, true, false, true, false, true, true, false, false, false, false]) (by kernel_rfl) (by kernel_rfl) ?_
            have hh := st1_67 _ g8 _ hHeld k6 z6 k7 z7 (Ne.symm (Nat.ne_of_lt K7.lt))
            rw [← hops] at hh
            exact hh
          · have h0 := hHeld
            clear hHeld
            try simp only [List.getElem_toArray, List.getElem_cons_succ, List.getElem_cons_zero]
            obtain ⟨kz, hg⟩ := Fn.fresh h0 33 #[.int .u64 0, .int .u64 0, .int .u64 0, .int .u64 0]
            have KZ := Lib.hid kz
            have HG := Lib.hid hg
            have H0 := Lib.hid h0
            clear kz hg h0
            have KH7 := Lib.hid K7
            go_simp
            refine hK.out _ _ (Fn.pass H0.out _) (fun hHeld => ?_)
            clear hK K H0
            try simp only [Act.put, List.getElem_toArray, List.getElem_cons_succ, List.getElem_cons_zero, List.setIfInBounds_toArray, List.set_cons_zero, List.set_cons_succ]
            have k7 := KH7.out.alloc (.cells #[.int .u64 0, .int .u64 0, .int .u64 0, .int .u64 0] 33)
            have z7 := Z7
            have k8 := KZ.out
            have z8 := HG.out
            refine wpAnyH_cast (n' := 6) (l' := #[true, true, true, false, true, false, false, true, true, false, false, false]) (by kernel_rfl) (by kernel_rfl) ?_
            have hh := st1_78 g8 _ _ hHeld k7 z7 k8 z8 (Nat.ne_of_lt K7.lt)
            rw [← hops] at hh
            exact hh
      have st1_8 : ∀ (g9 : Nat) (W : World), Fn wx W [(w.heap.size, 23, ks a), (w.heap.size + 1, 23, ks b), (w.heap.size + 1 + 1, 23, ks c)] → Blk W g9 33 #[.int .u64 0, .int .u64 0, .int .u64 0, .int .u64 0] → wx.heap.size ≤ g9 → wpAnyH Tryd.prog .any ops Q (fun W => Fn wx W [(w.heap.size, 23, ks a), (w.heap.size + 1, 23, ks b), (w.heap.size + 1 + 1, 23, ks c)]) 7 #[true, true, true, false, true, false, false, false, true, false, false, false] { tmps := #[.agg (ks a), .agg (ks b), .agg (ks c), .pointer (some ⟨w.heap.size, 0, none⟩), .pointer (some ⟨w.heap.size + 1, 0, none⟩), .pointer (some ⟨w.heap.size + 1 + 1, 0, none⟩), .bool false, undef, undef, .pointer (some ⟨g9, 0, none⟩), undef, undef, .agg (ks a), .agg (ev x), .agg (ks b), undef, .agg (ks c), undef, undef, undef, undef, undef, undef, undef, undef, undef, undef, undef, undef, undef, undef, undef, undef, undef, undef, undef, undef, undef, undef, undef, undef, undef, undef, undef, undef, undef, undef, undef, undef, undef, undef, undef, undef, undef, undef, undef, undef, undef, undef, undef, undef, undef, undef, undef, undef, undef, undef, undef, undef, undef, undef, undef, undef, undef, undef, undef, undef, undef, undef, undef, undef, undef, undef, undef, undef, undef, undef, undef, undef, undef, undef, undef, undef, undef, undef, undef, undef, undef, undef, undef, undef, undef, undef, undef, undef, undef, undef, undef, undef, undef, undef, undef, undef, undef, undef, undef, undef, undef, undef, undef, undef, undef, undef, undef], defers := [] } W := by
        as_aux_lemma =>
          clear st1_7 st1_6 st2_ st0_678 st1_67 st2_7 st2_6 st3_ st1_678 st2_78 st2_68 st2_67 st3_8 st3_7 st3_6 st2_678 st3_78 st3_68 st3_67 st3_678
          intro g9 W hHeld K8 Z8
          rw [← hops]
          refine wpAnyH_ready (rs := [3, 6, 7]) (by kernel_rfl) (by simp) (AllReadyH.cons rfl (fun K hK => ?_) (AllReadyH.cons rfl (fun K hK => ?_) (AllReadyH.cons rfl (fun K hK => ?_) AllReadyH.nil)))
          · have KH8 := Lib.hid K8
            have h0 := hHeld
            clear hHeld
            try simp only [List.getElem_toArray, List.getElem_cons_succ, List.getElem_cons_zero]
            have H0 := Lib.hid h0
            clear h0
            go_simp
            go_at_call 14
            refine (ofR Hy.out _ (HPG.out.ext H0.out.below) Hb.out).mono ?_
            rintro e vv ⟨rfl, hb⟩
            have KJ8 := Lib.hid (KH8.out.below hb KH8.out.lt)
            have h1 := H0.out.ext hb
            clear hb H0
            go_wp2_with (fail)
            refine hK.out _ _ h1 (fun hHeld => ?_)
            clear hK K h1
            try simp only [Act.put, List.getElem_toArray, List.getElem_cons_succ, List.getElem_cons_zero, List.setIfInBounds_toArray, List.set_cons_zero, List.set_cons_succ]
            have k8 := KJ8.out
            have z8 := Z8
            refine wpAnyH_cast (n' := 6) (l' := #[true, true, true, true, true, false, false, false, true, false, false, false]) (by kernel_rfl) (by kernel_rfl) ?_
            have hh := st2_8 g9 _ hHeld k8 z8
            rw [← hops] at hh
            exact hh
          · have h0 := hHeld
            clear hHeld
            try simp only [List.getElem_toArray, List.getElem_cons_succ, List.getElem_cons_zero]
            obtain ⟨kz, hg⟩ := Fn.fresh h0 33 #[.int .u64 0, .int .u64 0, .int .u64 0, .int .u64 0]
            have KZ := Lib.hid kz
            have HG := Lib.hid hg
            have H0 := Lib.hid h0
            clear kz hg h0
            have KH8 := Lib.hid K8
            go_simp
            refine hK.out _ _ (Fn.pass H0.out _) (fun hHeld => ?_)
            clear hK K H0
            try simp only [Act.put, List.getElem_toArray, List.getElem_cons_succ, List.getElem_cons_zero, List.setIfInBounds_toArray, List.set_cons_zero, List.set_cons_succ]
            have k8 := KH8.out.alloc (.cells #[.int .u64 0, .int .u64 0, .int .u64 0, .int .u64 0] 33)
            have z8 := Z8
            have k6 := KZ.out
            have z6 := HG.out
            refine wpAnyH_cast (n' := 6) (l' := #[true, true, true, false, true, false, true, false, true, false, false, false]) (by kernel_rfl) (by kernel_rfl) ?_
            have hh := st1_68 _ g9 _ hHeld k6 z6 k8 z8 (Ne.symm (Nat.ne_of_lt K8.lt))
            rw [← hops] at hh
            exact hh
          · have h0 := hHeld
            clear hHeld
            try simp only [List.getElem_toArray, List.getElem_cons_succ, List.getElem_cons_zero]
            obtain ⟨kz, hg⟩ := Fn.fresh h0 33 #[.int .u64 0, .int .u64 0, .int .u64 0, .int .u64 0]
            have KZ := Lib.hid kz
            have HG := Lib.hid hg
            have H0 := Lib.hid h0
            clear kz hg h0
            have KH8 := Lib.hid K8
            go_simp
            refine hK.out _ _ (Fn.pass H0.out _) (fun hHeld => ?_)
            clear hK K H0
            try simp only [Act.put, List.getElem_toArray, List.getElem_cons_succ, List.getElem_cons_zero, List.setIfInBounds_toArray, List.set_cons_zero, List.set_cons_succ]
            have k8 := KH8.out.alloc (.cells #[.int .u64 0, .int .u64 0, .int .u64 0, .int .u64 0] 33)
            have z8 := Z8
            have k7 := KZ.out
            have z7 := HG.out
            refine wpAnyH_cast (n' := 6) (l' := #[true, true, true, false, true, false, false, true, true, false, false, false]) (by kernel_rfl) (by kernel_rfl) ?_
            have hh := st1_78 _ g9 _ hHeld k7 z7 k8 z8 (Ne.symm (Nat.ne_of_lt K8.lt))
            rw [← hops] at hh
            exact hh
      have st0_67 : ∀ (g7 g8 : Nat) (W : World), Fn wx W [(w.heap.size, 23, ks a), (w.heap.size + 1, 23, ks b), (w.heap.size + 1 + 1, 23, ks c)] → Blk W g7 33 #[.int .u64 0, .int .u64 0, .int .u64 0, .int .u64 0] → wx.heap.size ≤ g7 → Blk W g8 33 #[.int .u64 0, .int .u64 0, .int .u64 0, .int .u64 0] → wx.heap.size ≤ g8 → g7 ≠ g8 → wpAnyH Tryd.prog .any ops Q (fun W => Fn wx W [(w.heap.size, 23, ks a), (w.heap.size + 1, 23, ks b), (w.heap.size + 1 + 1, 23, ks c)]) 7 #[true, false, true, false, true, false, true, true, false, false, false, false] { tmps := #[.agg (ks a), .agg (ks b), .agg (ks c), .pointer (some ⟨w.heap.size, 0, none⟩), .pointer (some ⟨w.heap.size + 1, 0, none⟩), .pointer (some ⟨w.heap.size + 1 + 1, 0, none⟩), .bool false, .pointer (some ⟨g7, 0, none⟩), .pointer (some ⟨g8, 0, none⟩), undef, undef, undef, .agg (ks a), undef, .agg (ks b), undef, .agg (ks c), undef, undef, undef, undef, undef, undef, undef, undef, undef, undef, undef, undef, undef, undef, undef, undef, undef, undef, undef, undef, undef, undef, undef, undef, undef, undef, undef, undef, undef, undef, undef, undef, undef, undef, undef, undef, undef, undef, undef, undef, undef, undef, undef, undef, undef, undef, undef, undef, undef, undef, undef, undef, undef, undef, undef, undef, undef, undef, undef, undef, undef, undef, undef, undef, undef, undef, undef, undef, undef, undef, undef, undef, undef, undef, undef, undef, undef, undef, undef, undef, undef, undef, undef, undef, undef, undef, undef, undef, undef, undef, undef, undef, undef, undef, undef, undef, undef, undef, undef, undef, undef, undef, undef, undef, undef, undef, undef], defers := [] } W := by
        as_aux_lemma =>
          clear st1_8 st1_7 st1_6 st2_ st1_78 st1_68 st2_8 st2_7 st2_6 st3_ st1_678 st2_78 st2_68 st2_67 st3_8 st3_7 st3_6 st2_678 st3_78 st3_68 st3_67 st3_678
          intro g7 g8 W hHeld K6 Z6 K7 Z7 n6_7
          rw [← hops]
          refine wpAnyH_ready (rs := [1, 8]) (by kernel_rfl) (by simp) (AllReadyH.cons rfl (fun K hK => ?_) (AllReadyH.cons rfl (fun K hK => ?_) AllReadyH.nil))
          · have KH6 := Lib.hid K6
            have KH7 := Lib.hid K7
            have h0 := hHeld
            clear hHeld
            try simp only [List.getElem_toArray, List.getElem_cons_succ, List.getElem_cons_zero]
            have H0 := Lib.hid h0
            clear h0
            go_simp
            go_at_call 14
            refine (ofR Hx.out _ (HPG.out.ext H0.out.below) Ha.out).mono ?_
            rintro e vv ⟨rfl, hb⟩
            have KJ6 := Lib.hid (KH6.out.below hb KH6.out.lt)
            have KJ7 := Lib.hid (KH7.out.below hb KH7.out.lt)
            have h1 := H0.out.ext hb
            clear hb H0
            go_wp2_with (fail)
            refine hK.out _ _ h1 (fun hHeld => ?_)
            clear hK K h1
            try simp only [Act.put, List.getElem_toArray, List.getElem_cons_succ, List.getElem_cons_zero, List.setIfInBounds_toArray, List.set_cons_zero, List.set_cons_succ]
            have k6 := KJ6.out
            have k7 := KJ7.out
            have z6 := Z6
            have z7 := Z7
            refine wpAnyH_cast (n' := 6) (l' := #[true, true, true, false, true, false, true, true, false, false, false, false]) (by kernel_rfl) (by kernel_rfl) ?_
            have hh := st1_67 g7 g8 _ hHeld k6 z6 k7 z7 n6_7
            rw [← hops] at hh
            exact hh
          · have h0 := hHeld
            clear hHeld
            try simp only [List.getElem_toArray, List.getElem_cons_succ, List.getElem_cons_zero]
            obtain ⟨kz, hg⟩ := Fn.fresh h0 33 #[.int .u64 0, .int .u64 0, .int .u64 0, .int .u64 0]
            have KZ := Lib.hid kz
            have HG := Lib.hid hg
            have H0 := Lib.hid h0
            clear kz hg h0
            have KH6 := Lib.hid K6
            have KH7 := Lib.hid K7
            go_simp
            refine hK.out _ _ (Fn.pass H0.out _) (fun hHeld => ?_)
            clear hK K H0
            try simp only [Act.put, List.getElem_toArray, List.getElem_cons_succ, List.getElem_cons_zero, List.setIfInBounds_toArray, List.set_cons_zero, List.set_cons_succ]
            have k6 := KH6.out.alloc (.cells #[.int .u64 0, .int .u64 0, .int .u64 0, .int .u64 0] 33)
            have k7 := KH7.out.alloc (.cells #[.int .u64 0, .int .u64 0, .int .u64 0, .int .u64 0] 33)
            have z6 := Z6
            have z7 := Z7
            have k8 := KZ.out
            have z8 := HG.out
            refine wpAnyH_cast (n' := 6) (l' := #[true, false, true, false, true, false, true, true, true, false, false, false]) (by kernel_rfl) (by kernel_rfl) ?_
            have hh := st0_678 g7 g8 _ _ hHeld k6 z6 k7 z7 k8 z8 n6_7 (Nat.ne_of_lt K6.lt) (Nat.ne_of_lt K7.lt)
            rw [← hops] at hh
            exact hh
      have st0_68 : ∀ (g7 g9 : Nat) (W : World), Fn wx W [(w.heap.size, 23, ks a), (w.heap.size + 1, 23, ks b), (w.heap.size + 1 + 1, 23, ks c)] → Blk W g7 33 #[.int .u64 0, .int .u64 0, .int .u64 0, .int .u64 0] → wx.heap.size ≤ g7 → Blk W g9 33 #[.int .u64 0, .int .u64 0, .int .u64 0, .int .u64 0] → wx.heap.size ≤ g9 → g7 ≠ g9 → wpAnyH Tryd.prog .any ops Q (fun W => Fn wx W [(w.heap.size, 23, ks a), (w.heap.size + 1, 23, ks b), (w.heap.size + 1 + 1, 23, ks c)]) 7 #[true, false, true, false, true, false, true, false, true, false, false, false] { tmps := #[.agg (ks a), .agg (ks b), .agg (ks c), .pointer (some ⟨w.heap.size, 0, none⟩), .pointer (some ⟨w.heap.size + 1, 0, none⟩), .pointer (some ⟨w.heap.size + 1 + 1, 0, none⟩), .bool false, .pointer (some ⟨g7, 0, none⟩), undef, .pointer (some ⟨g9, 0, none⟩), undef, undef, .agg (ks a), undef, .agg (ks b), undef, .agg (ks c), undef, undef, undef, undef, undef, undef, undef, undef, undef, undef, undef, undef, undef, undef, undef, undef, undef, undef, undef, undef, undef, undef, undef, undef, undef, undef, undef, undef, undef, undef, undef, undef, undef, undef, undef, undef, undef, undef, undef, undef, undef, undef, undef, undef, undef, undef, undef, undef, undef, undef, undef, undef, undef, undef, undef, undef, undef, undef, undef, undef, undef, undef, undef, undef, undef, undef, undef, undef, undef, undef, undef, undef, undef, undef, undef, undef, undef, undef, undef, undef, undef, undef, undef, undef, undef, undef, undef, undef, undef, undef, undef, undef, undef, undef, undef, undef, undef, undef, undef, undef, undef, undef, undef, undef, undef, undef, undef], defers := [] } W := by
        as_aux_lemma =>
          clear st0_67 st1_8 st1_7 st1_6 st2_ st1_78 st1_67 st2_8 st2_7 st2_6 st3_ st1_678 st2_78 st2_68 st2_67 st3_8 st3_7 st3_6 st2_678 st3_78 st3_68 st3_67 st3_678
          intro g7 g9 W hHeld K6 Z6 K8 Z8 n6_8
          rw [← hops]
          refine wpAnyH_ready (rs := [1, 7]) (by kernel_rfl) (by simp) (AllReadyH.cons rfl (fun K hK => ?_) (AllReadyH.cons rfl (fun K hK => ?_) AllReadyH.nil))
          · have KH6 := Lib.hid K6
            have KH8 := Lib.hid K8
            have h0 := hHeld
            clear hHeld
            try simp only [List.getElem_toArray, List.getElem_cons_succ, List.getElem_cons_zero]
            have H0 := Lib.hid h0
            clear h0
            go_simp
            go_at_call 14
            refine (ofR Hx.out _ (HPG.out.ext H0.out.below) Ha.out).mono ?_
            rintro e vv ⟨rfl, hb⟩
            have KJ6 := Lib.hid (KH6.out.below hb KH6.out.lt)
            have KJ8 := Lib.hid (KH8.out.below hb KH8.out.lt)
            have h1 := H0.out.ext hb
            clear hb H0
            go_wp2_with (fail)
            refine hK.out _ _ h1 (fun hHeld => ?_)
            clear hK K h1
            try simp only [Act.put, List.getElem_toArray, List.getElem_cons_succ, List.getElem_cons_zero, List.setIfInBounds_toArray, List.set_cons_zero, List.set_cons_succ]
            have k6 := KJ6.out
            have k8 := KJ8.out
            have z6 := Z6
            have z8 := Z8
            refine wpAnyH_cast (n' := 6) (l' := #[true, true, true, false, true, false, true, false, true, false, false, false]) (by kernel_rfl) (by kernel_rfl) ?_
            have hh := st1_68 g7 g9 _ hHeld k6 z6 k8 z8 n6_8
            rw [← hops] at hh
            exact hh
          · have h0 := hHeld
            clear hHeld
            try simp only [List.getElem_toArray, List.getElem_cons_succ, List.getElem_cons_zero]
            obtain ⟨kz, hg⟩ := Fn.fresh h0 33 #[.int .u64 0, .int .u64 0, .int .u64 0, .int .u64 0]
            have KZ := Lib.hid kz
            have HG := Lib.hid hg
            have H0 := Lib.hid h0
            clear kz hg h0
            have KH6 := Lib.hid K6
            have KH8 := Lib.hid K8
            go_simp
            refine hK.out _ _ (Fn.pass H0.out _) (fun hHeld => ?_)
            clear hK K H0
            try simp only [Act.put, List.getElem_toArray, List.getElem_cons_succ, List.getElem_cons_zero, List.setIfInBounds_toArray, List.set_cons_zero, List.set_cons_succ]
            have k6 := KH6.out.alloc (.cells #[.int .u64 0, .int .u64 0, .int .u64 0, .int .u64 0] 33)
            have k8 := KH8.out.alloc (.cells #[.int .u64 0, .int .u64 0, .int .u64 0, .int .u64 0] 33)
            have z6 := Z6
            have z8 := Z8
            have k7 := KZ.out
            have z7 := HG.out
            refine wpAnyH_cast (n' := 6) (l' := #[true, false, true, false, true, false, true, true, true, false, false, false]) (by kernel_rfl) (by kernel_rfl) ?_
            have hh := st0_678 g7 _ g9 _ hHeld k6 z6 k7 z7 k8 z8 (Nat.ne_of_lt K6.lt) n6_8 (Ne.symm (Nat.ne_of_lt K8.lt))
            rw [← hops] at hh
            exact hh
      have st0_78 : ∀ (g8 g9 : Nat) (W : World), Fn wx W [(w.heap.size, 23, ks a), (w.heap.size + 1, 23, ks b), (w.heap.size + 1 + 1, 23, ks c)] → Blk W g8 33 #[.int .u64 0, .int .u64 0, .int .u64 0, .int .u64 0] → wx.heap.size ≤ g8 → Blk W g9 33 #[.int .u64 0, .int .u64 0, .int .u64 0, .int .u64 0] → wx.heap.size ≤ g9 → g8 ≠ g9 → wpAnyH Tryd.prog .any ops Q (fun W => Fn wx W [(w.heap.size, 23, ks a), (w.heap.size + 1, 23, ks b), (w.heap.size + 1 + 1, 23, ks c)]) 7 #[true, false, true, false, true, false, false, true, true, false, false, false] { tmps := #[.agg (ks a), .agg (ks b), .agg (ks c), .pointer (some ⟨w.heap.size, 0, none⟩), .pointer (some ⟨w.heap.size + 1, 0, none⟩), .pointer (some ⟨w.heap.size + 1 + 1, 0, none⟩), .bool false, undef, .pointer (some ⟨g8, 0, none⟩), .pointer (some ⟨g9, 0, none⟩), undef, undef, .agg (ks a), undef, .agg (ks b), undef, .agg (ks c), undef, undef, undef, undef, undef, undef, undef, undef, undef, undef, undef, undef, undef, undef, undef, undef, undef, undef, undef, undef, undef, undef, undef, undef, undef, undef, undef, undef, undef, undef, undef, undef, undef, undef, undef, undef, undef, undef, undef, undef, undef, undef, undef, undef, undef, undef, undef, undef, undef, undef, undef, undef, undef, undef, undef, undef, undef, undef, undef, undef, undef, undef, undef, undef, undef, undef, undef, undef, undef, undef, undef, undef, undef, undef, undef, undef, undef, undef, undef, undef, undef, undef, undef, undef, undef, undef, undef, undef, undef, undef, undef, undef, undef, undef, undef, undef, undef, undef, undef, undef, undef, undef, undef, undef, undef, undef, undef], defers := [] } W := by
        as_aux_lemma =>
          clear st0_68 st0_67 st1_8 st1_7 st1_6 st2_ st1_68 st1_67 st2_8 st2_7 st2_6 st3_ st1_678 st2_78 st2_68 st2_67 st3_8 st3_7 st3_6 st2_678 st3_78 st3_68 st3_67 st3_678
          intro g8 g9 W hHeld K7 Z7 K8 Z8 n7_8
          rw [← hops]
          refine wpAnyH_ready (rs := [1, 6]) (by kernel_rfl) (by simp) (AllReadyH.cons rfl (fun K hK => ?_) (AllReadyH.cons rfl (fun K hK => ?_) AllReadyH.nil))
          · have KH7 := Lib.hid K7
            have KH8 := Lib.hid K8
            have h0 := hHeld
            clear hHeld
            try simp only [List.getElem_toArray, List.getElem_cons_succ, List.getElem_cons_zero]
            have H0 := Lib.hid h0
            clear h0
            go_simp
            go_at_call 14
            refine (ofR Hx.out _ (HPG.out.ext H0.out.below) Ha.out).mono ?_
            rintro e vv ⟨rfl, hb⟩
            have KJ7 := Lib.hid (KH7.out.below hb KH7.out.lt)
            have KJ8 := Lib.hid (KH8.out.below hb KH8.out.lt)
            have h1 := H0.out.ext hb
            clear hb H0
            go_wp2_with (fail)
            refine hK.out _ _ h1 (fun hHeld => ?_)
            clear hK K h1
            try simp only [Act.put, List.getElem_toArray, List.getElem_cons_succ, List.getElem_cons_zero, List.setIfInBounds_toArray, List.set_cons_zero, List.set_cons_succ]
            have k7 := KJ7.out
            have k8 := KJ8.out
            have z7 := Z7
            have z8 := Z8
            refine wpAnyH_cast (n' := 6) (l' := #[true, true, true, false, true, false, false, true, true, false, false, false]) (by kernel_rfl) (by kernel_rfl) ?_
            have hh := st1_78 g8 g9 _ hHeld k7 z7 k8 z8 n7_8
            rw [← hops] at hh
            exact hh
          · have h0 := hHeld
            clear hHeld
            try simp only [List.getElem_toArray, List.getElem_cons_succ, List.getElem_cons_zero]
            obtain ⟨kz, hg⟩ := Fn.fresh h0 33 #[.int .u64 0, .int .u64 0, .int .u64 0, .int .u64 0]
            have KZ := Lib.hid kz
            have HG := Lib.hid hg
            have H0 := Lib.hid h0
            clear kz hg h0
            have KH7 := Lib.hid K7
            have KH8 := Lib.hid K8
            go_simp
            refine hK.out _ _ (Fn.pass H0.out _) (fun hHeld => ?_)
            clear hK K H0
            try simp only [Act.put, List.getElem_toArray, List.getElem_cons_succ, List.getElem_cons_zero, List.setIfInBounds_toArray, List.set_cons_zero, List.set_cons_succ]
            have k7 := KH7.out.alloc (.cells #[.int .u64 0, .int .u64 0, .int .u64 0, .int .u64 0] 33)
            have k8 := KH8.out.alloc (.cells #[.int .u64 0, .int .u64 0, .int .u64 0, .int .u64 0] 33)
            have z7 := Z7
            have z8 := Z8
            have k6 := KZ.out
            have z6 := HG.out
            refine wpAnyH_cast (n' := 6) (l' := #[true, false, true, false, true, false, true, true, true, false, false, false]) (by kernel_rfl) (by kernel_rfl) ?_
            have hh := st0_678 _ g8 g9 _ hHeld k6 z6 k7 z7 k8 z8 (Ne.symm (Nat.ne_of_lt K7.lt)) (Ne.symm (Nat.ne_of_lt K8.lt)) n7_8
            rw [← hops] at hh
            exact hh
      have st1_ : ∀ (W : World), Fn wx W [(w.heap.size, 23, ks a), (w.heap.size + 1, 23, ks b), (w.heap.size + 1 + 1, 23, ks c)] → wpAnyH Tryd.prog .any ops Q (fun W => Fn wx W [(w.heap.size, 23, ks a), (w.heap.size + 1, 23, ks b), (w.heap.size + 1 + 1, 23, ks c)]) 8 #[true, true, true, false, true, false, false, false, false, false, false, false] { tmps := #[.agg (ks a), .agg (ks b), .agg (ks c), .pointer (some ⟨w.heap.size, 0, none⟩), .pointer (some ⟨w.heap.size + 1, 0, none⟩), .pointer (some ⟨w.heap.size + 1 + 1, 0, none⟩), .bool false, undef, undef, undef, undef, undef, .agg (ks a), .agg (ev x), .agg (ks b), undef, .agg (ks c), undef, undef, undef, undef, undef, undef, undef, undef, undef, undef, undef, undef, undef, undef, undef, undef, undef, undef, undef, undef, undef, undef, undef, undef, undef, undef, undef, undef, undef, undef, undef, undef, undef, undef, undef, undef, undef, undef, undef, undef, undef, undef, undef, undef, undef, undef, undef, undef, undef, undef, undef, undef, undef, undef, undef, undef, undef, undef, undef, undef, undef, undef, undef, undef, undef, undef, undef, undef, undef, undef, undef, undef, undef, undef, undef, undef, undef, undef, undef, undef, undef, undef, undef, undef, undef, undef, undef, undef, undef, undef, undef, undef, undef, undef, undef, undef, undef, undef, undef, undef, undef, undef, undef, undef, undef, undef, undef], defers := [] } W := by
        as_aux_lemma =>
          clear st0_78 st0_68 st0_67 st0_678 st1_78 st1_68 st1_67 st2_8 st2_7 st2_6 st3_ st1_678 st2_78 st2_68 st2_67 st3_8 st3_7 st3_6 st2_678 st3_78 st3_68 st3_67 st3_678
          intro W hHeld
          rw [← hops]
          refine wpAnyH_ready (rs := [3, 6, 7, 8]) (by kernel_rfl) (by simp) (AllReadyH.cons rfl (fun K hK => ?_) (AllReadyH.cons rfl (fun K hK => ?_) (AllReadyH.cons rfl (fun K hK => ?_) (AllReadyH.cons rfl (fun K hK => ?_) AllReadyH.nil))))
          · have h0 := hHeld
            clear hHeld
            try simp only [List.getElem_toArray, List.getElem_cons_succ, List.getElem_cons_zero]
            have H0 := Lib.hid h0
            clear h0
            go_simp
            go_at_call 14
            refine (ofR Hy.out _ (HPG.out.ext H0.out.below) Hb.out).mono ?_
            rintro e vv ⟨rfl, hb⟩
            have h1 := H0.out.ext hb
            clear hb H0
            go_wp2_with (fail)
            refine hK.out _ _ h1 (fun hHeld => ?_)
            clear hK K h1
            try simp only [Act.put, List.getElem_toArray, List.getElem_cons_succ, List.getElem_cons_zero, List.setIfInBounds_toArray, List.set_cons_zero, List.set_cons_succ]
            refine wpAnyH_cast (n' := 7) (l' := #[true, true, true, true, true, false, false, false, false, false, false, false]) (by kernel_rfl) (by kernel_rfl) ?_
            have hh := st2_ _ hHeld
            rw [← hops] at hh
            exact hh
          · have h0 := hHeld
            clear hHeld
            try simp only [List.getElem_toArray, List.getElem_cons_succ, List.getElem_cons_zero]
            obtain ⟨kz, hg⟩ := Fn.fresh h0 33 #[.int .u64 0, .int .u64 0, .int .u64 0, .int .u64 0]
            have KZ := Lib.hid kz
            have HG := Lib.hid hg
            have H0 := Lib.hid h0
            clear kz hg h0
            go_simp
            refine hK.out _ _ (Fn.pass H0.out _) (fun hHeld => ?_)
            clear hK K H0
            try simp only [Act.put, List.getElem_toArray, List.getElem_cons_succ, List.getElem_cons_zero, List.setIfInBounds_toArray, List.set_cons_zero, List.set_cons_succ]
            have k6 := KZ.out
            have z6 := HG.out
            refine wpAnyH_cast (n' := 7) (l' := #[true, true, true, false, true, false, true, false, false, false, false, false]) (by kernel_rfl) (by kernel_rfl) ?_
            have hh := st1_6 _ _ hHeld k6 z6
            rw [← hops] at hh
            exact hh
          · have h0 := hHeld
            clear hHeld
            try simp only [List.getElem_toArray, List.getElem_cons_succ, List.getElem_cons_zero]
            obtain ⟨kz, hg⟩ := Fn.fresh h0 33 #[.int .u64 0, .int .u64 0, .int .u64 0, .int .u64 0]
            have KZ := Lib.hid kz
            have HG := Lib.hid hg
            have H0 := Lib.hid h0
            clear kz hg h0
            go_simp
            refine hK.out _ _ (Fn.pass H0.out _) (fun hHeld => ?_)
            clear hK K H0
            try simp only [Act.put, List.getElem_toArray, List.getElem_cons_succ, List.getElem_cons_zero, List.setIfInBounds_toArray, List.set_cons_zero, List.set_cons_succ]
            have k7 := KZ.out
            have z7 := HG.out
            refine wpAnyH_cast (n' := 7) (l' := #[true, true, true, false, true, false, false, true, false, false, false, false]) (by kernel_rfl) (by kernel_rfl) ?_
            have hh := st1_7 _ _ hHeld k7 z7
            rw [← hops] at hh
            exact hh
          · have h0 := hHeld
            clear hHeld
            try simp only [List.getElem_toArray, List.getElem_cons_succ, List.getElem_cons_zero]
            obtain ⟨kz, hg⟩ := Fn.fresh h0 33 #[.int .u64 0, .int .u64 0, .int .u64 0, .int .u64 0]
            have KZ := Lib.hid kz
            have HG := Lib.hid hg
            have H0 := Lib.hid h0
            clear kz hg h0
            go_simp
            refine hK.out _ _ (Fn.pass H0.out _) (fun hHeld => ?_)
            clear hK K H0
            try simp only [Act.put, List.getElem_toArray, List.getElem_cons_succ, List.getElem_cons_zero, List.setIfInBounds_toArray, List.set_cons_zero, List.set_cons_succ]
            have k8 := KZ.out
            have z8 := HG.out
            refine wpAnyH_cast (n' := 7) (l' := #[true, true, true, false, true, false, false, false, true, false, false, false]) (by kernel_rfl) (by kernel_rfl) ?_
            have hh := st1_8 _ _ hHeld k8 z8
            rw [← hops] at hh
            exact hh
      have st0_6 : ∀ (g7 : Nat) (W : World), Fn wx W [(w.heap.size, 23, ks a), (w.heap.size + 1, 23, ks b), (w.heap.size + 1 + 1, 23, ks c)] → Blk W g7 33 #[.int .u64 0, .int .u64 0, .int .u64 0, .int .u64 0] → wx.heap.size ≤ g7 → wpAnyH Tryd.prog .any ops Q (fun W => Fn wx W [(w.heap.size, 23, ks a), (w.heap.size + 1, 23, ks b), (w.heap.size + 1 + 1, 23, ks c)]) 8 #[true, false, true, false, true, false, true, false, false, false, false, false] { tmps := #[.agg (ks a), .agg (ks b), .agg (ks c), .pointer (some ⟨w.heap.size, 0, none⟩), .pointer (some ⟨w.heap.size + 1, 0, none⟩), .pointer (some ⟨w.heap.size + 1 + 1, 0, none⟩), .bool false, .pointer (some ⟨g7, 0, none⟩), undef, undef, undef, undef, .agg (ks a), undef, .agg (ks b), undef, .agg (ks c), undef, undef, undef, undef, undef, undef, undef, undef, undef, undef, undef, undef, undef, undef, undef, undef, undef, undef, undef, undef, undef, undef, undef, undef, undef, undef, undef, undef, undef, undef, undef, undef, undef, undef, undef, undef, undef, undef, undef, undef, undef, undef, undef, undef, undef, undef, undef, undef, undef, undef, undef, undef, undef, undef, undef, undef, undef, undef, undef, undef, undef, undef, undef, undef, undef, undef, undef, undef, undef, undef, undef, undef, undef, undef, undef, undef, undef, undef, undef, undef, undef, undef, undef, undef, undef, undef, undef, undef, undef, undef, undef, undef, undef, undef, undef, undef, undef, undef, undef, undef, undef, undef, undef, undef, undef, undef, undef], defers := [] } W := by
        as_aux_lemma =>
          clear st1_ st0_78 st1_8 st1_7 st2_ st0_678 st1_78 st1_68 st1_67 st2_8 st2_7 st2_6 st3_ st1_678 st2_78 st2_68 st2_67 st3_8 st3_7 st3_6 st2_678 st3_78 st3_68 st3_67 st3_678
          intro g7 W hHeld K6 Z6
          rw [← hops]
          refine wpAnyH_ready (rs := [1, 7, 8]) (by kernel_rfl) (by simp) (AllReadyH.cons rfl (fun K hK => ?_) (AllReadyH.cons rfl (fun K hK => ?_) (AllReadyH.cons rfl (fun K hK => ?_) AllReadyH.nil)))
          · have KH6 := Lib.hid K6
            have h0 := hHeld
            clear hHeld
            try simp only [List.getElem_toArray, List.getElem_cons_succ, List.getElem_cons_zero]
            have H0 := Lib.hid h0
            clear h0
            go_simp
            go_at_call 14
            refine (ofR Hx.out _ (HPG.out.ext H0.out.below) Ha.out).mono ?_
            rintro e vv ⟨rfl, hb⟩
            have KJ6 := Lib.hid (KH6.out.below hb KH6.out.lt)
            have h1 := H0.out.ext hb
            clear hb H0
            go_wp2_with (fail)
            refine hK.out _ _ h1 (fun hHeld => ?_)
            clear hK K h1
            try simp only [Act.put, List.getElem_toArray, List.getElem_cons_succ, List.getElem_cons_zero, List.setIfInBounds_toArray, List.set_cons_zero, List.set_cons_succ]
            have k6 := KJ6.out
            have z6 := Z6
            refine wpAnyH_cast (n' := 7) (l' := #[true, true, true, false, true, false, true, false, false, false, false, false]) (by kernel_rfl) (by kernel_rfl) ?_
            have hh := st1_6 g7 _ hHeld k6 z6
            rw [← hops] at hh
            exact hh
          · have h0 := hHeld
            clear hHeld
            try simp only [List.getElem_toArray, List.getElem_cons_succ, List.getElem_cons_zero]
            obtain ⟨kz, hg⟩ := Fn.fresh h0 33 #[.int .u64 0, .int .u64 0, .int .u64 0, .int .u64 0]
            have KZ := Lib.hid kz
            have HG := Lib.hid hg
            have H0 := Lib.hid h0
            clear kz hg h0
            have KH6 := Lib.hid K6
            go_simp
            refine hK.out _ _ (Fn.pass H0.out _) (fun hHeld => ?_)
            clear hK K H0
            try simp only [Act.put, List.getElem_toArray, List.getElem_cons_succ, List.getElem_cons_zero, List.setIfInBounds_toArray, List.set_cons_zero, List.set_cons_succ]
            have k6 := KH6.out.alloc (.cells #[.int .u64 0, .int .u64 0, .int .u64 0, .int .u64 0] 33)
            have z6 := Z6
            have k7 := KZ.out
            have z7 := HG.out
            refine wpAnyH_cast (n' := 7) (l' := #[true, false, true, false, true, false, true, true, false, false, false, false]) (by kernel_rfl) (by kernel_rfl) ?_
            have hh := st0_67 g7 _ _ hHeld k6 z6 k7 z7 (Nat.ne_of_lt K6.lt)
            rw [← hops] at hh
            exact hh
          · have h0 := hHeld
            clear hHeld
            try simp only [List.getElem_toArray, List.getElem_cons_succ, List.getElem_cons_zero]
            obtain ⟨kz, hg⟩ := Fn.fresh h0 33 #[.int .u64 0, .int .u64 0, .int .u64 0, .int .u64 0]
            have KZ := Lib.hid kz
            have HG := Lib.hid hg
            have H0 := Lib.hid h0
            clear kz hg h0
            have KH6 := Lib.hid K6
            go_simp
            refine hK.out _ _ (Fn.pass H0.out _) (fun hHeld => ?_)
            clear hK K H0
            try simp only [Act.put, List.getElem_toArray, List.getElem_cons_succ, List.getElem_cons_zero, List.setIfInBounds_toArray, List.set_cons_zero, List.set_cons_succ]
            have k6 := KH6.out.alloc (.cells #[.int .u64 0, .int .u64 0, .int .u64 0, .int .u64 0] 33)
            have z6 := Z6
            have k8 := KZ.out
            have z8 := HG.out
            refine wpAnyH_cast (n' := 7) (l' := #[true, false, true, false, true, false, true, false, true, false, false, false]) (by kernel_rfl) (by kernel_rfl) ?_
            have hh := st0_68 g7 _ _ hHeld k6 z6 k8 z8 (Nat.ne_of_lt K6.lt)
            rw [← hops] at hh
            exact hh
      have st0_7 : ∀ (g8 : Nat) (W : World), Fn wx W [(w.heap.size, 23, ks a), (w.heap.size + 1, 23, ks b), (w.heap.size + 1 + 1, 23, ks c)] → Blk W g8 33 #[.int .u64 0, .int .u64 0, .int .u64 0, .int .u64 0] → wx.heap.size ≤ g8 → wpAnyH Tryd.prog .any ops Q (fun W => Fn wx W [(w.heap.size, 23, ks a), (w.heap.size + 1, 23, ks b), (w.heap.size + 1 + 1, 23, ks c)]) 8 #[true, false, true, false, true, false, false, true, false, false, false, false] { tmps := #[.agg (ks a), .agg (ks b), .agg (ks c), .pointer (some ⟨w.heap.size, 0, none⟩), .pointer (some ⟨w.heap.size + 1, 0, none⟩), .pointer (some ⟨w.heap.size + 1 + 1, 0, none⟩), .bool false, undef, .pointer (some ⟨g8, 0, none⟩), undef, undef, undef, .agg (ks a), undef, .agg (ks b), undef, .agg (ks c), undef, undef, undef, undef, undef, undef, undef, undef, undef, undef, undef, undef, undef, undef, undef, undef, undef, undef, undef, undef, undef, undef, undef, undef, undef, undef, undef, undef, undef, undef, undef, undef, undef, undef, undef, undef, undef, undef, undef, undef, undef, undef, undef, undef, undef, undef, undef, undef, undef, undef, undef, undef, undef, undef, undef, undef, undef, undef, undef, undef, undef, undef, undef, undef, undef, undef, undef, undef, undef, undef, undef, undef, undef, undef, undef, undef, undef, undef, undef, undef, undef, undef, undef, undef, undef, undef, undef, undef, undef, undef, undef, undef, undef, undef, undef, undef, undef, undef, undef, undef, undef, undef, undef, undef, undef, undef, undef], defers := [] } W := by
        as_aux_lemma =>
          clear st0_6 st1_ st0_68 st1_8 st1_6 st2_ st0_678 st1_78 st1_68 st1_67 st2_8 st2_7 st2_6 st3_ st1_678 st2_78 st2_68 st2_67 st3_8 st3_7 st3_6 st2_678 st3_78 st3_68 st3_67 st3_678
          intro g8 W hHeld K7 Z7
          rw [← hops]
          refine wpAnyH_ready (rs := [1, 6, 8]) (by kernel_rfl) (by simp) (AllReadyH.cons rfl (fun K hK => ?_) (AllReadyH.cons rfl (fun K hK => ?_) (AllReadyH.cons rfl (fun K hK => ?_) AllReadyH.nil)))
          · have KH7 := Lib.hid K7
            have h0 := hHeld
            clear hHeld
            try simp only [List.getElem_toArray, List.getElem_cons_succ, List.getElem_cons_zero]
            have H0 := Lib.hid h0
            clear h0
            go_simp
            go_at_call 14
            refine (ofR Hx.out _ (HPG.out.ext H0.out.below) Ha.out).mono ?_
            rintro e vv ⟨rfl, hb⟩
            have KJ7 := Lib.hid (KH7.out.below hb KH7.out.lt)
            have h1 := H0.out.ext hb
            clear hb H0
            go_wp2_with (fail)
            refine hK.out _ _ h1 (fun hHeld => ?_)
            clear hK K h1
            try simp only [Act.put, List.getElem_toArray, List.getElem_cons_succ, List.getElem_cons_zero, List.setIfInBounds_toArray, List.set_cons_zero, List.set_cons_succ]
            have k7 := KJ7.out
            have z7 := Z7
            refine wpAnyH_cast (n' := 7) (l' := #[true, true, true, false, true, false, false, true, false, false, false, false]) (by kernel_rfl) (by kernel_rfl) ?_
            have hh := st1_7 g8 _ hHeld k7 z7
            rw [← hops] at hh
            exact hh
          · have h0 := hHeld
            clear hHeld
            try simp only [List.getElem_toArray, List.getElem_cons_succ, List.getElem_cons_zero]
            obtain ⟨kz, hg⟩ := Fn.fresh h0 33 #[.int .u64 0, .int .u64 0, .int .u64 0, .int .u64 0]
            have KZ := Lib.hid kz
            have HG := Lib.hid hg
            have H0 := Lib.hid h0
            clear kz hg h0
            have KH7 := Lib.hid K7
            go_simp
            refine hK.out _ _ (Fn.pass H0.out _) (fun hHeld => ?_)
            clear hK K H0
            try simp only [Act.put, List.getElem_toArray, List.getElem_cons_succ, List.getElem_cons_zero, List.setIfInBounds_toArray, List.set_cons_zero, List.set_cons_succ]
            have k7 := KH7.out.alloc (.cells #[.int .u64 0, .int .u64 0, .int .u64 0, .int .u64 0] 33)
            have z7 := Z7
            have k6 := KZ.out
            have z6 := HG.out
            refine wpAnyH_cast (n' := 7) (l' := #[true, false, true, false, true, false, true, true, false, false, false, false]) (by kernel_rfl) (by kernel_rfl) ?_
            have hh := st0_67 _ g8 _ hHeld k6 z6 k7 z7 (Ne.symm (Nat.ne_of_lt K7.lt))
            rw [← hops] at hh
            exact hh
          · have h0 := hHeld
            clear hHeld
            try simp only [List.getElem_toArray, List.getElem_cons_succ, List.getElem_cons_zero]
            obtain ⟨kz, hg⟩ := Fn.fresh h0 33 #[.int .u64 0, .int .u64 0, .int .u64 0, .int .u64 0]
            have KZ := Lib.hid kz
            have HG := Lib.hid hg
            have H0 := Lib.hid h0
            clear kz hg h0
            have KH7 := Lib.hid K7
            go_simp
            refine hK.out _ _ (Fn.pass H0.out _) (fun hHeld => ?_)
            clear hK K H0
            try simp only [Act.put, List.getElem_toArray, List.getElem_cons_succ, List.getElem_cons_zero, List.setIfInBounds_toArray, List.set_cons_zero, List.set_cons_succ]
            have k7 := KH7.out.alloc (.cells #[.int .u64 0, .int .u64 0, .int .u64 0, .int .u64 0] 33)
            have z7 := Z7
            have k8 := KZ.out
            have z8 := HG.out
            refine wpAnyH_cast (n' := 7) (l' := #[true, false, true, false, true, false, false, true, true, false, false, false]) (by kernel_rfl) (by kernel_rfl) ?_
            have hh := st0_78 g8 _ _ hHeld k7 z7 k8 z8 (Nat.ne_of_lt K7.lt)
            rw [← hops] at hh
            exact hh
      have st0_8 : ∀ (g9 : Nat) (W : World), Fn wx W [(w.heap.size, 23, ks a), (w.heap.size + 1, 23, ks b), (w.heap.size + 1 + 1, 23, ks c)] → Blk W g9 33 #[.int .u64 0, .int .u64 0, .int .u64 0, .int .u64 0] → wx.heap.size ≤ g9 → wpAnyH Tryd.prog .any ops Q (fun W => Fn wx W [(w.heap.size, 23, ks a), (w.heap.size + 1, 23, ks b), (w.heap.size + 1 + 1, 23, ks c)]) 8 #[true, false, true, false, true, false, false, false, true, false, false, false] { tmps := #[.agg (ks a), .agg (ks b), .agg (ks c), .pointer (some ⟨w.heap.size, 0, none⟩), .pointer (some ⟨w.heap.size + 1, 0, none⟩), .pointer (some ⟨w.heap.size + 1 + 1, 0, none⟩), .bool false, undef, undef, .pointer (some ⟨g9, 0, none⟩), undef, undef, .agg (ks a), undef, .agg (ks b), undef, .agg (ks c), undef, undef, undef, undef, undef, undef, undef, undef, undef, undef, undef, undef, undef, undef, undef, undef, undef, undef, undef, undef, undef, undef, undef, undef, undef, undef, undef, undef, undef, undef, undef, undef, undef, undef, undef, undef, undef, undef, undef, undef, undef, undef, undef, undef, undef, undef, undef, undef, undef, undef, undef, undef, undef, undef, undef, undef, undef, undef, undef, undef, undef, undef, undef, undef, undef, undef, undef, undef, undef, undef, undef, undef, undef, undef, undef, undef, undef, undef, undef, undef, undef, undef, undef, undef, undef, undef, undef, undef, undef, undef, undef, undef, undef, undef, undef, undef, undef, undef, undef, undef, undef, undef, undef, undef, undef, undef, undef], defers := [] } W := by
        as_aux_lemma =>
          clear st0_7 st0_6 st1_ st0_67 st1_7 st1_6 st2_ st0_678 st1_78 st1_68 st1_67 st2_8 st2_7 st2_6 st3_ st1_678 st2_78 st2_68 st2_67 st3_8 st3_7 st3_6 st2_678 st3_78 st3_68 st3_67 st3_678
          intro g9 W hHeld K8 Z8
          rw [← hops]
          refine wpAnyH_ready (rs := [1, 6, 7]) (by kernel_rfl) (by simp) (AllReadyH.cons rfl (fun K hK => ?_) (AllReadyH.cons rfl (fun K hK => ?_) (AllReadyH.cons rfl (fun K hK => ?_) AllReadyH.nil)))
          · have KH8 := Lib.hid K8
            have h0 := hHeld
            clear hHeld
            try simp only [List.getElem_toArray, List.getElem_cons_succ, List.getElem_cons_zero]
            have H0 := Lib.hid h0
            clear h0
            go_simp
            go_at_call 14
            refine (ofR Hx.out _ (HPG.out.ext H0.out.below) Ha.out).mono ?_
            rintro e vv ⟨rfl, hb⟩
            have KJ8 := Lib.hid (KH8.out.below hb KH8.out.lt)
            have h1 := H0.out.ext hb
            clear hb H0
            go_wp2_with (fail)
            refine hK.out _ _ h1 (fun hHeld => ?_)
            clear hK K h1
            try simp only [Act.put, List.getElem_toArray, List.getElem_cons_succ, List.getElem_cons_zero, List.setIfInBounds_toArray, List.set_cons_zero, List.set_cons_succ]
            have k8 := KJ8.out
            have z8 := Z8
            refine wpAnyH_cast (n' := 7) (l' := #[true, true, true, false, true, false, false, false, true, false, false, false]) (by kernel_rfl) (by kernel_rfl) ?_
            have hh := st1_8 g9 _ hHeld k8 z8
            rw [← hops] at hh
            exact hh
          · have h0 := hHeld
            clear hHeld
            try simp only [List.getElem_toArray, List.getElem_cons_succ, List.getElem_cons_zero]
            obtain ⟨kz, hg⟩ := Fn.fresh h0 33 #[.int .u64 0, .int .u64 0, .int .u64 0, .int .u64 0]
            have KZ := Lib.hid kz
            have HG := Lib.hid hg
            have H0 := Lib.hid h0
            clear kz hg h0
            have KH8 := Lib.hid K8
            go_simp
            refine hK.out _ _ (Fn.pass H0.out _) (fun hHeld => ?_)
            clear hK K H0
            try simp only [Act.put, List.getElem_toArray, List.getElem_cons_succ, List.getElem_cons_zero, List.setIfInBounds_toArray, List.set_cons_zero, List.set_cons_succ]
            have k8 := KH8.out.alloc (.cells #[.int .u64 0, .int .u64 0, .int .u64 0, .int .u64 0] 33)
            have z8 := Z8
            have k6 := KZ.out
            have z6 := HG.out
            refine wpAnyH_cast (n' := 7) (l' := #[true, false, true, false, true, false, true, false, true, false, false, false]) (by kernel_rfl) (by kernel_rfl) ?_
            have hh := st0_68 _ g9 _ hHeld k6 z6 k8 z8 (Ne.symm (Nat.ne_of_lt K8.lt))
            rw [← hops] at hh
            exact hh
          · have h0 := hHeld
            clear hHeld
            try simp only [List.getElem_toArray, List.getElem_cons_succ, List.getElem_cons_zero]
            obtain ⟨kz, hg⟩ := Fn.fresh h0 33 #[.int .u64 0, .int .u64 0, .int .u64 0, .int .u64 0]
            have KZ := Lib.hid kz
            have HG := Lib.hid hg
            have H0 := Lib.hid h0
            clear kz hg h0
            have KH8 := Lib.hid K8
            go_simp
            refine hK.out _ _ (Fn.pass H0.out _) (fun hHeld => ?_)
            clear hK K H0
            try simp only [Act.put, List.getElem_toArray, List.getElem_cons_succ, List.getElem_cons_zero, List.setIfInBounds_toArray, List.set_cons_zero, List.set_cons_succ]
            have k8 := KH8.out.alloc (.cells #[.int .u64 0, .int .u64 0, .int .u64 0, .int .u64 0] 33)
            have z8 := Z8
            have k7 := KZ.out
            have z7 := HG.out
            refine wpAnyH_cast (n' := 7) (l' := #[true, false, true, false, true, false, false, true, true, false, false, false]) (by kernel_rfl) (by kernel_rfl) ?_
            have hh := st0_78 _ g9 _ hHeld k7 z7 k8 z8 (Ne.symm (Nat.ne_of_lt K8.lt))
            rw [← hops] at hh
            exact hh
      have st0_ : ∀ (W : World), Fn wx W [(w.heap.size, 23, ks a), (w.heap.size + 1, 23, ks b), (w.heap.size + 1 + 1, 23, ks c)] → wpAnyH Tryd.prog .any ops Q (fun W => Fn wx W [(w.heap.size, 23, ks a), (w.heap.size + 1, 23, ks b), (w.heap.size + 1 + 1, 23, ks c)]) 9 #[true, false, true, false, true, false, false, false, false, false, false, false] { tmps := #[.agg (ks a), .agg (ks b), .agg (ks c), .pointer (some ⟨w.heap.size, 0, none⟩), .pointer (some ⟨w.heap.size + 1, 0, none⟩), .pointer (some ⟨w.heap.size + 1 + 1, 0, none⟩), .bool false, undef, undef, undef, undef, undef, .agg (ks a), undef, .agg (ks b), undef, .agg (ks c), undef, undef, undef, undef, undef, undef, undef, undef, undef, undef, undef, undef, undef, undef, undef, undef, undef, undef, undef, undef, undef, undef, undef, undef, undef, undef, undef, undef, undef, undef, undef, undef, undef, undef, undef, undef, undef, undef, undef, undef, undef, undef, undef, undef, undef, undef, undef, undef, undef, undef, undef, undef, undef, undef, undef, undef, undef, undef, undef, undef, undef, undef, undef, undef, undef, undef, undef, undef, undef, undef, undef, undef, undef, undef, undef, undef, undef, undef, undef, undef, undef, undef, undef, undef, undef, undef, undef, undef, undef, undef, undef, undef, undef, undef, undef, undef, undef, undef, undef, undef, undef, undef, undef, undef, undef, undef, undef], defers := [] } W := by
        as_aux_lemma =>
          clear st0_78 st0_68 st0_67 st1_8 st1_7 st1_6 st2_ st0_678 st1_78 st1_68 st1_67 st2_8 st2_7 st2_6 st3_ st1_678 st2_78 st2_68 st2_67 st3_8 st3_7 st3_6 st2_678 st3_78 st3_68 st3_67 st3_678
          intro W hHeld
          rw [← hops]
          refine wpAnyH_ready (rs := [1, 6, 7, 8]) (by kernel_rfl) (by simp) (AllReadyH.cons rfl (fun K hK => ?_) (AllReadyH.cons rfl (fun K hK => ?_) (AllReadyH.cons rfl (fun K hK => ?_) (AllReadyH.cons rfl (fun K hK => ?_) AllReadyH.nil))))
          · have h0 := hHeld
            clear hHeld
            try simp only [List.getElem_toArray, List.getElem_cons_succ, List.getElem_cons_zero]
            have H0 := Lib.hid h0
            clear h0
            go_simp
            go_at_call 14
            refine (ofR Hx.out _ (HPG.out.ext H0.out.below) Ha.out).mono ?_
            rintro e vv ⟨rfl, hb⟩
            have h1 := H0.out.ext hb
            clear hb H0
            go_wp2_with (fail)
            refine hK.out _ _ h1 (fun hHeld => ?_)
            clear hK K h1
            try simp only [Act.put, List.getElem_toArray, List.getElem_cons_succ, List.getElem_cons_zero, List.setIfInBounds_toArray, List.set_cons_zero, List.set_cons_succ]
            refine wpAnyH_cast (n' := 8) (l' := #[true, true, true, false, true, false, false, false, false, false, false, false]) (by kernel_rfl) (by kernel_rfl) ?_
            have hh := st1_ _ hHeld
            rw [← hops] at hh
            exact hh
          · have h0 := hHeld
            clear hHeld
            try simp only [List.getElem_toArray, List.getElem_cons_succ, List.getElem_cons_zero]
            obtain ⟨kz, hg⟩ := Fn.fresh h0 33 #[.int .u64 0, .int .u64 0, .int .u64 0, .int .u64 0]
            have KZ := Lib.hid kz
            have HG := Lib.hid hg
            have H0 := Lib.hid h0
            clear kz hg h0
            go_simp
            refine hK.out _ _ (Fn.pass H0.out _) (fun hHeld => ?_)
            clear hK K H0
            try simp only [Act.put, List.getElem_toArray, List.getElem_cons_succ, List.getElem_cons_zero, List.setIfInBounds_toArray, List.set_cons_zero, List.set_cons_succ]
            have k6 := KZ.out
            have z6 := HG.out
            refine wpAnyH_cast (n' := 8) (l' := #[true, false, true, false, true, false, true, false, false, false, false, false]) (by kernel_rfl) (by kernel_rfl) ?_
            have hh := st0_6 _ _ hHeld k6 z6
            rw [← hops] at hh
            exact hh
          · have h0 := hHeld
            clear hHeld
            try simp only [List.getElem_toArray, List.getElem_cons_succ, List.getElem_cons_zero]
            obtain ⟨kz, hg⟩ := Fn.fresh h0 33 #[.int .u64 0, .int .u64 0, .int .u64 0, .int .u64 0]
            have KZ := Lib.hid kz
            have HG := Lib.hid hg
            have H0 := Lib.hid h0
            clear kz hg h0
            go_simp
            refine hK.out _ _ (Fn.pass H0.out _) (fun hHeld => ?_)
            clear hK K H0
            try simp only [Act.put, List.getElem_toArray, List.getElem_cons_succ, List.getElem_cons_zero, List.setIfInBounds_toArray, List.set_cons_zero, List.set_cons_succ]
            have k7 := KZ.out
            have z7 := HG.out
            refine wpAnyH_cast (n' := 8) (l' := #[true, false, true, false, true, false, false, true, false, false, false, false]) (by kernel_rfl) (by kernel_rfl) ?_
            have hh := st0_7 _ _ hHeld k7 z7
            rw [← hops] at hh
            exact hh
          · have h0 := hHeld
            clear hHeld
            try simp only [List.getElem_toArray, List.getElem_cons_succ, List.getElem_cons_zero]
            obtain ⟨kz, hg⟩ := Fn.fresh h0 33 #[.int .u64 0, .int .u64 0, .int .u64 0, .int .u64 0]
            have KZ := Lib.hid kz
            have HG := Lib.hid hg
            have H0 := Lib.hid h0
            clear kz hg h0
            go_simp
            refine hK.out _ _ (Fn.pass H0.out _) (fun hHeld => ?_)
            clear hK K H0
            try simp only [Act.put, List.getElem_toArray, List.getElem_cons_succ, List.getElem_cons_zero, List.setIfInBounds_toArray, List.set_cons_zero, List.set_cons_succ]
            have k8 := KZ.out
            have z8 := HG.out
            refine wpAnyH_cast (n' := 8) (l' := #[true, false, true, false, true, false, false, false, true, false, false, false]) (by kernel_rfl) (by kernel_rfl) ?_
            have hh := st0_8 _ _ hHeld k8 z8
            rw [← hops] at hh
            exact hh
      refine wpAnyH_cast (n' := 9) (l' := #[true, false, true, false, true, false, false, false, false, false, false, false]) (by kernel_rfl) (by kernel_rfl) ?_
      exact st0_ _ hHeld
  case rest =>
    as_aux_lemma =>
      obtain ⟨g7, g8, g9, rfl, rfl, rfl, k7, k8, k9, hb⟩ := hcut
      have hf2 := ((((HF.out.ext hb).more k7).more k8).more k9)
      have hpg2 := HPG.out.ext hb
      clear HF HPG hb k7 k8 k9
      have HF := Lib.hid hf2
      have HPG := Lib.hid hpg2
      clear hf2 hpg2
      go_wp2_with (fail)
      refine (smallF 1 _ (by omega)).mono ?_
      rintro e v1 ⟨rfl, hb⟩
      have hf := HF.out.ext hb
      have H1 := Lib.hid hf
      clear hb hf
      go_wp2_with (fail)
      refine (smallF 0 _ (by omega)).mono ?_
      rintro e v2 ⟨rfl, hb⟩
      have hf := H1.out.ext hb
      have ka : Blk ((v2.alloc (.cells #[.int .u64 0, .int .u64 0, .int .u64 0, .int .u64 0] 33)).alloc (.cells #[.int .u64 0, .int .u64 0, .int .u64 0, .int .u64 0] 33)) v2.heap.size 33 #[.int .u64 0, .int .u64 0, .int .u64 0, .int .u64 0] := (Blk.new _ _ _).alloc _
      have kb : Blk (((v2.alloc (.cells #[.int .u64 0, .int .u64 0, .int .u64 0, .int .u64 0] 33)).alloc (.cells #[.int .u64 0, .int .u64 0, .int .u64 0, .int .u64 0] 33)).setRow v2.heap.size (ev (sm 1))) (v2.heap.size + 1) 33 #[.int .u64 0, .int .u64 0, .int .u64 0, .int .u64 0] := (Blk.new' _ _ _ _ (by simp)).setRow_other (by omega) _
      have kc := (ka.setRow_same (ev (sm 1))).setRow_other (k := v2.heap.size + 1) (by omega) (ev (sm 0))
      have kd := kb.setRow_same (ev (sm 0))
      have hf3 := ((((hf.pass (.cells #[.int .u64 0, .int .u64 0, .int .u64 0, .int .u64 0] 33)).pass (.cells #[.int .u64 0, .int .u64 0, .int .u64 0, .int .u64 0] 33)).setOut (g := v2.heap.size) (by have := hf.size; omega) (by intro p hp; exact Nat.ne_of_lt (hf.rows p hp).lt) (by simp) (ev (sm 1))).setOut (g := v2.heap.size + 1) (by have := hf.size; omega) (by intro p hp; have := (hf.rows p hp).lt; omega) (by simp) (ev (sm 0))).more kc |>.more kd
      have KA := Lib.hid ka
      have KB := Lib.hid kb
      have HF3 := Lib.hid hf3
      clear hb hf kc kd hf3 ka kb HF H1
      go_wp2_with (first | (refine wpList_store_row rfl 33 (.tmp 10) (.tmp 18) rfl v2.heap.size (ev (sm 1)) rfl rfl 33 _ KA.out (info_ev _) rfl (ev_one _) ?_) | (refine wpList_store_row rfl 33 (.tmp 11) (.tmp 19) rfl (v2.heap.size + 1) (ev (sm 0)) rfl rfl 33 _ KB.out (info_ev _) rfl (ev_one _) ?_))
      as_aux_lemma =>
        refine wp_region_held_drew (S := fun W => Fr w W [(v2.heap.size + 1, 33, ev (sm 0)), (v2.heap.size, 33, ev (sm 1)), (g9, 33, ev z), (g8, 33, ev y), (g7, 33, ev x)] []) (by kernel_rfl) ?_ (fun hHeld => ?_)
        · exact (HF3.out.sub (by simp) (by simp)).drew
        refine wpAnyH_take (i := 0) (v := .agg (ev x)) rfl (by kernel_rfl) (by kernel_rfl) (by kernel_rfl) (fun _ _ _ h => h) (yields_row (by rfl) 33 (.tmp 7) rfl (g7) rfl 33 (ev x) _ (fun W (h : Fr _ W _ _) => h.get (by simp)) Tryd.underlying33 rfl (info_ev _)) hHeld ?_
        try simp only [Act.put, List.getElem_toArray, List.getElem_cons_succ, List.getElem_cons_zero, List.setIfInBounds_toArray, List.set_cons_zero, List.set_cons_succ]
        refine wpAnyH_take (i := 1) (v := .agg (ev y)) rfl (by kernel_rfl) (by kernel_rfl) (by kernel_rfl) (fun _ _ _ h => h) (yields_row (by rfl) 33 (.tmp 8) rfl (g8) rfl 33 (ev y) _ (fun W (h : Fr _ W _ _) => h.get (by simp)) Tryd.underlying33 rfl (info_ev _)) hHeld ?_
        try simp only [Act.put, List.getElem_toArray, List.getElem_cons_succ, List.getElem_cons_zero, List.setIfInBounds_toArray, List.set_cons_zero, List.set_cons_succ]
        refine wpAnyH_take (i := 3) (v := .agg (ev y)) rfl (by kernel_rfl) (by kernel_rfl) (by kernel_rfl) (fun _ _ _ h => h) (yields_row (by rfl) 33 (.tmp 8) rfl (g8) rfl 33 (ev y) _ (fun W (h : Fr _ W _ _) => h.get (by simp)) Tryd.underlying33 rfl (info_ev _)) hHeld ?_
        try simp only [Act.put, List.getElem_toArray, List.getElem_cons_succ, List.getElem_cons_zero, List.setIfInBounds_toArray, List.set_cons_zero, List.set_cons_succ]
        refine wpAnyH_take (i := 4) (v := .agg (ev x)) rfl (by kernel_rfl) (by kernel_rfl) (by kernel_rfl) (fun _ _ _ h => h) (yields_row (by rfl) 33 (.tmp 7) rfl (g7) rfl 33 (ev x) _ (fun W (h : Fr _ W _ _) => h.get (by simp)) Tryd.underlying33 rfl (info_ev _)) hHeld ?_
        try simp only [Act.put, List.getElem_toArray, List.getElem_cons_succ, List.getElem_cons_zero, List.setIfInBounds_toArray, List.set_cons_zero, List.set_cons_succ]
        refine wpAnyH_ready (rs := [2]) (by kernel_rfl) (by simp) (AllReadyH.cons rfl (fun K hK => ?_) AllReadyH.nil)
        have h0 := hHeld
        clear hHeld
        try simp only [List.getElem_toArray, List.getElem_cons_succ, List.getElem_cons_zero]
        have H0 := Lib.hid h0
        clear h0
        go_simp
        go_at_call 21
        refine (addF x y _ (Fr.pg H0.out HP.out)).mono ?_
        rintro e vv ⟨rfl, hb⟩
        have h1 := H0.out.ext hb
        clear hb H0
        go_wp2_with (fail)
        refine hK.out _ _ h1 (fun hHeld => ?_)
        clear hK K h1
        try simp only [Act.put, List.getElem_toArray, List.getElem_cons_succ, List.getElem_cons_zero, List.setIfInBounds_toArray, List.set_cons_zero, List.set_cons_succ]
        refine wpAnyH_ready (rs := [5]) (by kernel_rfl) (by simp) (AllReadyH.cons rfl (fun K hK => ?_) AllReadyH.nil)
        have h0 := hHeld
        clear hHeld
        try simp only [List.getElem_toArray, List.getElem_cons_succ, List.getElem_cons_zero]
        have H0 := Lib.hid h0
        clear h0
        go_simp
        go_at_call 21
        refine (addF y x _ (Fr.pg H0.out HP.out)).mono ?_
        rintro e vv ⟨rfl, hb⟩
        have h1 := H0.out.ext hb
        clear hb H0
        go_wp2_with (fail)
        refine hK.out _ _ h1 (fun hHeld => ?_)
        clear hK K h1
        try simp only [Act.put, List.getElem_toArray, List.getElem_cons_succ, List.getElem_cons_zero, List.setIfInBounds_toArray, List.set_cons_zero, List.set_cons_succ]
        refine wpAnyH_ready (rs := [6]) (by kernel_rfl) (by simp) (AllReadyH.cons rfl (fun K hK => ?_) AllReadyH.nil)
        have h0 := hHeld
        clear hHeld
        try simp only [List.getElem_toArray, List.getElem_cons_succ, List.getElem_cons_zero]
        have H0 := Lib.hid h0
        clear h0
        go_simp
        go_at_call 16
        refine (equal_yes (f_add_comm x y) _).mono ?_
        rintro e vv ⟨rfl, hb⟩
        have h1 := H0.out.ext hb
        clear hb H0
        go_wp2_with (fail)
        refine hK.out _ _ h1 (fun hHeld => ?_)
        clear hK K h1
        try simp only [Act.put, List.getElem_toArray, List.getElem_cons_succ, List.getElem_cons_zero, List.setIfInBounds_toArray, List.set_cons_zero, List.set_cons_succ]
        refine wpAnyH_take (i := 7) (v := ?_) rfl (by kernel_rfl) (by kernel_rfl) (by kernel_rfl) (fun _ _ _ h => h) (Or.inl ⟨by rfl, ?_⟩) hHeld ?_
        rotate_left
        · (intro W hSw; (try dsimp only at hSw); (try simp only [List.getElem_toArray, List.getElem_cons_succ, List.getElem_cons_zero]); go_simp; try with_reducible rfl)
        try simp only [Act.put, List.getElem_toArray, List.getElem_cons_succ, List.getElem_cons_zero, List.setIfInBounds_toArray, List.set_cons_zero, List.set_cons_succ]
        refine wpAnyH_take (i := 8) (v := ?_) rfl (by kernel_rfl) (by kernel_rfl) (by kernel_rfl) (fun _ _ _ h => h) (Or.inl ⟨by rfl, ?_⟩) hHeld ?_
        rotate_left
        · (intro W hSw; (try dsimp only at hSw); (try simp only [List.getElem_toArray, List.getElem_cons_succ, List.getElem_cons_zero]); go_simp; try with_reducible rfl)
        try simp only [Act.put, List.getElem_toArray, List.getElem_cons_succ, List.getElem_cons_zero, List.setIfInBounds_toArray, List.set_cons_zero, List.set_cons_succ]
        refine wpAnyH_take (i := 9) (v := .agg (ev x)) rfl (by kernel_rfl) (by kernel_rfl) (by kernel_rfl) (fun _ _ _ h => h) (yields_row (by rfl) 33 (.tmp 7) rfl (g7) rfl 33 (ev x) _ (fun W (h : Fr _ W _ _) => h.get (by simp)) Tryd.underlying33 rfl (info_ev _)) hHeld ?_
        try simp only [Act.put, List.getElem_toArray, List.getElem_cons_succ, List.getElem_cons_zero, List.setIfInBounds_toArray, List.set_cons_zero, List.set_cons_succ]
        refine wpAnyH_take (i := 10) (v := .agg (ev y)) rfl (by kernel_rfl) (by kernel_rfl) (by kernel_rfl) (fun _ _ _ h => h) (yields_row (by rfl) 33 (.tmp 8) rfl (g8) rfl 33 (ev y) _ (fun W (h : Fr _ W _ _) => h.get (by simp)) Tryd.underlying33 rfl (info_ev _)) hHeld ?_
        try simp only [Act.put, List.getElem_toArray, List.getElem_cons_succ, List.getElem_cons_zero, List.setIfInBounds_toArray, List.set_cons_zero, List.set_cons_succ]
        refine wpAnyH_take (i := 12) (v := .agg (ev y)) rfl (by kernel_rfl) (by kernel_rfl) (by kernel_rfl) (fun _ _ _ h => h) (yields_row (by rfl) 33 (.tmp 8) rfl (g8) rfl 33 (ev y) _ (fun W (h : Fr _ W _ _) => h.get (by simp)) Tryd.underlying33 rfl (info_ev _)) hHeld ?_
        try simp only [Act.put, List.getElem_toArray, List.getElem_cons_succ, List.getElem_cons_zero, List.setIfInBounds_toArray, List.set_cons_zero, List.set_cons_succ]
        refine wpAnyH_take (i := 13) (v := .agg (ev x)) rfl (by kernel_rfl) (by kernel_rfl) (by kernel_rfl) (fun _ _ _ h => h) (yields_row (by rfl) 33 (.tmp 7) rfl (g7) rfl 33 (ev x) _ (fun W (h : Fr _ W _ _) => h.get (by simp)) Tryd.underlying33 rfl (info_ev _)) hHeld ?_
        try simp only [Act.put, List.getElem_toArray, List.getElem_cons_succ, List.getElem_cons_zero, List.setIfInBounds_toArray, List.set_cons_zero, List.set_cons_succ]
        refine wpAnyH_ready (rs := [11]) (by kernel_rfl) (by simp) (AllReadyH.cons rfl (fun K hK => ?_) AllReadyH.nil)
        have h0 := hHeld
        clear hHeld
        try simp only [List.getElem_toArray, List.getElem_cons_succ, List.getElem_cons_zero]
        have H0 := Lib.hid h0
        clear h0
        go_simp
        go_at_call 25
        refine (mulF x y _ (Fr.pg H0.out HP.out)).mono ?_
        rintro e vv ⟨rfl, hb⟩
        have h1 := H0.out.ext hb
        clear hb H0
        go_wp2_with (fail)
        refine hK.out _ _ h1 (fun hHeld => ?_)
        clear hK K h1
        try simp only [Act.put, List.getElem_toArray, List.getElem_cons_succ, List.getElem_cons_zero, List.setIfInBounds_toArray, List.set_cons_zero, List.set_cons_succ]
        refine wpAnyH_ready (rs := [14]) (by kernel_rfl) (by simp) (AllReadyH.cons rfl (fun K hK => ?_) AllReadyH.nil)
        have h0 := hHeld
        clear hHeld
        try simp only [List.getElem_toArray, List.getElem_cons_succ, List.getElem_cons_zero]
        have H0 := Lib.hid h0
        clear h0
        go_simp
        go_at_call 25
        refine (mulF y x _ (Fr.pg H0.out HP.out)).mono ?_
        rintro e vv ⟨rfl, hb⟩
        have h1 := H0.out.ext hb
        clear hb H0
        go_wp2_with (fail)
        refine hK.out _ _ h1 (fun hHeld => ?_)
        clear hK K h1
        try simp only [Act.put, List.getElem_toArray, List.getElem_cons_succ, List.getElem_cons_zero, List.setIfInBounds_toArray, List.set_cons_zero, List.set_cons_succ]
        refine wpAnyH_ready (rs := [15]) (by kernel_rfl) (by simp) (AllReadyH.cons rfl (fun K hK => ?_) AllReadyH.nil)
        have h0 := hHeld
        clear hHeld
        try simp only [List.getElem_toArray, List.getElem_cons_succ, List.getElem_cons_zero]
        have H0 := Lib.hid h0
        clear h0
        go_simp
        go_at_call 16
        refine (equal_yes (f_mul_comm x y) _).mono ?_
        rintro e vv ⟨rfl, hb⟩
        have h1 := H0.out.ext hb
        clear hb H0
        go_wp2_with (fail)
        refine hK.out _ _ h1 (fun hHeld => ?_)
        clear hK K h1
        try simp only [Act.put, List.getElem_toArray, List.getElem_cons_succ, List.getElem_cons_zero, List.setIfInBounds_toArray, List.set_cons_zero, List.set_cons_succ]
        refine wpAnyH_take (i := 16) (v := ?_) rfl (by kernel_rfl) (by kernel_rfl) (by kernel_rfl) (fun _ _ _ h => h) (Or.inl ⟨by rfl, ?_⟩) hHeld ?_
        rotate_left
        · (intro W hSw; (try dsimp only at hSw); (try simp only [List.getElem_toArray, List.getElem_cons_succ, List.getElem_cons_zero]); go_simp; try with_reducible rfl)
        try simp only [Act.put, List.getElem_toArray, List.getElem_cons_succ, List.getElem_cons_zero, List.setIfInBounds_toArray, List.set_cons_zero, List.set_cons_succ]
        refine wpAnyH_take (i := 17) (v := ?_) rfl (by kernel_rfl) (by kernel_rfl) (by kernel_rfl) (fun _ _ _ h => h) (Or.inl ⟨by rfl, ?_⟩) hHeld ?_
        rotate_left
        · (intro W hSw; (try dsimp only at hSw); (try simp only [List.getElem_toArray, List.getElem_cons_succ, List.getElem_cons_zero]); go_simp; try with_reducible rfl)
        try simp only [Act.put, List.getElem_toArray, List.getElem_cons_succ, List.getElem_cons_zero, List.setIfInBounds_toArray, List.set_cons_zero, List.set_cons_succ]
        refine wpAnyH_take (i := 18) (v := ?_) rfl (by kernel_rfl) (by kernel_rfl) (by kernel_rfl) (fun _ _ _ h => h) (Or.inl ⟨by rfl, ?_⟩) hHeld ?_
        rotate_left
        · (intro W hSw; (try dsimp only at hSw); (try simp only [List.getElem_toArray, List.getElem_cons_succ, List.getElem_cons_zero]); go_simp; try with_reducible rfl)
        try simp only [Act.put, List.getElem_toArray, List.getElem_cons_succ, List.getElem_cons_zero, List.setIfInBounds_toArray, List.set_cons_zero, List.set_cons_succ]
        refine wpAnyH_take (i := 19) (v := .agg (ev x)) rfl (by kernel_rfl) (by kernel_rfl) (by kernel_rfl) (fun _ _ _ h => h) (yields_row (by rfl) 33 (.tmp 7) rfl (g7) rfl 33 (ev x) _ (fun W (h : Fr _ W _ _) => h.get (by simp)) Tryd.underlying33 rfl (info_ev _)) hHeld ?_
        try simp only [Act.put, List.getElem_toArray, List.getElem_cons_succ, List.getElem_cons_zero, List.setIfInBounds_toArray, List.set_cons_zero, List.set_cons_succ]
        refine wpAnyH_take (i := 20) (v := .agg (ev y)) rfl (by kernel_rfl) (by kernel_rfl) (by kernel_rfl) (fun _ _ _ h => h) (yields_row (by rfl) 33 (.tmp 8) rfl (g8) rfl 33 (ev y) _ (fun W (h : Fr _ W _ _) => h.get (by simp)) Tryd.underlying33 rfl (info_ev _)) hHeld ?_
        try simp only [Act.put, List.getElem_toArray, List.getElem_cons_succ, List.getElem_cons_zero, List.setIfInBounds_toArray, List.set_cons_zero, List.set_cons_succ]
        refine wpAnyH_take (i := 22) (v := .agg (ev z)) rfl (by kernel_rfl) (by kernel_rfl) (by kernel_rfl) (fun _ _ _ h => h) (yields_row (by rfl) 33 (.tmp 9) rfl (g9) rfl 33 (ev z) _ (fun W (h : Fr _ W _ _) => h.get (by simp)) Tryd.underlying33 rfl (info_ev _)) hHeld ?_
        try simp only [Act.put, List.getElem_toArray, List.getElem_cons_succ, List.getElem_cons_zero, List.setIfInBounds_toArray, List.set_cons_zero, List.set_cons_succ]
        refine wpAnyH_take (i := 24) (v := .agg (ev x)) rfl (by kernel_rfl) (by kernel_rfl) (by kernel_rfl) (fun _ _ _ h => h) (yields_row (by rfl) 33 (.tmp 7) rfl (g7) rfl 33 (ev x) _ (fun W (h : Fr _ W _ _) => h.get (by simp)) Tryd.underlying33 rfl (info_ev _)) hHeld ?_
        try simp only [Act.put, List.getElem_toArray, List.getElem_cons_succ, List.getElem_cons_zero, List.setIfInBounds_toArray, List.set_cons_zero, List.set_cons_succ]
        refine wpAnyH_take (i := 25) (v := .agg (ev y)) rfl (by kernel_rfl) (by kernel_rfl) (by kernel_rfl) (fun _ _ _ h => h) (yields_row (by rfl) 33 (.tmp 8) rfl (g8) rfl 33 (ev y) _ (fun W (h : Fr _ W _ _) => h.get (by simp)) Tryd.underlying33 rfl (info_ev _)) hHeld ?_
        try simp only [Act.put, List.getElem_toArray, List.getElem_cons_succ, List.getElem_cons_zero, List.setIfInBounds_toArray, List.set_cons_zero, List.set_cons_succ]
        refine wpAnyH_take (i := 26) (v := .agg (ev z)) rfl (by kernel_rfl) (by kernel_rfl) (by kernel_rfl) (fun _ _ _ h => h) (yields_row (by rfl) 33 (.tmp 9) rfl (g9) rfl 33 (ev z) _ (fun W (h : Fr _ W _ _) => h.get (by simp)) Tryd.underlying33 rfl (info_ev _)) hHeld ?_
        try simp only [Act.put, List.getElem_toArray, List.getElem_cons_succ, List.getElem_cons_zero, List.setIfInBounds_toArray, List.set_cons_zero, List.set_cons_succ]
        refine wpAnyH_ready (rs := [21]) (by kernel_rfl) (by simp) (AllReadyH.cons rfl (fun K hK => ?_) AllReadyH.nil)
        have h0 := hHeld
        clear hHeld
        try simp only [List.getElem_toArray, List.getElem_cons_succ, List.getElem_cons_zero]
        have H0 := Lib.hid h0
        clear h0
        go_simp
        go_at_call 21
        refine (addF x y _ (Fr.pg H0.out HP.out)).mono ?_
        rintro e vv ⟨rfl, hb⟩
        have h1 := H0.out.ext hb
        clear hb H0
        go_wp2_with (fail)
        refine hK.out _ _ h1 (fun hHeld => ?_)
        clear hK K h1
        try simp only [Act.put, List.getElem_toArray, List.getElem_cons_succ, List.getElem_cons_zero, List.setIfInBounds_toArray, List.set_cons_zero, List.set_cons_succ]
        refine wpAnyH_ready (rs := [23]) (by kernel_rfl) (by simp) (AllReadyH.cons rfl (fun K hK => ?_) AllReadyH.nil)
        have h0 := hHeld
        clear hHeld
        try simp only [List.getElem_toArray, List.getElem_cons_succ, List.getElem_cons_zero]
        have H0 := Lib.hid h0
        clear h0
        go_simp
        go_at_call 21
        refine (addF (x + y) z _ (Fr.pg H0.out HP.out)).mono ?_
        rintro e vv ⟨rfl, hb⟩
        have h1 := H0.out.ext hb
        clear hb H0
        go_wp2_with (fail)
        refine hK.out _ _ h1 (fun hHeld => ?_)
        clear hK K h1
        try simp only [Act.put, List.getElem_toArray, List.getElem_cons_succ, List.getElem_cons_zero, List.setIfInBounds_toArray, List.set_cons_zero, List.set_cons_succ]
        refine wpAnyH_ready (rs := [27]) (by kernel_rfl) (by simp) (AllReadyH.cons rfl (fun K hK => ?_) AllReadyH.nil)
        have h0 := hHeld
        clear hHeld
        try simp only [List.getElem_toArray, List.getElem_cons_succ, List.getElem_cons_zero]
        have H0 := Lib.hid h0
        clear h0
        go_simp
        go_at_call 21
        refine (addF y z _ (Fr.pg H0.out HP.out)).mono ?_
        rintro e vv ⟨rfl, hb⟩
        have h1 := H0.out.ext hb
        clear hb H0
        go_wp2_with (fail)
        refine hK.out _ _ h1 (fun hHeld => ?_)
        clear hK K h1
        try simp only [Act.put, List.getElem_toArray, List.getElem_cons_succ, List.getElem_cons_zero, List.setIfInBounds_toArray, List.set_cons_zero, List.set_cons_succ]
        refine wpAnyH_ready (rs := [28]) (by kernel_rfl) (by simp) (AllReadyH.cons rfl (fun K hK => ?_) AllReadyH.nil)
        have h0 := hHeld
        clear hHeld
        try simp only [List.getElem_toArray, List.getElem_cons_succ, List.getElem_cons_zero]
        have H0 := Lib.hid h0
        clear h0
        go_simp
        go_at_call 21
        refine (addF x (y + z) _ (Fr.pg H0.out HP.out)).mono ?_
        rintro e vv ⟨rfl, hb⟩
        have h1 := H0.out.ext hb
        clear hb H0
        go_wp2_with (fail)
        refine hK.out _ _ h1 (fun hHeld => ?_)
        clear hK K h1
        try simp only [Act.put, List.getElem_toArray, List.getElem_cons_succ, List.getElem_cons_zero, List.setIfInBounds_toArray, List.set_cons_zero, List.set_cons_succ]
        refine wpAnyH_ready (rs := [29]) (by kernel_rfl) (by simp) (AllReadyH.cons rfl (fun K hK => ?_) AllReadyH.nil)
        have h0 := hHeld
        clear hHeld
        try simp only [List.getElem_toArray, List.getElem_cons_succ, List.getElem_cons_zero]
        have H0 := Lib.hid h0
        clear h0
        go_simp
        go_at_call 16
        refine (equal_yes (f_add_assoc x y z) _).mono ?_
        rintro e vv ⟨rfl, hb⟩
        have h1 := H0.out.ext hb
        clear hb H0
        go_wp2_with (fail)
        refine hK.out _ _ h1 (fun hHeld => ?_)
        clear hK K h1
        try simp only [Act.put, List.getElem_toArray, List.getElem_cons_succ, List.getElem_cons_zero, List.setIfInBounds_toArray, List.set_cons_zero, List.set_cons_succ]
        refine wpAnyH_take (i := 30) (v := ?_) rfl (by kernel_rfl) (by kernel_rfl) (by kernel_rfl) (fun _ _ _ h => h) (Or.inl ⟨by rfl, ?_⟩) hHeld ?_
        rotate_left
        · (intro W hSw; (try dsimp only at hSw); (try simp only [List.getElem_toArray, List.getElem_cons_succ, List.getElem_cons_zero]); go_simp; try with_reducible rfl)
        try simp only [Act.put, List.getElem_toArray, List.getElem_cons_succ, List.getElem_cons_zero, List.setIfInBounds_toArray, List.set_cons_zero, List.set_cons_succ]
        refine wpAnyH_take (i := 31) (v := ?_) rfl (by kernel_rfl) (by kernel_rfl) (by kernel_rfl) (fun _ _ _ h => h) (Or.inl ⟨by rfl, ?_⟩) hHeld ?_
        rotate_left
        · (intro W hSw; (try dsimp only at hSw); (try simp only [List.getElem_toArray, List.getElem_cons_succ, List.getElem_cons_zero]); go_simp; try with_reducible rfl)
        try simp only [Act.put, List.getElem_toArray, List.getElem_cons_succ, List.getElem_cons_zero, List.setIfInBounds_toArray, List.set_cons_zero, List.set_cons_succ]
        refine wpAnyH_take (i := 32) (v := ?_) rfl (by kernel_rfl) (by kernel_rfl) (by kernel_rfl) (fun _ _ _ h => h) (Or.inl ⟨by rfl, ?_⟩) hHeld ?_
        rotate_left
        · (intro W hSw; (try dsimp only at hSw); (try simp only [List.getElem_toArray, List.getElem_cons_succ, List.getElem_cons_zero]); go_simp; try with_reducible rfl)
        try simp only [Act.put, List.getElem_toArray, List.getElem_cons_succ, List.getElem_cons_zero, List.setIfInBounds_toArray, List.set_cons_zero, List.set_cons_succ]
        refine wpAnyH_take (i := 33) (v := .agg (ev x)) rfl (by kernel_rfl) (by kernel_rfl) (by kernel_rfl) (fun _ _ _ h => h) (yields_row (by rfl) 33 (.tmp 7) rfl (g7) rfl 33 (ev x) _ (fun W (h : Fr _ W _ _) => h.get (by simp)) Tryd.underlying33 rfl (info_ev _)) hHeld ?_
        try simp only [Act.put, List.getElem_toArray, List.getElem_cons_succ, List.getElem_cons_zero, List.setIfInBounds_toArray, List.set_cons_zero, List.set_cons_succ]
        refine wpAnyH_take (i := 34) (v := .agg (ev y)) rfl (by kernel_rfl) (by kernel_rfl) (by kernel_rfl) (fun _ _ _ h => h) (yields_row (by rfl) 33 (.tmp 8) rfl (g8) rfl 33 (ev y) _ (fun W (h : Fr _ W _ _) => h.get (by simp)) Tryd.underlying33 rfl (info_ev _)) hHeld ?_
        try simp only [Act.put, List.getElem_toArray, List.getElem_cons_succ, List.getElem_cons_zero, List.setIfInBounds_toArray, List.set_cons_zero, List.set_cons_succ]
        refine wpAnyH_take (i := 36) (v := .agg (ev z)) rfl (by kernel_rfl) (by kernel_rfl) (by kernel_rfl) (fun _ _ _ h => h) (yields_row (by rfl) 33 (.tmp 9) rfl (g9) rfl 33 (ev z) _ (fun W (h : Fr _ W _ _) => h.get (by simp)) Tryd.underlying33 rfl (info_ev _)) hHeld ?_
        try simp only [Act.put, List.getElem_toArray, List.getElem_cons_succ, List.getElem_cons_zero, List.setIfInBounds_toArray, List.set_cons_zero, List.set_cons_succ]
        refine wpAnyH_take (i := 38) (v := .agg (ev x)) rfl (by kernel_rfl) (by kernel_rfl) (by kernel_rfl) (fun _ _ _ h => h) (yields_row (by rfl) 33 (.tmp 7) rfl (g7) rfl 33 (ev x) _ (fun W (h : Fr _ W _ _) => h.get (by simp)) Tryd.underlying33 rfl (info_ev _)) hHeld ?_
        try simp only [Act.put, List.getElem_toArray, List.getElem_cons_succ, List.getElem_cons_zero, List.setIfInBounds_toArray, List.set_cons_zero, List.set_cons_succ]
        refine wpAnyH_take (i := 39) (v := .agg (ev y)) rfl (by kernel_rfl) (by kernel_rfl) (by kernel_rfl) (fun _ _ _ h => h) (yields_row (by rfl) 33 (.tmp 8) rfl (g8) rfl 33 (ev y) _ (fun W (h : Fr _ W _ _) => h.get (by simp)) Tryd.underlying33 rfl (info_ev _)) hHeld ?_
        try simp only [Act.put, List.getElem_toArray, List.getElem_cons_succ, List.getElem_cons_zero, List.setIfInBounds_toArray, List.set_cons_zero, List.set_cons_succ]
        refine wpAnyH_take (i := 40) (v := .agg (ev z)) rfl (by kernel_rfl) (by kernel_rfl) (by kernel_rfl) (fun _ _ _ h => h) (yields_row (by rfl) 33 (.tmp 9) rfl (g9) rfl 33 (ev z) _ (fun W (h : Fr _ W _ _) => h.get (by simp)) Tryd.underlying33 rfl (info_ev _)) hHeld ?_
        try simp only [Act.put, List.getElem_toArray, List.getElem_cons_succ, List.getElem_cons_zero, List.setIfInBounds_toArray, List.set_cons_zero, List.set_cons_succ]
        refine wpAnyH_ready (rs := [35]) (by kernel_rfl) (by simp) (AllReadyH.cons rfl (fun K hK => ?_) AllReadyH.nil)
        have h0 := hHeld
        clear hHeld
        try simp only [List.getElem_toArray, List.getElem_cons_succ, List.getElem_cons_zero]
        have H0 := Lib.hid h0
        clear h0
        go_simp
        go_at_call 25
        refine (mulF x y _ (Fr.pg H0.out HP.out)).mono ?_
        rintro e vv ⟨rfl, hb⟩
        have h1 := H0.out.ext hb
        clear hb H0
        go_wp2_with (fail)
        refine hK.out _ _ h1 (fun hHeld => ?_)
        clear hK K h1
        try simp only [Act.put, List.getElem_toArray, List.getElem_cons_succ, List.getElem_cons_zero, List.setIfInBounds_toArray, List.set_cons_zero, List.set_cons_succ]
        refine wpAnyH_ready (rs := [37]) (by kernel_rfl) (by simp) (AllReadyH.cons rfl (fun K hK => ?_) AllReadyH.nil)
        have h0 := hHeld
        clear hHeld
        try simp only [List.getElem_toArray, List.getElem_cons_succ, List.getElem_cons_zero]
        have H0 := Lib.hid h0
        clear h0
        go_simp
        go_at_call 25
        refine (mulF (x * y) z _ (Fr.pg H0.out HP.out)).mono ?_
        rintro e vv ⟨rfl, hb⟩
        have h1 := H0.out.ext hb
        clear hb H0
        go_wp2_with (fail)
        refine hK.out _ _ h1 (fun hHeld => ?_)
        clear hK K h1
        try simp only [Act.put, List.getElem_toArray, List.getElem_cons_succ, List.getElem_cons_zero, List.setIfInBounds_toArray, List.set_cons_zero, List.set_cons_succ]
        refine wpAnyH_ready (rs := [41]) (by kernel_rfl) (by simp) (AllReadyH.cons rfl (fun K hK => ?_) AllReadyH.nil)
        have h0 := hHeld
        clear hHeld
        try simp only [List.getElem_toArray, List.getElem_cons_succ, List.getElem_cons_zero]
        have H0 := Lib.hid h0
        clear h0
        go_simp
        go_at_call 25
        refine (mulF y z _ (Fr.pg H0.out HP.out)).mono ?_
        rintro e vv ⟨rfl, hb⟩
        have h1 := H0.out.ext hb
        clear hb H0
        go_wp2_with (fail)
        refine hK.out _ _ h1 (fun hHeld => ?_)
        clear hK K h1
        try simp only [Act.put, List.getElem_toArray, List.getElem_cons_succ, List.getElem_cons_zero, List.setIfInBounds_toArray, List.set_cons_zero, List.set_cons_succ]
        refine wpAnyH_ready (rs := [42]) (by kernel_rfl) (by simp) (AllReadyH.cons rfl (fun K hK => ?_) AllReadyH.nil)
        have h0 := hHeld
        clear hHeld
        try simp only [List.getElem_toArray, List.getElem_cons_succ, List.getElem_cons_zero]
        have H0 := Lib.hid h0
        clear h0
        go_simp
        go_at_call 25
        refine (mulF x (y * z) _ (Fr.pg H0.out HP.out)).mono ?_
        rintro e vv ⟨rfl, hb⟩
        have h1 := H0.out.ext hb
        clear hb H0
        go_wp2_with (fail)
        refine hK.out _ _ h1 (fun hHeld => ?_)
        clear hK K h1
        try simp only [Act.put, List.getElem_toArray, List.getElem_cons_succ, List.getElem_cons_zero, List.setIfInBounds_toArray, List.set_cons_zero, List.set_cons_succ]
        refine wpAnyH_ready (rs := [43]) (by kernel_rfl) (by simp) (AllReadyH.cons rfl (fun K hK => ?_) AllReadyH.nil)
        have h0 := hHeld
        clear hHeld
        try simp only [List.getElem_toArray, List.getElem_cons_succ, List.getElem_cons_zero]
        have H0 := Lib.hid h0
        clear h0
        go_simp
        go_at_call 16
        refine (equal_yes (f_mul_assoc x y z) _).mono ?_
        rintro e vv ⟨rfl, hb⟩
        have h1 := H0.out.ext hb
        clear hb H0
        go_wp2_with (fail)
        refine hK.out _ _ h1 (fun hHeld => ?_)
        clear hK K h1
        try simp only [Act.put, List.getElem_toArray, List.getElem_cons_succ, List.getElem_cons_zero, List.setIfInBounds_toArray, List.set_cons_zero, List.set_cons_succ]
        refine wpAnyH_take (i := 44) (v := ?_) rfl (by kernel_rfl) (by kernel_rfl) (by kernel_rfl) (fun _ _ _ h => h) (Or.inl ⟨by rfl, ?_⟩) hHeld ?_
        rotate_left
        · (intro W hSw; (try dsimp only at hSw); (try simp only [List.getElem_toArray, List.getElem_cons_succ, List.getElem_cons_zero]); go_simp; try with_reducible rfl)
        try simp only [Act.put, List.getElem_toArray, List.getElem_cons_succ, List.getElem_cons_zero, List.setIfInBounds_toArray, List.set_cons_zero, List.set_cons_succ]
        refine wpAnyH_take (i := 45) (v := ?_) rfl (by kernel_rfl) (by kernel_rfl) (by kernel_rfl) (fun _ _ _ h => h) (Or.inl ⟨by rfl, ?_⟩) hHeld ?_
        rotate_left
        · (intro W hSw; (try dsimp only at hSw); (try simp only [List.getElem_toArray, List.getElem_cons_succ, List.getElem_cons_zero]); go_simp; try with_reducible rfl)
        try simp only [Act.put, List.getElem_toArray, List.getElem_cons_succ, List.getElem_cons_zero, List.setIfInBounds_toArray, List.set_cons_zero, List.set_cons_succ]
        refine wpAnyH_done (by kernel_rfl) ?_ _
        have HF4 := Lib.hid hHeld
        clear hHeld HF3
        have HF3 := HF4
        clear HF4
        go_wp2_with (fail)
        as_aux_lemma =>
          refine wp_region_held_drew (S := fun W => Fr w W [(v2.heap.size + 1, 33, ev (sm 0)), (v2.heap.size, 33, ev (sm 1)), (g9, 33, ev z), (g8, 33, ev y), (g7, 33, ev x)] []) (by kernel_rfl) ?_ (fun hHeld => ?_)
          · exact HF3.out.drew
          refine wpAnyH_take (i := 0) (v := .agg (ev x)) rfl (by kernel_rfl) (by kernel_rfl) (by kernel_rfl) (fun _ _ _ h => h) (yields_row (by rfl) 33 (.tmp 7) rfl (g7) rfl 33 (ev x) _ (fun W (h : Fr _ W _ _) => h.get (by simp)) Tryd.underlying33 rfl (info_ev _)) hHeld ?_
          try simp only [Act.put, List.getElem_toArray, List.getElem_cons_succ, List.getElem_cons_zero, List.setIfInBounds_toArray, List.set_cons_zero, List.set_cons_succ]
          refine wpAnyH_take (i := 1) (v := .agg (ev y)) rfl (by kernel_rfl) (by kernel_rfl) (by kernel_rfl) (fun _ _ _ h => h) (yields_row (by rfl) 33 (.tmp 8) rfl (g8) rfl 33 (ev y) _ (fun W (h : Fr _ W _ _) => h.get (by simp)) Tryd.underlying33 rfl (info_ev _)) hHeld ?_
          try simp only [Act.put, List.getElem_toArray, List.getElem_cons_succ, List.getElem_cons_zero, List.setIfInBounds_toArray, List.set_cons_zero, List.set_cons_succ]
          refine wpAnyH_take (i := 2) (v := .agg (ev z)) rfl (by kernel_rfl) (by kernel_rfl) (by kernel_rfl) (fun _ _ _ h => h) (yields_row (by rfl) 33 (.tmp 9) rfl (g9) rfl 33 (ev z) _ (fun W (h : Fr _ W _ _) => h.get (by simp)) Tryd.underlying33 rfl (info_ev _)) hHeld ?_
          try simp only [Act.put, List.getElem_toArray, List.getElem_cons_succ, List.getElem_cons_zero, List.setIfInBounds_toArray, List.set_cons_zero, List.set_cons_succ]
          refine wpAnyH_take (i := 5) (v := .agg (ev x)) rfl (by kernel_rfl) (by kernel_rfl) (by kernel_rfl) (fun _ _ _ h => h) (yields_row (by rfl) 33 (.tmp 7) rfl (g7) rfl 33 (ev x) _ (fun W (h : Fr _ W _ _) => h.get (by simp)) Tryd.underlying33 rfl (info_ev _)) hHeld ?_
          try simp only [Act.put, List.getElem_toArray, List.getElem_cons_succ, List.getElem_cons_zero, List.setIfInBounds_toArray, List.set_cons_zero, List.set_cons_succ]
          refine wpAnyH_take (i := 6) (v := .agg (ev y)) rfl (by kernel_rfl) (by kernel_rfl) (by kernel_rfl) (fun _ _ _ h => h) (yields_row (by rfl) 33 (.tmp 8) rfl (g8) rfl 33 (ev y) _ (fun W (h : Fr _ W _ _) => h.get (by simp)) Tryd.underlying33 rfl (info_ev _)) hHeld ?_
          try simp only [Act.put, List.getElem_toArray, List.getElem_cons_succ, List.getElem_cons_zero, List.setIfInBounds_toArray, List.set_cons_zero, List.set_cons_succ]
          refine wpAnyH_take (i := 8) (v := .agg (ev x)) rfl (by kernel_rfl) (by kernel_rfl) (by kernel_rfl) (fun _ _ _ h => h) (yields_row (by rfl) 33 (.tmp 7) rfl (g7) rfl 33 (ev x) _ (fun W (h : Fr _ W _ _) => h.get (by simp)) Tryd.underlying33 rfl (info_ev _)) hHeld ?_
          try simp only [Act.put, List.getElem_toArray, List.getElem_cons_succ, List.getElem_cons_zero, List.setIfInBounds_toArray, List.set_cons_zero, List.set_cons_succ]
          refine wpAnyH_take (i := 9) (v := .agg (ev z)) rfl (by kernel_rfl) (by kernel_rfl) (by kernel_rfl) (fun _ _ _ h => h) (yields_row (by rfl) 33 (.tmp 9) rfl (g9) rfl 33 (ev z) _ (fun W (h : Fr _ W _ _) => h.get (by simp)) Tryd.underlying33 rfl (info_ev _)) hHeld ?_
          try simp only [Act.put, List.getElem_toArray, List.getElem_cons_succ, List.getElem_cons_zero, List.setIfInBounds_toArray, List.set_cons_zero, List.set_cons_succ]
          refine wpAnyH_ready (rs := [3]) (by kernel_rfl) (by simp) (AllReadyH.cons rfl (fun K hK => ?_) AllReadyH.nil)
          have h0 := hHeld
          clear hHeld
          try simp only [List.getElem_toArray, List.getElem_cons_succ, List.getElem_cons_zero]
          have H0 := Lib.hid h0
          clear h0
          go_simp
          go_at_call 21
          refine (addF y z _ (Fr.pg H0.out HP.out)).mono ?_
          rintro e vv ⟨rfl, hb⟩
          have h1 := H0.out.ext hb
          clear hb H0
          go_wp2_with (fail)
          refine hK.out _ _ h1 (fun hHeld => ?_)
          clear hK K h1
          try simp only [Act.put, List.getElem_toArray, List.getElem_cons_succ, List.getElem_cons_zero, List.setIfInBounds_toArray, List.set_cons_zero, List.set_cons_succ]
          refine wpAnyH_ready (rs := [4]) (by kernel_rfl) (by simp) (AllReadyH.cons rfl (fun K hK => ?_) AllReadyH.nil)
          have h0 := hHeld
          clear hHeld
          try simp only [List.getElem_toArray, List.getElem_cons_succ, List.getElem_cons_zero]
          have H0 := Lib.hid h0
          clear h0
          go_simp
          go_at_call 25
          refine (mulF x (y + z) _ (Fr.pg H0.out HP.out)).mono ?_
          rintro e vv ⟨rfl, hb⟩
          have h1 := H0.out.ext hb
          clear hb H0
          go_wp2_with (fail)
          refine hK.out _ _ h1 (fun hHeld => ?_)
          clear hK K h1
          try simp only [Act.put, List.getElem_toArray, List.getElem_cons_succ, List.getElem_cons_zero, List.setIfInBounds_toArray, List.set_cons_zero, List.set_cons_succ]
          refine wpAnyH_ready (rs := [7]) (by kernel_rfl) (by simp) (AllReadyH.cons rfl (fun K hK => ?_) AllReadyH.nil)
          have h0 := hHeld
          clear hHeld
          try simp only [List.getElem_toArray, List.getElem_cons_succ, List.getElem_cons_zero]
          have H0 := Lib.hid h0
          clear h0
          go_simp
          go_at_call 25
          refine (mulF x y _ (Fr.pg H0.out HP.out)).mono ?_
          rintro e vv ⟨rfl, hb⟩
          have h1 := H0.out.ext hb
          clear hb H0
          go_wp2_with (fail)
          refine hK.out _ _ h1 (fun hHeld => ?_)
          clear hK K h1
          try simp only [Act.put, List.getElem_toArray, List.getElem_cons_succ, List.getElem_cons_zero, List.setIfInBounds_toArray, List.set_cons_zero, List.set_cons_succ]
          refine wpAnyH_ready (rs := [10]) (by kernel_rfl) (by simp) (AllReadyH.cons rfl (fun K hK => ?_) AllReadyH.nil)
          have h0 := hHeld
          clear hHeld
          try simp only [List.getElem_toArray, List.getElem_cons_succ, List.getElem_cons_zero]
          have H0 := Lib.hid h0
          clear h0
          go_simp
          go_at_call 25
          refine (mulF x z _ (Fr.pg H0.out HP.out)).mono ?_
          rintro e vv ⟨rfl, hb⟩
          have h1 := H0.out.ext hb
          clear hb H0
          go_wp2_with (fail)
          refine hK.out _ _ h1 (fun hHeld => ?_)
          clear hK K h1
          try simp only [Act.put, List.getElem_toArray, List.getElem_cons_succ, List.getElem_cons_zero, List.setIfInBounds_toArray, List.set_cons_zero, List.set_cons_succ]
          refine wpAnyH_ready (rs := [11]) (by kernel_rfl) (by simp) (AllReadyH.cons rfl (fun K hK => ?_) AllReadyH.nil)
          have h0 := hHeld
          clear hHeld
          try simp only [List.getElem_toArray, List.getElem_cons_succ, List.getElem_cons_zero]
          have H0 := Lib.hid h0
          clear h0
          go_simp
          go_at_call 21
          refine (addF (x * y) (x * z) _ (Fr.pg H0.out HP.out)).mono ?_
          rintro e vv ⟨rfl, hb⟩
          have h1 := H0.out.ext hb
          clear hb H0
          go_wp2_with (fail)
          refine hK.out _ _ h1 (fun hHeld => ?_)
          clear hK K h1
          try simp only [Act.put, List.getElem_toArray, List.getElem_cons_succ, List.getElem_cons_zero, List.setIfInBounds_toArray, List.set_cons_zero, List.set_cons_succ]
          refine wpAnyH_ready (rs := [12]) (by kernel_rfl) (by simp) (AllReadyH.cons rfl (fun K hK => ?_) AllReadyH.nil)
          have h0 := hHeld
          clear hHeld
          try simp only [List.getElem_toArray, List.getElem_cons_succ, List.getElem_cons_zero]
          have H0 := Lib.hid h0
          clear h0
          go_simp
          go_at_call 16
          refine (equal_yes (f_distr x y z) _).mono ?_
          rintro e vv ⟨rfl, hb⟩
          have h1 := H0.out.ext hb
          clear hb H0
          go_wp2_with (fail)
          refine hK.out _ _ h1 (fun hHeld => ?_)
          clear hK K h1
          try simp only [Act.put, List.getElem_toArray, List.getElem_cons_succ, List.getElem_cons_zero, List.setIfInBounds_toArray, List.set_cons_zero, List.set_cons_succ]
          refine wpAnyH_take (i := 13) (v := ?_) rfl (by kernel_rfl) (by kernel_rfl) (by kernel_rfl) (fun _ _ _ h => h) (Or.inl ⟨by rfl, ?_⟩) hHeld ?_
          rotate_left
          · (intro W hSw; (try dsimp only at hSw); (try simp only [List.getElem_toArray, List.getElem_cons_succ, List.getElem_cons_zero]); go_simp; try with_reducible rfl)
          try simp only [Act.put, List.getElem_toArray, List.getElem_cons_succ, List.getElem_cons_zero, List.setIfInBounds_toArray, List.set_cons_zero, List.set_cons_succ]
          refine wpAnyH_take (i := 14) (v := ?_) rfl (by kernel_rfl) (by kernel_rfl) (by kernel_rfl) (fun _ _ _ h => h) (Or.inl ⟨by rfl, ?_⟩) hHeld ?_
          rotate_left
          · (intro W hSw; (try dsimp only at hSw); (try simp only [List.getElem_toArray, List.getElem_cons_succ, List.getElem_cons_zero]); go_simp; try with_reducible rfl)
          try simp only [Act.put, List.getElem_toArray, List.getElem_cons_succ, List.getElem_cons_zero, List.setIfInBounds_toArray, List.set_cons_zero, List.set_cons_succ]
          refine wpAnyH_take (i := 15) (v := .agg (ev x)) rfl (by kernel_rfl) (by kernel_rfl) (by kernel_rfl) (fun _ _ _ h => h) (yields_row (by rfl) 33 (.tmp 7) rfl (g7) rfl 33 (ev x) _ (fun W (h : Fr _ W _ _) => h.get (by simp)) Tryd.underlying33 rfl (info_ev _)) hHeld ?_
          try simp only [Act.put, List.getElem_toArray, List.getElem_cons_succ, List.getElem_cons_zero, List.setIfInBounds_toArray, List.set_cons_zero, List.set_cons_succ]
          refine wpAnyH_take (i := 16) (v := .agg (ev x)) rfl (by kernel_rfl) (by kernel_rfl) (by kernel_rfl) (fun _ _ _ h => h) (yields_row (by rfl) 33 (.tmp 7) rfl (g7) rfl 33 (ev x) _ (fun W (h : Fr _ W _ _) => h.get (by simp)) Tryd.underlying33 rfl (info_ev _)) hHeld ?_
          try simp only [Act.put, List.getElem_toArray, List.getElem_cons_succ, List.getElem_cons_zero, List.setIfInBounds_toArray, List.set_cons_zero, List.set_cons_succ]
          refine wpAnyH_take (i := 19) (v := .agg (ev (sm 0))) rfl (by kernel_rfl) (by kernel_rfl) (by kernel_rfl) (fun _ _ _ h => h) (yields_row (by rfl) 33 (.tmp 11) rfl (v2.heap.size + 1) rfl 33 (ev (sm 0)) _ (fun W (h : Fr _ W _ _) => h.get (by simp)) Tryd.underlying33 rfl (info_ev _)) hHeld ?_
          try simp only [Act.put, List.getElem_toArray, List.getElem_cons_succ, List.getElem_cons_zero, List.setIfInBounds_toArray, List.set_cons_zero, List.set_cons_succ]
          refine wpAnyH_ready (rs := [17]) (by kernel_rfl) (by simp) (AllReadyH.cons rfl (fun K hK => ?_) AllReadyH.nil)
          have h0 := hHeld
          clear hHeld
          try simp only [List.getElem_toArray, List.getElem_cons_succ, List.getElem_cons_zero]
          have H0 := Lib.hid h0
          clear h0
          go_simp
          go_at_call 28
          refine (negF x _ (Fr.pg H0.out HP.out)).mono ?_
          rintro e vv ⟨rfl, hb⟩
          have h1 := H0.out.ext hb
          clear hb H0
          go_wp2_with (fail)
          refine hK.out _ _ h1 (fun hHeld => ?_)
          clear hK K h1
          try simp only [Act.put, List.getElem_toArray, List.getElem_cons_succ, List.getElem_cons_zero, List.setIfInBounds_toArray, List.set_cons_zero, List.set_cons_succ]
          refine wpAnyH_ready (rs := [18]) (by kernel_rfl) (by simp) (AllReadyH.cons rfl (fun K hK => ?_) AllReadyH.nil)
          have h0 := hHeld
          clear hHeld
          try simp only [List.getElem_toArray, List.getElem_cons_succ, List.getElem_cons_zero]
          have H0 := Lib.hid h0
          clear h0
          go_simp
          go_at_call 21
          refine (addF x (-x) _ (Fr.pg H0.out HP.out)).mono ?_
          rintro e vv ⟨rfl, hb⟩
          have h1 := H0.out.ext hb
          clear hb H0
          go_wp2_with (fail)
          refine hK.out _ _ h1 (fun hHeld => ?_)
          clear hK K h1
          try simp only [Act.put, List.getElem_toArray, List.getElem_cons_succ, List.getElem_cons_zero, List.setIfInBounds_toArray, List.set_cons_zero, List.set_cons_succ]
          refine wpAnyH_ready (rs := [20]) (by kernel_rfl) (by simp) (AllReadyH.cons rfl (fun K hK => ?_) AllReadyH.nil)
          have h0 := hHeld
          clear hHeld
          try simp only [List.getElem_toArray, List.getElem_cons_succ, List.getElem_cons_zero]
          have H0 := Lib.hid h0
          clear h0
          go_simp
          go_at_call 16
          refine (equal_yes (f_neg x) _).mono ?_
          rintro e vv ⟨rfl, hb⟩
          have h1 := H0.out.ext hb
          clear hb H0
          go_wp2_with (fail)
          refine hK.out _ _ h1 (fun hHeld => ?_)
          clear hK K h1
          try simp only [Act.put, List.getElem_toArray, List.getElem_cons_succ, List.getElem_cons_zero, List.setIfInBounds_toArray, List.set_cons_zero, List.set_cons_succ]
          refine wpAnyH_take (i := 21) (v := ?_) rfl (by kernel_rfl) (by kernel_rfl) (by kernel_rfl) (fun _ _ _ h => h) (Or.inl ⟨by rfl, ?_⟩) hHeld ?_
          rotate_left
          · (intro W hSw; (try dsimp only at hSw); (try simp only [List.getElem_toArray, List.getElem_cons_succ, List.getElem_cons_zero]); go_simp; try with_reducible rfl)
          try simp only [Act.put, List.getElem_toArray, List.getElem_cons_succ, List.getElem_cons_zero, List.setIfInBounds_toArray, List.set_cons_zero, List.set_cons_succ]
          refine wpAnyH_take (i := 22) (v := ?_) rfl (by kernel_rfl) (by kernel_rfl) (by kernel_rfl) (fun _ _ _ h => h) (Or.inl ⟨by rfl, ?_⟩) hHeld ?_
          rotate_left
          · (intro W hSw; (try dsimp only at hSw); (try simp only [List.getElem_toArray, List.getElem_cons_succ, List.getElem_cons_zero]); go_simp; try with_reducible rfl)
          try simp only [Act.put, List.getElem_toArray, List.getElem_cons_succ, List.getElem_cons_zero, List.setIfInBounds_toArray, List.set_cons_zero, List.set_cons_succ]
          refine wpAnyH_take (i := 23) (v := ?_) rfl (by kernel_rfl) (by kernel_rfl) (by kernel_rfl) (fun _ _ _ h => h) (Or.inl ⟨by rfl, ?_⟩) hHeld ?_
          rotate_left
          · (intro W hSw; (try dsimp only at hSw); (try simp only [List.getElem_toArray, List.getElem_cons_succ, List.getElem_cons_zero]); go_simp; try with_reducible rfl)
          try simp only [Act.put, List.getElem_toArray, List.getElem_cons_succ, List.getElem_cons_zero, List.setIfInBounds_toArray, List.set_cons_zero, List.set_cons_succ]
          refine wpAnyH_take (i := 24) (v := .agg (ev x)) rfl (by kernel_rfl) (by kernel_rfl) (by kernel_rfl) (fun _ _ _ h => h) (yields_row (by rfl) 33 (.tmp 7) rfl (g7) rfl 33 (ev x) _ (fun W (h : Fr _ W _ _) => h.get (by simp)) Tryd.underlying33 rfl (info_ev _)) hHeld ?_
          try simp only [Act.put, List.getElem_toArray, List.getElem_cons_succ, List.getElem_cons_zero, List.setIfInBounds_toArray, List.set_cons_zero, List.set_cons_succ]
          refine wpAnyH_take (i := 25) (v := .agg (ev (sm 0))) rfl (by kernel_rfl) (by kernel_rfl) (by kernel_rfl) (fun _ _ _ h => h) (yields_row (by rfl) 33 (.tmp 11) rfl (v2.heap.size + 1) rfl 33 (ev (sm 0)) _ (fun W (h : Fr _ W _ _) => h.get (by simp)) Tryd.underlying33 rfl (info_ev _)) hHeld ?_
          try simp only [Act.put, List.getElem_toArray, List.getElem_cons_succ, List.getElem_cons_zero, List.setIfInBounds_toArray, List.set_cons_zero, List.set_cons_succ]
          refine wpAnyH_take (i := 27) (v := .agg (ev x)) rfl (by kernel_rfl) (by kernel_rfl) (by kernel_rfl) (fun _ _ _ h => h) (yields_row (by rfl) 33 (.tmp 7) rfl (g7) rfl 33 (ev x) _ (fun W (h : Fr _ W _ _) => h.get (by simp)) Tryd.underlying33 rfl (info_ev _)) hHeld ?_
          try simp only [Act.put, List.getElem_toArray, List.getElem_cons_succ, List.getElem_cons_zero, List.setIfInBounds_toArray, List.set_cons_zero, List.set_cons_succ]
          refine wpAnyH_ready (rs := [26]) (by kernel_rfl) (by simp) (AllReadyH.cons rfl (fun K hK => ?_) AllReadyH.nil)
          have h0 := hHeld
          clear hHeld
          try simp only [List.getElem_toArray, List.getElem_cons_succ, List.getElem_cons_zero]
          have H0 := Lib.hid h0
          clear h0
          go_simp
          go_at_call 21
          refine (addF x (sm 0) _ (Fr.pg H0.out HP.out)).mono ?_
          rintro e vv ⟨rfl, hb⟩
          have h1 := H0.out.ext hb
          clear hb H0
          go_wp2_with (fail)
          refine hK.out _ _ h1 (fun hHeld => ?_)
          clear hK K h1
          try simp only [Act.put, List.getElem_toArray, List.getElem_cons_succ, List.getElem_cons_zero, List.setIfInBounds_toArray, List.set_cons_zero, List.set_cons_succ]
          refine wpAnyH_ready (rs := [28]) (by kernel_rfl) (by simp) (AllReadyH.cons rfl (fun K hK => ?_) AllReadyH.nil)
          have h0 := hHeld
          clear hHeld
          try simp only [List.getElem_toArray, List.getElem_cons_succ, List.getElem_cons_zero]
          have H0 := Lib.hid h0
          clear h0
          go_simp
          go_at_call 16
          refine (equal_yes (f_zero x) _).mono ?_
          rintro e vv ⟨rfl, hb⟩
          have h1 := H0.out.ext hb
          clear hb H0
          go_wp2_with (fail)
          refine hK.out _ _ h1 (fun hHeld => ?_)
          clear hK K h1
          try simp only [Act.put, List.getElem_toArray, List.getElem_cons_succ, List.getElem_cons_zero, List.setIfInBounds_toArray, List.set_cons_zero, List.set_cons_succ]
          refine wpAnyH_take (i := 29) (v := ?_) rfl (by kernel_rfl) (by kernel_rfl) (by kernel_rfl) (fun _ _ _ h => h) (Or.inl ⟨by rfl, ?_⟩) hHeld ?_
          rotate_left
          · (intro W hSw; (try dsimp only at hSw); (try simp only [List.getElem_toArray, List.getElem_cons_succ, List.getElem_cons_zero]); go_simp; try with_reducible rfl)
          try simp only [Act.put, List.getElem_toArray, List.getElem_cons_succ, List.getElem_cons_zero, List.setIfInBounds_toArray, List.set_cons_zero, List.set_cons_succ]
          refine wpAnyH_take (i := 30) (v := ?_) rfl (by kernel_rfl) (by kernel_rfl) (by kernel_rfl) (fun _ _ _ h => h) (Or.inl ⟨by rfl, ?_⟩) hHeld ?_
          rotate_left
          · (intro W hSw; (try dsimp only at hSw); (try simp only [List.getElem_toArray, List.getElem_cons_succ, List.getElem_cons_zero]); go_simp; try with_reducible rfl)
          try simp only [Act.put, List.getElem_toArray, List.getElem_cons_succ, List.getElem_cons_zero, List.setIfInBounds_toArray, List.set_cons_zero, List.set_cons_succ]
          refine wpAnyH_take (i := 31) (v := ?_) rfl (by kernel_rfl) (by kernel_rfl) (by kernel_rfl) (fun _ _ _ h => h) (Or.inl ⟨by rfl, ?_⟩) hHeld ?_
          rotate_left
          · (intro W hSw; (try dsimp only at hSw); (try simp only [List.getElem_toArray, List.getElem_cons_succ, List.getElem_cons_zero]); go_simp; try with_reducible rfl)
          try simp only [Act.put, List.getElem_toArray, List.getElem_cons_succ, List.getElem_cons_zero, List.setIfInBounds_toArray, List.set_cons_zero, List.set_cons_succ]
          refine wpAnyH_take (i := 32) (v := .agg (ev x)) rfl (by kernel_rfl) (by kernel_rfl) (by kernel_rfl) (fun _ _ _ h => h) (yields_row (by rfl) 33 (.tmp 7) rfl (g7) rfl 33 (ev x) _ (fun W (h : Fr _ W _ _) => h.get (by simp)) Tryd.underlying33 rfl (info_ev _)) hHeld ?_
          try simp only [Act.put, List.getElem_toArray, List.getElem_cons_succ, List.getElem_cons_zero, List.setIfInBounds_toArray, List.set_cons_zero, List.set_cons_succ]
          refine wpAnyH_take (i := 33) (v := .agg (ev (sm 1))) rfl (by kernel_rfl) (by kernel_rfl) (by kernel_rfl) (fun _ _ _ h => h) (yields_row (by rfl) 33 (.tmp 10) rfl (v2.heap.size) rfl 33 (ev (sm 1)) _ (fun W (h : Fr _ W _ _) => h.get (by simp)) Tryd.underlying33 rfl (info_ev _)) hHeld ?_
          try simp only [Act.put, List.getElem_toArray, List.getElem_cons_succ, List.getElem_cons_zero, List.setIfInBounds_toArray, List.set_cons_zero, List.set_cons_succ]
          refine wpAnyH_take (i := 35) (v := .agg (ev x)) rfl (by kernel_rfl) (by kernel_rfl) (by kernel_rfl) (fun _ _ _ h => h) (yields_row (by rfl) 33 (.tmp 7) rfl (g7) rfl 33 (ev x) _ (fun W (h : Fr _ W _ _) => h.get (by simp)) Tryd.underlying33 rfl (info_ev _)) hHeld ?_
          try simp only [Act.put, List.getElem_toArray, List.getElem_cons_succ, List.getElem_cons_zero, List.setIfInBounds_toArray, List.set_cons_zero, List.set_cons_succ]
          refine wpAnyH_ready (rs := [34]) (by kernel_rfl) (by simp) (AllReadyH.cons rfl (fun K hK => ?_) AllReadyH.nil)
          have h0 := hHeld
          clear hHeld
          try simp only [List.getElem_toArray, List.getElem_cons_succ, List.getElem_cons_zero]
          have H0 := Lib.hid h0
          clear h0
          go_simp
          go_at_call 25
          refine (mulF x (sm 1) _ (Fr.pg H0.out HP.out)).mono ?_
          rintro e vv ⟨rfl, hb⟩
          have h1 := H0.out.ext hb
          clear hb H0
          go_wp2_with (fail)
          refine hK.out _ _ h1 (fun hHeld => ?_)
          clear hK K h1
          try simp only [Act.put, List.getElem_toArray, List.getElem_cons_succ, List.getElem_cons_zero, List.setIfInBounds_toArray, List.set_cons_zero, List.set_cons_succ]
          refine wpAnyH_ready (rs := [36]) (by kernel_rfl) (by simp) (AllReadyH.cons rfl (fun K hK => ?_) AllReadyH.nil)
          have h0 := hHeld
          clear hHeld
          try simp only [List.getElem_toArray, List.getElem_cons_succ, List.getElem_cons_zero]
          have H0 := Lib.hid h0
          clear h0
          go_simp
          go_at_call 16
          refine (equal_yes (f_one x) _).mono ?_
          rintro e vv ⟨rfl, hb⟩
          have h1 := H0.out.ext hb
          clear hb H0
          go_wp2_with (fail)
          refine hK.out _ _ h1 (fun hHeld => ?_)
          clear hK K h1
          try simp only [Act.put, List.getElem_toArray, List.getElem_cons_succ, List.getElem_cons_zero, List.setIfInBounds_toArray, List.set_cons_zero, List.set_cons_succ]
          refine wpAnyH_take (i := 37) (v := ?_) rfl (by kernel_rfl) (by kernel_rfl) (by kernel_rfl) (fun _ _ _ h => h) (Or.inl ⟨by rfl, ?_⟩) hHeld ?_
          rotate_left
          · (intro W hSw; (try dsimp only at hSw); (try simp only [List.getElem_toArray, List.getElem_cons_succ, List.getElem_cons_zero]); go_simp; try with_reducible rfl)
          try simp only [Act.put, List.getElem_toArray, List.getElem_cons_succ, List.getElem_cons_zero, List.setIfInBounds_toArray, List.set_cons_zero, List.set_cons_succ]
          refine wpAnyH_take (i := 38) (v := ?_) rfl (by kernel_rfl) (by kernel_rfl) (by kernel_rfl) (fun _ _ _ h => h) (Or.inl ⟨by rfl, ?_⟩) hHeld ?_
          rotate_left
          · (intro W hSw; (try dsimp only at hSw); (try simp only [List.getElem_toArray, List.getElem_cons_succ, List.getElem_cons_zero]); go_simp; try with_reducible rfl)
          try simp only [Act.put, List.getElem_toArray, List.getElem_cons_succ, List.getElem_cons_zero, List.setIfInBounds_toArray, List.set_cons_zero, List.set_cons_succ]
          refine wpAnyH_done (by kernel_rfl) ?_ _
          have HF4 := Lib.hid hHeld
          clear hHeld HF3
          have HF3 := HF4
          clear HF4
          by_cases hx0 : x = sm 0
          · as_aux_lemma =>
              have HX0 := Lib.hid hx0
              clear hx0
              have l7 := HF3.out.get (g := g7) (t := 33) (cs := ev x) (by simp)
              have l11 := HF3.out.get (g := v2.heap.size + 1) (t := 33) (cs := ev (sm 0)) (by simp)
              go_wp2_with (first | (refine wpList_load_row rfl 33 (.tmp 7) rfl g7 rfl 33 (ev x) (0, 0) _ l7 Tryd.underlying33 rfl (info_ev _) ?_) | (refine wpList_load_row rfl 33 (.tmp 11) rfl (v2.heap.size + 1) rfl 33 (ev (sm 0)) (0, 0) _ l11 Tryd.underlying33 rfl (info_ev _) ?_))
              refine (equal_yes HX0.out _).mono ?_
              rintro e v3 ⟨rfl, hb⟩
              have hf := HF3.out.ext hb
              have HF5 := Lib.hid hf
              clear hb hf l7 l11 HF3
              have HF3 := HF5
              clear HF5
              go_wp2_with (fail)
              refine wp_region_held_drew (S := fun W => Fr w W [(v2.heap.size + 1, 33, ev (sm 0)), (v2.heap.size, 33, ev (sm 1)), (g9, 33, ev z), (g8, 33, ev y), (g7, 33, ev x)] []) (by kernel_rfl) ?_ (fun hHeld => ?_)
              · exact HF3.out.drew
              refine wpAnyH_take (i := 0) (v := .agg (ev x)) rfl (by kernel_rfl) (by kernel_rfl) (by kernel_rfl) (fun _ _ _ h => h) (yields_row (by rfl) 33 (.tmp 7) rfl (g7) rfl 33 (ev x) _ (fun W (h : Fr _ W _ _) => h.get (by simp)) Tryd.underlying33 rfl (info_ev _)) hHeld ?_
              try simp only [Act.put, List.getElem_toArray, List.getElem_cons_succ, List.getElem_cons_zero, List.setIfInBounds_toArray, List.set_cons_zero, List.set_cons_succ]
              refine wpAnyH_take (i := 2) (v := .agg (ev (sm 0))) rfl (by kernel_rfl) (by kernel_rfl) (by kernel_rfl) (fun _ _ _ h => h) (yields_row (by rfl) 33 (.tmp 11) rfl (v2.heap.size + 1) rfl 33 (ev (sm 0)) _ (fun W (h : Fr _ W _ _) => h.get (by simp)) Tryd.underlying33 rfl (info_ev _)) hHeld ?_
              try simp only [Act.put, List.getElem_toArray, List.getElem_cons_succ, List.getElem_cons_zero, List.setIfInBounds_toArray, List.set_cons_zero, List.set_cons_succ]
              refine wpAnyH_ready (rs := [1]) (by kernel_rfl) (by simp) (AllReadyH.cons rfl (fun K hK => ?_) AllReadyH.nil)
              have h0 := hHeld
              clear hHeld
              try simp only [List.getElem_toArray, List.getElem_cons_succ, List.getElem_cons_zero]
              have H0 := Lib.hid h0
              clear h0
              go_simp
              go_at_call 30
              refine (invR HIX.out _ (Fr.pg H0.out HP.out)).mono ?_
              rintro e vv ⟨rfl, hb⟩
              have h1 := H0.out.ext hb
              clear hb H0
              go_wp2_with (fail)
              refine hK.out _ _ h1 (fun hHeld => ?_)
              clear hK K h1
              try simp only [Act.put, List.getElem_toArray, List.getElem_cons_succ, List.getElem_cons_zero, List.setIfInBounds_toArray, List.set_cons_zero, List.set_cons_succ]
              refine wpAnyH_ready (rs := [3]) (by kernel_rfl) (by simp) (AllReadyH.cons rfl (fun K hK => ?_) AllReadyH.nil)
              have h0 := hHeld
              clear hHeld
              try simp only [List.getElem_toArray, List.getElem_cons_succ, List.getElem_cons_zero]
              have H0 := Lib.hid h0
              clear h0
              go_simp
              go_at_call 16
              refine (equal_yes (f_inv0 HIX.out HX0.out) _).mono ?_
              rintro e vv ⟨rfl, hb⟩
              have h1 := H0.out.ext hb
              clear hb H0
              go_wp2_with (fail)
              refine hK.out _ _ h1 (fun hHeld => ?_)
              clear hK K h1
              try simp only [Act.put, List.getElem_toArray, List.getElem_cons_succ, List.getElem_cons_zero, List.setIfInBounds_toArray, List.set_cons_zero, List.set_cons_succ]
              refine wpAnyH_take (i := 4) (v := ?_) rfl (by kernel_rfl) (by kernel_rfl) (by kernel_rfl) (fun _ _ _ h => h) (Or.inl ⟨by rfl, ?_⟩) hHeld ?_
              rotate_left
              · (intro W hSw; (try dsimp only at hSw); (try simp only [List.getElem_toArray, List.getElem_cons_succ, List.getElem_cons_zero]); go_simp; try with_reducible rfl)
              try simp only [Act.put, List.getElem_toArray, List.getElem_cons_succ, List.getElem_cons_zero, List.setIfInBounds_toArray, List.set_cons_zero, List.set_cons_succ]
              refine wpAnyH_ready (rs := [5]) (by kernel_rfl) (by simp) (AllReadyH.cons rfl (fun K hK => ?_) AllReadyH.nil)
              have h0 := hHeld
              clear hHeld
              try simp only [List.getElem_toArray, List.getElem_cons_succ, List.getElem_cons_zero]
              have H0 := Lib.hid h0
              clear h0
              go_simp
              go_at_call 20
              refine (known_any _ (Fr.pg H0.out HP.out)).mono ?_
              rintro e vv ⟨rfl, hb⟩
              have h1 := H0.out.ext hb
              clear hb H0
              go_wp2_with (fail)
              refine hK.out _ _ h1 (fun hHeld => ?_)
              clear hK K h1
              try simp only [Act.put, List.getElem_toArray, List.getElem_cons_succ, List.getElem_cons_zero, List.setIfInBounds_toArray, List.set_cons_zero, List.set_cons_succ]
              refine wpAnyH_take (i := 6) (v := ?_) rfl (by kernel_rfl) (by kernel_rfl) (by kernel_rfl) (fun _ _ _ h => h) (Or.inl ⟨by rfl, ?_⟩) hHeld ?_
              rotate_left
              · (intro W hSw; (try dsimp only at hSw); (try simp only [List.getElem_toArray, List.getElem_cons_succ, List.getElem_cons_zero]); go_simp; try with_reducible rfl)
              try simp only [Act.put, List.getElem_toArray, List.getElem_cons_succ, List.getElem_cons_zero, List.setIfInBounds_toArray, List.set_cons_zero, List.set_cons_succ]
              refine wpAnyH_take (i := 7) (v := ?_) rfl (by kernel_rfl) (by kernel_rfl) (by kernel_rfl) (fun _ _ _ h => h) (Or.inl ⟨by rfl, ?_⟩) hHeld ?_
              rotate_left
              · (intro W hSw; (try dsimp only at hSw); (try simp only [List.getElem_toArray, List.getElem_cons_succ, List.getElem_cons_zero]); go_simp; try with_reducible rfl)
              try simp only [Act.put, List.getElem_toArray, List.getElem_cons_succ, List.getElem_cons_zero, List.setIfInBounds_toArray, List.set_cons_zero, List.set_cons_succ]
              refine wpAnyH_done (by kernel_rfl) ?_ _
              have HB := Lib.hid hHeld.below
              clear hHeld
              go_wp2_with (fail)
              go_ret
              exact ⟨rfl, HB.out⟩
          · as_aux_lemma =>
              have HX0 := Lib.hid hx0
              clear hx0
              have l7 := HF3.out.get (g := g7) (t := 33) (cs := ev x) (by simp)
              have l11 := HF3.out.get (g := v2.heap.size + 1) (t := 33) (cs := ev (sm 0)) (by simp)
              go_wp2_with (first | (refine wpList_load_row rfl 33 (.tmp 7) rfl g7 rfl 33 (ev x) (0, 0) _ l7 Tryd.underlying33 rfl (info_ev _) ?_) | (refine wpList_load_row rfl 33 (.tmp 11) rfl (v2.heap.size + 1) rfl 33 (ev (sm 0)) (0, 0) _ l11 Tryd.underlying33 rfl (info_ev _) ?_))
              refine (equal_no HX0.out _).mono ?_
              rintro e v3 ⟨rfl, hb⟩
              have hf := HF3.out.ext hb
              have HF5 := Lib.hid hf
              clear hb hf l7 l11 HF3
              have HF3 := HF5
              clear HF5
              go_wp2_with (fail)
              refine wp_region_held_drew (S := fun W => Fr w W [(v2.heap.size + 1, 33, ev (sm 0)), (v2.heap.size, 33, ev (sm 1)), (g9, 33, ev z), (g8, 33, ev y), (g7, 33, ev x)] []) (by kernel_rfl) ?_ (fun hHeld => ?_)
              · exact HF3.out.drew
              refine wpAnyH_take (i := 0) (v := .agg (ev x)) rfl (by kernel_rfl) (by kernel_rfl) (by kernel_rfl) (fun _ _ _ h => h) (yields_row (by rfl) 33 (.tmp 7) rfl (g7) rfl 33 (ev x) _ (fun W (h : Fr _ W _ _) => h.get (by simp)) Tryd.underlying33 rfl (info_ev _)) hHeld ?_
              try simp only [Act.put, List.getElem_toArray, List.getElem_cons_succ, List.getElem_cons_zero, List.setIfInBounds_toArray, List.set_cons_zero, List.set_cons_succ]
              refine wpAnyH_take (i := 1) (v := .agg (ev x)) rfl (by kernel_rfl) (by kernel_rfl) (by kernel_rfl) (fun _ _ _ h => h) (yields_row (by rfl) 33 (.tmp 7) rfl (g7) rfl 33 (ev x) _ (fun W (h : Fr _ W _ _) => h.get (by simp)) Tryd.underlying33 rfl (info_ev _)) hHeld ?_
              try simp only [Act.put, List.getElem_toArray, List.getElem_cons_succ, List.getElem_cons_zero, List.setIfInBounds_toArray, List.set_cons_zero, List.set_cons_succ]
              refine wpAnyH_take (i := 4) (v := .agg (ev (sm 1))) rfl (by kernel_rfl) (by kernel_rfl) (by kernel_rfl) (fun _ _ _ h => h) (yields_row (by rfl) 33 (.tmp 10) rfl (v2.heap.size) rfl 33 (ev (sm 1)) _ (fun W (h : Fr _ W _ _) => h.get (by simp)) Tryd.underlying33 rfl (info_ev _)) hHeld ?_
              try simp only [Act.put, List.getElem_toArray, List.getElem_cons_succ, List.getElem_cons_zero, List.setIfInBounds_toArray, List.set_cons_zero, List.set_cons_succ]
              refine wpAnyH_ready (rs := [2]) (by kernel_rfl) (by simp) (AllReadyH.cons rfl (fun K hK => ?_) AllReadyH.nil)
              have h0 := hHeld
              clear hHeld
              try simp only [List.getElem_toArray, List.getElem_cons_succ, List.getElem_cons_zero]
              have H0 := Lib.hid h0
              clear h0
              go_simp
              go_at_call 30
              refine (invR HIX.out _ (Fr.pg H0.out HP.out)).mono ?_
              rintro e vv ⟨rfl, hb⟩
              have h1 := H0.out.ext hb
              clear hb H0
              go_wp2_with (fail)
              refine hK.out _ _ h1 (fun hHeld => ?_)
              clear hK K h1
              try simp only [Act.put, List.getElem_toArray, List.getElem_cons_succ, List.getElem_cons_zero, List.setIfInBounds_toArray, List.set_cons_zero, List.set_cons_succ]
              refine wpAnyH_ready (rs := [3]) (by kernel_rfl) (by simp) (AllReadyH.cons rfl (fun K hK => ?_) AllReadyH.nil)
              have h0 := hHeld
              clear hHeld
              try simp only [List.getElem_toArray, List.getElem_cons_succ, List.getElem_cons_zero]
              have H0 := Lib.hid h0
              clear h0
              go_simp
              go_at_call 25
              refine (mulF x ix _ (Fr.pg H0.out HP.out)).mono ?_
              rintro e vv ⟨rfl, hb⟩
              have h1 := H0.out.ext hb
              clear hb H0
              go_wp2_with (fail)
              refine hK.out _ _ h1 (fun hHeld => ?_)
              clear hK K h1
              try simp only [Act.put, List.getElem_toArray, List.getElem_cons_succ, List.getElem_cons_zero, List.setIfInBounds_toArray, List.set_cons_zero, List.set_cons_succ]
              refine wpAnyH_ready (rs := [5]) (by kernel_rfl) (by simp) (AllReadyH.cons rfl (fun K hK => ?_) AllReadyH.nil)
              have h0 := hHeld
              clear hHeld
              try simp only [List.getElem_toArray, List.getElem_cons_succ, List.getElem_cons_zero]
              have H0 := Lib.hid h0
              clear h0
              go_simp
              go_at_call 16
              refine (equal_yes (f_inv1 HIX.out HX0.out) _).mono ?_
              rintro e vv ⟨rfl, hb⟩
              have h1 := H0.out.ext hb
              clear hb H0
              go_wp2_with (fail)
              refine hK.out _ _ h1 (fun hHeld => ?_)
              clear hK K h1
              try simp only [Act.put, List.getElem_toArray, List.getElem_cons_succ, List.getElem_cons_zero, List.setIfInBounds_toArray, List.set_cons_zero, List.set_cons_succ]
              refine wpAnyH_take (i := 6) (v := ?_) rfl (by kernel_rfl) (by kernel_rfl) (by kernel_rfl) (fun _ _ _ h => h) (Or.inl ⟨by rfl, ?_⟩) hHeld ?_
              rotate_left
              · (intro W hSw; (try dsimp only at hSw); (try simp only [List.getElem_toArray, List.getElem_cons_succ, List.getElem_cons_zero]); go_simp; try with_reducible rfl)
              try simp only [Act.put, List.getElem_toArray, List.getElem_cons_succ, List.getElem_cons_zero, List.setIfInBounds_toArray, List.set_cons_zero, List.set_cons_succ]
              refine wpAnyH_ready (rs := [7]) (by kernel_rfl) (by simp) (AllReadyH.cons rfl (fun K hK => ?_) AllReadyH.nil)
              have h0 := hHeld
              clear hHeld
              try simp only [List.getElem_toArray, List.getElem_cons_succ, List.getElem_cons_zero]
              have H0 := Lib.hid h0
              clear h0
              go_simp
              go_at_call 20
              refine (known_any _ (Fr.pg H0.out HP.out)).mono ?_
              rintro e vv ⟨rfl, hb⟩
              have h1 := H0.out.ext hb
              clear hb H0
              go_wp2_with (fail)
              refine hK.out _ _ h1 (fun hHeld => ?_)
              clear hK K h1
              try simp only [Act.put, List.getElem_toArray, List.getElem_cons_succ, List.getElem_cons_zero, List.setIfInBounds_toArray, List.set_cons_zero, List.set_cons_succ]
              refine wpAnyH_take (i := 8) (v := ?_) rfl (by kernel_rfl) (by kernel_rfl) (by kernel_rfl) (fun _ _ _ h => h) (Or.inl ⟨by rfl, ?_⟩) hHeld ?_
              rotate_left
              · (intro W hSw; (try dsimp only at hSw); (try simp only [List.getElem_toArray, List.getElem_cons_succ, List.getElem_cons_zero]); go_simp; try with_reducible rfl)
              try simp only [Act.put, List.getElem_toArray, List.getElem_cons_succ, List.getElem_cons_zero, List.setIfInBounds_toArray, List.set_cons_zero, List.set_cons_succ]
              refine wpAnyH_take (i := 9) (v := ?_) rfl (by kernel_rfl) (by kernel_rfl) (by kernel_rfl) (fun _ _ _ h => h) (Or.inl ⟨by rfl, ?_⟩) hHeld ?_
              rotate_left
              · (intro W hSw; (try dsimp only at hSw); (try simp only [List.getElem_toArray, List.getElem_cons_succ, List.getElem_cons_zero]); go_simp; try with_reducible rfl)
              try simp only [Act.put, List.getElem_toArray, List.getElem_cons_succ, List.getElem_cons_zero, List.setIfInBounds_toArray, List.set_cons_zero, List.set_cons_succ]
              refine wpAnyH_done (by kernel_rfl) ?_ _
              have HB := Lib.hid hHeld.below
              clear hHeld
              go_wp2_with (fail)
              go_ret
              exact ⟨rfl, HB.out⟩
end Go.Proofs.YtcmlfenjjaanpaaDoor
