/- The walk of FieldPowers. -/
import Derived.Test.YtcmlfenjjaanpaaDoorLm
import Derived.Deep.DeepCutAuto
import Derived.Deep.CutBlock
namespace Go.Proofs.YtcmlfenjjaanpaaDoor
set_option linter.unusedVariables false
set_option linter.unusedSimpArgs false
open Go.RowKit

theorem powerR {x y : Fin PP} {e : Nat} (h : y = x ^ e) (w : World) (hp : PG w) (he : e < 115792089237316195423570985008687907853269984665640564039457584007913129639936) : Calls Tryd.prog 32 #[.agg (ev x), .agg (ks e)] w (EPost y w) := by
  rw [h]
  exact powerF x w e hp he
set_option maxRecDepth 100000 in
set_option maxHeartbeats 16000000 in
theorem law_powers (a b : Nat) (w : World) (hpg : PG w) (ha : a < 115792089237316195423570985008687907853269984665640564039457584007913129639936) (hb : b < 115792089237316195423570985008687907853269984665640564039457584007913129639936) : Calls Tryd.prog 5 #[.agg (ks a), .agg (ks b)] w (BPost true w) := by
  have Ha := Lib.hid ha
  clear ha
  have Hb := Lib.hid hb
  clear hb
  obtain ⟨x, hx⟩ : ∃ x, x = ofK a := ⟨_, rfl⟩
  have Hx := Lib.hid hx
  clear hx
  obtain ⟨ix, hix⟩ : ∃ y, y = x ^ (PP - 2) := ⟨_, rfl⟩
  have HIX := Lib.hid hix
  clear hix
  obtain ⟨px, hpx⟩ : ∃ y, y = x ^ b := ⟨_, rfl⟩
  have HPX := Lib.hid hpx
  clear hpx
  have hfr := ((Fr.start w).row (ks a) 23 (g := w.heap.size) rfl).row (ks b) 23 (g := w.heap.size + 1) (by simp)
  have hz : w.heap.size + 1 < ((w.alloc (.cells (ks a) 23)).alloc (.cells (ks b) 23)).heap.size := by simp <;> omega
  have HP := Lib.hid hpg
  have hpg0 := Fr.pg hfr hpg
  clear hpg
  go_enter Tryd.func5, Tryd.ntmps5
  go_wp2_with (fail)
  obtain ⟨wx, hwx⟩ : ∃ wx : World, wx = ((w.alloc (.cells (ks a) 23)).alloc (.cells (ks b) 23)) := ⟨_, rfl⟩
  rw [← hwx] at hfr hpg0 hz ⊢
  clear hwx
  have HF := Lib.hid hfr
  have HPG := Lib.hid hpg0
  clear hfr hpg0
  go_cut [5, 6] (fun s5 s6 wz => ∃ g5 g6 : Nat, s5 = .pointer (some ⟨g5, 0, none⟩) ∧ s6 = .pointer (some ⟨g6, 0, none⟩) ∧ Blk wz g5 33 (ev x) ∧ Blk wz g6 27 (dv x) ∧ Below wx.heap.size wx wz)
  case first =>
    as_aux_lemma =>
      have hn := (HF.out.now.sub (L' := [(w.heap.size, 23, ks a), (w.heap.size + 1, 23, ks b)]) (by simp))
      have HN := Lib.hid hn
      clear hn
      refine wp_region_held_drew (S := fun W => Fn wx W [(w.heap.size, 23, ks a), (w.heap.size + 1, 23, ks b)]) (by kernel_rfl) ?_ (fun hHeld => ?_)
      · exact HN.out.drew
      refine wpAnyH_take (i := 0) (v := .agg (ks a)) rfl (by kernel_rfl) (by kernel_rfl) (by kernel_rfl) (fun _ _ _ h => h) (yields_row (by rfl) 23 (.tmp 2) rfl (w.heap.size) rfl 23 (ks a) _ (fun W (h : Fn _ W _) => h.get (by simp)) Tryd.underlying23 rfl (info_ks _)) hHeld ?_
      try simp only [Act.put, List.getElem_toArray, List.getElem_cons_succ, List.getElem_cons_zero, List.setIfInBounds_toArray, List.set_cons_zero, List.set_cons_succ]
      refine wpAnyH_take (i := 2) (v := .agg (ks a)) rfl (by kernel_rfl) (by kernel_rfl) (by kernel_rfl) (fun _ _ _ h => h) (yields_row (by rfl) 23 (.tmp 2) rfl (w.heap.size) rfl 23 (ks a) _ (fun W (h : Fn _ W _) => h.get (by simp)) Tryd.underlying23 rfl (info_ks _)) hHeld ?_
      try simp only [Act.put, List.getElem_toArray, List.getElem_cons_succ, List.getElem_cons_zero, List.setIfInBounds_toArray, List.set_cons_zero, List.set_cons_succ]
      refine wpAnyH_name ?_
      intro ops Q hops hQ
      have st2_45 : ∀ (g5 g6 : Nat) (W : World), Fn wx W [(w.heap.size, 23, ks a), (w.heap.size + 1, 23, ks b)] → Blk W g5 33 #[.int .u64 0, .int .u64 0, .int .u64 0, .int .u64 0] → wx.heap.size ≤ g5 → Blk W g6 27 #[.int .u64 0, .int .u64 0, .int .u64 0, .int .u64 0, .int .u64 0, .int .u64 0, .int .u64 0, .int .u64 0, .int .u64 0, .int .u64 0, .int .u64 0, .int .u64 0, .int .u64 0, .int .u64 0, .int .u64 0, .int .u64 0] → wx.heap.size ≤ g6 → g5 ≠ g6 → wpAnyH Tryd.prog .any ops Q (fun W => Fn wx W [(w.heap.size, 23, ks a), (w.heap.size + 1, 23, ks b)]) 2 #[true, true, true, true, true, true, false, false] { tmps := #[.agg (ks a), .agg (ks b), .pointer (some ⟨w.heap.size, 0, none⟩), .pointer (some ⟨w.heap.size + 1, 0, none⟩), .bool false, .pointer (some ⟨g5, 0, none⟩), .pointer (some ⟨g6, 0, none⟩), .agg (ks a), .agg (ev x), .agg (ks a), .agg (dv x), undef, undef, undef, undef, undef, undef, undef, undef, undef, undef, undef, undef, undef, undef, undef, undef, undef], defers := [] } W := by
        as_aux_lemma =>
          intro g5 g6 W hHeld K4 Z4 K5 Z5 n4_5
          rw [← hops]
          rw [← hQ]
          have KK4 := Lib.hid K4
          clear K4
          have KK5 := Lib.hid K5
          clear K5
          refine wpAnyH_ready (rs := [6]) (by kernel_rfl) (by simp) (AllReadyH.cons rfl (fun K hK => ?_) AllReadyH.nil)
          have h0 := hHeld
          clear hHeld
          try simp only [List.getElem_toArray, List.getElem_cons_succ, List.getElem_cons_zero]
          rw [if_pos (by rfl)]
          refine wp_store_row 33 (.tmp 5) (.tmp 8) rfl g5 (ev x) rfl rfl 33 _ KK4.out (info_ev _) rfl (ev_one _) ?_
          refine hK.out _ _ (Fn.setFresh h0 Z4 _) (fun hHeld => ?_)
          have J4 := Lib.hid (KK4.out.setRow_same (ev x))
          clear KK4
          have KK4 := J4
          clear J4
          have J5 := Lib.hid (KK5.out.setRow_other (Ne.symm n4_5) (ev x))
          clear KK5
          have KK5 := J5
          clear J5
          clear hK K h0
          try simp only [Act.put, List.getElem_toArray, List.getElem_cons_succ, List.getElem_cons_zero, List.setIfInBounds_toArray, List.set_cons_zero, List.set_cons_succ]
          refine wpAnyH_ready (rs := [7]) (by kernel_rfl) (by simp) (AllReadyH.cons rfl (fun K hK => ?_) AllReadyH.nil)
          have h0 := hHeld
          clear hHeld
          try simp only [List.getElem_toArray, List.getElem_cons_succ, List.getElem_cons_zero]
          rw [if_pos (by rfl)]
          refine wp_store_row 27 (.tmp 6) (.tmp 10) rfl g6 (dv x) rfl rfl 27 _ KK5.out (info_dv _) (by rw [dv_size]; rfl) (dv_one _) ?_
          refine hK.out _ _ (Fn.setFresh h0 Z5 _) (fun hHeld => ?_)
          have J5 := Lib.hid (KK5.out.setRow_same (dv x))
          clear KK5
          have KK5 := J5
          clear J5
          have J4 := Lib.hid (KK4.out.setRow_other n4_5 (dv x))
          clear KK4
          have KK4 := J4
          clear J4
          clear hK K h0
          try simp only [Act.put, List.getElem_toArray, List.getElem_cons_succ, List.getElem_cons_zero, List.setIfInBounds_toArray, List.set_cons_zero, List.set_cons_succ]
          refine wpAnyH_done (by kernel_rfl) ?_ _
          have HB := Lib.hid hHeld.below
          clear hHeld
          go_wp2_with (fail)
          go_meet
          exact ⟨g5, g6, rfl, rfl, KK4.out, KK5.out, HB.out⟩
      have st2_4 : ∀ (g5 : Nat) (W : World), Fn wx W [(w.heap.size, 23, ks a), (w.heap.size + 1, 23, ks b)] → Blk W g5 33 #[.int .u64 0, .int .u64 0, .int .u64 0, .int .u64 0] → wx.heap.size ≤ g5 → wpAnyH Tryd.prog .any ops Q (fun W => Fn wx W [(w.heap.size, 23, ks a), (w.heap.size + 1, 23, ks b)]) 3 #[true, true, true, true, true, false, false, false] { tmps := #[.agg (ks a), .agg (ks b), .pointer (some ⟨w.heap.size, 0, none⟩), .pointer (some ⟨w.heap.size + 1, 0, none⟩), .bool false, .pointer (some ⟨g5, 0, none⟩), undef, .agg (ks a), .agg (ev x), .agg (ks a), .agg (dv x), undef, undef, undef, undef, undef, undef, undef, undef, undef, undef, undef, undef, undef, undef, undef, undef, undef], defers := [] } W := by
        as_aux_lemma =>
          intro g5 W hHeld K4 Z4
          rw [← hops]
          refine wpAnyH_ready (rs := [5]) (by kernel_rfl) (by simp) (AllReadyH.cons rfl (fun K hK => ?_) AllReadyH.nil)
          have h0 := hHeld
          clear hHeld
          try simp only [List.getElem_toArray, List.getElem_cons_succ, List.getElem_cons_zero]
          obtain ⟨kz, hg⟩ := Fn.fresh h0 27 #[.int .u64 0, .int .u64 0, .int .u64 0, .int .u64 0, .int .u64 0, .int .u64 0, .int .u64 0, .int .u64 0, .int .u64 0, .int .u64 0, .int .u64 0, .int .u64 0, .int .u64 0, .int .u64 0, .int .u64 0, .int .u64 0]
          have KZ := Lib.hid kz
          have HG := Lib.hid hg
          have H0 := Lib.hid h0
          clear kz hg h0
          have KH4 := Lib.hid K4
          go_simp
          refine hK.out _ _ (Fn.pass H0.out _) (fun hHeld => ?_)
          clear hK K H0
          try simp only [Act.put, List.getElem_toArray, List.getElem_cons_succ, List.getElem_cons_zero, List.setIfInBounds_toArray, List.set_cons_zero, List.set_cons_succ]
          have k4 := KH4.out.alloc (.cells #[.int .u64 0, .int .u64 0, .int .u64 0, .int .u64 0, .int .u64 0, .int .u64 0, .int .u64 0, .int .u64 0, .int .u64 0, .int .u64 0, .int .u64 0, .int .u64 0, .int .u64 0, .int .u64 0, .int .u64 0, .int .u64 0] 27)
          have z4 := Z4
          have k5 := KZ.out
          have z5 := HG.out
          refine wpAnyH_cast (n' := 2) (l' := #[true, true, true, true, true, true, false, false]) (by kernel_rfl) (by kernel_rfl) ?_
          have hh := st2_45 g5 _ _ hHeld k4 z4 k5 z5 (Nat.ne_of_lt K4.lt)
          rw [← hops] at hh
          exact hh
      have st2_5 : ∀ (g6 : Nat) (W : World), Fn wx W [(w.heap.size, 23, ks a), (w.heap.size + 1, 23, ks b)] → Blk W g6 27 #[.int .u64 0, .int .u64 0, .int .u64 0, .int .u64 0, .int .u64 0, .int .u64 0, .int .u64 0, .int .u64 0, .int .u64 0, .int .u64 0, .int .u64 0, .int .u64 0, .int .u64 0, .int .u64 0, .int .u64 0, .int .u64 0] → wx.heap.size ≤ g6 → wpAnyH Tryd.prog .any ops Q (fun W => Fn wx W [(w.heap.size, 23, ks a), (w.heap.size + 1, 23, ks b)]) 3 #[true, true, true, true, false, true, false, false] { tmps := #[.agg (ks a), .agg (ks b), .pointer (some ⟨w.heap.size, 0, none⟩), .pointer (some ⟨w.heap.size + 1, 0, none⟩), .bool false, undef, .pointer (some ⟨g6, 0, none⟩), .agg (ks a), .agg (ev x), .agg (ks a), .agg (dv x), undef, undef, undef, undef, undef, undef, undef, undef, undef, undef, undef, undef, undef, undef, undef, undef, undef], defers := [] } W := by
        as_aux_lemma =>
          clear st2_4
          intro g6 W hHeld K5 Z5
          rw [← hops]
          refine wpAnyH_ready (rs := [4]) (by kernel_rfl) (by simp) (AllReadyH.cons rfl (fun K hK => ?_) AllReadyH.nil)
          have h0 := hHeld
          clear hHeld
          try simp only [List.getElem_toArray, List.getElem_cons_succ, List.getElem_cons_zero]
          obtain ⟨kz, hg⟩ := Fn.fresh h0 33 #[.int .u64 0, .int .u64 0, .int .u64 0, .int .u64 0]
          have KZ := Lib.hid kz
          have HG := Lib.hid hg
          have H0 := Lib.hid h0
          clear kz hg h0
          have KH5 := Lib.hid K5
          go_simp
          refine hK.out _ _ (Fn.pass H0.out _) (fun hHeld => ?_)
          clear hK K H0
          try simp only [Act.put, List.getElem_toArray, List.getElem_cons_succ, List.getElem_cons_zero, List.setIfInBounds_toArray, List.set_cons_zero, List.set_cons_succ]
          have k5 := KH5.out.alloc (.cells #[.int .u64 0, .int .u64 0, .int .u64 0, .int .u64 0] 33)
          have z5 := Z5
          have k4 := KZ.out
          have z4 := HG.out
          refine wpAnyH_cast (n' := 2) (l' := #[true, true, true, true, true, true, false, false]) (by kernel_rfl) (by kernel_rfl) ?_
          have hh := st2_45 _ g6 _ hHeld k4 z4 k5 z5 (Ne.symm (Nat.ne_of_lt K5.lt))
          rw [← hops] at hh
          exact hh
      have st1_45 : ∀ (g5 g6 : Nat) (W : World), Fn wx W [(w.heap.size, 23, ks a), (w.heap.size + 1, 23, ks b)] → Blk W g5 33 #[.int .u64 0, .int .u64 0, .int .u64 0, .int .u64 0] → wx.heap.size ≤ g5 → Blk W g6 27 #[.int .u64 0, .int .u64 0, .int .u64 0, .int .u64 0, .int .u64 0, .int .u64 0, .int .u64 0, .int .u64 0, .int .u64 0, .int .u64 0, .int .u64 0, .int .u64 0, .int .u64 0, .int .u64 0, .int .u64 0, .int .u64 0] → wx.heap.size ≤ g6 → g5 ≠ g6 → wpAnyH Tryd.prog .any ops Q (fun W => Fn wx W [(w.heap.size, 23, ks a), (w.heap.size + 1, 23, ks b)]) 3 #[true, true, true, false, true, true, false, false] { tmps := #[.agg (ks a), .agg (ks b), .pointer (some ⟨w.heap.size, 0, none⟩), .pointer (some ⟨w.heap.size + 1, 0, none⟩), .bool false, .pointer (some ⟨g5, 0, none⟩), .pointer (some ⟨g6, 0, none⟩), .agg (ks a), .agg (ev x), .agg (ks a), undef, undef, undef, undef, undef, undef, undef, undef, undef, undef, undef, undef, undef, undef, undef, undef, undef, undef], defers := [] } W := by
        as_aux_lemma =>
          clear st2_5 st2_4
          intro g5 g6 W hHeld K4 Z4 K5 Z5 n4_5
          rw [← hops]
          refine wpAnyH_ready (rs := [3]) (by kernel_rfl) (by simp) (AllReadyH.cons rfl (fun K hK => ?_) AllReadyH.nil)
          have KH4 := Lib.hid K4
          have KH5 := Lib.hid K5
          have h0 := hHeld
          clear hHeld
          try simp only [List.getElem_toArray, List.getElem_cons_succ, List.getElem_cons_zero]
          have H0 := Lib.hid h0
          clear h0
          go_simp
          go_at_call 15
          refine (num_any a Hx.out _ Ha.out).mono ?_
          rintro e vv ⟨rfl, hb⟩
          have KJ4 := Lib.hid (KH4.out.below hb KH4.out.lt)
          have KJ5 := Lib.hid (KH5.out.below hb KH5.out.lt)
          have h1 := H0.out.ext hb
          clear hb H0
          go_wp2_with (fail)
          refine hK.out _ _ h1 (fun hHeld => ?_)
          clear hK K h1
          try simp only [Act.put, List.getElem_toArray, List.getElem_cons_succ, List.getElem_cons_zero, List.setIfInBounds_toArray, List.set_cons_zero, List.set_cons_succ]
          have k4 := KJ4.out
          have k5 := KJ5.out
          have z4 := Z4
          have z5 := Z5
          refine wpAnyH_cast (n' := 2) (l' := #[true, true, true, true, true, true, false, false]) (by kernel_rfl) (by kernel_rfl) ?_
          have hh := st2_45 g5 g6 _ hHeld k4 z4 k5 z5 n4_5
          rw [← hops] at hh
          exact hh
      have st2_ : ∀ (W : World), Fn wx W [(w.heap.size, 23, ks a), (w.heap.size + 1, 23, ks b)] → wpAnyH Tryd.prog .any ops Q (fun W => Fn wx W [(w.heap.size, 23, ks a), (w.heap.size + 1, 23, ks b)]) 4 #[true, true, true, true, false, false, false, false] { tmps := #[.agg (ks a), .agg (ks b), .pointer (some ⟨w.heap.size, 0, none⟩), .pointer (some ⟨w.heap.size + 1, 0, none⟩), .bool false, undef, undef, .agg (ks a), .agg (ev x), .agg (ks a), .agg (dv x), undef, undef, undef, undef, undef, undef, undef, undef, undef, undef, undef, undef, undef, undef, undef, undef, undef], defers := [] } W := by
        as_aux_lemma =>
          clear st1_45 st2_45
          intro W hHeld
          rw [← hops]
          refine wpAnyH_ready (rs := [4, 5]) (by kernel_rfl) (by simp) (AllReadyH.cons rfl (fun K hK => ?_) (AllReadyH.cons rfl (fun K hK => ?_) AllReadyH.nil))
          · have h0 := hHeld
            clear hHeld
            try simp only [List.getElem_toArray, List.getElem_cons_succ, List.getElem_cons_zero]
            obtain ⟨kz, hg⟩ := Fn.fresh h0 33 #[.int .u64 0, .int .u64 0, .int .u64 0, .int .u64 0]
            have KZ := Lib.hid kz
            have HG := Lib.hid hg
            have H0 := Lib.hid h0
            clear kz hg h0
            go_simp
            refine hK.out _ _ (Fn.pass H0.out _) (fun hHeld => ?_)
            clear hK K H0
            try simp only [Act.put, List.getElem_toArray, List.getElem_cons_succ, List.getElem_cons_zero, List.setIfInBounds_toArray, List.set_cons_zero, List.set_cons_succ]
            have k4 := KZ.out
            have z4 := HG.out
            refine wpAnyH_cast (n' := 3) (l' := #[true, true, true, true, true, false, false, false]) (by kernel_rfl) (by kernel_rfl) ?_
            have hh := st2_4 _ _ hHeld k4 z4
            rw [← hops] at hh
            exact hh
          · have h0 := hHeld
            clear hHeld
            try simp only [List.getElem_toArray, List.getElem_cons_succ, List.getElem_cons_zero]
            obtain ⟨kz, hg⟩ := Fn.fresh h0 27 #[.int .u64 0, .int .u64 0, .int .u64 0, .int .u64 0, .int .u64 0, .int .u64 0, .int .u64 0, .int .u64 0, .int .u64 0, .int .u64 0, .int .u64 0, .int .u64 0, .int .u64 0, .int .u64 0, .int .u64 0, .int .u64 0]
            have KZ := Lib.hid kz
            have HG := Lib.hid hg
            have H0 := Lib.hid h0
            clear kz hg h0
            go_simp
            refine hK.out _ _ (Fn.pass H0.out _) (fun hHeld => ?_)
            clear hK K H0
            try simp only [Act.put, List.getElem_toArray, List.getElem_cons_succ, List.getElem_cons_zero, List.setIfInBounds_toArray, List.set_cons_zero, List.set_cons_succ]
            have k5 := KZ.out
            have z5 := HG.out
            refine wpAnyH_cast (n' := 3) (l' := #[true, true, true, true, false, true, false, false]) (by kernel_rfl) (by kernel_rfl) ?_
            have hh := st2_5 _ _ hHeld k5 z5
            rw [← hops] at hh
            exact hh
      have st1_4 : ∀ (g5 : Nat) (W : World), Fn wx W [(w.heap.size, 23, ks a), (w.heap.size + 1, 23, ks b)] → Blk W g5 33 #[.int .u64 0, .int .u64 0, .int .u64 0, .int .u64 0] → wx.heap.size ≤ g5 → wpAnyH Tryd.prog .any ops Q (fun W => Fn wx W [(w.heap.size, 23, ks a), (w.heap.size + 1, 23, ks b)]) 4 #[true, true, true, false, true, false, false, false] { tmps := #[.agg (ks a), .agg (ks b), .pointer (some ⟨w.heap.size, 0, none⟩), .pointer (some ⟨w.heap.size + 1, 0, none⟩), .bool false, .pointer (some ⟨g5, 0, none⟩), undef, .agg (ks a), .agg (ev x), .agg (ks a), undef, undef, undef, undef, undef, undef, undef, undef, undef, undef, undef, undef, undef, undef, undef, undef, undef, undef], defers := [] } W := by
        as_aux_lemma =>
          clear st2_ st2_5 st2_45
          intro g5 W hHeld K4 Z4
          rw [← hops]
          refine wpAnyH_ready (rs := [3, 5]) (by kernel_rfl) (by simp) (AllReadyH.cons rfl (fun K hK => ?_) (AllReadyH.cons rfl (fun K hK => ?_) AllReadyH.nil))
          · have KH4 := Lib.hid K4
            have h0 := hHeld
            clear hHeld
            try simp only [List.getElem_toArray, List.getElem_cons_succ, List.getElem_cons_zero]
            have H0 := Lib.hid h0
            clear h0
            go_simp
            go_at_call 15
            refine (num_any a Hx.out _ Ha.out).mono ?_
            rintro e vv ⟨rfl, hb⟩
            have KJ4 := Lib.hid (KH4.out.below hb KH4.out.lt)
            have h1 := H0.out.ext hb
            clear hb H0
            go_wp2_with (fail)
            refine hK.out _ _ h1 (fun hHeld => ?_)
            clear hK K h1
            try simp only [Act.put, List.getElem_toArray, List.getElem_cons_succ, List.getElem_cons_zero, List.setIfInBounds_toArray, List.set_cons_zero, List.set_cons_succ]
            have k4 := KJ4.out
            have z4 := Z4
            refine wpAnyH_cast (n' := 3) (l' := #[true, true, true, true, true, false, false, false]) (by kernel_rfl) (by kernel_rfl) ?_
            have hh := st2_4 g5 _ hHeld k4 z4
            rw [← hops] at hh
            exact hh
          · have h0 := hHeld
            clear hHeld
            try simp only [List.getElem_toArray, List.getElem_cons_succ, List.getElem_cons_zero]
            obtain ⟨kz, hg⟩ := Fn.fresh h0 27 #[.int .u64 0, .int .u64 0, .int .u64 0, .int .u64 0, .int .u64 0, .int .u64 0, .int .u64 0, .int .u64 0, .int .u64 0, .int .u64 0, .int .u64 0, .int .u64 0, .int .u64 0, .int .u64 0, .int .u64 0, .int .u64 0]
            have KZ := Lib.hid kz
            have HG := Lib.hid hg
            have H0 := Lib.hid h0
            clear kz hg h0
            have KH4 := Lib.hid K4
            go_simp
            refine hK.out _ _ (Fn.pass H0.out _) (fun hHeld => ?_)
            clear hK K H0
            try simp only [Act.put, List.getElem_toArray, List.getElem_cons_succ, List.getElem_cons_zero, List.setIfInBounds_toArray, List.set_cons_zero, List.set_cons_succ]
            have k4 := KH4.out.alloc (.cells #[.int .u64 0, .int .u64 0, .int .u64 0, .int .u64 0, .int .u64 0, .int .u64 0, .int .u64 0, .int .u64 0, .int .u64 0, .int .u64 0, .int .u64 0, .int .u64 0, .int .u64 0, .int .u64 0, .int .u64 0, .int .u64 0] 27)
            have z4 := Z4
            have k5 := KZ.out
            have z5 := HG.out
            refine wpAnyH_cast (n' := 3) (l' := #[true, true, true, false, true, true, false, false]) (by kernel_rfl) (by kernel_rfl) ?_
            have hh := st1_45 g5 _ _ hHeld k4 z4 k5 z5 (Nat.ne_of_lt K4.lt)
            rw [← hops] at hh
            exact hh
      have st1_5 : ∀ (g6 : Nat) (W : World), Fn wx W [(w.heap.size, 23, ks a), (w.heap.size + 1, 23, ks b)] → Blk W g6 27 #[.int .u64 0, .int .u64 0, .int .u64 0, .int .u64 0, .int .u64 0, .int .u64 0, .int .u64 0, .int .u64 0, .int .u64 0, .int .u64 0, .int .u64 0, .int .u64 0, .int .u64 0, .int .u64 0, .int .u64 0, .int .u64 0] → wx.heap.size ≤ g6 → wpAnyH Tryd.prog .any ops Q (fun W => Fn wx W [(w.heap.size, 23, ks a), (w.heap.size + 1, 23, ks b)]) 4 #[true, true, true, false, false, true, false, false] { tmps := #[.agg (ks a), .agg (ks b), .pointer (some ⟨w.heap.size, 0, none⟩), .pointer (some ⟨w.heap.size + 1, 0, none⟩), .bool false, undef, .pointer (some ⟨g6, 0, none⟩), .agg (ks a), .agg (ev x), .agg (ks a), undef, undef, undef, undef, undef, undef, undef, undef, undef, undef, undef, undef, undef, undef, undef, undef, undef, undef], defers := [] } W := by
        as_aux_lemma =>
          clear st1_4 st2_ st2_4 st2_45
          intro g6 W hHeld K5 Z5
          rw [← hops]
          refine wpAnyH_ready (rs := [3, 4]) (by kernel_rfl) (by simp) (AllReadyH.cons rfl (fun K hK => ?_) (AllReadyH.cons rfl (fun K hK => ?_) AllReadyH.nil))
          · have KH5 := Lib.hid K5
            have h0 := hHeld
            clear hHeld
            try simp only [List.getElem_toArray, List.getElem_cons_succ, List.getElem_cons_zero]
            have H0 := Lib.hid h0
            clear h0
            go_simp
            go_at_call 15
            refine (num_any a Hx.out _ Ha.out).mono ?_
            rintro e vv ⟨rfl, hb⟩
            have KJ5 := Lib.hid (KH5.out.below hb KH5.out.lt)
            have h1 := H0.out.ext hb
            clear hb H0
            go_wp2_with (fail)
            refine hK.out _ _ h1 (fun hHeld => ?_)
            clear hK K h1
            try simp only [Act.put, List.getElem_toArray, List.getElem_cons_succ, List.getElem_cons_zero, List.setIfInBounds_toArray, List.set_cons_zero, List.set_cons_succ]
            have k5 := KJ5.out
            have z5 := Z5
            refine wpAnyH_cast (n' := 3) (l' := #[true, true, true, true, false, true, false, false]) (by kernel_rfl) (by kernel_rfl) ?_
            have hh := st2_5 g6 _ hHeld k5 z5
            rw [← hops] at hh
            exact hh
          · have h0 := hHeld
            clear hHeld
            try simp only [List.getElem_toArray, List.getElem_cons_succ, List.getElem_cons_zero]
            obtain ⟨kz, hg⟩ := Fn.fresh h0 33 #[.int .u64 0, .int .u64 0, .int .u64 0, .int .u64 0]
            have KZ := Lib.hid kz
            have HG := Lib.hid hg
            have H0 := Lib.hid h0
            clear kz hg h0
            have KH5 := Lib.hid K5
            go_simp
            refine hK.out _ _ (Fn.pass H0.out _) (fun hHeld => ?_)
            clear hK K H0
            try simp only [Act.put, List.getElem_toArray, List.getElem_cons_succ, List.getElem_cons_zero, List.setIfInBounds_toArray, List.set_cons_zero, List.set_cons_succ]
            have k5 := KH5.out.alloc (.cells #[.int .u64 0, .int .u64 0, .int .u64 0, .int .u64 0] 33)
            have z5 := Z5
            have k4 := KZ.out
            have z4 := HG.out
            refine wpAnyH_cast (n' := 3) (l' := #[true, true, true, false, true, true, false, false]) (by kernel_rfl) (by kernel_rfl) ?_
            have hh := st1_45 _ g6 _ hHeld k4 z4 k5 z5 (Ne.symm (Nat.ne_of_lt K5.lt))
            rw [← hops] at hh
            exact hh
      have st0_45 : ∀ (g5 g6 : Nat) (W : World), Fn wx W [(w.heap.size, 23, ks a), (w.heap.size + 1, 23, ks b)] → Blk W g5 33 #[.int .u64 0, .int .u64 0, .int .u64 0, .int .u64 0] → wx.heap.size ≤ g5 → Blk W g6 27 #[.int .u64 0, .int .u64 0, .int .u64 0, .int .u64 0, .int .u64 0, .int .u64 0, .int .u64 0, .int .u64 0, .int .u64 0, .int .u64 0, .int .u64 0, .int .u64 0, .int .u64 0, .int .u64 0, .int .u64 0, .int .u64 0] → wx.heap.size ≤ g6 → g5 ≠ g6 → wpAnyH Tryd.prog .any ops Q (fun W => Fn wx W [(w.heap.size, 23, ks a), (w.heap.size + 1, 23, ks b)]) 4 #[true, false, true, false, true, true, false, false] { tmps := #[.agg (ks a), .agg (ks b), .pointer (some ⟨w.heap.size, 0, none⟩), .pointer (some ⟨w.heap.size + 1, 0, none⟩), .bool false, .pointer (some ⟨g5, 0, none⟩), .pointer (some ⟨g6, 0, none⟩), .agg (ks a), undef, .agg (ks a), undef, undef, undef, undef, undef, undef, undef, undef, undef, undef, undef, undef, undef, undef, undef, undef, undef, undef], defers := [] } W := by
        as_aux_lemma =>
          clear st1_5 st1_4 st2_ st2_5 st2_4 st2_45
          intro g5 g6 W hHeld K4 Z4 K5 Z5 n4_5
          rw [← hops]
          refine wpAnyH_ready (rs := [1]) (by kernel_rfl) (by simp) (AllReadyH.cons rfl (fun K hK => ?_) AllReadyH.nil)
          have KH4 := Lib.hid K4
          have KH5 := Lib.hid K5
          have h0 := hHeld
          clear hHeld
          try simp only [List.getElem_toArray, List.getElem_cons_succ, List.getElem_cons_zero]
          have H0 := Lib.hid h0
          clear h0
          go_simp
          go_at_call 14
          refine (ofR Hx.out _ (HPG.out.ext H0.out.below) Ha.out).mono ?_
          rintro e vv ⟨rfl, hb⟩
          have KJ4 := Lib.hid (KH4.out.below hb KH4.out.lt)
          have KJ5 := Lib.hid (KH5.out.below hb KH5.out.lt)
          have h1 := H0.out.ext hb
          clear hb H0
          go_wp2_with (fail)
          refine hK.out _ _ h1 (fun hHeld => ?_)
          clear hK K h1
          try simp only [Act.put, List.getElem_toArray, List.getElem_cons_succ, List.getElem_cons_zero, List.setIfInBounds_toArray, List.set_cons_zero, List.set_cons_succ]
          have k4 := KJ4.out
          have k5 := KJ5.out
          have z4 := Z4
          have z5 := Z5
          refine wpAnyH_cast (n' := 3) (l' := #[true, true, true, false, true, true, false, false]) (by kernel_rfl) (by kernel_rfl) ?_
          have hh := st1_45 g5 g6 _ hHeld k4 z4 k5 z5 n4_5
          rw [← hops] at hh
          exact hh
      have st1_ : ∀ (W : World), Fn wx W [(w.heap.size, 23, ks a), (w.heap.size + 1, 23, ks b)] → wpAnyH Tryd.prog .any ops Q (fun W => Fn wx W [(w.heap.size, 23, ks a), (w.heap.size + 1, 23, ks b)]) 5 #[true, true, true, false, false, false, false, false] { tmps := #[.agg (ks a), .agg (ks b), .pointer (some ⟨w.heap.size, 0, none⟩), .pointer (some ⟨w.heap.size + 1, 0, none⟩), .bool false, undef, undef, .agg (ks a), .agg (ev x), .agg (ks a), undef, undef, undef, undef, undef, undef, undef, undef, undef, undef, undef, undef, undef, undef, undef, undef, undef, undef], defers := [] } W := by
        as_aux_lemma =>
          clear st0_45 st1_45 st2_5 st2_4 st2_45
          intro W hHeld
          rw [← hops]
          refine wpAnyH_ready (rs := [3, 4, 5]) (by kernel_rfl) (by simp) (AllReadyH.cons rfl (fun K hK => ?_) (AllReadyH.cons rfl (fun K hK => ?_) (AllReadyH.cons rfl (fun K hK => ?_) AllReadyH.nil)))
          · have h0 := hHeld
            clear hHeld
            try simp only [List.getElem_toArray, List.getElem_cons_succ, List.getElem_cons_zero]
            have H0 := Lib.hid h0
            clear h0
            go_simp
            go_at_call 15
            refine (num_any a Hx.out _ Ha.out).mono ?_
            rintro e vv ⟨rfl, hb⟩
            have h1 := H0.out.ext hb
            clear hb H0
            go_wp2_with (fail)
            refine hK.out _ _ h1 (fun hHeld => ?_)
            clear hK K h1
            try simp only [Act.put, List.getElem_toArray, List.getElem_cons_succ, List.getElem_cons_zero, List.setIfInBounds_toArray, List.set_cons_zero, List.set_cons_succ]
            refine wpAnyH_cast (n' := 4) (l' := #[true, true, true, true, false, false, false, false]) (by kernel_rfl) (by kernel_rfl) ?_
            have hh := st2_ _ hHeld
            rw [← hops] at hh
            exact hh
          · have h0 := hHeld
            clear hHeld
            try simp only [List.getElem_toArray, List.getElem_cons_succ, List.getElem_cons_zero]
            obtain ⟨kz, hg⟩ := Fn.fresh h0 33 #[.int .u64 0, .int .u64 0, .int .u64 0, .int .u64 0]
            have KZ := Lib.hid kz
            have HG := Lib.hid hg
            have H0 := Lib.hid h0
            clear kz hg h0
            go_simp
            refine hK.out _ _ (Fn.pass H0.out _) (fun hHeld => ?_)
            clear hK K H0
            try simp only [Act.put, List.getElem_toArray, List.getElem_cons_succ, List.getElem_cons_zero, List.setIfInBounds_toArray, List.set_cons_zero, List.set_cons_succ]
            have k4 := KZ.out
            have z4 := HG.out
            refine wpAnyH_cast (n' := 4) (l' := #[true, true, true, false, true, false, false, false]) (by kernel_rfl) (by kernel_rfl) ?_
            have hh := st1_4 _ _ hHeld k4 z4
            rw [← hops] at hh
            exact hh
          · have h0 := hHeld
            clear hHeld
            try simp only [List.getElem_toArray, List.getElem_cons_succ, List.getElem_cons_zero]
            obtain ⟨kz, hg⟩ := Fn.fresh h0 27 #[.int .u64 0, .int .u64 0, .int .u64 0, .int .u64 0, .int .u64 0, .int .u64 0, .int .u64 0, .int .u64 0, .int .u64 0, .int .u64 0, .int .u64 0, .int .u64 0, .int .u64 0, .int .u64 0, .int .u64 0, .int .u64 0]
            have KZ := Lib.hid kz
            have HG := Lib.hid hg
            have H0 := Lib.hid h0
            clear kz hg h0
            go_simp
            refine hK.out _ _ (Fn.pass H0.out _) (fun hHeld => ?_)
            clear hK K H0
            try simp only [Act.put, List.getElem_toArray, List.getElem_cons_succ, List.getElem_cons_zero, List.setIfInBounds_toArray, List.set_cons_zero, List.set_cons_succ]
            have k5 := KZ.out
            have z5 := HG.out
            refine wpAnyH_cast (n' := 4) (l' := #[true, true, true, false, false, true, false, false]) (by kernel_rfl) (by kernel_rfl) ?_
            have hh := st1_5 _ _ hHeld k5 z5
            rw [← hops] at hh
            exact hh
      have st0_4 : ∀ (g5 : Nat) (W : World), Fn wx W [(w.heap.size, 23, ks a), (w.heap.size + 1, 23, ks b)] → Blk W g5 33 #[.int .u64 0, .int .u64 0, .int .u64 0, .int .u64 0] → wx.heap.size ≤ g5 → wpAnyH Tryd.prog .any ops Q (fun W => Fn wx W [(w.heap.size, 23, ks a), (w.heap.size + 1, 23, ks b)]) 5 #[true, false, true, false, true, false, false, false] { tmps := #[.agg (ks a), .agg (ks b), .pointer (some ⟨w.heap.size, 0, none⟩), .pointer (some ⟨w.heap.size + 1, 0, none⟩), .bool false, .pointer (some ⟨g5, 0, none⟩), undef, .agg (ks a), undef, .agg (ks a), undef, undef, undef, undef, undef, undef, undef, undef, undef, undef, undef, undef, undef, undef, undef, undef, undef, undef], defers := [] } W := by
        as_aux_lemma =>
          clear st1_ st1_5 st2_ st1_45 st2_5 st2_4 st2_45
          intro g5 W hHeld K4 Z4
          rw [← hops]
          refine wpAnyH_ready (rs := [1, 5]) (by kernel_rfl) (by simp) (AllReadyH.cons rfl (fun K hK => ?_) (AllReadyH.cons rfl (fun K hK => ?_) AllReadyH.nil))
          · have KH4 := Lib.hid K4
            have h0 := hHeld
            clear hHeld
            try simp only [List.getElem_toArray, List.getElem_cons_succ, List.getElem_cons_zero]
            have H0 := Lib.hid h0
            clear h0
            go_simp
            go_at_call 14
            refine (ofR Hx.out _ (HPG.out.ext H0.out.below) Ha.out).mono ?_
            rintro e vv ⟨rfl, hb⟩
            have KJ4 := Lib.hid (KH4.out.below hb KH4.out.lt)
            have h1 := H0.out.ext hb
            clear hb H0
            go_wp2_with (fail)
            refine hK.out _ _ h1 (fun hHeld => ?_)
            clear hK K h1
            try simp only [Act.put, List.getElem_toArray, List.getElem_cons_succ, List.getElem_cons_zero, List.setIfInBounds_toArray, List.set_cons_zero, List.set_cons_succ]
            have k4 := KJ4.out
            have z4 := Z4
            refine wpAnyH_cast (n' := 4) (l' := #[true, true, true, false, true, false, false, false]) (by kernel_rfl) (by kernel_rfl) ?_
            have hh := st1_4 g5 _ hHeld k4 z4
            rw [← hops] at hh
            exact hh
          · have h0 := hHeld
            clear hHeld
            try simp only [List.getElem_toArray, List.getElem_cons_succ, List.getElem_cons_zero]
            obtain ⟨kz, hg⟩ := Fn.fresh h0 27 #[.int .u64 0, .int .u64 0, .int .u64 0, .int .u64 0, .int .u64 0, .int .u64 0, .int .u64 0, .int .u64 0, .int .u64 0, .int .u64 0, .int .u64 0, .int .u64 0, .int .u64 0, .int .u64 0, .int .u64 0, .int .u64 0]
            have KZ := Lib.hid kz
            have HG := Lib.hid hg
            have H0 := Lib.hid h0
            clear kz hg h0
            have KH4 := Lib.hid K4
            go_simp
            refine hK.out _ _ (Fn.pass H0.out _) (fun hHeld => ?_)
            clear hK K H0
            try simp only [Act.put, List.getElem_toArray, List.getElem_cons_succ, List.getElem_cons_zero, List.setIfInBounds_toArray, List.set_cons_zero, List.set_cons_succ]
            have k4 := KH4.out.alloc (.cells #[.int .u64 0, .int .u64 0, .int .u64 0, .int .u64 0, .int .u64 0, .int .u64 0, .int .u64 0, .int .u64 0, .int .u64 0, .int .u64 0, .int .u64 0, .int .u64 0, .int .u64 0, .int .u64 0, .int .u64 0, .int .u64 0] 27)
            have z4 := Z4
            have k5 := KZ.out
            have z5 := HG.out
            refine wpAnyH_cast (n' := 4) (l' := #[true, false, true, false, true, true, false, false]) (by kernel_rfl) (by kernel_rfl) ?_
            have hh := st0_45 g5 _ _ hHeld k4 z4 k5 z5 (Nat.ne_of_lt K4.lt)
            rw [← hops] at hh
            exact hh
      have st0_5 : ∀ (g6 : Nat) (W : World), Fn wx W [(w.heap.size, 23, ks a), (w.heap.size + 1, 23, ks b)] → Blk W g6 27 #[.int .u64 0, .int .u64 0, .int .u64 0, .int .u64 0, .int .u64 0, .int .u64 0, .int .u64 0, .int .u64 0, .int .u64 0, .int .u64 0, .int .u64 0, .int .u64 0, .int .u64 0, .int .u64 0, .int .u64 0, .int .u64 0] → wx.heap.size ≤ g6 → wpAnyH Tryd.prog .any ops Q (fun W => Fn wx W [(w.heap.size, 23, ks a), (w.heap.size + 1, 23, ks b)]) 5 #[true, false, true, false, false, true, false, false] { tmps := #[.agg (ks a), .agg (ks b), .pointer (some ⟨w.heap.size, 0, none⟩), .pointer (some ⟨w.heap.size + 1, 0, none⟩), .bool false, undef, .pointer (some ⟨g6, 0, none⟩), .agg (ks a), undef, .agg (ks a), undef, undef, undef, undef, undef, undef, undef, undef, undef, undef, undef, undef, undef, undef, undef, undef, undef, undef], defers := [] } W := by
        as_aux_lemma =>
          clear st0_4 st1_ st1_4 st2_ st1_45 st2_5 st2_4 st2_45
          intro g6 W hHeld K5 Z5
          rw [← hops]
          refine wpAnyH_ready (rs := [1, 4]) (by kernel_rfl) (by simp) (AllReadyH.cons rfl (fun K hK => ?_) (AllReadyH.cons rfl (fun K hK => ?_) AllReadyH.nil))
          · have KH5 := Lib.hid K5
            have h0 := hHeld
            clear hHeld
            try simp only [List.getElem_toArray, List.getElem_cons_succ, List.getElem_cons_zero]
            have H0 := Lib.hid h0
            clear h0
            go_simp
            go_at_call 14
            refine (ofR Hx.out _ (HPG.out.ext H0.out.below) Ha.out).mono ?_
            rintro e vv ⟨rfl, hb⟩
            have KJ5 := Lib.hid (KH5.out.below hb KH5.out.lt)
            have h1 := H0.out.ext hb
            clear hb H0
            go_wp2_with (fail)
            refine hK.out _ _ h1 (fun hHeld => ?_)
            clear hK K h1
            try simp only [Act.put, List.getElem_toArray, List.getElem_cons_succ, List.getElem_cons_zero, List.setIfInBounds_toArray, List.set_cons_zero, List.set_cons_succ]
            have k5 := KJ5.out
            have z5 := Z5
            refine wpAnyH_cast (n' := 4) (l' := #[true, true, true, false, false, true, false, false]) (by kernel_rfl) (by kernel_rfl) ?_
            have hh := st1_5 g6 _ hHeld k5 z5
            rw [← hops] at hh
            exact hh
          · have h0 := hHeld
            clear hHeld
            try simp only [List.getElem_toArray, List.getElem_cons_succ, List.getElem_cons_zero]
            obtain ⟨kz, hg⟩ := Fn.fresh h0 33 #[.int .u64 0, .int .u64 0, .int .u64 0, .int .u64 0]
            have KZ := Lib.hid kz
            have HG := Lib.hid hg
            have H0 := Lib.hid h0
            clear kz hg h0
            have KH5 := Lib.hid K5
            go_simp
            refine hK.out _ _ (Fn.pass H0.out _) (fun hHeld => ?_)
            clear hK K H0
            try simp only [Act.put, List.getElem_toArray, List.getElem_cons_succ, List.getElem_cons_zero, List.setIfInBounds_toArray, List.set_cons_zero, List.set_cons_succ]
            have k5 := KH5.out.alloc (.cells #[.int .u64 0, .int .u64 0, .int .u64 0, .int .u64 0] 33)
            have z5 := Z5
            have k4 := KZ.out
            have z4 := HG.out
            refine wpAnyH_cast (n' := 4) (l' := #[true, false, true, false, true, true, false, false]) (by kernel_rfl) (by kernel_rfl) ?_
            have hh := st0_45 _ g6 _ hHeld k4 z4 k5 z5 (Ne.symm (Nat.ne_of_lt K5.lt))
            rw [← hops] at hh
            exact hh
      have st0_ : ∀ (W : World), Fn wx W [(w.heap.size, 23, ks a), (w.heap.size + 1, 23, ks b)] → wpAnyH Tryd.prog .any ops Q (fun W => Fn wx W [(w.heap.size, 23, ks a), (w.heap.size + 1, 23, ks b)]) 6 #[true, false, true, false, false, false, false, false] { tmps := #[.agg (ks a), .agg (ks b), .pointer (some ⟨w.heap.size, 0, none⟩), .pointer (some ⟨w.heap.size + 1, 0, none⟩), .bool false, undef, undef, .agg (ks a), undef, .agg (ks a), undef, undef, undef, undef, undef, undef, undef, undef, undef, undef, undef, undef, undef, undef, undef, undef, undef, undef], defers := [] } W := by
        as_aux_lemma =>
          clear st0_45 st1_5 st1_4 st2_ st1_45 st2_5 st2_4 st2_45
          intro W hHeld
          rw [← hops]
          refine wpAnyH_ready (rs := [1, 4, 5]) (by kernel_rfl) (by simp) (AllReadyH.cons rfl (fun K hK => ?_) (AllReadyH.cons rfl (fun K hK => ?_) (AllReadyH.cons rfl (fun K hK => ?_) AllReadyH.nil)))
          · have h0 := hHeld
            clear hHeld
            try simp only [List.getElem_toArray, List.getElem_cons_succ, List.getElem_cons_zero]
            have H0 := Lib.hid h0
            clear h0
            go_simp
            go_at_call 14
            refine (ofR Hx.out _ (HPG.out.ext H0.out.below) Ha.out).mono ?_
            rintro e vv ⟨rfl, hb⟩
            have h1 := H0.out.ext hb
            clear hb H0
            go_wp2_with (fail)
            refine hK.out _ _ h1 (fun hHeld => ?_)
            clear hK K h1
            try simp only [Act.put, List.getElem_toArray, List.getElem_cons_succ, List.getElem_cons_zero, List.setIfInBounds_toArray, List.set_cons_zero, List.set_cons_succ]
            refine wpAnyH_cast (n' := 5) (l' := #[true, true, true, false, false, false, false, false]) (by kernel_rfl) (by kernel_rfl) ?_
            have hh := st1_ _ hHeld
            rw [← hops] at hh
            exact hh
          · have h0 := hHeld
            clear hHeld
            try simp only [List.getElem_toArray, List.getElem_cons_succ, List.getElem_cons_zero]
            obtain ⟨kz, hg⟩ := Fn.fresh h0 33 #[.int .u64 0, .int .u64 0, .int .u64 0, .int .u64 0]
            have KZ := Lib.hid kz
            have HG := Lib.hid hg
            have H0 := Lib.hid h0
            clear kz hg h0
            go_simp
            refine hK.out _ _ (Fn.pass H0.out _) (fun hHeld => ?_)
            clear hK K H0
            try simp only [Act.put, List.getElem_toArray, List.getElem_cons_succ, List.getElem_cons_zero, List.setIfInBounds_toArray, List.set_cons_zero, List.set_cons_succ]
            have k4 := KZ.out
            have z4 := HG.out
            refine wpAnyH_cast (n' := 5) (l' := #[true, false, true, false, true, false, false, false]) (by kernel_rfl) (by kernel_rfl) ?_
            have hh := st0_4 _ _ hHeld k4 z4
            rw [← hops] at hh
            exact hh
          · have h0 := hHeld
            clear hHeld
            try simp only [List.getElem_toArray, List.getElem_cons_succ, List.getElem_cons_zero]
            obtain ⟨kz, hg⟩ := Fn.fresh h0 27 #[.int .u64 0, .int .u64 0, .int .u64 0, .int .u64 0, .int .u64 0, .int .u64 0, .int .u64 0, .int .u64 0, .int .u64 0, .int .u64 0, .int .u64 0, .int .u64 0, .int .u64 0, .int .u64 0, .int .u64 0, .int .u64 0]
            have KZ := Lib.hid kz
            have HG := Lib.hid hg
            have H0 := Lib.hid h0
            clear kz hg h0
            go_simp
            refine hK.out _ _ (Fn.pass H0.out _) (fun hHeld => ?_)
            clear hK K H0
            try simp only [Act.put, List.getElem_toArray, List.getElem_cons_succ, List.getElem_cons_zero, List.setIfInBounds_toArray, List.set_cons_zero, List.set_cons_succ]
            have k5 := KZ.out
            have z5 := HG.out
            refine wpAnyH_cast (n' := 5) (l' := #[true, false, true, false, false, true, false, false]) (by kernel_rfl) (by kernel_rfl) ?_
            have hh := st0_5 _ _ hHeld k5 z5
            rw [← hops] at hh
            exact hh
      refine wpAnyH_cast (n' := 6) (l' := #[true, false, true, false, false, false, false, false]) (by kernel_rfl) (by kernel_rfl) ?_
      exact st0_ _ hHeld
  case rest =>
    as_aux_lemma =>
      obtain ⟨g5, g6, rfl, rfl, k5, k6, hb⟩ := hcut
      have hf2 := (((HF.out.ext hb).more k5).more k6)
      have hpg2 := HPG.out.ext hb
      clear HF HPG hb k5 k6
      have HF := Lib.hid hf2
      clear hf2 hpg2
      go_wp2_with (fail)
      refine wp_region_held_drew (S := fun W => Fr w W [(g6, 27, dv x), (g5, 33, ev x), (w.heap.size, 23, ks a), (w.heap.size + 1, 23, ks b)] []) (by kernel_rfl) ?_ (fun hHeld => ?_)
      · exact (HF.out.sub (by simp) (by simp)).drew
      refine wpAnyH_take (i := 0) (v := .agg (ev x)) rfl (by kernel_rfl) (by kernel_rfl) (by kernel_rfl) (fun _ _ _ h => h) (yields_row (by rfl) 33 (.tmp 5) rfl (g5) rfl 33 (ev x) _ (fun W (h : Fr _ W _ _) => h.get (by simp)) Tryd.underlying33 rfl (info_ev _)) hHeld ?_
      try simp only [Act.put, List.getElem_toArray, List.getElem_cons_succ, List.getElem_cons_zero, List.setIfInBounds_toArray, List.set_cons_zero, List.set_cons_succ]
      refine wpAnyH_take (i := 2) (v := .agg (dv x)) rfl (by kernel_rfl) (by kernel_rfl) (by kernel_rfl) (fun _ _ _ h => h) (yields_row (by rfl) 27 (.tmp 6) rfl (g6) rfl 27 (dv x) _ (fun W (h : Fr _ W _ _) => h.get (by simp)) Tryd.underlying27 rfl (info_dv _)) hHeld ?_
      try simp only [Act.put, List.getElem_toArray, List.getElem_cons_succ, List.getElem_cons_zero, List.setIfInBounds_toArray, List.set_cons_zero, List.set_cons_succ]
      refine wpAnyH_ready (rs := [1]) (by kernel_rfl) (by simp) (AllReadyH.cons rfl (fun K hK => ?_) AllReadyH.nil)
      have h0 := hHeld
      clear hHeld
      try simp only [List.getElem_toArray, List.getElem_cons_succ, List.getElem_cons_zero]
      have H0 := Lib.hid h0
      clear h0
      go_simp
      go_at_call 30
      refine (invR HIX.out _ (Fr.pg H0.out HP.out)).mono ?_
      rintro e vv ⟨rfl, hb⟩
      have h1 := H0.out.ext hb
      clear hb H0
      go_wp2_with (fail)
      refine hK.out _ _ h1 (fun hHeld => ?_)
      clear hK K h1
      try simp only [Act.put, List.getElem_toArray, List.getElem_cons_succ, List.getElem_cons_zero, List.setIfInBounds_toArray, List.set_cons_zero, List.set_cons_succ]
      refine wpAnyH_ready (rs := [3]) (by kernel_rfl) (by simp) (AllReadyH.cons rfl (fun K hK => ?_) AllReadyH.nil)
      have h0 := hHeld
      clear hHeld
      try simp only [List.getElem_toArray, List.getElem_cons_succ, List.getElem_cons_zero]
      have H0 := Lib.hid h0
      clear h0
      go_simp
      go_at_call 31
      refine (invD HIX.out _).mono ?_
      rintro e vv ⟨rfl, hb⟩
      have h1 := H0.out.ext hb
      clear hb H0
      go_wp2_with (fail)
      refine hK.out _ _ h1 (fun hHeld => ?_)
      clear hK K h1
      try simp only [Act.put, List.getElem_toArray, List.getElem_cons_succ, List.getElem_cons_zero, List.setIfInBounds_toArray, List.set_cons_zero, List.set_cons_succ]
      refine wpAnyH_ready (rs := [4]) (by kernel_rfl) (by simp) (AllReadyH.cons rfl (fun K hK => ?_) AllReadyH.nil)
      have h0 := hHeld
      clear hHeld
      try simp only [List.getElem_toArray, List.getElem_cons_succ, List.getElem_cons_zero]
      have H0 := Lib.hid h0
      clear h0
      go_simp
      go_at_call 13
      refine (is_any _ _).mono ?_
      rintro e vv ⟨rfl, hb⟩
      have h1 := H0.out.ext hb
      clear hb H0
      go_wp2_with (fail)
      refine hK.out _ _ h1 (fun hHeld => ?_)
      clear hK K h1
      try simp only [Act.put, List.getElem_toArray, List.getElem_cons_succ, List.getElem_cons_zero, List.setIfInBounds_toArray, List.set_cons_zero, List.set_cons_succ]
      refine wpAnyH_take (i := 5) (v := ?_) rfl (by kernel_rfl) (by kernel_rfl) (by kernel_rfl) (fun _ _ _ h => h) (Or.inl ⟨by rfl, ?_⟩) hHeld ?_
      rotate_left
      · (intro W hSw; (try dsimp only at hSw); (try simp only [List.getElem_toArray, List.getElem_cons_succ, List.getElem_cons_zero]); go_simp; try with_reducible rfl)
      try simp only [Act.put, List.getElem_toArray, List.getElem_cons_succ, List.getElem_cons_zero, List.setIfInBounds_toArray, List.set_cons_zero, List.set_cons_succ]
      refine wpAnyH_take (i := 6) (v := .agg (ev x)) rfl (by kernel_rfl) (by kernel_rfl) (by kernel_rfl) (fun _ _ _ h => h) (yields_row (by rfl) 33 (.tmp 5) rfl (g5) rfl 33 (ev x) _ (fun W (h : Fr _ W _ _) => h.get (by simp)) Tryd.underlying33 rfl (info_ev _)) hHeld ?_
      try simp only [Act.put, List.getElem_toArray, List.getElem_cons_succ, List.getElem_cons_zero, List.setIfInBounds_toArray, List.set_cons_zero, List.set_cons_succ]
      refine wpAnyH_take (i := 7) (v := .agg (ks b)) rfl (by kernel_rfl) (by kernel_rfl) (by kernel_rfl) (fun _ _ _ h => h) (yields_row (by rfl) 23 (.tmp 3) rfl (w.heap.size + 1) rfl 23 (ks b) _ (fun W (h : Fr _ W _ _) => h.get (by simp)) Tryd.underlying23 rfl (info_ks _)) hHeld ?_
      try simp only [Act.put, List.getElem_toArray, List.getElem_cons_succ, List.getElem_cons_zero, List.setIfInBounds_toArray, List.set_cons_zero, List.set_cons_succ]
      refine wpAnyH_take (i := 9) (v := .agg (dv x)) rfl (by kernel_rfl) (by kernel_rfl) (by kernel_rfl) (fun _ _ _ h => h) (yields_row (by rfl) 27 (.tmp 6) rfl (g6) rfl 27 (dv x) _ (fun W (h : Fr _ W _ _) => h.get (by simp)) Tryd.underlying27 rfl (info_dv _)) hHeld ?_
      try simp only [Act.put, List.getElem_toArray, List.getElem_cons_succ, List.getElem_cons_zero, List.setIfInBounds_toArray, List.set_cons_zero, List.set_cons_succ]
      refine wpAnyH_take (i := 10) (v := .agg (ks b)) rfl (by kernel_rfl) (by kernel_rfl) (by kernel_rfl) (fun _ _ _ h => h) (yields_row (by rfl) 23 (.tmp 3) rfl (w.heap.size + 1) rfl 23 (ks b) _ (fun W (h : Fr _ W _ _) => h.get (by simp)) Tryd.underlying23 rfl (info_ks _)) hHeld ?_
      try simp only [Act.put, List.getElem_toArray, List.getElem_cons_succ, List.getElem_cons_zero, List.setIfInBounds_toArray, List.set_cons_zero, List.set_cons_succ]
      refine wpAnyH_ready (rs := [8]) (by kernel_rfl) (by simp) (AllReadyH.cons rfl (fun K hK => ?_) AllReadyH.nil)
      have h0 := hHeld
      clear hHeld
      try simp only [List.getElem_toArray, List.getElem_cons_succ, List.getElem_cons_zero]
      have H0 := Lib.hid h0
      clear h0
      go_simp
      go_at_call 32
      refine (powerR HPX.out _ (Fr.pg H0.out HP.out) Hb.out).mono ?_
      rintro e vv ⟨rfl, hb⟩
      have h1 := H0.out.ext hb
      clear hb H0
      go_wp2_with (fail)
      refine hK.out _ _ h1 (fun hHeld => ?_)
      clear hK K h1
      try simp only [Act.put, List.getElem_toArray, List.getElem_cons_succ, List.getElem_cons_zero, List.setIfInBounds_toArray, List.set_cons_zero, List.set_cons_succ]
      refine wpAnyH_ready (rs := [11]) (by kernel_rfl) (by simp) (AllReadyH.cons rfl (fun K hK => ?_) AllReadyH.nil)
      have h0 := hHeld
      clear hHeld
      try simp only [List.getElem_toArray, List.getElem_cons_succ, List.getElem_cons_zero]
      have H0 := Lib.hid h0
      clear h0
      go_simp
      go_at_call 33
      refine (powerD HPX.out Hb.out _).mono ?_
      rintro e vv ⟨rfl, hb⟩
      have h1 := H0.out.ext hb
      clear hb H0
      go_wp2_with (fail)
      refine hK.out _ _ h1 (fun hHeld => ?_)
      clear hK K h1
      try simp only [Act.put, List.getElem_toArray, List.getElem_cons_succ, List.getElem_cons_zero, List.setIfInBounds_toArray, List.set_cons_zero, List.set_cons_succ]
      refine wpAnyH_ready (rs := [12]) (by kernel_rfl) (by simp) (AllReadyH.cons rfl (fun K hK => ?_) AllReadyH.nil)
      have h0 := hHeld
      clear hHeld
      try simp only [List.getElem_toArray, List.getElem_cons_succ, List.getElem_cons_zero]
      have H0 := Lib.hid h0
      clear h0
      go_simp
      go_at_call 13
      refine (is_any _ _).mono ?_
      rintro e vv ⟨rfl, hb⟩
      have h1 := H0.out.ext hb
      clear hb H0
      go_wp2_with (fail)
      refine hK.out _ _ h1 (fun hHeld => ?_)
      clear hK K h1
      try simp only [Act.put, List.getElem_toArray, List.getElem_cons_succ, List.getElem_cons_zero, List.setIfInBounds_toArray, List.set_cons_zero, List.set_cons_succ]
      refine wpAnyH_take (i := 13) (v := ?_) rfl (by kernel_rfl) (by kernel_rfl) (by kernel_rfl) (fun _ _ _ h => h) (Or.inl ⟨by rfl, ?_⟩) hHeld ?_
      rotate_left
      · (intro W hSw; (try dsimp only at hSw); (try simp only [List.getElem_toArray, List.getElem_cons_succ, List.getElem_cons_zero]); go_simp; try with_reducible rfl)
      try simp only [Act.put, List.getElem_toArray, List.getElem_cons_succ, List.getElem_cons_zero, List.setIfInBounds_toArray, List.set_cons_zero, List.set_cons_succ]
      refine wpAnyH_take (i := 14) (v := ?_) rfl (by kernel_rfl) (by kernel_rfl) (by kernel_rfl) (fun _ _ _ h => h) (Or.inl ⟨by rfl, ?_⟩) hHeld ?_
      rotate_left
      · (intro W hSw; (try dsimp only at hSw); (try simp only [List.getElem_toArray, List.getElem_cons_succ, List.getElem_cons_zero]); go_simp; try with_reducible rfl)
      try simp only [Act.put, List.getElem_toArray, List.getElem_cons_succ, List.getElem_cons_zero, List.setIfInBounds_toArray, List.set_cons_zero, List.set_cons_succ]
      refine wpAnyH_ready (rs := [15]) (by kernel_rfl) (by simp) (AllReadyH.cons rfl (fun K hK => ?_) AllReadyH.nil)
      have h0 := hHeld
      clear hHeld
      try simp only [List.getElem_toArray, List.getElem_cons_succ, List.getElem_cons_zero]
      have H0 := Lib.hid h0
      clear h0
      go_simp
      go_at_call 20
      refine (known_any _ (Fr.pg H0.out HP.out)).mono ?_
      rintro e vv ⟨rfl, hb⟩
      have h1 := H0.out.ext hb
      clear hb H0
      go_wp2_with (fail)
      refine hK.out _ _ h1 (fun hHeld => ?_)
      clear hK K h1
      try simp only [Act.put, List.getElem_toArray, List.getElem_cons_succ, List.getElem_cons_zero, List.setIfInBounds_toArray, List.set_cons_zero, List.set_cons_succ]
      refine wpAnyH_take (i := 16) (v := ?_) rfl (by kernel_rfl) (by kernel_rfl) (by kernel_rfl) (fun _ _ _ h => h) (Or.inl ⟨by rfl, ?_⟩) hHeld ?_
      rotate_left
      · (intro W hSw; (try dsimp only at hSw); (try simp only [List.getElem_toArray, List.getElem_cons_succ, List.getElem_cons_zero]); go_simp; try with_reducible rfl)
      try simp only [Act.put, List.getElem_toArray, List.getElem_cons_succ, List.getElem_cons_zero, List.setIfInBounds_toArray, List.set_cons_zero, List.set_cons_succ]
      refine wpAnyH_take (i := 17) (v := ?_) rfl (by kernel_rfl) (by kernel_rfl) (by kernel_rfl) (fun _ _ _ h => h) (Or.inl ⟨by rfl, ?_⟩) hHeld ?_
      rotate_left
      · (intro W hSw; (try dsimp only at hSw); (try simp only [List.getElem_toArray, List.getElem_cons_succ, List.getElem_cons_zero]); go_simp; try with_reducible rfl)
      try simp only [Act.put, List.getElem_toArray, List.getElem_cons_succ, List.getElem_cons_zero, List.setIfInBounds_toArray, List.set_cons_zero, List.set_cons_succ]
      refine wpAnyH_done (by kernel_rfl) ?_ _
      have HB := Lib.hid hHeld.below
      clear hHeld
      go_wp2_with (fail)
      go_ret
      exact ⟨rfl, HB.out⟩
end Go.Proofs.YtcmlfenjjaanpaaDoor
