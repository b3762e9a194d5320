/- The walk of FieldRoots: by whether a square is asked for and whether there is a root (three texts: a text may have 300,000 bytes). -/
import Derived.Test.YtnfckoamjeafhaaDoorRro
import Derived.Test.YtnfckoamjeafhaaDoorLi0
import Derived.Deep.DeepCutAuto
import Derived.Deep.CutBlock
namespace Go.Proofs.YtnfckoamjeafhaaDoor
set_option linter.unusedVariables false
set_option linter.unusedSimpArgs false
open Go.RowKit

attribute [local irreducible] dv ds EE II rootC rootR evenOf
theorem ofK_val_yy (y : Fin PP) : ofK y.val = y := by
  apply Fin.ext
  have := y.isLt
  show y.val % 57896044618658097711785492504343953926634992332820282019728792003956564819968 % PP = y.val
  have e : PP = 57896044618658097711785492504343953926634992332820282019728792003956564819949 := PP_eq
  rw [Nat.mod_eq_of_lt (a := y.val) (by omega), Nat.mod_eq_of_lt this]
set_option maxRecDepth 100000 in
set_option maxHeartbeats 16000000 in
theorem law_roots_yy {x y u r : Fin PP} (a b : Nat) (w : World) (hx : x = ofK a) (hy : y = ofK b) (hu : u = x * x * y) (hr : (r, true) = rootC EE II u y) (hpg : PG w) (ha : a < 115792089237316195423570985008687907853269984665640564039457584007913129639936) (hb : b < 115792089237316195423570985008687907853269984665640564039457584007913129639936) : Calls Tryd.prog 3 #[.agg (ks a), .agg (ks b), .bool true] w (BPost true w) := by
  have hrr := hr
  rw [rootC_eq PP_prime PP_EE II_sq] at hrr
  have hsp := rootC_spec (e := EE) (i := II) (u := u) (v := y) (by rw [← hr])
  rw [← hr] at hsp
  have hsq : y * (r * r) = u := hsp.1
  have hev : ¬ r.val % 2 = 1 := by
    obtain ⟨q, hq⟩ := hsp.2
    have hq : r = evenOf q := hq
    have := evenOf_even q (by decide +kernel)
    rw [hq]
    omega
  have HSQ := Lib.hid hsq
  have HEV := Lib.hid hev
  clear hsp hsq hev
  have hmu : ∀ W, PG W → Calls Tryd.prog 6 #[.agg (ev (x * x)), .agg (ev y)] W (EPost u W) := fun W hp => by rw [hu]; exact mulF (x * x) y W hp
  have HMU := Lib.hid hmu
  clear hmu hu
  obtain ⟨nu, hnu⟩ : ∃ k, u.val = k := ⟨_, rfl⟩
  have hnl : nu < 115792089237316195423570985008687907853269984665640564039457584007913129639936 := by rw [← hnu]; exact PP_lt256 u.isLt
  have hun : u = ofK nu := by rw [← hnu]; exact (ofK_val_yy u).symm
  have HR := Lib.hid hr
  have HRR := Lib.hid hrr
  have HNU := Lib.hid hnu
  have HNL := Lib.hid hnl
  have HUN := Lib.hid hun
  have Ha := Lib.hid ha
  have Hb := Lib.hid hb
  have HX := Lib.hid hx
  have HY := Lib.hid hy
  clear hr hrr hnu hnl hun ha hb hx hy
  have hfr := ((Fr.start w).row (ks a) 23 (g := w.heap.size) rfl).row (ks b) 23 (g := w.heap.size + 1) (by simp)
  have hz : w.heap.size + 1 < ((w.alloc (.cells (ks a) 23)).alloc (.cells (ks b) 23)).heap.size := by simp <;> omega
  have HP := Lib.hid hpg
  have hpg0 := Fr.pg hfr hpg
  clear hpg
  go_enter Tryd.func3, Tryd.ntmps3
  go_wp2_with (fail)
  obtain ⟨wx, hwx⟩ : ∃ wx : World, wx = ((w.alloc (.cells (ks a) 23)).alloc (.cells (ks b) 23)) := ⟨_, rfl⟩
  rw [← hwx] at hfr hpg0 hz ⊢
  clear hwx
  have HF := Lib.hid hfr
  have HPG := Lib.hid hpg0
  clear hfr hpg0
  go_cut [7, 8] (fun s7 s8 wz => ∃ g7 g8 : Nat, s7 = .pointer (some ⟨g7, 0, none⟩) ∧ s8 = .pointer (some ⟨g8, 0, none⟩) ∧ wx.heap.size ≤ g7 ∧ wx.heap.size ≤ g8 ∧ g7 ≠ g8 ∧ Blk wz g7 27 (ev x) ∧ Blk wz g8 27 (ev y) ∧ Below wx.heap.size wx wz)
  case first =>
    as_aux_lemma =>
      have hn := (HF.out.now.sub (L' := [(w.heap.size, 23, ks a), (w.heap.size + 1, 23, ks b)]) (by simp))
      have HN := Lib.hid hn
      clear hn
      refine wp_region_held_drew (S := fun W => Fn wx W [(w.heap.size, 23, ks a), (w.heap.size + 1, 23, ks b)]) (by kernel_rfl) ?_ (fun hHeld => ?_)
      · exact HN.out.drew
      refine wpAnyH_take (i := 0) (v := .agg (ks a)) rfl (by kernel_rfl) (by kernel_rfl) (by kernel_rfl) (fun _ _ _ h => h) (yields_row (by rfl) 23 (.tmp 3) rfl (w.heap.size) rfl 23 (ks a) _ (fun W (h : Fn _ W _) => h.get (by simp)) Tryd.underlying23 rfl (info_ks _)) hHeld ?_
      try simp only [Act.put, List.getElem_toArray, List.getElem_cons_succ, List.getElem_cons_zero, List.setIfInBounds_toArray, List.set_cons_zero, List.set_cons_succ]
      refine wpAnyH_take (i := 2) (v := .agg (ks b)) rfl (by kernel_rfl) (by kernel_rfl) (by kernel_rfl) (fun _ _ _ h => h) (yields_row (by rfl) 23 (.tmp 4) rfl (w.heap.size + 1) rfl 23 (ks b) _ (fun W (h : Fn _ W _) => h.get (by simp)) Tryd.underlying23 rfl (info_ks _)) hHeld ?_
      try simp only [Act.put, List.getElem_toArray, List.getElem_cons_succ, List.getElem_cons_zero, List.setIfInBounds_toArray, List.set_cons_zero, List.set_cons_succ]
      refine wpAnyH_name ?_
      intro ops Q hops hQ
      have st2_45 : ∀ (g7 g8 : Nat) (W : World), Fn wx W [(w.heap.size, 23, ks a), (w.heap.size + 1, 23, ks b)] → Blk W g7 27 #[.int .u64 0, .int .u64 0, .int .u64 0, .int .u64 0] → wx.heap.size ≤ g7 → Blk W g8 27 #[.int .u64 0, .int .u64 0, .int .u64 0, .int .u64 0] → wx.heap.size ≤ g8 → g7 ≠ g8 → wpAnyH Tryd.prog .any ops Q (fun W => Fn wx W [(w.heap.size, 23, ks a), (w.heap.size + 1, 23, ks b)]) 2 #[true, true, true, true, true, true, false, false] { tmps := #[.agg (ks a), .agg (ks b), .bool true, .pointer (some ⟨w.heap.size, 0, none⟩), .pointer (some ⟨w.heap.size + 1, 0, none⟩), undef, .bool false, .pointer (some ⟨g7, 0, none⟩), .pointer (some ⟨g8, 0, none⟩), undef, undef, undef, undef, undef, undef, .agg (ks a), .agg (ev x), .agg (ks b), .agg (ev y), undef, undef, undef, undef, undef, undef, undef, undef, undef, undef, undef, undef, undef, undef, undef, undef, undef, undef, undef, undef, undef, undef, undef, undef, undef, undef, undef, undef, undef, undef, undef, undef, undef, undef, undef, undef, undef, undef, undef, undef, undef, undef, undef, undef, undef, undef, undef, undef, undef, undef, undef, undef, undef, undef, undef, undef], defers := [] } W := by
        as_aux_lemma =>
          intro g7 g8 W hHeld K4 Z4 K5 Z5 n4_5
          rw [← hops]
          rw [← hQ]
          have KK4 := Lib.hid K4
          clear K4
          have KK5 := Lib.hid K5
          clear K5
          refine wpAnyH_ready (rs := [6]) (by kernel_rfl) (by simp) (AllReadyH.cons rfl (fun K hK => ?_) AllReadyH.nil)
          have h0 := hHeld
          clear hHeld
          try simp only [List.getElem_toArray, List.getElem_cons_succ, List.getElem_cons_zero]
          rw [if_pos (by rfl)]
          refine wp_store_row 27 (.tmp 7) (.tmp 16) rfl g7 (ev x) rfl rfl 27 _ KK4.out (info_ev _) rfl (ev_one _) ?_
          refine hK.out _ _ (Fn.setFresh h0 Z4 _) (fun hHeld => ?_)
          have J4 := Lib.hid (KK4.out.setRow_same (ev x))
          clear KK4
          have KK4 := J4
          clear J4
          have J5 := Lib.hid (KK5.out.setRow_other (Ne.symm n4_5) (ev x))
          clear KK5
          have KK5 := J5
          clear J5
          clear hK K h0
          try simp only [Act.put, List.getElem_toArray, List.getElem_cons_succ, List.getElem_cons_zero, List.setIfInBounds_toArray, List.set_cons_zero, List.set_cons_succ]
          refine wpAnyH_ready (rs := [7]) (by kernel_rfl) (by simp) (AllReadyH.cons rfl (fun K hK => ?_) AllReadyH.nil)
          have h0 := hHeld
          clear hHeld
          try simp only [List.getElem_toArray, List.getElem_cons_succ, List.getElem_cons_zero]
          rw [if_pos (by rfl)]
          refine wp_store_row 27 (.tmp 8) (.tmp 18) rfl g8 (ev y) rfl rfl 27 _ KK5.out (info_ev _) rfl (ev_one _) ?_
          refine hK.out _ _ (Fn.setFresh h0 Z5 _) (fun hHeld => ?_)
          have J5 := Lib.hid (KK5.out.setRow_same (ev y))
          clear KK5
          have KK5 := J5
          clear J5
          have J4 := Lib.hid (KK4.out.setRow_other n4_5 (ev y))
          clear KK4
          have KK4 := J4
          clear J4
          clear hK K h0
          try simp only [Act.put, List.getElem_toArray, List.getElem_cons_succ, List.getElem_cons_zero, List.setIfInBounds_toArray, List.set_cons_zero, List.set_cons_succ]
          refine wpAnyH_done (by kernel_rfl) ?_ _
          have HB := Lib.hid hHeld.below
          clear hHeld
          go_wp2_with (fail)
          go_meet
          exact ⟨g7, g8, rfl, rfl, Z4, Z5, n4_5, KK4.out, KK5.out, HB.out⟩
      have st2_4 : ∀ (g7 : Nat) (W : World), Fn wx W [(w.heap.size, 23, ks a), (w.heap.size + 1, 23, ks b)] → Blk W g7 27 #[.int .u64 0, .int .u64 0, .int .u64 0, .int .u64 0] → wx.heap.size ≤ g7 → wpAnyH Tryd.prog .any ops Q (fun W => Fn wx W [(w.heap.size, 23, ks a), (w.heap.size + 1, 23, ks b)]) 3 #[true, true, true, true, true, false, false, false] { tmps := #[.agg (ks a), .agg (ks b), .bool true, .pointer (some ⟨w.heap.size, 0, none⟩), .pointer (some ⟨w.heap.size + 1, 0, none⟩), undef, .bool false, .pointer (some ⟨g7, 0, none⟩), undef, undef, undef, undef, undef, undef, undef, .agg (ks a), .agg (ev x), .agg (ks b), .agg (ev y), undef, undef, undef, undef, undef, undef, undef, undef, undef, undef, undef, undef, undef, undef, undef, undef, undef, undef, undef, undef, undef, undef, undef, undef, undef, undef, undef, undef, undef, undef, undef, undef, undef, undef, undef, undef, undef, undef, undef, undef, undef, undef, undef, undef, undef, undef, undef, undef, undef, undef, undef, undef, undef, undef, undef, undef], defers := [] } W := by
        as_aux_lemma =>
          intro g7 W hHeld K4 Z4
          rw [← hops]
          refine wpAnyH_ready (rs := [5]) (by kernel_rfl) (by simp) (AllReadyH.cons rfl (fun K hK => ?_) AllReadyH.nil)
          have h0 := hHeld
          clear hHeld
          try simp only [List.getElem_toArray, List.getElem_cons_succ, List.getElem_cons_zero]
          obtain ⟨kz, hg⟩ := Fn.fresh h0 27 #[.int .u64 0, .int .u64 0, .int .u64 0, .int .u64 0]
          have KZ := Lib.hid kz
          have HG := Lib.hid hg
          have H0 := Lib.hid h0
          clear kz hg h0
          have KH4 := Lib.hid K4
          go_simp
          refine hK.out _ _ (Fn.pass H0.out _) (fun hHeld => ?_)
          clear hK K H0
          try simp only [Act.put, List.getElem_toArray, List.getElem_cons_succ, List.getElem_cons_zero, List.setIfInBounds_toArray, List.set_cons_zero, List.set_cons_succ]
          have k4 := KH4.out.alloc (.cells #[.int .u64 0, .int .u64 0, .int .u64 0, .int .u64 0] 27)
          have z4 := Z4
          have k5 := KZ.out
          have z5 := HG.out
          refine wpAnyH_cast (n' := 2) (l' := #[true, true, true, true, true, true, false, false]) (by kernel_rfl) (by kernel_rfl) ?_
          have hh := st2_45 g7 _ _ hHeld k4 z4 k5 z5 (Nat.ne_of_lt K4.lt)
          rw [← hops] at hh
          exact hh
      have st2_5 : ∀ (g8 : Nat) (W : World), Fn wx W [(w.heap.size, 23, ks a), (w.heap.size + 1, 23, ks b)] → Blk W g8 27 #[.int .u64 0, .int .u64 0, .int .u64 0, .int .u64 0] → wx.heap.size ≤ g8 → wpAnyH Tryd.prog .any ops Q (fun W => Fn wx W [(w.heap.size, 23, ks a), (w.heap.size + 1, 23, ks b)]) 3 #[true, true, true, true, false, true, false, false] { tmps := #[.agg (ks a), .agg (ks b), .bool true, .pointer (some ⟨w.heap.size, 0, none⟩), .pointer (some ⟨w.heap.size + 1, 0, none⟩), undef, .bool false, undef, .pointer (some ⟨g8, 0, none⟩), undef, undef, undef, undef, undef, undef, .agg (ks a), .agg (ev x), .agg (ks b), .agg (ev y), undef, undef, undef, undef, undef, undef, undef, undef, undef, undef, undef, undef, undef, undef, undef, undef, undef, undef, undef, undef, undef, undef, undef, undef, undef, undef, undef, undef, undef, undef, undef, undef, undef, undef, undef, undef, undef, undef, undef, undef, undef, undef, undef, undef, undef, undef, undef, undef, undef, undef, undef, undef, undef, undef, undef, undef], defers := [] } W := by
        as_aux_lemma =>
          clear st2_4
          intro g8 W hHeld K5 Z5
          rw [← hops]
          refine wpAnyH_ready (rs := [4]) (by kernel_rfl) (by simp) (AllReadyH.cons rfl (fun K hK => ?_) AllReadyH.nil)
          have h0 := hHeld
          clear hHeld
          try simp only [List.getElem_toArray, List.getElem_cons_succ, List.getElem_cons_zero]
          obtain ⟨kz, hg⟩ := Fn.fresh h0 27 #[.int .u64 0, .int .u64 0, .int .u64 0, .int .u64 0]
          have KZ := Lib.hid kz
          have HG := Lib.hid hg
          have H0 := Lib.hid h0
          clear kz hg h0
          have KH5 := Lib.hid K5
          go_simp
          refine hK.out _ _ (Fn.pass H0.out _) (fun hHeld => ?_)
          clear hK K H0
          try simp only [Act.put, List.getElem_toArray, List.getElem_cons_succ, List.getElem_cons_zero, List.setIfInBounds_toArray, List.set_cons_zero, List.set_cons_succ]
          have k5 := KH5.out.alloc (.cells #[.int .u64 0, .int .u64 0, .int .u64 0, .int .u64 0] 27)
          have z5 := Z5
          have k4 := KZ.out
          have z4 := HG.out
          refine wpAnyH_cast (n' := 2) (l' := #[true, true, true, true, true, true, false, false]) (by kernel_rfl) (by kernel_rfl) ?_
          have hh := st2_45 _ g8 _ hHeld k4 z4 k5 z5 (Ne.symm (Nat.ne_of_lt K5.lt))
          rw [← hops] at hh
          exact hh
      have st1_45 : ∀ (g7 g8 : Nat) (W : World), Fn wx W [(w.heap.size, 23, ks a), (w.heap.size + 1, 23, ks b)] → Blk W g7 27 #[.int .u64 0, .int .u64 0, .int .u64 0, .int .u64 0] → wx.heap.size ≤ g7 → Blk W g8 27 #[.int .u64 0, .int .u64 0, .int .u64 0, .int .u64 0] → wx.heap.size ≤ g8 → g7 ≠ g8 → wpAnyH Tryd.prog .any ops Q (fun W => Fn wx W [(w.heap.size, 23, ks a), (w.heap.size + 1, 23, ks b)]) 3 #[true, true, true, false, true, true, false, false] { tmps := #[.agg (ks a), .agg (ks b), .bool true, .pointer (some ⟨w.heap.size, 0, none⟩), .pointer (some ⟨w.heap.size + 1, 0, none⟩), undef, .bool false, .pointer (some ⟨g7, 0, none⟩), .pointer (some ⟨g8, 0, none⟩), undef, undef, undef, undef, undef, undef, .agg (ks a), .agg (ev x), .agg (ks b), undef, undef, undef, undef, undef, undef, undef, undef, undef, undef, undef, undef, undef, undef, undef, undef, undef, undef, undef, undef, undef, undef, undef, undef, undef, undef, undef, undef, undef, undef, undef, undef, undef, undef, undef, undef, undef, undef, undef, undef, undef, undef, undef, undef, undef, undef, undef, undef, undef, undef, undef, undef, undef, undef, undef, undef, undef], defers := [] } W := by
        as_aux_lemma =>
          clear st2_5 st2_4
          intro g7 g8 W hHeld K4 Z4 K5 Z5 n4_5
          rw [← hops]
          refine wpAnyH_ready (rs := [3]) (by kernel_rfl) (by simp) (AllReadyH.cons rfl (fun K hK => ?_) AllReadyH.nil)
          have KH4 := Lib.hid K4
          have KH5 := Lib.hid K5
          have h0 := hHeld
          clear hHeld
          try simp only [List.getElem_toArray, List.getElem_cons_succ, List.getElem_cons_zero]
          have H0 := Lib.hid h0
          clear h0
          go_simp
          go_at_call 4
          refine (ofR HY.out _ (HPG.out.ext H0.out.below) Hb.out).mono ?_
          rintro e vv ⟨rfl, hb⟩
          have KJ4 := Lib.hid (KH4.out.below hb KH4.out.lt)
          have KJ5 := Lib.hid (KH5.out.below hb KH5.out.lt)
          have h1 := H0.out.ext hb
          clear hb H0
          go_wp2_with (fail)
          refine hK.out _ _ h1 (fun hHeld => ?_)
          clear hK K h1
          try simp only [Act.put, List.getElem_toArray, List.getElem_cons_succ, List.getElem_cons_zero, List.setIfInBounds_toArray, List.set_cons_zero, List.set_cons_succ]
          have k4 := KJ4.out
          have k5 := KJ5.out
          have z4 := Z4
          have z5 := Z5
          refine wpAnyH_cast (n' := 2) (l' := #[true, true, true, true, true, true, false, false]) (by kernel_rfl) (by kernel_rfl) ?_
          have hh := st2_45 g7 g8 _ hHeld k4 z4 k5 z5 n4_5
          rw [← hops] at hh
          exact hh
      have st2_ : ∀ (W : World), Fn wx W [(w.heap.size, 23, ks a), (w.heap.size + 1, 23, ks b)] → wpAnyH Tryd.prog .any ops Q (fun W => Fn wx W [(w.heap.size, 23, ks a), (w.heap.size + 1, 23, ks b)]) 4 #[true, true, true, true, false, false, false, false] { tmps := #[.agg (ks a), .agg (ks b), .bool true, .pointer (some ⟨w.heap.size, 0, none⟩), .pointer (some ⟨w.heap.size + 1, 0, none⟩), undef, .bool false, undef, undef, undef, undef, undef, undef, undef, undef, .agg (ks a), .agg (ev x), .agg (ks b), .agg (ev y), undef, undef, undef, undef, undef, undef, undef, undef, undef, undef, undef, undef, undef, undef, undef, undef, undef, undef, undef, undef, undef, undef, undef, undef, undef, undef, undef, undef, undef, undef, undef, undef, undef, undef, undef, undef, undef, undef, undef, undef, undef, undef, undef, undef, undef, undef, undef, undef, undef, undef, undef, undef, undef, undef, undef, undef], defers := [] } W := by
        as_aux_lemma =>
          clear st1_45 st2_45
          intro W hHeld
          rw [← hops]
          refine wpAnyH_ready (rs := [4, 5]) (by kernel_rfl) (by simp) (AllReadyH.cons rfl (fun K hK => ?_) (AllReadyH.cons rfl (fun K hK => ?_) AllReadyH.nil))
          · have h0 := hHeld
            clear hHeld
            try simp only [List.getElem_toArray, List.getElem_cons_succ, List.getElem_cons_zero]
            obtain ⟨kz, hg⟩ := Fn.fresh h0 27 #[.int .u64 0, .int .u64 0, .int .u64 0, .int .u64 0]
            have KZ := Lib.hid kz
            have HG := Lib.hid hg
            have H0 := Lib.hid h0
            clear kz hg h0
            go_simp
            refine hK.out _ _ (Fn.pass H0.out _) (fun hHeld => ?_)
            clear hK K H0
            try simp only [Act.put, List.getElem_toArray, List.getElem_cons_succ, List.getElem_cons_zero, List.setIfInBounds_toArray, List.set_cons_zero, List.set_cons_succ]
            have k4 := KZ.out
            have z4 := HG.out
            refine wpAnyH_cast (n' := 3) (l' := #[true, true, true, true, true, false, false, false]) (by kernel_rfl) (by kernel_rfl) ?_
            have hh := st2_4 _ _ hHeld k4 z4
            rw [← hops] at hh
            exact hh
          · have h0 := hHeld
            clear hHeld
            try simp only [List.getElem_toArray, List.getElem_cons_succ, List.getElem_cons_zero]
            obtain ⟨kz, hg⟩ := Fn.fresh h0 27 #[.int .u64 0, .int .u64 0, .int .u64 0, .int .u64 0]
            have KZ := Lib.hid kz
            have HG := Lib.hid hg
            have H0 := Lib.hid h0
            clear kz hg h0
            go_simp
            refine hK.out _ _ (Fn.pass H0.out _) (fun hHeld => ?_)
            clear hK K H0
            try simp only [Act.put, List.getElem_toArray, List.getElem_cons_succ, List.getElem_cons_zero, List.setIfInBounds_toArray, List.set_cons_zero, List.set_cons_succ]
            have k5 := KZ.out
            have z5 := HG.out
            refine wpAnyH_cast (n' := 3) (l' := #[true, true, true, true, false, true, false, false]) (by kernel_rfl) (by kernel_rfl) ?_
            have hh := st2_5 _ _ hHeld k5 z5
            rw [← hops] at hh
            exact hh
      have st1_4 : ∀ (g7 : Nat) (W : World), Fn wx W [(w.heap.size, 23, ks a), (w.heap.size + 1, 23, ks b)] → Blk W g7 27 #[.int .u64 0, .int .u64 0, .int .u64 0, .int .u64 0] → wx.heap.size ≤ g7 → wpAnyH Tryd.prog .any ops Q (fun W => Fn wx W [(w.heap.size, 23, ks a), (w.heap.size + 1, 23, ks b)]) 4 #[true, true, true, false, true, false, false, false] { tmps := #[.agg (ks a), .agg (ks b), .bool true, .pointer (some ⟨w.heap.size, 0, none⟩), .pointer (some ⟨w.heap.size + 1, 0, none⟩), undef, .bool false, .pointer (some ⟨g7, 0, none⟩), undef, undef, undef, undef, undef, undef, undef, .agg (ks a), .agg (ev x), .agg (ks b), undef, undef, undef, undef, undef, undef, undef, undef, undef, undef, undef, undef, undef, undef, undef, undef, undef, undef, undef, undef, undef, undef, undef, undef, undef, undef, undef, undef, undef, undef, undef, undef, undef, undef, undef, undef, undef, undef, undef, undef, undef, undef, undef, undef, undef, undef, undef, undef, undef, undef, undef, undef, undef, undef, undef, undef, undef], defers := [] } W := by
        as_aux_lemma =>
          clear st2_ st2_5 st2_45
          intro g7 W hHeld K4 Z4
          rw [← hops]
          refine wpAnyH_ready (rs := [3, 5]) (by kernel_rfl) (by simp) (AllReadyH.cons rfl (fun K hK => ?_) (AllReadyH.cons rfl (fun K hK => ?_) AllReadyH.nil))
          · have KH4 := Lib.hid K4
            have h0 := hHeld
            clear hHeld
            try simp only [List.getElem_toArray, List.getElem_cons_succ, List.getElem_cons_zero]
            have H0 := Lib.hid h0
            clear h0
            go_simp
            go_at_call 4
            refine (ofR HY.out _ (HPG.out.ext H0.out.below) Hb.out).mono ?_
            rintro e vv ⟨rfl, hb⟩
            have KJ4 := Lib.hid (KH4.out.below hb KH4.out.lt)
            have h1 := H0.out.ext hb
            clear hb H0
            go_wp2_with (fail)
            refine hK.out _ _ h1 (fun hHeld => ?_)
            clear hK K h1
            try simp only [Act.put, List.getElem_toArray, List.getElem_cons_succ, List.getElem_cons_zero, List.setIfInBounds_toArray, List.set_cons_zero, List.set_cons_succ]
            have k4 := KJ4.out
            have z4 := Z4
            refine wpAnyH_cast (n' := 3) (l' := #[true, true, true, true, true, false, false, false]) (by kernel_rfl) (by kernel_rfl) ?_
            have hh := st2_4 g7 _ hHeld k4 z4
            rw [← hops] at hh
            exact hh
          · have h0 := hHeld
            clear hHeld
            try simp only [List.getElem_toArray, List.getElem_cons_succ, List.getElem_cons_zero]
            obtain ⟨kz, hg⟩ := Fn.fresh h0 27 #[.int .u64 0, .int .u64 0, .int .u64 0, .int .u64 0]
            have KZ := Lib.hid kz
            have HG := Lib.hid hg
            have H0 := Lib.hid h0
            clear kz hg h0
            have KH4 := Lib.hid K4
            go_simp
            refine hK.out _ _ (Fn.pass H0.out _) (fun hHeld => ?_)
            clear hK K H0
            try simp only [Act.put, List.getElem_toArray, List.getElem_cons_succ, List.getElem_cons_zero, List.setIfInBounds_toArray, List.set_cons_zero, List.set_cons_succ]
            have k4 := KH4.out.alloc (.cells #[.int .u64 0, .int .u64 0, .int .u64 0, .int .u64 0] 27)
            have z4 := Z4
            have k5 := KZ.out
            have z5 := HG.out
            refine wpAnyH_cast (n' := 3) (l' := #[true, true, true, false, true, true, false, false]) (by kernel_rfl) (by kernel_rfl) ?_
            have hh := st1_45 g7 _ _ hHeld k4 z4 k5 z5 (Nat.ne_of_lt K4.lt)
            rw [← hops] at hh
            exact hh
      have st1_5 : ∀ (g8 : Nat) (W : World), Fn wx W [(w.heap.size, 23, ks a), (w.heap.size + 1, 23, ks b)] → Blk W g8 27 #[.int .u64 0, .int .u64 0, .int .u64 0, .int .u64 0] → wx.heap.size ≤ g8 → wpAnyH Tryd.prog .any ops Q (fun W => Fn wx W [(w.heap.size, 23, ks a), (w.heap.size + 1, 23, ks b)]) 4 #[true, true, true, false, false, true, false, false] { tmps := #[.agg (ks a), .agg (ks b), .bool true, .pointer (some ⟨w.heap.size, 0, none⟩), .pointer (some ⟨w.heap.size + 1, 0, none⟩), undef, .bool false, undef, .pointer (some ⟨g8, 0, none⟩), undef, undef, undef, undef, undef, undef, .agg (ks a), .agg (ev x), .agg (ks b), undef, undef, undef, undef, undef, undef, undef, undef, undef, undef, undef, undef, undef, undef, undef, undef, undef, undef, undef, undef, undef, undef, undef, undef, undef, undef, undef, undef, undef, undef, undef, undef, undef, undef, undef, undef, undef, undef, undef, undef, undef, undef, undef, undef, undef, undef, undef, undef, undef, undef, undef, undef, undef, undef, undef, undef, undef], defers := [] } W := by
        as_aux_lemma =>
          clear st1_4 st2_ st2_4 st2_45
          intro g8 W hHeld K5 Z5
          rw [← hops]
          refine wpAnyH_ready (rs := [3, 4]) (by kernel_rfl) (by simp) (AllReadyH.cons rfl (fun K hK => ?_) (AllReadyH.cons rfl (fun K hK => ?_) AllReadyH.nil))
          · have KH5 := Lib.hid K5
            have h0 := hHeld
            clear hHeld
            try simp only [List.getElem_toArray, List.getElem_cons_succ, List.getElem_cons_zero]
            have H0 := Lib.hid h0
            clear h0
            go_simp
            go_at_call 4
            refine (ofR HY.out _ (HPG.out.ext H0.out.below) Hb.out).mono ?_
            rintro e vv ⟨rfl, hb⟩
            have KJ5 := Lib.hid (KH5.out.below hb KH5.out.lt)
            have h1 := H0.out.ext hb
            clear hb H0
            go_wp2_with (fail)
            refine hK.out _ _ h1 (fun hHeld => ?_)
            clear hK K h1
            try simp only [Act.put, List.getElem_toArray, List.getElem_cons_succ, List.getElem_cons_zero, List.setIfInBounds_toArray, List.set_cons_zero, List.set_cons_succ]
            have k5 := KJ5.out
            have z5 := Z5
            refine wpAnyH_cast (n' := 3) (l' := #[true, true, true, true, false, true, false, false]) (by kernel_rfl) (by kernel_rfl) ?_
            have hh := st2_5 g8 _ hHeld k5 z5
            rw [← hops] at hh
            exact hh
          · have h0 := hHeld
            clear hHeld
            try simp only [List.getElem_toArray, List.getElem_cons_succ, List.getElem_cons_zero]
            obtain ⟨kz, hg⟩ := Fn.fresh h0 27 #[.int .u64 0, .int .u64 0, .int .u64 0, .int .u64 0]
            have KZ := Lib.hid kz
            have HG := Lib.hid hg
            have H0 := Lib.hid h0
            clear kz hg h0
            have KH5 := Lib.hid K5
            go_simp
            refine hK.out _ _ (Fn.pass H0.out _) (fun hHeld => ?_)
            clear hK K H0
            try simp only [Act.put, List.getElem_toArray, List.getElem_cons_succ, List.getElem_cons_zero, List.setIfInBounds_toArray, List.set_cons_zero, List.set_cons_succ]
            have k5 := KH5.out.alloc (.cells #[.int .u64 0, .int .u64 0, .int .u64 0, .int .u64 0] 27)
            have z5 := Z5
            have k4 := KZ.out
            have z4 := HG.out
            refine wpAnyH_cast (n' := 3) (l' := #[true, true, true, false, true, true, false, false]) (by kernel_rfl) (by kernel_rfl) ?_
            have hh := st1_45 _ g8 _ hHeld k4 z4 k5 z5 (Ne.symm (Nat.ne_of_lt K5.lt))
            rw [← hops] at hh
            exact hh
      have st0_45 : ∀ (g7 g8 : Nat) (W : World), Fn wx W [(w.heap.size, 23, ks a), (w.heap.size + 1, 23, ks b)] → Blk W g7 27 #[.int .u64 0, .int .u64 0, .int .u64 0, .int .u64 0] → wx.heap.size ≤ g7 → Blk W g8 27 #[.int .u64 0, .int .u64 0, .int .u64 0, .int .u64 0] → wx.heap.size ≤ g8 → g7 ≠ g8 → wpAnyH Tryd.prog .any ops Q (fun W => Fn wx W [(w.heap.size, 23, ks a), (w.heap.size + 1, 23, ks b)]) 4 #[true, false, true, false, true, true, false, false] { tmps := #[.agg (ks a), .agg (ks b), .bool true, .pointer (some ⟨w.heap.size, 0, none⟩), .pointer (some ⟨w.heap.size + 1, 0, none⟩), undef, .bool false, .pointer (some ⟨g7, 0, none⟩), .pointer (some ⟨g8, 0, none⟩), undef, undef, undef, undef, undef, undef, .agg (ks a), undef, .agg (ks b), undef, undef, undef, undef, undef, undef, undef, undef, undef, undef, undef, undef, undef, undef, undef, undef, undef, undef, undef, undef, undef, undef, undef, undef, undef, undef, undef, undef, undef, undef, undef, undef, undef, undef, undef, undef, undef, undef, undef, undef, undef, undef, undef, undef, undef, undef, undef, undef, undef, undef, undef, undef, undef, undef, undef, undef, undef], defers := [] } W := by
        as_aux_lemma =>
          clear st1_5 st1_4 st2_ st2_5 st2_4 st2_45
          intro g7 g8 W hHeld K4 Z4 K5 Z5 n4_5
          rw [← hops]
          refine wpAnyH_ready (rs := [1]) (by kernel_rfl) (by simp) (AllReadyH.cons rfl (fun K hK => ?_) AllReadyH.nil)
          have KH4 := Lib.hid K4
          have KH5 := Lib.hid K5
          have h0 := hHeld
          clear hHeld
          try simp only [List.getElem_toArray, List.getElem_cons_succ, List.getElem_cons_zero]
          have H0 := Lib.hid h0
          clear h0
          go_simp
          go_at_call 4
          refine (ofR HX.out _ (HPG.out.ext H0.out.below) Ha.out).mono ?_
          rintro e vv ⟨rfl, hb⟩
          have KJ4 := Lib.hid (KH4.out.below hb KH4.out.lt)
          have KJ5 := Lib.hid (KH5.out.below hb KH5.out.lt)
          have h1 := H0.out.ext hb
          clear hb H0
          go_wp2_with (fail)
          refine hK.out _ _ h1 (fun hHeld => ?_)
          clear hK K h1
          try simp only [Act.put, List.getElem_toArray, List.getElem_cons_succ, List.getElem_cons_zero, List.setIfInBounds_toArray, List.set_cons_zero, List.set_cons_succ]
          have k4 := KJ4.out
          have k5 := KJ5.out
          have z4 := Z4
          have z5 := Z5
          refine wpAnyH_cast (n' := 3) (l' := #[true, true, true, false, true, true, false, false]) (by kernel_rfl) (by kernel_rfl) ?_
          have hh := st1_45 g7 g8 _ hHeld k4 z4 k5 z5 n4_5
          rw [← hops] at hh
          exact hh
      have st1_ : ∀ (W : World), Fn wx W [(w.heap.size, 23, ks a), (w.heap.size + 1, 23, ks b)] → wpAnyH Tryd.prog .any ops Q (fun W => Fn wx W [(w.heap.size, 23, ks a), (w.heap.size + 1, 23, ks b)]) 5 #[true, true, true, false, false, false, false, false] { tmps := #[.agg (ks a), .agg (ks b), .bool true, .pointer (some ⟨w.heap.size, 0, none⟩), .pointer (some ⟨w.heap.size + 1, 0, none⟩), undef, .bool false, undef, undef, undef, undef, undef, undef, undef, undef, .agg (ks a), .agg (ev x), .agg (ks b), undef, undef, undef, undef, undef, undef, undef, undef, undef, undef, undef, undef, undef, undef, undef, undef, undef, undef, undef, undef, undef, undef, undef, undef, undef, undef, undef, undef, undef, undef, undef, undef, undef, undef, undef, undef, undef, undef, undef, undef, undef, undef, undef, undef, undef, undef, undef, undef, undef, undef, undef, undef, undef, undef, undef, undef, undef], defers := [] } W := by
        as_aux_lemma =>
          clear st0_45 st1_45 st2_5 st2_4 st2_45
          intro W hHeld
          rw [← hops]
          refine wpAnyH_ready (rs := [3, 4, 5]) (by kernel_rfl) (by simp) (AllReadyH.cons rfl (fun K hK => ?_) (AllReadyH.cons rfl (fun K hK => ?_) (AllReadyH.cons rfl (fun K hK => ?_) AllReadyH.nil)))
          · have h0 := hHeld
            clear hHeld
            try simp only [List.getElem_toArray, List.getElem_cons_succ, List.getElem_cons_zero]
            have H0 := Lib.hid h0
            clear h0
            go_simp
            go_at_call 4
            refine (ofR HY.out _ (HPG.out.ext H0.out.below) Hb.out).mono ?_
            rintro e vv ⟨rfl, hb⟩
            have h1 := H0.out.ext hb
            clear hb H0
            go_wp2_with (fail)
            refine hK.out _ _ h1 (fun hHeld => ?_)
            clear hK K h1
            try simp only [Act.put, List.getElem_toArray, List.getElem_cons_succ, List.getElem_cons_zero, List.setIfInBounds_toArray, List.set_cons_zero, List.set_cons_succ]
            refine wpAnyH_cast (n' := 4) (l' := #[true, true, true, true, false, false, false, false]) (by kernel_rfl) (by kernel_rfl) ?_
            have hh := st2_ _ hHeld
            rw [← hops] at hh
            exact hh
          · have h0 := hHeld
            clear hHeld
            try simp only [List.getElem_toArray, List.getElem_cons_succ, List.getElem_cons_zero]
            obtain ⟨kz, hg⟩ := Fn.fresh h0 27 #[.int .u64 0, .int .u64 0, .int .u64 0, .int .u64 0]
            have KZ := Lib.hid kz
            have HG := Lib.hid hg
            have H0 := Lib.hid h0
            clear kz hg h0
            go_simp
            refine hK.out _ _ (Fn.pass H0.out _) (fun hHeld => ?_)
            clear hK K H0
            try simp only [Act.put, List.getElem_toArray, List.getElem_cons_succ, List.getElem_cons_zero, List.setIfInBounds_toArray, List.set_cons_zero, List.set_cons_succ]
            have k4 := KZ.out
            have z4 := HG.out
            refine wpAnyH_cast (n' := 4) (l' := #[true, true, true, false, true, false, false, false]) (by kernel_rfl) (by kernel_rfl) ?_
            have hh := st1_4 _ _ hHeld k4 z4
            rw [← hops] at hh
            exact hh
          · have h0 := hHeld
            clear hHeld
            try simp only [List.getElem_toArray, List.getElem_cons_succ, List.getElem_cons_zero]
            obtain ⟨kz, hg⟩ := Fn.fresh h0 27 #[.int .u64 0, .int .u64 0, .int .u64 0, .int .u64 0]
            have KZ := Lib.hid kz
            have HG := Lib.hid hg
            have H0 := Lib.hid h0
            clear kz hg h0
            go_simp
            refine hK.out _ _ (Fn.pass H0.out _) (fun hHeld => ?_)
            clear hK K H0
            try simp only [Act.put, List.getElem_toArray, List.getElem_cons_succ, List.getElem_cons_zero, List.setIfInBounds_toArray, List.set_cons_zero, List.set_cons_succ]
            have k5 := KZ.out
            have z5 := HG.out
            refine wpAnyH_cast (n' := 4) (l' := #[true, true, true, false, false, true, false, false]) (by kernel_rfl) (by kernel_rfl) ?_
            have hh := st1_5 _ _ hHeld k5 z5
            rw [← hops] at hh
            exact hh
      have st0_4 : ∀ (g7 : Nat) (W : World), Fn wx W [(w.heap.size, 23, ks a), (w.heap.size + 1, 23, ks b)] → Blk W g7 27 #[.int .u64 0, .int .u64 0, .int .u64 0, .int .u64 0] → wx.heap.size ≤ g7 → wpAnyH Tryd.prog .any ops Q (fun W => Fn wx W [(w.heap.size, 23, ks a), (w.heap.size + 1, 23, ks b)]) 5 #[true, false, true, false, true, false, false, false] { tmps := #[.agg (ks a), .agg (ks b), .bool true, .pointer (some ⟨w.heap.size, 0, none⟩), .pointer (some ⟨w.heap.size + 1, 0, none⟩), undef, .bool false, .pointer (some ⟨g7, 0, none⟩), undef, undef, undef, undef, undef, undef, undef, .agg (ks a), undef, .agg (ks b), undef, undef, undef, undef, undef, undef, undef, undef, undef, undef, undef, undef, undef, undef, undef, undef, undef, undef, undef, undef, undef, undef, undef, undef, undef, undef, undef, undef, undef, undef, undef, undef, undef, undef, undef, undef, undef, undef, undef, undef, undef, undef, undef, undef, undef, undef, undef, undef, undef, undef, undef, undef, undef, undef, undef, undef, undef], defers := [] } W := by
        as_aux_lemma =>
          clear st1_ st1_5 st2_ st1_45 st2_5 st2_4 st2_45
          intro g7 W hHeld K4 Z4
          rw [← hops]
          refine wpAnyH_ready (rs := [1, 5]) (by kernel_rfl) (by simp) (AllReadyH.cons rfl (fun K hK => ?_) (AllReadyH.cons rfl (fun K hK => ?_) AllReadyH.nil))
          · have KH4 := Lib.hid K4
            have h0 := hHeld
            clear hHeld
            try simp only [List.getElem_toArray, List.getElem_cons_succ, List.getElem_cons_zero]
            have H0 := Lib.hid h0
            clear h0
            go_simp
            go_at_call 4
            refine (ofR HX.out _ (HPG.out.ext H0.out.below) Ha.out).mono ?_
            rintro e vv ⟨rfl, hb⟩
            have KJ4 := Lib.hid (KH4.out.below hb KH4.out.lt)
            have h1 := H0.out.ext hb
            clear hb H0
            go_wp2_with (fail)
            refine hK.out _ _ h1 (fun hHeld => ?_)
            clear hK K h1
            try simp only [Act.put, List.getElem_toArray, List.getElem_cons_succ, List.getElem_cons_zero, List.setIfInBounds_toArray, List.set_cons_zero, List.set_cons_succ]
            have k4 := KJ4.out
            have z4 := Z4
            refine wpAnyH_cast (n' := 4) (l' := #[true, true, true, false, true, false, false, false]) (by kernel_rfl) (by kernel_rfl) ?_
            have hh := st1_4 g7 _ hHeld k4 z4
            rw [← hops] at hh
            exact hh
          · have h0 := hHeld
            clear hHeld
            try simp only [List.getElem_toArray, List.getElem_cons_succ, List.getElem_cons_zero]
            obtain ⟨kz, hg⟩ := Fn.fresh h0 27 #[.int .u64 0, .int .u64 0, .int .u64 0, .int .u64 0]
            have KZ := Lib.hid kz
            have HG := Lib.hid hg
            have H0 := Lib.hid h0
            clear kz hg h0
            have KH4 := Lib.hid K4
            go_simp
            refine hK.out _ _ (Fn.pass H0.out _) (fun hHeld => ?_)
            clear hK K H0
            try simp only [Act.put, List.getElem_toArray, List.getElem_cons_succ, List.getElem_cons_zero, List.setIfInBounds_toArray, List.set_cons_zero, List.set_cons_succ]
            have k4 := KH4.out.alloc (.cells #[.int .u64 0, .int .u64 0, .int .u64 0, .int .u64 0] 27)
            have z4 := Z4
            have k5 := KZ.out
            have z5 := HG.out
            refine wpAnyH_cast (n' := 4) (l' := #[true, false, true, false, true, true, false, false]) (by kernel_rfl) (by kernel_rfl) ?_
            have hh := st0_45 g7 _ _ hHeld k4 z4 k5 z5 (Nat.ne_of_lt K4.lt)
            rw [← hops] at hh
            exact hh
      have st0_5 : ∀ (g8 : Nat) (W : World), Fn wx W [(w.heap.size, 23, ks a), (w.heap.size + 1, 23, ks b)] → Blk W g8 27 #[.int .u64 0, .int .u64 0, .int .u64 0, .int .u64 0] → wx.heap.size ≤ g8 → wpAnyH Tryd.prog .any ops Q (fun W => Fn wx W [(w.heap.size, 23, ks a), (w.heap.size + 1, 23, ks b)]) 5 #[true, false, true, false, false, true, false, false] { tmps := #[.agg (ks a), .agg (ks b), .bool true, .pointer (some ⟨w.heap.size, 0, none⟩), .pointer (some ⟨w.heap.size + 1, 0, none⟩), undef, .bool false, undef, .pointer (some ⟨g8, 0, none⟩), undef, undef, undef, undef, undef, undef, .agg (ks a), undef, .agg (ks b), undef, undef, undef, undef, undef, undef, undef, undef, undef, undef, undef, undef, undef, undef, undef, undef, undef, undef, undef, undef, undef, undef, undef, undef, undef, undef, undef, undef, undef, undef, undef, undef, undef, undef, undef, undef, undef, undef, undef, undef, undef, undef, undef, undef, undef, undef, undef, undef, undef, undef, undef, undef, undef, undef, undef, undef, undef], defers := [] } W := by
        as_aux_lemma =>
          clear st0_4 st1_ st1_4 st2_ st1_45 st2_5 st2_4 st2_45
          intro g8 W hHeld K5 Z5
          rw [← hops]
          refine wpAnyH_ready (rs := [1, 4]) (by kernel_rfl) (by simp) (AllReadyH.cons rfl (fun K hK => ?_) (AllReadyH.cons rfl (fun K hK => ?_) AllReadyH.nil))
          · have KH5 := Lib.hid K5
            have h0 := hHeld
            clear hHeld
            try simp only [List.getElem_toArray, List.getElem_cons_succ, List.getElem_cons_zero]
            have H0 := Lib.hid h0
            clear h0
            go_simp
            go_at_call 4
            refine (ofR HX.out _ (HPG.out.ext H0.out.below) Ha.out).mono ?_
            rintro e vv ⟨rfl, hb⟩
            have KJ5 := Lib.hid (KH5.out.below hb KH5.out.lt)
            have h1 := H0.out.ext hb
            clear hb H0
            go_wp2_with (fail)
            refine hK.out _ _ h1 (fun hHeld => ?_)
            clear hK K h1
            try simp only [Act.put, List.getElem_toArray, List.getElem_cons_succ, List.getElem_cons_zero, List.setIfInBounds_toArray, List.set_cons_zero, List.set_cons_succ]
            have k5 := KJ5.out
            have z5 := Z5
            refine wpAnyH_cast (n' := 4) (l' := #[true, true, true, false, false, true, false, false]) (by kernel_rfl) (by kernel_rfl) ?_
            have hh := st1_5 g8 _ hHeld k5 z5
            rw [← hops] at hh
            exact hh
          · have h0 := hHeld
            clear hHeld
            try simp only [List.getElem_toArray, List.getElem_cons_succ, List.getElem_cons_zero]
            obtain ⟨kz, hg⟩ := Fn.fresh h0 27 #[.int .u64 0, .int .u64 0, .int .u64 0, .int .u64 0]
            have KZ := Lib.hid kz
            have HG := Lib.hid hg
            have H0 := Lib.hid h0
            clear kz hg h0
            have KH5 := Lib.hid K5
            go_simp
            refine hK.out _ _ (Fn.pass H0.out _) (fun hHeld => ?_)
            clear hK K H0
            try simp only [Act.put, List.getElem_toArray, List.getElem_cons_succ, List.getElem_cons_zero, List.setIfInBounds_toArray, List.set_cons_zero, List.set_cons_succ]
            have k5 := KH5.out.alloc (.cells #[.int .u64 0, .int .u64 0, .int .u64 0, .int .u64 0] 27)
            have z5 := Z5
            have k4 := KZ.out
            have z4 := HG.out
            refine wpAnyH_cast (n' := 4) (l' := #[true, false, true, false, true, true, false, false]) (by kernel_rfl) (by kernel_rfl) ?_
            have hh := st0_45 _ g8 _ hHeld k4 z4 k5 z5 (Ne.symm (Nat.ne_of_lt K5.lt))
            rw [← hops] at hh
            exact hh
      have st0_ : ∀ (W : World), Fn wx W [(w.heap.size, 23, ks a), (w.heap.size + 1, 23, ks b)] → wpAnyH Tryd.prog .any ops Q (fun W => Fn wx W [(w.heap.size, 23, ks a), (w.heap.size + 1, 23, ks b)]) 6 #[true, false, true, false, false, false, false, false] { tmps := #[.agg (ks a), .agg (ks b), .bool true, .pointer (some ⟨w.heap.size, 0, none⟩), .pointer (some ⟨w.heap.size + 1, 0, none⟩), undef, .bool false, undef, undef, undef, undef, undef, undef, undef, undef, .agg (ks a), undef, .agg (ks b), undef, undef, undef, undef, undef, undef, undef, undef, undef, undef, undef, undef, undef, undef, undef, undef, undef, undef, undef, undef, undef, undef, undef, undef, undef, undef, undef, undef, undef, undef, undef, undef, undef, undef, undef, undef, undef, undef, undef, undef, undef, undef, undef, undef, undef, undef, undef, undef, undef, undef, undef, undef, undef, undef, undef, undef, undef], defers := [] } W := by
        as_aux_lemma =>
          clear st0_45 st1_5 st1_4 st2_ st1_45 st2_5 st2_4 st2_45
          intro W hHeld
          rw [← hops]
          refine wpAnyH_ready (rs := [1, 4, 5]) (by kernel_rfl) (by simp) (AllReadyH.cons rfl (fun K hK => ?_) (AllReadyH.cons rfl (fun K hK => ?_) (AllReadyH.cons rfl (fun K hK => ?_) AllReadyH.nil)))
          · have h0 := hHeld
            clear hHeld
            try simp only [List.getElem_toArray, List.getElem_cons_succ, List.getElem_cons_zero]
            have H0 := Lib.hid h0
            clear h0
            go_simp
            go_at_call 4
            refine (ofR HX.out _ (HPG.out.ext H0.out.below) Ha.out).mono ?_
            rintro e vv ⟨rfl, hb⟩
            have h1 := H0.out.ext hb
            clear hb H0
            go_wp2_with (fail)
            refine hK.out _ _ h1 (fun hHeld => ?_)
            clear hK K h1
            try simp only [Act.put, List.getElem_toArray, List.getElem_cons_succ, List.getElem_cons_zero, List.setIfInBounds_toArray, List.set_cons_zero, List.set_cons_succ]
            refine wpAnyH_cast (n' := 5) (l' := #[true, true, true, false, false, false, false, false]) (by kernel_rfl) (by kernel_rfl) ?_
            have hh := st1_ _ hHeld
            rw [← hops] at hh
            exact hh
          · have h0 := hHeld
            clear hHeld
            try simp only [List.getElem_toArray, List.getElem_cons_succ, List.getElem_cons_zero]
            obtain ⟨kz, hg⟩ := Fn.fresh h0 27 #[.int .u64 0, .int .u64 0, .int .u64 0, .int .u64 0]
            have KZ := Lib.hid kz
            have HG := Lib.hid hg
            have H0 := Lib.hid h0
            clear kz hg h0
            go_simp
            refine hK.out _ _ (Fn.pass H0.out _) (fun hHeld => ?_)
            clear hK K H0
            try simp only [Act.put, List.getElem_toArray, List.getElem_cons_succ, List.getElem_cons_zero, List.setIfInBounds_toArray, List.set_cons_zero, List.set_cons_succ]
            have k4 := KZ.out
            have z4 := HG.out
            refine wpAnyH_cast (n' := 5) (l' := #[true, false, true, false, true, false, false, false]) (by kernel_rfl) (by kernel_rfl) ?_
            have hh := st0_4 _ _ hHeld k4 z4
            rw [← hops] at hh
            exact hh
          · have h0 := hHeld
            clear hHeld
            try simp only [List.getElem_toArray, List.getElem_cons_succ, List.getElem_cons_zero]
            obtain ⟨kz, hg⟩ := Fn.fresh h0 27 #[.int .u64 0, .int .u64 0, .int .u64 0, .int .u64 0]
            have KZ := Lib.hid kz
            have HG := Lib.hid hg
            have H0 := Lib.hid h0
            clear kz hg h0
            go_simp
            refine hK.out _ _ (Fn.pass H0.out _) (fun hHeld => ?_)
            clear hK K H0
            try simp only [Act.put, List.getElem_toArray, List.getElem_cons_succ, List.getElem_cons_zero, List.setIfInBounds_toArray, List.set_cons_zero, List.set_cons_succ]
            have k5 := KZ.out
            have z5 := HG.out
            refine wpAnyH_cast (n' := 5) (l' := #[true, false, true, false, false, true, false, false]) (by kernel_rfl) (by kernel_rfl) ?_
            have hh := st0_5 _ _ hHeld k5 z5
            rw [← hops] at hh
            exact hh
      refine wpAnyH_cast (n' := 6) (l' := #[true, false, true, false, false, false, false, false]) (by kernel_rfl) (by kernel_rfl) ?_
      exact st0_ _ hHeld
  case rest =>
    as_aux_lemma =>
      obtain ⟨g7, g8, rfl, rfl, q7, q8, q78, k7, k8, hb⟩ := hcut
      have hf2 := (((HF.out.ext hb).more k7).more k8)
      have hpg2 := HPG.out.ext hb
      clear HF HPG hb k7 k8 hpg2
      have HF := Lib.hid hf2
      clear hf2
      go_wp2_with (fail)
      have kz := HF.out.get (g := g7) (t := 27) (cs := ev x) (by simp)
      have KZ := Lib.hid kz.drew
      clear kz
      refine wp_region_held_drew (S := fun W => Fr w W [(g8, 27, ev y), (w.heap.size, 23, ks a), (w.heap.size + 1, 23, ks b)] []) (by kernel_rfl) ?_ (fun hHeld => ?_)
      · exact (HF.out.sub (by simp) (by simp)).drew
      refine wpAnyH_take (i := 2) (v := .agg (ev y)) rfl (by kernel_rfl) (by kernel_rfl) (by kernel_rfl) (fun _ _ _ h => h) (yields_row (by rfl) 27 (.tmp 8) rfl (g8) rfl 27 (ev y) _ (fun W (h : Fr _ W _ _) => h.get (by simp)) Tryd.underlying27 rfl (info_ev _)) hHeld ?_
      try simp only [Act.put, List.getElem_toArray, List.getElem_cons_succ, List.getElem_cons_zero, List.setIfInBounds_toArray, List.set_cons_zero, List.set_cons_succ]
      refine wpAnyH_ready (rs := [0]) (by kernel_rfl) (by simp) (AllReadyH.cons rfl (fun K hK => ?_) AllReadyH.nil)
      have h0 := hHeld
      clear hHeld
      try simp only [List.getElem_toArray, List.getElem_cons_succ, List.getElem_cons_zero]
      rw [if_pos (by rfl)]
      refine wp_load_row 27 (.tmp 7) rfl (g7) rfl 27 (ev x) (0, 0) _ KZ.out Tryd.underlying27 rfl (info_ev _) ?_
      refine hK.out _ _ h0 (fun hHeld => ?_)
      clear hK K h0
      try simp only [Act.put, List.getElem_toArray, List.getElem_cons_succ, List.getElem_cons_zero, List.setIfInBounds_toArray, List.set_cons_zero, List.set_cons_succ]
      refine wpAnyH_ready (rs := [1]) (by kernel_rfl) (by simp) (AllReadyH.cons rfl (fun K hK => ?_) AllReadyH.nil)
      have h0 := hHeld
      clear hHeld
      try simp only [List.getElem_toArray, List.getElem_cons_succ, List.getElem_cons_zero]
      have H0 := Lib.hid h0
      clear h0
      go_simp
      go_at_call 5
      refine (squareF x _ (Fr.pg H0.out HP.out)).mono ?_
      rintro e vv ⟨rfl, hb⟩
      have kz := KZ.out.below hb KZ.out.lt
      clear KZ
      have KZ := Lib.hid kz
      clear kz
      have h1 := H0.out.ext hb
      clear hb H0
      go_wp2_with (fail)
      refine hK.out _ _ h1 (fun hHeld => ?_)
      clear hK K h1
      try simp only [Act.put, List.getElem_toArray, List.getElem_cons_succ, List.getElem_cons_zero, List.setIfInBounds_toArray, List.set_cons_zero, List.set_cons_succ]
      refine wpAnyH_ready (rs := [3]) (by kernel_rfl) (by simp) (AllReadyH.cons rfl (fun K hK => ?_) AllReadyH.nil)
      have h0 := hHeld
      clear hHeld
      try simp only [List.getElem_toArray, List.getElem_cons_succ, List.getElem_cons_zero]
      have H0 := Lib.hid h0
      clear h0
      go_simp
      go_at_call 6
      refine (HMU.out _ (Fr.pg H0.out HP.out)).mono ?_
      rintro e vv ⟨rfl, hb⟩
      have kz := KZ.out.below hb KZ.out.lt
      clear KZ
      have KZ := Lib.hid kz
      clear kz
      have h1 := H0.out.ext hb
      clear hb H0
      go_wp2_with (fail)
      refine hK.out _ _ h1 (fun hHeld => ?_)
      clear hK K h1
      try simp only [Act.put, List.getElem_toArray, List.getElem_cons_succ, List.getElem_cons_zero, List.setIfInBounds_toArray, List.set_cons_zero, List.set_cons_succ]
      refine wpAnyH_ready (rs := [4]) (by kernel_rfl) (by simp) (AllReadyH.cons rfl (fun K hK => ?_) AllReadyH.nil)
      have h0 := hHeld
      clear hHeld
      try simp only [List.getElem_toArray, List.getElem_cons_succ, List.getElem_cons_zero]
      rw [if_pos (by rfl)]
      refine wp_store_row 27 (.tmp 7) (.tmp 23) rfl (g7) (ev u) rfl rfl 27 _ KZ.out (info_ev _) ((ev_size _).trans (ev_size _).symm) (ev_one _) ?_
      refine hK.out _ _ (Fr.setOut h0 (g := g7) (by omega) (by simp <;> omega) (by simp <;> omega) _) (fun hHeld => ?_)
      have kb := KZ.out.setRow_same (ev u)
      clear hK K h0
      try simp only [Act.put, List.getElem_toArray, List.getElem_cons_succ, List.getElem_cons_zero, List.setIfInBounds_toArray, List.set_cons_zero, List.set_cons_succ]
      refine wpAnyH_done (by kernel_rfl) ?_ _
      have hf9 := hHeld.more kb
      clear HF
      have HF := Lib.hid hf9
      clear hHeld hf9 kb KZ HMU
      go_wp2_with (fail)
      obtain ⟨wv, hwv⟩ := fr_world HF.out
      rw [← hwv] at HF ⊢
      clear hwv
      have HPG := Lib.hid (Fr.pg HF.out HP.out)
      go_cut [9, 10] (fun s9 s10 wz => ∃ g9 g10 : Nat, s9 = .pointer (some ⟨g9, 0, none⟩) ∧ s10 = .pointer (some ⟨g10, 0, none⟩) ∧ Blk wz g9 32 (dv u) ∧ Blk wz g10 32 (dv y) ∧ Below wv.heap.size wv wz)
      case first =>
        as_aux_lemma =>
          have hn := (HF.out.now.sub (L' := [(g7, 27, ev u), (g8, 27, ev y), (w.heap.size, 23, ks a), (w.heap.size + 1, 23, ks b)]) (by simp))
          have HN := Lib.hid hn
          clear hn
          refine wp_region_held_drew (S := fun W => Fn wv W [(g7, 27, ev u), (g8, 27, ev y), (w.heap.size, 23, ks a), (w.heap.size + 1, 23, ks b)]) (by kernel_rfl) ?_ (fun hHeld => ?_)
          · exact HN.out.drew
          refine wpAnyH_take (i := 0) (v := .agg (ev u)) rfl (by kernel_rfl) (by kernel_rfl) (by kernel_rfl) (fun _ _ _ h => h) (yields_row (by rfl) 27 (.tmp 7) rfl (g7) rfl 27 (ev u) _ (fun W (h : Fn _ W _) => h.get (by simp)) Tryd.underlying27 rfl (info_ev _)) hHeld ?_
          try simp only [Act.put, List.getElem_toArray, List.getElem_cons_succ, List.getElem_cons_zero, List.setIfInBounds_toArray, List.set_cons_zero, List.set_cons_succ]
          refine wpAnyH_take (i := 3) (v := .agg (ks b)) rfl (by kernel_rfl) (by kernel_rfl) (by kernel_rfl) (fun _ _ _ h => h) (yields_row (by rfl) 23 (.tmp 4) rfl (w.heap.size + 1) rfl 23 (ks b) _ (fun W (h : Fn _ W _) => h.get (by simp)) Tryd.underlying23 rfl (info_ks _)) hHeld ?_
          try simp only [Act.put, List.getElem_toArray, List.getElem_cons_succ, List.getElem_cons_zero, List.setIfInBounds_toArray, List.set_cons_zero, List.set_cons_succ]
          refine wpAnyH_name ?_
          intro ops Q hops hQ
          have st3_56 : ∀ (g9 g10 : Nat) (W : World), Fn wv W [(g7, 27, ev u), (g8, 27, ev y), (w.heap.size, 23, ks a), (w.heap.size + 1, 23, ks b)] → Blk W g9 32 #[.int .u64 0, .int .u64 0, .int .u64 0, .int .u64 0, .int .u64 0, .int .u64 0, .int .u64 0, .int .u64 0, .int .u64 0, .int .u64 0, .int .u64 0, .int .u64 0, .int .u64 0, .int .u64 0, .int .u64 0, .int .u64 0] → wv.heap.size ≤ g9 → Blk W g10 32 #[.int .u64 0, .int .u64 0, .int .u64 0, .int .u64 0, .int .u64 0, .int .u64 0, .int .u64 0, .int .u64 0, .int .u64 0, .int .u64 0, .int .u64 0, .int .u64 0, .int .u64 0, .int .u64 0, .int .u64 0, .int .u64 0] → wv.heap.size ≤ g10 → g9 ≠ g10 → wpAnyH Tryd.prog .any ops Q (fun W => Fn wv W [(g7, 27, ev u), (g8, 27, ev y), (w.heap.size, 23, ks a), (w.heap.size + 1, 23, ks b)]) 2 #[true, true, true, true, true, true, true, false, false] { tmps := #[.agg (ks a), .agg (ks b), .bool true, .pointer (some ⟨w.heap.size, 0, none⟩), .pointer (some ⟨w.heap.size + 1, 0, none⟩), undef, .bool false, .pointer (some ⟨g7, 0, none⟩), .pointer (some ⟨g8, 0, none⟩), .pointer (some ⟨g9, 0, none⟩), .pointer (some ⟨g10, 0, none⟩), undef, undef, undef, undef, u15, u16, u17, u18, .bool true, .agg (ev x), .agg (ev (x * x)), .agg (ev y), .agg (ev u), .agg (ev u), .agg (ks nu), .agg (dv u), .agg (ks b), .agg (dv y), u29, u30, u31, u32, u33, u34, u35, u36, u37, u38, u39, u40, u41, u42, u43, u44, u45, u46, u47, u48, u49, u50, u51, u52, u53, u54, u55, u56, u57, u58, u59, u60, u61, u62, u63, u64, u65, u66, u67, u68, u69, u70, u71, u72, u73, u74], defers := [] } W := by
            as_aux_lemma =>
              intro g9 g10 W hHeld K5 Z5 K6 Z6 n5_6
              rw [← hops]
              rw [← hQ]
              have KK5 := Lib.hid K5
              clear K5
              have KK6 := Lib.hid K6
              clear K6
              refine wpAnyH_ready (rs := [7]) (by kernel_rfl) (by simp) (AllReadyH.cons rfl (fun K hK => ?_) AllReadyH.nil)
              have h0 := hHeld
              clear hHeld
              try simp only [List.getElem_toArray, List.getElem_cons_succ, List.getElem_cons_zero]
              rw [if_pos (by rfl)]
              refine wp_store_row 32 (.tmp 9) (.tmp 26) rfl g9 (dv u) rfl rfl 32 _ KK5.out (info_dv _) (by rw [dv_size]; rfl) (dv_one _) ?_
              refine hK.out _ _ (Fn.setFresh h0 Z5 _) (fun hHeld => ?_)
              have J5 := Lib.hid (KK5.out.setRow_same (dv u))
              clear KK5
              have KK5 := J5
              clear J5
              have J6 := Lib.hid (KK6.out.setRow_other (Ne.symm n5_6) (dv u))
              clear KK6
              have KK6 := J6
              clear J6
              clear hK K h0
              try simp only [Act.put, List.getElem_toArray, List.getElem_cons_succ, List.getElem_cons_zero, List.setIfInBounds_toArray, List.set_cons_zero, List.set_cons_succ]
              refine wpAnyH_ready (rs := [8]) (by kernel_rfl) (by simp) (AllReadyH.cons rfl (fun K hK => ?_) AllReadyH.nil)
              have h0 := hHeld
              clear hHeld
              try simp only [List.getElem_toArray, List.getElem_cons_succ, List.getElem_cons_zero]
              rw [if_pos (by rfl)]
              refine wp_store_row 32 (.tmp 10) (.tmp 28) rfl g10 (dv y) rfl rfl 32 _ KK6.out (info_dv _) (by rw [dv_size]; rfl) (dv_one _) ?_
              refine hK.out _ _ (Fn.setFresh h0 Z6 _) (fun hHeld => ?_)
              have J6 := Lib.hid (KK6.out.setRow_same (dv y))
              clear KK6
              have KK6 := J6
              clear J6
              have J5 := Lib.hid (KK5.out.setRow_other n5_6 (dv y))
              clear KK5
              have KK5 := J5
              clear J5
              clear hK K h0
              try simp only [Act.put, List.getElem_toArray, List.getElem_cons_succ, List.getElem_cons_zero, List.setIfInBounds_toArray, List.set_cons_zero, List.set_cons_succ]
              refine wpAnyH_done (by kernel_rfl) ?_ _
              have HB := Lib.hid hHeld.below
              clear hHeld
              go_wp2_with (fail)
              go_meet
              exact ⟨g9, g10, rfl, rfl, KK5.out, KK6.out, HB.out⟩
          have st3_5 : ∀ (g9 : Nat) (W : World), Fn wv W [(g7, 27, ev u), (g8, 27, ev y), (w.heap.size, 23, ks a), (w.heap.size + 1, 23, ks b)] → Blk W g9 32 #[.int .u64 0, .int .u64 0, .int .u64 0, .int .u64 0, .int .u64 0, .int .u64 0, .int .u64 0, .int .u64 0, .int .u64 0, .int .u64 0, .int .u64 0, .int .u64 0, .int .u64 0, .int .u64 0, .int .u64 0, .int .u64 0] → wv.heap.size ≤ g9 → wpAnyH Tryd.prog .any ops Q (fun W => Fn wv W [(g7, 27, ev u), (g8, 27, ev y), (w.heap.size, 23, ks a), (w.heap.size + 1, 23, ks b)]) 3 #[true, true, true, true, true, true, false, false, false] { tmps := #[.agg (ks a), .agg (ks b), .bool true, .pointer (some ⟨w.heap.size, 0, none⟩), .pointer (some ⟨w.heap.size + 1, 0, none⟩), undef, .bool false, .pointer (some ⟨g7, 0, none⟩), .pointer (some ⟨g8, 0, none⟩), .pointer (some ⟨g9, 0, none⟩), undef, undef, undef, undef, undef, u15, u16, u17, u18, .bool true, .agg (ev x), .agg (ev (x * x)), .agg (ev y), .agg (ev u), .agg (ev u), .agg (ks nu), .agg (dv u), .agg (ks b), .agg (dv y), u29, u30, u31, u32, u33, u34, u35, u36, u37, u38, u39, u40, u41, u42, u43, u44, u45, u46, u47, u48, u49, u50, u51, u52, u53, u54, u55, u56, u57, u58, u59, u60, u61, u62, u63, u64, u65, u66, u67, u68, u69, u70, u71, u72, u73, u74], defers := [] } W := by
            as_aux_lemma =>
              intro g9 W hHeld K5 Z5
              rw [← hops]
              refine wpAnyH_ready (rs := [6]) (by kernel_rfl) (by simp) (AllReadyH.cons rfl (fun K hK => ?_) AllReadyH.nil)
              have h0 := hHeld
              clear hHeld
              try simp only [List.getElem_toArray, List.getElem_cons_succ, List.getElem_cons_zero]
              obtain ⟨kz, hg⟩ := Fn.fresh h0 32 #[.int .u64 0, .int .u64 0, .int .u64 0, .int .u64 0, .int .u64 0, .int .u64 0, .int .u64 0, .int .u64 0, .int .u64 0, .int .u64 0, .int .u64 0, .int .u64 0, .int .u64 0, .int .u64 0, .int .u64 0, .int .u64 0]
              have KZ := Lib.hid kz
              have HG := Lib.hid hg
              have H0 := Lib.hid h0
              clear kz hg h0
              have KH5 := Lib.hid K5
              go_simp
              refine hK.out _ _ (Fn.pass H0.out _) (fun hHeld => ?_)
              clear hK K H0
              try simp only [Act.put, List.getElem_toArray, List.getElem_cons_succ, List.getElem_cons_zero, List.setIfInBounds_toArray, List.set_cons_zero, List.set_cons_succ]
              have k5 := KH5.out.alloc (.cells #[.int .u64 0, .int .u64 0, .int .u64 0, .int .u64 0, .int .u64 0, .int .u64 0, .int .u64 0, .int .u64 0, .int .u64 0, .int .u64 0, .int .u64 0, .int .u64 0, .int .u64 0, .int .u64 0, .int .u64 0, .int .u64 0] 32)
              have z5 := Z5
              have k6 := KZ.out
              have z6 := HG.out
              refine wpAnyH_cast (n' := 2) (l' := #[true, true, true, true, true, true, true, false, false]) (by kernel_rfl) (by kernel_rfl) ?_
              have hh := st3_56 g9 _ _ hHeld k5 z5 k6 z6 (Nat.ne_of_lt K5.lt)
              rw [← hops] at hh
              exact hh
          have st3_6 : ∀ (g10 : Nat) (W : World), Fn wv W [(g7, 27, ev u), (g8, 27, ev y), (w.heap.size, 23, ks a), (w.heap.size + 1, 23, ks b)] → Blk W g10 32 #[.int .u64 0, .int .u64 0, .int .u64 0, .int .u64 0, .int .u64 0, .int .u64 0, .int .u64 0, .int .u64 0, .int .u64 0, .int .u64 0, .int .u64 0, .int .u64 0, .int .u64 0, .int .u64 0, .int .u64 0, .int .u64 0] → wv.heap.size ≤ g10 → wpAnyH Tryd.prog .any ops Q (fun W => Fn wv W [(g7, 27, ev u), (g8, 27, ev y), (w.heap.size, 23, ks a), (w.heap.size + 1, 23, ks b)]) 3 #[true, true, true, true, true, false, true, false, false] { tmps := #[.agg (ks a), .agg (ks b), .bool true, .pointer (some ⟨w.heap.size, 0, none⟩), .pointer (some ⟨w.heap.size + 1, 0, none⟩), undef, .bool false, .pointer (some ⟨g7, 0, none⟩), .pointer (some ⟨g8, 0, none⟩), undef, .pointer (some ⟨g10, 0, none⟩), undef, undef, undef, undef, u15, u16, u17, u18, .bool true, .agg (ev x), .agg (ev (x * x)), .agg (ev y), .agg (ev u), .agg (ev u), .agg (ks nu), .agg (dv u), .agg (ks b), .agg (dv y), u29, u30, u31, u32, u33, u34, u35, u36, u37, u38, u39, u40, u41, u42, u43, u44, u45, u46, u47, u48, u49, u50, u51, u52, u53, u54, u55, u56, u57, u58, u59, u60, u61, u62, u63, u64, u65, u66, u67, u68, u69, u70, u71, u72, u73, u74], defers := [] } W := by
            as_aux_lemma =>
              clear st3_5
              intro g10 W hHeld K6 Z6
              rw [← hops]
              refine wpAnyH_ready (rs := [5]) (by kernel_rfl) (by simp) (AllReadyH.cons rfl (fun K hK => ?_) AllReadyH.nil)
              have h0 := hHeld
              clear hHeld
              try simp only [List.getElem_toArray, List.getElem_cons_succ, List.getElem_cons_zero]
              obtain ⟨kz, hg⟩ := Fn.fresh h0 32 #[.int .u64 0, .int .u64 0, .int .u64 0, .int .u64 0, .int .u64 0, .int .u64 0, .int .u64 0, .int .u64 0, .int .u64 0, .int .u64 0, .int .u64 0, .int .u64 0, .int .u64 0, .int .u64 0, .int .u64 0, .int .u64 0]
              have KZ := Lib.hid kz
              have HG := Lib.hid hg
              have H0 := Lib.hid h0
              clear kz hg h0
              have KH6 := Lib.hid K6
              go_simp
              refine hK.out _ _ (Fn.pass H0.out _) (fun hHeld => ?_)
              clear hK K H0
              try simp only [Act.put, List.getElem_toArray, List.getElem_cons_succ, List.getElem_cons_zero, List.setIfInBounds_toArray, List.set_cons_zero, List.set_cons_succ]
              have k6 := KH6.out.alloc (.cells #[.int .u64 0, .int .u64 0, .int .u64 0, .int .u64 0, .int .u64 0, .int .u64 0, .int .u64 0, .int .u64 0, .int .u64 0, .int .u64 0, .int .u64 0, .int .u64 0, .int .u64 0, .int .u64 0, .int .u64 0, .int .u64 0] 32)
              have z6 := Z6
              have k5 := KZ.out
              have z5 := HG.out
              refine wpAnyH_cast (n' := 2) (l' := #[true, true, true, true, true, true, true, false, false]) (by kernel_rfl) (by kernel_rfl) ?_
              have hh := st3_56 _ g10 _ hHeld k5 z5 k6 z6 (Ne.symm (Nat.ne_of_lt K6.lt))
              rw [← hops] at hh
              exact hh
          have st2_56 : ∀ (g9 g10 : Nat) (W : World), Fn wv W [(g7, 27, ev u), (g8, 27, ev y), (w.heap.size, 23, ks a), (w.heap.size + 1, 23, ks b)] → Blk W g9 32 #[.int .u64 0, .int .u64 0, .int .u64 0, .int .u64 0, .int .u64 0, .int .u64 0, .int .u64 0, .int .u64 0, .int .u64 0, .int .u64 0, .int .u64 0, .int .u64 0, .int .u64 0, .int .u64 0, .int .u64 0, .int .u64 0] → wv.heap.size ≤ g9 → Blk W g10 32 #[.int .u64 0, .int .u64 0, .int .u64 0, .int .u64 0, .int .u64 0, .int .u64 0, .int .u64 0, .int .u64 0, .int .u64 0, .int .u64 0, .int .u64 0, .int .u64 0, .int .u64 0, .int .u64 0, .int .u64 0, .int .u64 0] → wv.heap.size ≤ g10 → g9 ≠ g10 → wpAnyH Tryd.prog .any ops Q (fun W => Fn wv W [(g7, 27, ev u), (g8, 27, ev y), (w.heap.size, 23, ks a), (w.heap.size + 1, 23, ks b)]) 3 #[true, true, true, true, false, true, true, false, false] { tmps := #[.agg (ks a), .agg (ks b), .bool true, .pointer (some ⟨w.heap.size, 0, none⟩), .pointer (some ⟨w.heap.size + 1, 0, none⟩), undef, .bool false, .pointer (some ⟨g7, 0, none⟩), .pointer (some ⟨g8, 0, none⟩), .pointer (some ⟨g9, 0, none⟩), .pointer (some ⟨g10, 0, none⟩), undef, undef, undef, undef, u15, u16, u17, u18, .bool true, .agg (ev x), .agg (ev (x * x)), .agg (ev y), .agg (ev u), .agg (ev u), .agg (ks nu), .agg (dv u), .agg (ks b), u28, u29, u30, u31, u32, u33, u34, u35, u36, u37, u38, u39, u40, u41, u42, u43, u44, u45, u46, u47, u48, u49, u50, u51, u52, u53, u54, u55, u56, u57, u58, u59, u60, u61, u62, u63, u64, u65, u66, u67, u68, u69, u70, u71, u72, u73, u74], defers := [] } W := by
            as_aux_lemma =>
              clear st3_6 st3_5
              intro g9 g10 W hHeld K5 Z5 K6 Z6 n5_6
              rw [← hops]
              refine wpAnyH_ready (rs := [4]) (by kernel_rfl) (by simp) (AllReadyH.cons rfl (fun K hK => ?_) AllReadyH.nil)
              have KH5 := Lib.hid K5
              have KH6 := Lib.hid K6
              have h0 := hHeld
              clear hHeld
              try simp only [List.getElem_toArray, List.getElem_cons_succ, List.getElem_cons_zero]
              have H0 := Lib.hid h0
              clear h0
              go_simp
              go_at_call 7
              refine (num_any b HY.out _ Hb.out).mono ?_
              rintro e vv ⟨rfl, hb⟩
              have KJ5 := Lib.hid (KH5.out.below hb KH5.out.lt)
              have KJ6 := Lib.hid (KH6.out.below hb KH6.out.lt)
              have h1 := H0.out.ext hb
              clear hb H0
              go_wp2_with (fail)
              refine hK.out _ _ h1 (fun hHeld => ?_)
              clear hK K h1
              try simp only [Act.put, List.getElem_toArray, List.getElem_cons_succ, List.getElem_cons_zero, List.setIfInBounds_toArray, List.set_cons_zero, List.set_cons_succ]
              have k5 := KJ5.out
              have k6 := KJ6.out
              have z5 := Z5
              have z6 := Z6
              refine wpAnyH_cast (n' := 2) (l' := #[true, true, true, true, true, true, true, false, false]) (by kernel_rfl) (by kernel_rfl) ?_
              have hh := st3_56 g9 g10 _ hHeld k5 z5 k6 z6 n5_6
              rw [← hops] at hh
              exact hh
          have st3_ : ∀ (W : World), Fn wv W [(g7, 27, ev u), (g8, 27, ev y), (w.heap.size, 23, ks a), (w.heap.size + 1, 23, ks b)] → wpAnyH Tryd.prog .any ops Q (fun W => Fn wv W [(g7, 27, ev u), (g8, 27, ev y), (w.heap.size, 23, ks a), (w.heap.size + 1, 23, ks b)]) 4 #[true, true, true, true, true, false, false, false, false] { tmps := #[.agg (ks a), .agg (ks b), .bool true, .pointer (some ⟨w.heap.size, 0, none⟩), .pointer (some ⟨w.heap.size + 1, 0, none⟩), undef, .bool false, .pointer (some ⟨g7, 0, none⟩), .pointer (some ⟨g8, 0, none⟩), undef, undef, undef, undef, undef, undef, u15, u16, u17, u18, .bool true, .agg (ev x), .agg (ev (x * x)), .agg (ev y), .agg (ev u), .agg (ev u), .agg (ks nu), .agg (dv u), .agg (ks b), .agg (dv y), u29, u30, u31, u32, u33, u34, u35, u36, u37, u38, u39, u40, u41, u42, u43, u44, u45, u46, u47, u48, u49, u50, u51, u52, u53, u54, u55, u56, u57, u58, u59, u60, u61, u62, u63, u64, u65, u66, u67, u68, u69, u70, u71, u72, u73, u74], defers := [] } W := by
            as_aux_lemma =>
              clear st2_56 st3_56
              intro W hHeld
              rw [← hops]
              refine wpAnyH_ready (rs := [5, 6]) (by kernel_rfl) (by simp) (AllReadyH.cons rfl (fun K hK => ?_) (AllReadyH.cons rfl (fun K hK => ?_) AllReadyH.nil))
              · have h0 := hHeld
                clear hHeld
                try simp only [List.getElem_toArray, List.getElem_cons_succ, List.getElem_cons_zero]
                obtain ⟨kz, hg⟩ := Fn.fresh h0 32 #[.int .u64 0, .int .u64 0, .int .u64 0, .int .u64 0, .int .u64 0, .int .u64 0, .int .u64 0, .int .u64 0, .int .u64 0, .int .u64 0, .int .u64 0, .int .u64 0, .int .u64 0, .int .u64 0, .int .u64 0, .int .u64 0]
                have KZ := Lib.hid kz
                have HG := Lib.hid hg
                have H0 := Lib.hid h0
                clear kz hg h0
                go_simp
                refine hK.out _ _ (Fn.pass H0.out _) (fun hHeld => ?_)
                clear hK K H0
                try simp only [Act.put, List.getElem_toArray, List.getElem_cons_succ, List.getElem_cons_zero, List.setIfInBounds_toArray, List.set_cons_zero, List.set_cons_succ]
                have k5 := KZ.out
                have z5 := HG.out
                refine wpAnyH_cast (n' := 3) (l' := #[true, true, true, true, true, true, false, false, false]) (by kernel_rfl) (by kernel_rfl) ?_
                have hh := st3_5 _ _ hHeld k5 z5
                rw [← hops] at hh
                exact hh
              · have h0 := hHeld
                clear hHeld
                try simp only [List.getElem_toArray, List.getElem_cons_succ, List.getElem_cons_zero]
                obtain ⟨kz, hg⟩ := Fn.fresh h0 32 #[.int .u64 0, .int .u64 0, .int .u64 0, .int .u64 0, .int .u64 0, .int .u64 0, .int .u64 0, .int .u64 0, .int .u64 0, .int .u64 0, .int .u64 0, .int .u64 0, .int .u64 0, .int .u64 0, .int .u64 0, .int .u64 0]
                have KZ := Lib.hid kz
                have HG := Lib.hid hg
                have H0 := Lib.hid h0
                clear kz hg h0
                go_simp
                refine hK.out _ _ (Fn.pass H0.out _) (fun hHeld => ?_)
                clear hK K H0
                try simp only [Act.put, List.getElem_toArray, List.getElem_cons_succ, List.getElem_cons_zero, List.setIfInBounds_toArray, List.set_cons_zero, List.set_cons_succ]
                have k6 := KZ.out
                have z6 := HG.out
                refine wpAnyH_cast (n' := 3) (l' := #[true, true, true, true, true, false, true, false, false]) (by kernel_rfl) (by kernel_rfl) ?_
                have hh := st3_6 _ _ hHeld k6 z6
                rw [← hops] at hh
                exact hh
          have st2_5 : ∀ (g9 : Nat) (W : World), Fn wv W [(g7, 27, ev u), (g8, 27, ev y), (w.heap.size, 23, ks a), (w.heap.size + 1, 23, ks b)] → Blk W g9 32 #[.int .u64 0, .int .u64 0, .int .u64 0, .int .u64 0, .int .u64 0, .int .u64 0, .int .u64 0, .int .u64 0, .int .u64 0, .int .u64 0, .int .u64 0, .int .u64 0, .int .u64 0, .int .u64 0, .int .u64 0, .int .u64 0] → wv.heap.size ≤ g9 → wpAnyH Tryd.prog .any ops Q (fun W => Fn wv W [(g7, 27, ev u), (g8, 27, ev y), (w.heap.size, 23, ks a), (w.heap.size + 1, 23, ks b)]) 4 #[true, true, true, true, false, true, false, false, false] { tmps := #[.agg (ks a), .agg (ks b), .bool true, .pointer (some ⟨w.heap.size, 0, none⟩), .pointer (some ⟨w.heap.size + 1, 0, none⟩), undef, .bool false, .pointer (some ⟨g7, 0, none⟩), .pointer (some ⟨g8, 0, none⟩), .pointer (some ⟨g9, 0, none⟩), undef, undef, undef, undef, undef, u15, u16, u17, u18, .bool true, .agg (ev x), .agg (ev (x * x)), .agg (ev y), .agg (ev u), .agg (ev u), .agg (ks nu), .agg (dv u), .agg (ks b), u28, u29, u30, u31, u32, u33, u34, u35, u36, u37, u38, u39, u40, u41, u42, u43, u44, u45, u46, u47, u48, u49, u50, u51, u52, u53, u54, u55, u56, u57, u58, u59, u60, u61, u62, u63, u64, u65, u66, u67, u68, u69, u70, u71, u72, u73, u74], defers := [] } W := by
            as_aux_lemma =>
              clear st3_ st3_6 st3_56
              intro g9 W hHeld K5 Z5
              rw [← hops]
              refine wpAnyH_ready (rs := [4, 6]) (by kernel_rfl) (by simp) (AllReadyH.cons rfl (fun K hK => ?_) (AllReadyH.cons rfl (fun K hK => ?_) AllReadyH.nil))
              · have KH5 := Lib.hid K5
                have h0 := hHeld
                clear hHeld
                try simp only [List.getElem_toArray, List.getElem_cons_succ, List.getElem_cons_zero]
                have H0 := Lib.hid h0
                clear h0
                go_simp
                go_at_call 7
                refine (num_any b HY.out _ Hb.out).mono ?_
                rintro e vv ⟨rfl, hb⟩
                have KJ5 := Lib.hid (KH5.out.below hb KH5.out.lt)
                have h1 := H0.out.ext hb
                clear hb H0
                go_wp2_with (fail)
                refine hK.out _ _ h1 (fun hHeld => ?_)
                clear hK K h1
                try simp only [Act.put, List.getElem_toArray, List.getElem_cons_succ, List.getElem_cons_zero, List.setIfInBounds_toArray, List.set_cons_zero, List.set_cons_succ]
                have k5 := KJ5.out
                have z5 := Z5
                refine wpAnyH_cast (n' := 3) (l' := #[true, true, true, true, true, true, false, false, false]) (by kernel_rfl) (by kernel_rfl) ?_
                have hh := st3_5 g9 _ hHeld k5 z5
                rw [← hops] at hh
                exact hh
              · have h0 := hHeld
                clear hHeld
                try simp only [List.getElem_toArray, List.getElem_cons_succ, List.getElem_cons_zero]
                obtain ⟨kz, hg⟩ := Fn.fresh h0 32 #[.int .u64 0, .int .u64 0, .int .u64 0, .int .u64 0, .int .u64 0, .int .u64 0, .int .u64 0, .int .u64 0, .int .u64 0, .int .u64 0, .int .u64 0, .int .u64 0, .int .u64 0, .int .u64 0, .int .u64 0, .int .u64 0]
                have KZ := Lib.hid kz
                have HG := Lib.hid hg
                have H0 := Lib.hid h0
                clear kz hg h0
                have KH5 := Lib.hid K5
                go_simp
                refine hK.out _ _ (Fn.pass H0.out _) (fun hHeld => ?_)
                clear hK K H0
                try simp only [Act.put, List.getElem_toArray, List.getElem_cons_succ, List.getElem_cons_zero, List.setIfInBounds_toArray, List.set_cons_zero, List.set_cons_succ]
                have k5 := KH5.out.alloc (.cells #[.int .u64 0, .int .u64 0, .int .u64 0, .int .u64 0, .int .u64 0, .int .u64 0, .int .u64 0, .int .u64 0, .int .u64 0, .int .u64 0, .int .u64 0, .int .u64 0, .int .u64 0, .int .u64 0, .int .u64 0, .int .u64 0] 32)
                have z5 := Z5
                have k6 := KZ.out
                have z6 := HG.out
                refine wpAnyH_cast (n' := 3) (l' := #[true, true, true, true, false, true, true, false, false]) (by kernel_rfl) (by kernel_rfl) ?_
                have hh := st2_56 g9 _ _ hHeld k5 z5 k6 z6 (Nat.ne_of_lt K5.lt)
                rw [← hops] at hh
                exact hh
          have st2_6 : ∀ (g10 : Nat) (W : World), Fn wv W [(g7, 27, ev u), (g8, 27, ev y), (w.heap.size, 23, ks a), (w.heap.size + 1, 23, ks b)] → Blk W g10 32 #[.int .u64 0, .int .u64 0, .int .u64 0, .int .u64 0, .int .u64 0, .int .u64 0, .int .u64 0, .int .u64 0, .int .u64 0, .int .u64 0, .int .u64 0, .int .u64 0, .int .u64 0, .int .u64 0, .int .u64 0, .int .u64 0] → wv.heap.size ≤ g10 → wpAnyH Tryd.prog .any ops Q (fun W => Fn wv W [(g7, 27, ev u), (g8, 27, ev y), (w.heap.size, 23, ks a), (w.heap.size + 1, 23, ks b)]) 4 #[true, true, true, true, false, false, true, false, false] { tmps := #[.agg (ks a), .agg (ks b), .bool true, .pointer (some ⟨w.heap.size, 0, none⟩), .pointer (some ⟨w.heap.size + 1, 0, none⟩), undef, .bool false, .pointer (some ⟨g7, 0, none⟩), .pointer (some ⟨g8, 0, none⟩), undef, .pointer (some ⟨g10, 0, none⟩), undef, undef, undef, undef, u15, u16, u17, u18, .bool true, .agg (ev x), .agg (ev (x * x)), .agg (ev y), .agg (ev u), .agg (ev u), .agg (ks nu), .agg (dv u), .agg (ks b), u28, u29, u30, u31, u32, u33, u34, u35, u36, u37, u38, u39, u40, u41, u42, u43, u44, u45, u46, u47, u48, u49, u50, u51, u52, u53, u54, u55, u56, u57, u58, u59, u60, u61, u62, u63, u64, u65, u66, u67, u68, u69, u70, u71, u72, u73, u74], defers := [] } W := by
            as_aux_lemma =>
              clear st2_5 st3_ st3_5 st3_56
              intro g10 W hHeld K6 Z6
              rw [← hops]
              refine wpAnyH_ready (rs := [4, 5]) (by kernel_rfl) (by simp) (AllReadyH.cons rfl (fun K hK => ?_) (AllReadyH.cons rfl (fun K hK => ?_) AllReadyH.nil))
              · have KH6 := Lib.hid K6
                have h0 := hHeld
                clear hHeld
                try simp only [List.getElem_toArray, List.getElem_cons_succ, List.getElem_cons_zero]
                have H0 := Lib.hid h0
                clear h0
                go_simp
                go_at_call 7
                refine (num_any b HY.out _ Hb.out).mono ?_
                rintro e vv ⟨rfl, hb⟩
                have KJ6 := Lib.hid (KH6.out.below hb KH6.out.lt)
                have h1 := H0.out.ext hb
                clear hb H0
                go_wp2_with (fail)
                refine hK.out _ _ h1 (fun hHeld => ?_)
                clear hK K h1
                try simp only [Act.put, List.getElem_toArray, List.getElem_cons_succ, List.getElem_cons_zero, List.setIfInBounds_toArray, List.set_cons_zero, List.set_cons_succ]
                have k6 := KJ6.out
                have z6 := Z6
                refine wpAnyH_cast (n' := 3) (l' := #[true, true, true, true, true, false, true, false, false]) (by kernel_rfl) (by kernel_rfl) ?_
                have hh := st3_6 g10 _ hHeld k6 z6
                rw [← hops] at hh
                exact hh
              · have h0 := hHeld
                clear hHeld
                try simp only [List.getElem_toArray, List.getElem_cons_succ, List.getElem_cons_zero]
                obtain ⟨kz, hg⟩ := Fn.fresh h0 32 #[.int .u64 0, .int .u64 0, .int .u64 0, .int .u64 0, .int .u64 0, .int .u64 0, .int .u64 0, .int .u64 0, .int .u64 0, .int .u64 0, .int .u64 0, .int .u64 0, .int .u64 0, .int .u64 0, .int .u64 0, .int .u64 0]
                have KZ := Lib.hid kz
                have HG := Lib.hid hg
                have H0 := Lib.hid h0
                clear kz hg h0
                have KH6 := Lib.hid K6
                go_simp
                refine hK.out _ _ (Fn.pass H0.out _) (fun hHeld => ?_)
                clear hK K H0
                try simp only [Act.put, List.getElem_toArray, List.getElem_cons_succ, List.getElem_cons_zero, List.setIfInBounds_toArray, List.set_cons_zero, List.set_cons_succ]
                have k6 := KH6.out.alloc (.cells #[.int .u64 0, .int .u64 0, .int .u64 0, .int .u64 0, .int .u64 0, .int .u64 0, .int .u64 0, .int .u64 0, .int .u64 0, .int .u64 0, .int .u64 0, .int .u64 0, .int .u64 0, .int .u64 0, .int .u64 0, .int .u64 0] 32)
                have z6 := Z6
                have k5 := KZ.out
                have z5 := HG.out
                refine wpAnyH_cast (n' := 3) (l' := #[true, true, true, true, false, true, true, false, false]) (by kernel_rfl) (by kernel_rfl) ?_
                have hh := st2_56 _ g10 _ hHeld k5 z5 k6 z6 (Ne.symm (Nat.ne_of_lt K6.lt))
                rw [← hops] at hh
                exact hh
          have st1_56 : ∀ (g9 g10 : Nat) (W : World), Fn wv W [(g7, 27, ev u), (g8, 27, ev y), (w.heap.size, 23, ks a), (w.heap.size + 1, 23, ks b)] → Blk W g9 32 #[.int .u64 0, .int .u64 0, .int .u64 0, .int .u64 0, .int .u64 0, .int .u64 0, .int .u64 0, .int .u64 0, .int .u64 0, .int .u64 0, .int .u64 0, .int .u64 0, .int .u64 0, .int .u64 0, .int .u64 0, .int .u64 0] → wv.heap.size ≤ g9 → Blk W g10 32 #[.int .u64 0, .int .u64 0, .int .u64 0, .int .u64 0, .int .u64 0, .int .u64 0, .int .u64 0, .int .u64 0, .int .u64 0, .int .u64 0, .int .u64 0, .int .u64 0, .int .u64 0, .int .u64 0, .int .u64 0, .int .u64 0] → wv.heap.size ≤ g10 → g9 ≠ g10 → wpAnyH Tryd.prog .any ops Q (fun W => Fn wv W [(g7, 27, ev u), (g8, 27, ev y), (w.heap.size, 23, ks a), (w.heap.size + 1, 23, ks b)]) 4 #[true, true, false, true, false, true, true, false, false] { tmps := #[.agg (ks a), .agg (ks b), .bool true, .pointer (some ⟨w.heap.size, 0, none⟩), .pointer (some ⟨w.heap.size + 1, 0, none⟩), undef, .bool false, .pointer (some ⟨g7, 0, none⟩), .pointer (some ⟨g8, 0, none⟩), .pointer (some ⟨g9, 0, none⟩), .pointer (some ⟨g10, 0, none⟩), undef, undef, undef, undef, u15, u16, u17, u18, .bool true, .agg (ev x), .agg (ev (x * x)), .agg (ev y), .agg (ev u), .agg (ev u), .agg (ks nu), u26, .agg (ks b), u28, u29, u30, u31, u32, u33, u34, u35, u36, u37, u38, u39, u40, u41, u42, u43, u44, u45, u46, u47, u48, u49, u50, u51, u52, u53, u54, u55, u56, u57, u58, u59, u60, u61, u62, u63, u64, u65, u66, u67, u68, u69, u70, u71, u72, u73, u74], defers := [] } W := by
            as_aux_lemma =>
              clear st2_6 st2_5 st3_ st3_6 st3_5 st3_56
              intro g9 g10 W hHeld K5 Z5 K6 Z6 n5_6
              rw [← hops]
              refine wpAnyH_ready (rs := [2]) (by kernel_rfl) (by simp) (AllReadyH.cons rfl (fun K hK => ?_) AllReadyH.nil)
              have KH5 := Lib.hid K5
              have KH6 := Lib.hid K6
              have h0 := hHeld
              clear hHeld
              try simp only [List.getElem_toArray, List.getElem_cons_succ, List.getElem_cons_zero]
              have H0 := Lib.hid h0
              clear h0
              go_simp
              go_at_call 7
              refine (num_any nu HUN.out _ HNL.out).mono ?_
              rintro e vv ⟨rfl, hb⟩
              have KJ5 := Lib.hid (KH5.out.below hb KH5.out.lt)
              have KJ6 := Lib.hid (KH6.out.below hb KH6.out.lt)
              have h1 := H0.out.ext hb
              clear hb H0
              go_wp2_with (fail)
              refine hK.out _ _ h1 (fun hHeld => ?_)
              clear hK K h1
              try simp only [Act.put, List.getElem_toArray, List.getElem_cons_succ, List.getElem_cons_zero, List.setIfInBounds_toArray, List.set_cons_zero, List.set_cons_succ]
              have k5 := KJ5.out
              have k6 := KJ6.out
              have z5 := Z5
              have z6 := Z6
              refine wpAnyH_cast (n' := 3) (l' := #[true, true, true, true, false, true, true, false, false]) (by kernel_rfl) (by kernel_rfl) ?_
              have hh := st2_56 g9 g10 _ hHeld k5 z5 k6 z6 n5_6
              rw [← hops] at hh
              exact hh
          have st2_ : ∀ (W : World), Fn wv W [(g7, 27, ev u), (g8, 27, ev y), (w.heap.size, 23, ks a), (w.heap.size + 1, 23, ks b)] → wpAnyH Tryd.prog .any ops Q (fun W => Fn wv W [(g7, 27, ev u), (g8, 27, ev y), (w.heap.size, 23, ks a), (w.heap.size + 1, 23, ks b)]) 5 #[true, true, true, true, false, false, false, false, false] { tmps := #[.agg (ks a), .agg (ks b), .bool true, .pointer (some ⟨w.heap.size, 0, none⟩), .pointer (some ⟨w.heap.size + 1, 0, none⟩), undef, .bool false, .pointer (some ⟨g7, 0, none⟩), .pointer (some ⟨g8, 0, none⟩), undef, undef, undef, undef, undef, undef, u15, u16, u17, u18, .bool true, .agg (ev x), .agg (ev (x * x)), .agg (ev y), .agg (ev u), .agg (ev u), .agg (ks nu), .agg (dv u), .agg (ks b), u28, u29, u30, u31, u32, u33, u34, u35, u36, u37, u38, u39, u40, u41, u42, u43, u44, u45, u46, u47, u48, u49, u50, u51, u52, u53, u54, u55, u56, u57, u58, u59, u60, u61, u62, u63, u64, u65, u66, u67, u68, u69, u70, u71, u72, u73, u74], defers := [] } W := by
            as_aux_lemma =>
              clear st1_56 st2_56 st3_6 st3_5 st3_56
              intro W hHeld
              rw [← hops]
              refine wpAnyH_ready (rs := [4, 5, 6]) (by kernel_rfl) (by simp) (AllReadyH.cons rfl (fun K hK => ?_) (AllReadyH.cons rfl (fun K hK => ?_) (AllReadyH.cons rfl (fun K hK => ?_) AllReadyH.nil)))
              · have h0 := hHeld
                clear hHeld
                try simp only [List.getElem_toArray, List.getElem_cons_succ, List.getElem_cons_zero]
                have H0 := Lib.hid h0
                clear h0
                go_simp
                go_at_call 7
                refine (num_any b HY.out _ Hb.out).mono ?_
                rintro e vv ⟨rfl, hb⟩
                have h1 := H0.out.ext hb
                clear hb H0
                go_wp2_with (fail)
                refine hK.out _ _ h1 (fun hHeld => ?_)
                clear hK K h1
                try simp only [Act.put, List.getElem_toArray, List.getElem_cons_succ, List.getElem_cons_zero, List.setIfInBounds_toArray, List.set_cons_zero, List.set_cons_succ]
                refine wpAnyH_cast (n' := 4) (l' := #[true, true, true, true, true, false, false, false, false]) (by kernel_rfl) (by kernel_rfl) ?_
                have hh := st3_ _ hHeld
                rw [← hops] at hh
                exact hh
              · have h0 := hHeld
                clear hHeld
                try simp only [List.getElem_toArray, List.getElem_cons_succ, List.getElem_cons_zero]
                obtain ⟨kz, hg⟩ := Fn.fresh h0 32 #[.int .u64 0, .int .u64 0, .int .u64 0, .int .u64 0, .int .u64 0, .int .u64 0, .int .u64 0, .int .u64 0, .int .u64 0, .int .u64 0, .int .u64 0, .int .u64 0, .int .u64 0, .int .u64 0, .int .u64 0, .int .u64 0]
                have KZ := Lib.hid kz
                have HG := Lib.hid hg
                have H0 := Lib.hid h0
                clear kz hg h0
                go_simp
                refine hK.out _ _ (Fn.pass H0.out _) (fun hHeld => ?_)
                clear hK K H0
                try simp only [Act.put, List.getElem_toArray, List.getElem_cons_succ, List.getElem_cons_zero, List.setIfInBounds_toArray, List.set_cons_zero, List.set_cons_succ]
                have k5 := KZ.out
                have z5 := HG.out
                refine wpAnyH_cast (n' := 4) (l' := #[true, true, true, true, false, true, false, false, false]) (by kernel_rfl) (by kernel_rfl) ?_
                have hh := st2_5 _ _ hHeld k5 z5
                rw [← hops] at hh
                exact hh
              · have h0 := hHeld
                clear hHeld
                try simp only [List.getElem_toArray, List.getElem_cons_succ, List.getElem_cons_zero]
                obtain ⟨kz, hg⟩ := Fn.fresh h0 32 #[.int .u64 0, .int .u64 0, .int .u64 0, .int .u64 0, .int .u64 0, .int .u64 0, .int .u64 0, .int .u64 0, .int .u64 0, .int .u64 0, .int .u64 0, .int .u64 0, .int .u64 0, .int .u64 0, .int .u64 0, .int .u64 0]
                have KZ := Lib.hid kz
                have HG := Lib.hid hg
                have H0 := Lib.hid h0
                clear kz hg h0
                go_simp
                refine hK.out _ _ (Fn.pass H0.out _) (fun hHeld => ?_)
                clear hK K H0
                try simp only [Act.put, List.getElem_toArray, List.getElem_cons_succ, List.getElem_cons_zero, List.setIfInBounds_toArray, List.set_cons_zero, List.set_cons_succ]
                have k6 := KZ.out
                have z6 := HG.out
                refine wpAnyH_cast (n' := 4) (l' := #[true, true, true, true, false, false, true, false, false]) (by kernel_rfl) (by kernel_rfl) ?_
                have hh := st2_6 _ _ hHeld k6 z6
                rw [← hops] at hh
                exact hh
          have st1_5 : ∀ (g9 : Nat) (W : World), Fn wv W [(g7, 27, ev u), (g8, 27, ev y), (w.heap.size, 23, ks a), (w.heap.size + 1, 23, ks b)] → Blk W g9 32 #[.int .u64 0, .int .u64 0, .int .u64 0, .int .u64 0, .int .u64 0, .int .u64 0, .int .u64 0, .int .u64 0, .int .u64 0, .int .u64 0, .int .u64 0, .int .u64 0, .int .u64 0, .int .u64 0, .int .u64 0, .int .u64 0] → wv.heap.size ≤ g9 → wpAnyH Tryd.prog .any ops Q (fun W => Fn wv W [(g7, 27, ev u), (g8, 27, ev y), (w.heap.size, 23, ks a), (w.heap.size + 1, 23, ks b)]) 5 #[true, true, false, true, false, true, false, false, false] { tmps := #[.agg (ks a), .agg (ks b), .bool true, .pointer (some ⟨w.heap.size, 0, none⟩), .pointer (some ⟨w.heap.size + 1, 0, none⟩), undef, .bool false, .pointer (some ⟨g7, 0, none⟩), .pointer (some ⟨g8, 0, none⟩), .pointer (some ⟨g9, 0, none⟩), undef, undef, undef, undef, undef, u15, u16, u17, u18, .bool true, .agg (ev x), .agg (ev (x * x)), .agg (ev y), .agg (ev u), .agg (ev u), .agg (ks nu), u26, .agg (ks b), u28, u29, u30, u31, u32, u33, u34, u35, u36, u37, u38, u39, u40, u41, u42, u43, u44, u45, u46, u47, u48, u49, u50, u51, u52, u53, u54, u55, u56, u57, u58, u59, u60, u61, u62, u63, u64, u65, u66, u67, u68, u69, u70, u71, u72, u73, u74], defers := [] } W := by
            as_aux_lemma =>
              clear st2_ st2_6 st3_ st2_56 st3_6 st3_5 st3_56
              intro g9 W hHeld K5 Z5
              rw [← hops]
              refine wpAnyH_ready (rs := [2, 6]) (by kernel_rfl) (by simp) (AllReadyH.cons rfl (fun K hK => ?_) (AllReadyH.cons rfl (fun K hK => ?_) AllReadyH.nil))
              · have KH5 := Lib.hid K5
                have h0 := hHeld
                clear hHeld
                try simp only [List.getElem_toArray, List.getElem_cons_succ, List.getElem_cons_zero]
                have H0 := Lib.hid h0
                clear h0
                go_simp
                go_at_call 7
                refine (num_any nu HUN.out _ HNL.out).mono ?_
                rintro e vv ⟨rfl, hb⟩
                have KJ5 := Lib.hid (KH5.out.below hb KH5.out.lt)
                have h1 := H0.out.ext hb
                clear hb H0
                go_wp2_with (fail)
                refine hK.out _ _ h1 (fun hHeld => ?_)
                clear hK K h1
                try simp only [Act.put, List.getElem_toArray, List.getElem_cons_succ, List.getElem_cons_zero, List.setIfInBounds_toArray, List.set_cons_zero, List.set_cons_succ]
                have k5 := KJ5.out
                have z5 := Z5
                refine wpAnyH_cast (n' := 4) (l' := #[true, true, true, true, false, true, false, false, false]) (by kernel_rfl) (by kernel_rfl) ?_
                have hh := st2_5 g9 _ hHeld k5 z5
                rw [← hops] at hh
                exact hh
              · have h0 := hHeld
                clear hHeld
                try simp only [List.getElem_toArray, List.getElem_cons_succ, List.getElem_cons_zero]
                obtain ⟨kz, hg⟩ := Fn.fresh h0 32 #[.int .u64 0, .int .u64 0, .int .u64 0, .int .u64 0, .int .u64 0, .int .u64 0, .int .u64 0, .int .u64 0, .int .u64 0, .int .u64 0, .int .u64 0, .int .u64 0, .int .u64 0, .int .u64 0, .int .u64 0, .int .u64 0]
                have KZ := Lib.hid kz
                have HG := Lib.hid hg
                have H0 := Lib.hid h0
                clear kz hg h0
                have KH5 := Lib.hid K5
                go_simp
                refine hK.out _ _ (Fn.pass H0.out _) (fun hHeld => ?_)
                clear hK K H0
                try simp only [Act.put, List.getElem_toArray, List.getElem_cons_succ, List.getElem_cons_zero, List.setIfInBounds_toArray, List.set_cons_zero, List.set_cons_succ]
                have k5 := KH5.out.alloc (.cells #[.int .u64 0, .int .u64 0, .int .u64 0, .int .u64 0, .int .u64 0, .int .u64 0, .int .u64 0, .int .u64 0, .int .u64 0, .int .u64 0, .int .u64 0, .int .u64 0, .int .u64 0, .int .u64 0, .int .u64 0, .int .u64 0] 32)
                have z5 := Z5
                have k6 := KZ.out
                have z6 := HG.out
                refine wpAnyH_cast (n' := 4) (l' := #[true, true, false, true, false, true, true, false, false]) (by kernel_rfl) (by kernel_rfl) ?_
                have hh := st1_56 g9 _ _ hHeld k5 z5 k6 z6 (Nat.ne_of_lt K5.lt)
                rw [← hops] at hh
                exact hh
          have st1_6 : ∀ (g10 : Nat) (W : World), Fn wv W [(g7, 27, ev u), (g8, 27, ev y), (w.heap.size, 23, ks a), (w.heap.size + 1, 23, ks b)] → Blk W g10 32 #[.int .u64 0, .int .u64 0, .int .u64 0, .int .u64 0, .int .u64 0, .int .u64 0, .int .u64 0, .int .u64 0, .int .u64 0, .int .u64 0, .int .u64 0, .int .u64 0, .int .u64 0, .int .u64 0, .int .u64 0, .int .u64 0] → wv.heap.size ≤ g10 → wpAnyH Tryd.prog .any ops Q (fun W => Fn wv W [(g7, 27, ev u), (g8, 27, ev y), (w.heap.size, 23, ks a), (w.heap.size + 1, 23, ks b)]) 5 #[true, true, false, true, false, false, true, false, false] { tmps := #[.agg (ks a), .agg (ks b), .bool true, .pointer (some ⟨w.heap.size, 0, none⟩), .pointer (some ⟨w.heap.size + 1, 0, none⟩), undef, .bool false, .pointer (some ⟨g7, 0, none⟩), .pointer (some ⟨g8, 0, none⟩), undef, .pointer (some ⟨g10, 0, none⟩), undef, undef, undef, undef, u15, u16, u17, u18, .bool true, .agg (ev x), .agg (ev (x * x)), .agg (ev y), .agg (ev u), .agg (ev u), .agg (ks nu), u26, .agg (ks b), u28, u29, u30, u31, u32, u33, u34, u35, u36, u37, u38, u39, u40, u41, u42, u43, u44, u45, u46, u47, u48, u49, u50, u51, u52, u53, u54, u55, u56, u57, u58, u59, u60, u61, u62, u63, u64, u65, u66, u67, u68, u69, u70, u71, u72, u73, u74], defers := [] } W := by
            as_aux_lemma =>
              clear st1_5 st2_ st2_5 st3_ st2_56 st3_6 st3_5 st3_56
              intro g10 W hHeld K6 Z6
              rw [← hops]
              refine wpAnyH_ready (rs := [2, 5]) (by kernel_rfl) (by simp) (AllReadyH.cons rfl (fun K hK => ?_) (AllReadyH.cons rfl (fun K hK => ?_) AllReadyH.nil))
              · have KH6 := Lib.hid K6
                have h0 := hHeld
                clear hHeld
                try simp only [List.getElem_toArray, List.getElem_cons_succ, List.getElem_cons_zero]
                have H0 := Lib.hid h0
                clear h0
                go_simp
                go_at_call 7
                refine (num_any nu HUN.out _ HNL.out).mono ?_
                rintro e vv ⟨rfl, hb⟩
                have KJ6 := Lib.hid (KH6.out.below hb KH6.out.lt)
                have h1 := H0.out.ext hb
                clear hb H0
                go_wp2_with (fail)
                refine hK.out _ _ h1 (fun hHeld => ?_)
                clear hK K h1
                try simp only [Act.put, List.getElem_toArray, List.getElem_cons_succ, List.getElem_cons_zero, List.setIfInBounds_toArray, List.set_cons_zero, List.set_cons_succ]
                have k6 := KJ6.out
                have z6 := Z6
                refine wpAnyH_cast (n' := 4) (l' := #[true, true, true, true, false, false, true, false, false]) (by kernel_rfl) (by kernel_rfl) ?_
                have hh := st2_6 g10 _ hHeld k6 z6
                rw [← hops] at hh
                exact hh
              · have h0 := hHeld
                clear hHeld
                try simp only [List.getElem_toArray, List.getElem_cons_succ, List.getElem_cons_zero]
                obtain ⟨kz, hg⟩ := Fn.fresh h0 32 #[.int .u64 0, .int .u64 0, .int .u64 0, .int .u64 0, .int .u64 0, .int .u64 0, .int .u64 0, .int .u64 0, .int .u64 0, .int .u64 0, .int .u64 0, .int .u64 0, .int .u64 0, .int .u64 0, .int .u64 0, .int .u64 0]
                have KZ := Lib.hid kz
                have HG := Lib.hid hg
                have H0 := Lib.hid h0
                clear kz hg h0
                have KH6 := Lib.hid K6
                go_simp
                refine hK.out _ _ (Fn.pass H0.out _) (fun hHeld => ?_)
                clear hK K H0
                try simp only [Act.put, List.getElem_toArray, List.getElem_cons_succ, List.getElem_cons_zero, List.setIfInBounds_toArray, List.set_cons_zero, List.set_cons_succ]
                have k6 := KH6.out.alloc (.cells #[.int .u64 0, .int .u64 0, .int .u64 0, .int .u64 0, .int .u64 0, .int .u64 0, .int .u64 0, .int .u64 0, .int .u64 0, .int .u64 0, .int .u64 0, .int .u64 0, .int .u64 0, .int .u64 0, .int .u64 0, .int .u64 0] 32)
                have z6 := Z6
                have k5 := KZ.out
                have z5 := HG.out
                refine wpAnyH_cast (n' := 4) (l' := #[true, true, false, true, false, true, true, false, false]) (by kernel_rfl) (by kernel_rfl) ?_
                have hh := st1_56 _ g10 _ hHeld k5 z5 k6 z6 (Ne.symm (Nat.ne_of_lt K6.lt))
                rw [← hops] at hh
                exact hh
          have st0_56 : ∀ (g9 g10 : Nat) (W : World), Fn wv W [(g7, 27, ev u), (g8, 27, ev y), (w.heap.size, 23, ks a), (w.heap.size + 1, 23, ks b)] → Blk W g9 32 #[.int .u64 0, .int .u64 0, .int .u64 0, .int .u64 0, .int .u64 0, .int .u64 0, .int .u64 0, .int .u64 0, .int .u64 0, .int .u64 0, .int .u64 0, .int .u64 0, .int .u64 0, .int .u64 0, .int .u64 0, .int .u64 0] → wv.heap.size ≤ g9 → Blk W g10 32 #[.int .u64 0, .int .u64 0, .int .u64 0, .int .u64 0, .int .u64 0, .int .u64 0, .int .u64 0, .int .u64 0, .int .u64 0, .int .u64 0, .int .u64 0, .int .u64 0, .int .u64 0, .int .u64 0, .int .u64 0, .int .u64 0] → wv.heap.size ≤ g10 → g9 ≠ g10 → wpAnyH Tryd.prog .any ops Q (fun W => Fn wv W [(g7, 27, ev u), (g8, 27, ev y), (w.heap.size, 23, ks a), (w.heap.size + 1, 23, ks b)]) 5 #[true, false, false, true, false, true, true, false, false] { tmps := #[.agg (ks a), .agg (ks b), .bool true, .pointer (some ⟨w.heap.size, 0, none⟩), .pointer (some ⟨w.heap.size + 1, 0, none⟩), undef, .bool false, .pointer (some ⟨g7, 0, none⟩), .pointer (some ⟨g8, 0, none⟩), .pointer (some ⟨g9, 0, none⟩), .pointer (some ⟨g10, 0, none⟩), undef, undef, undef, undef, u15, u16, u17, u18, .bool true, .agg (ev x), .agg (ev (x * x)), .agg (ev y), .agg (ev u), .agg (ev u), u25, u26, .agg (ks b), u28, u29, u30, u31, u32, u33, u34, u35, u36, u37, u38, u39, u40, u41, u42, u43, u44, u45, u46, u47, u48, u49, u50, u51, u52, u53, u54, u55, u56, u57, u58, u59, u60, u61, u62, u63, u64, u65, u66, u67, u68, u69, u70, u71, u72, u73, u74], defers := [] } W := by
            as_aux_lemma =>
              clear st1_6 st1_5 st2_ st2_6 st2_5 st3_ st2_56 st3_6 st3_5 st3_56
              intro g9 g10 W hHeld K5 Z5 K6 Z6 n5_6
              rw [← hops]
              refine wpAnyH_ready (rs := [1]) (by kernel_rfl) (by simp) (AllReadyH.cons rfl (fun K hK => ?_) AllReadyH.nil)
              have KH5 := Lib.hid K5
              have KH6 := Lib.hid K6
              have h0 := hHeld
              clear hHeld
              try simp only [List.getElem_toArray, List.getElem_cons_succ, List.getElem_cons_zero]
              have H0 := Lib.hid h0
              clear h0
              go_simp
              go_at_call 8
              refine (bytes_row HNU.out _).mono ?_
              rintro e vv ⟨rfl, hb⟩
              have KJ5 := Lib.hid (KH5.out.below hb KH5.out.lt)
              have KJ6 := Lib.hid (KH6.out.below hb KH6.out.lt)
              have h1 := H0.out.ext hb
              clear hb H0
              go_wp2_with (fail)
              refine hK.out _ _ h1 (fun hHeld => ?_)
              clear hK K h1
              try simp only [Act.put, List.getElem_toArray, List.getElem_cons_succ, List.getElem_cons_zero, List.setIfInBounds_toArray, List.set_cons_zero, List.set_cons_succ]
              have k5 := KJ5.out
              have k6 := KJ6.out
              have z5 := Z5
              have z6 := Z6
              refine wpAnyH_cast (n' := 4) (l' := #[true, true, false, true, false, true, true, false, false]) (by kernel_rfl) (by kernel_rfl) ?_
              have hh := st1_56 g9 g10 _ hHeld k5 z5 k6 z6 n5_6
              rw [← hops] at hh
              exact hh
          have st1_ : ∀ (W : World), Fn wv W [(g7, 27, ev u), (g8, 27, ev y), (w.heap.size, 23, ks a), (w.heap.size + 1, 23, ks b)] → wpAnyH Tryd.prog .any ops Q (fun W => Fn wv W [(g7, 27, ev u), (g8, 27, ev y), (w.heap.size, 23, ks a), (w.heap.size + 1, 23, ks b)]) 6 #[true, true, false, true, false, false, false, false, false] { tmps := #[.agg (ks a), .agg (ks b), .bool true, .pointer (some ⟨w.heap.size, 0, none⟩), .pointer (some ⟨w.heap.size + 1, 0, none⟩), undef, .bool false, .pointer (some ⟨g7, 0, none⟩), .pointer (some ⟨g8, 0, none⟩), undef, undef, undef, undef, undef, undef, u15, u16, u17, u18, .bool true, .agg (ev x), .agg (ev (x * x)), .agg (ev y), .agg (ev u), .agg (ev u), .agg (ks nu), u26, .agg (ks b), u28, u29, u30, u31, u32, u33, u34, u35, u36, u37, u38, u39, u40, u41, u42, u43, u44, u45, u46, u47, u48, u49, u50, u51, u52, u53, u54, u55, u56, u57, u58, u59, u60, u61, u62, u63, u64, u65, u66, u67, u68, u69, u70, u71, u72, u73, u74], defers := [] } W := by
            as_aux_lemma =>
              clear st0_56 st1_56 st2_6 st2_5 st3_ st2_56 st3_6 st3_5 st3_56
              intro W hHeld
              rw [← hops]
              refine wpAnyH_ready (rs := [2, 5, 6]) (by kernel_rfl) (by simp) (AllReadyH.cons rfl (fun K hK => ?_) (AllReadyH.cons rfl (fun K hK => ?_) (AllReadyH.cons rfl (fun K hK => ?_) AllReadyH.nil)))
              · have h0 := hHeld
                clear hHeld
                try simp only [List.getElem_toArray, List.getElem_cons_succ, List.getElem_cons_zero]
                have H0 := Lib.hid h0
                clear h0
                go_simp
                go_at_call 7
                refine (num_any nu HUN.out _ HNL.out).mono ?_
                rintro e vv ⟨rfl, hb⟩
                have h1 := H0.out.ext hb
                clear hb H0
                go_wp2_with (fail)
                refine hK.out _ _ h1 (fun hHeld => ?_)
                clear hK K h1
                try simp only [Act.put, List.getElem_toArray, List.getElem_cons_succ, List.getElem_cons_zero, List.setIfInBounds_toArray, List.set_cons_zero, List.set_cons_succ]
                refine wpAnyH_cast (n' := 5) (l' := #[true, true, true, true, false, false, false, false, false]) (by kernel_rfl) (by kernel_rfl) ?_
                have hh := st2_ _ hHeld
                rw [← hops] at hh
                exact hh
              · have h0 := hHeld
                clear hHeld
                try simp only [List.getElem_toArray, List.getElem_cons_succ, List.getElem_cons_zero]
                obtain ⟨kz, hg⟩ := Fn.fresh h0 32 #[.int .u64 0, .int .u64 0, .int .u64 0, .int .u64 0, .int .u64 0, .int .u64 0, .int .u64 0, .int .u64 0, .int .u64 0, .int .u64 0, .int .u64 0, .int .u64 0, .int .u64 0, .int .u64 0, .int .u64 0, .int .u64 0]
                have KZ := Lib.hid kz
                have HG := Lib.hid hg
                have H0 := Lib.hid h0
                clear kz hg h0
                go_simp
                refine hK.out _ _ (Fn.pass H0.out _) (fun hHeld => ?_)
                clear hK K H0
                try simp only [Act.put, List.getElem_toArray, List.getElem_cons_succ, List.getElem_cons_zero, List.setIfInBounds_toArray, List.set_cons_zero, List.set_cons_succ]
                have k5 := KZ.out
                have z5 := HG.out
                refine wpAnyH_cast (n' := 5) (l' := #[true, true, false, true, false, true, false, false, false]) (by kernel_rfl) (by kernel_rfl) ?_
                have hh := st1_5 _ _ hHeld k5 z5
                rw [← hops] at hh
                exact hh
              · have h0 := hHeld
                clear hHeld
                try simp only [List.getElem_toArray, List.getElem_cons_succ, List.getElem_cons_zero]
                obtain ⟨kz, hg⟩ := Fn.fresh h0 32 #[.int .u64 0, .int .u64 0, .int .u64 0, .int .u64 0, .int .u64 0, .int .u64 0, .int .u64 0, .int .u64 0, .int .u64 0, .int .u64 0, .int .u64 0, .int .u64 0, .int .u64 0, .int .u64 0, .int .u64 0, .int .u64 0]
                have KZ := Lib.hid kz
                have HG := Lib.hid hg
                have H0 := Lib.hid h0
                clear kz hg h0
                go_simp
                refine hK.out _ _ (Fn.pass H0.out _) (fun hHeld => ?_)
                clear hK K H0
                try simp only [Act.put, List.getElem_toArray, List.getElem_cons_succ, List.getElem_cons_zero, List.setIfInBounds_toArray, List.set_cons_zero, List.set_cons_succ]
                have k6 := KZ.out
                have z6 := HG.out
                refine wpAnyH_cast (n' := 5) (l' := #[true, true, false, true, false, false, true, false, false]) (by kernel_rfl) (by kernel_rfl) ?_
                have hh := st1_6 _ _ hHeld k6 z6
                rw [← hops] at hh
                exact hh
          have st0_5 : ∀ (g9 : Nat) (W : World), Fn wv W [(g7, 27, ev u), (g8, 27, ev y), (w.heap.size, 23, ks a), (w.heap.size + 1, 23, ks b)] → Blk W g9 32 #[.int .u64 0, .int .u64 0, .int .u64 0, .int .u64 0, .int .u64 0, .int .u64 0, .int .u64 0, .int .u64 0, .int .u64 0, .int .u64 0, .int .u64 0, .int .u64 0, .int .u64 0, .int .u64 0, .int .u64 0, .int .u64 0] → wv.heap.size ≤ g9 → wpAnyH Tryd.prog .any ops Q (fun W => Fn wv W [(g7, 27, ev u), (g8, 27, ev y), (w.heap.size, 23, ks a), (w.heap.size + 1, 23, ks b)]) 6 #[true, false, false, true, false, true, false, false, false] { tmps := #[.agg (ks a), .agg (ks b), .bool true, .pointer (some ⟨w.heap.size, 0, none⟩), .pointer (some ⟨w.heap.size + 1, 0, none⟩), undef, .bool false, .pointer (some ⟨g7, 0, none⟩), .pointer (some ⟨g8, 0, none⟩), .pointer (some ⟨g9, 0, none⟩), undef, undef, undef, undef, undef, u15, u16, u17, u18, .bool true, .agg (ev x), .agg (ev (x * x)), .agg (ev y), .agg (ev u), .agg (ev u), u25, u26, .agg (ks b), u28, u29, u30, u31, u32, u33, u34, u35, u36, u37, u38, u39, u40, u41, u42, u43, u44, u45, u46, u47, u48, u49, u50, u51, u52, u53, u54, u55, u56, u57, u58, u59, u60, u61, u62, u63, u64, u65, u66, u67, u68, u69, u70, u71, u72, u73, u74], defers := [] } W := by
            as_aux_lemma =>
              clear st1_ st1_6 st2_ st1_56 st2_6 st2_5 st3_ st2_56 st3_6 st3_5 st3_56
              intro g9 W hHeld K5 Z5
              rw [← hops]
              refine wpAnyH_ready (rs := [1, 6]) (by kernel_rfl) (by simp) (AllReadyH.cons rfl (fun K hK => ?_) (AllReadyH.cons rfl (fun K hK => ?_) AllReadyH.nil))
              · have KH5 := Lib.hid K5
                have h0 := hHeld
                clear hHeld
                try simp only [List.getElem_toArray, List.getElem_cons_succ, List.getElem_cons_zero]
                have H0 := Lib.hid h0
                clear h0
                go_simp
                go_at_call 8
                refine (bytes_row HNU.out _).mono ?_
                rintro e vv ⟨rfl, hb⟩
                have KJ5 := Lib.hid (KH5.out.below hb KH5.out.lt)
                have h1 := H0.out.ext hb
                clear hb H0
                go_wp2_with (fail)
                refine hK.out _ _ h1 (fun hHeld => ?_)
                clear hK K h1
                try simp only [Act.put, List.getElem_toArray, List.getElem_cons_succ, List.getElem_cons_zero, List.setIfInBounds_toArray, List.set_cons_zero, List.set_cons_succ]
                have k5 := KJ5.out
                have z5 := Z5
                refine wpAnyH_cast (n' := 5) (l' := #[true, true, false, true, false, true, false, false, false]) (by kernel_rfl) (by kernel_rfl) ?_
                have hh := st1_5 g9 _ hHeld k5 z5
                rw [← hops] at hh
                exact hh
              · have h0 := hHeld
                clear hHeld
                try simp only [List.getElem_toArray, List.getElem_cons_succ, List.getElem_cons_zero]
                obtain ⟨kz, hg⟩ := Fn.fresh h0 32 #[.int .u64 0, .int .u64 0, .int .u64 0, .int .u64 0, .int .u64 0, .int .u64 0, .int .u64 0, .int .u64 0, .int .u64 0, .int .u64 0, .int .u64 0, .int .u64 0, .int .u64 0, .int .u64 0, .int .u64 0, .int .u64 0]
                have KZ := Lib.hid kz
                have HG := Lib.hid hg
                have H0 := Lib.hid h0
                clear kz hg h0
                have KH5 := Lib.hid K5
                go_simp
                refine hK.out _ _ (Fn.pass H0.out _) (fun hHeld => ?_)
                clear hK K H0
                try simp only [Act.put, List.getElem_toArray, List.getElem_cons_succ, List.getElem_cons_zero, List.setIfInBounds_toArray, List.set_cons_zero, List.set_cons_succ]
                have k5 := KH5.out.alloc (.cells #[.int .u64 0, .int .u64 0, .int .u64 0, .int .u64 0, .int .u64 0, .int .u64 0, .int .u64 0, .int .u64 0, .int .u64 0, .int .u64 0, .int .u64 0, .int .u64 0, .int .u64 0, .int .u64 0, .int .u64 0, .int .u64 0] 32)
                have z5 := Z5
                have k6 := KZ.out
                have z6 := HG.out
                refine wpAnyH_cast (n' := 5) (l' := #[true, false, false, true, false, true, true, false, false]) (by kernel_rfl) (by kernel_rfl) ?_
                have hh := st0_56 g9 _ _ hHeld k5 z5 k6 z6 (Nat.ne_of_lt K5.lt)
                rw [← hops] at hh
                exact hh
          have st0_6 : ∀ (g10 : Nat) (W : World), Fn wv W [(g7, 27, ev u), (g8, 27, ev y), (w.heap.size, 23, ks a), (w.heap.size + 1, 23, ks b)] → Blk W g10 32 #[.int .u64 0, .int .u64 0, .int .u64 0, .int .u64 0, .int .u64 0, .int .u64 0, .int .u64 0, .int .u64 0, .int .u64 0, .int .u64 0, .int .u64 0, .int .u64 0, .int .u64 0, .int .u64 0, .int .u64 0, .int .u64 0] → wv.heap.size ≤ g10 → wpAnyH Tryd.prog .any ops Q (fun W => Fn wv W [(g7, 27, ev u), (g8, 27, ev y), (w.heap.size, 23, ks a), (w.heap.size + 1, 23, ks b)]) 6 #[true, false, false, true, false, false, true, false, false] { tmps := #[.agg (ks a), .agg (ks b), .bool true, .pointer (some ⟨w.heap.size, 0, none⟩), .pointer (some ⟨w.heap.size + 1, 0, none⟩), undef, .bool false, .pointer (some ⟨g7, 0, none⟩), .pointer (some ⟨g8, 0, none⟩), undef, .pointer (some ⟨g10, 0, none⟩), undef, undef, undef, undef, u15, u16, u17, u18, .bool true, .agg (ev x), .agg (ev (x * x)), .agg (ev y), .agg (ev u), .agg (ev u), u25, u26, .agg (ks b), u28, u29, u30, u31, u32, u33, u34, u35, u36, u37, u38, u39, u40, u41, u42, u43, u44, u45, u46, u47, u48, u49, u50, u51, u52, u53, u54, u55, u56, u57, u58, u59, u60, u61, u62, u63, u64, u65, u66, u67, u68, u69, u70, u71, u72, u73, u74], defers := [] } W := by
            as_aux_lemma =>
              clear st0_5 st1_ st1_5 st2_ st1_56 st2_6 st2_5 st3_ st2_56 st3_6 st3_5 st3_56
              intro g10 W hHeld K6 Z6
              rw [← hops]
              refine wpAnyH_ready (rs := [1, 5]) (by kernel_rfl) (by simp) (AllReadyH.cons rfl (fun K hK => ?_) (AllReadyH.cons rfl (fun K hK => ?_) AllReadyH.nil))
              · have KH6 := Lib.hid K6
                have h0 := hHeld
                clear hHeld
                try simp only [List.getElem_toArray, List.getElem_cons_succ, List.getElem_cons_zero]
                have H0 := Lib.hid h0
                clear h0
                go_simp
                go_at_call 8
                refine (bytes_row HNU.out _).mono ?_
                rintro e vv ⟨rfl, hb⟩
                have KJ6 := Lib.hid (KH6.out.below hb KH6.out.lt)
                have h1 := H0.out.ext hb
                clear hb H0
                go_wp2_with (fail)
                refine hK.out _ _ h1 (fun hHeld => ?_)
                clear hK K h1
                try simp only [Act.put, List.getElem_toArray, List.getElem_cons_succ, List.getElem_cons_zero, List.setIfInBounds_toArray, List.set_cons_zero, List.set_cons_succ]
                have k6 := KJ6.out
                have z6 := Z6
                refine wpAnyH_cast (n' := 5) (l' := #[true, true, false, true, false, false, true, false, false]) (by kernel_rfl) (by kernel_rfl) ?_
                have hh := st1_6 g10 _ hHeld k6 z6
                rw [← hops] at hh
                exact hh
              · have h0 := hHeld
                clear hHeld
                try simp only [List.getElem_toArray, List.getElem_cons_succ, List.getElem_cons_zero]
                obtain ⟨kz, hg⟩ := Fn.fresh h0 32 #[.int .u64 0, .int .u64 0, .int .u64 0, .int .u64 0, .int .u64 0, .int .u64 0, .int .u64 0, .int .u64 0, .int .u64 0, .int .u64 0, .int .u64 0, .int .u64 0, .int .u64 0, .int .u64 0, .int .u64 0, .int .u64 0]
                have KZ := Lib.hid kz
                have HG := Lib.hid hg
                have H0 := Lib.hid h0
                clear kz hg h0
                have KH6 := Lib.hid K6
                go_simp
                refine hK.out _ _ (Fn.pass H0.out _) (fun hHeld => ?_)
                clear hK K H0
                try simp only [Act.put, List.getElem_toArray, List.getElem_cons_succ, List.getElem_cons_zero, List.setIfInBounds_toArray, List.set_cons_zero, List.set_cons_succ]
                have k6 := KH6.out.alloc (.cells #[.int .u64 0, .int .u64 0, .int .u64 0, .int .u64 0, .int .u64 0, .int .u64 0, .int .u64 0, .int .u64 0, .int .u64 0, .int .u64 0, .int .u64 0, .int .u64 0, .int .u64 0, .int .u64 0, .int .u64 0, .int .u64 0] 32)
                have z6 := Z6
                have k5 := KZ.out
                have z5 := HG.out
                refine wpAnyH_cast (n' := 5) (l' := #[true, false, false, true, false, true, true, false, false]) (by kernel_rfl) (by kernel_rfl) ?_
                have hh := st0_56 _ g10 _ hHeld k5 z5 k6 z6 (Ne.symm (Nat.ne_of_lt K6.lt))
                rw [← hops] at hh
                exact hh
          have st0_ : ∀ (W : World), Fn wv W [(g7, 27, ev u), (g8, 27, ev y), (w.heap.size, 23, ks a), (w.heap.size + 1, 23, ks b)] → wpAnyH Tryd.prog .any ops Q (fun W => Fn wv W [(g7, 27, ev u), (g8, 27, ev y), (w.heap.size, 23, ks a), (w.heap.size + 1, 23, ks b)]) 7 #[true, false, false, true, false, false, false, false, false] { tmps := #[.agg (ks a), .agg (ks b), .bool true, .pointer (some ⟨w.heap.size, 0, none⟩), .pointer (some ⟨w.heap.size + 1, 0, none⟩), undef, .bool false, .pointer (some ⟨g7, 0, none⟩), .pointer (some ⟨g8, 0, none⟩), undef, undef, undef, undef, undef, undef, u15, u16, u17, u18, .bool true, .agg (ev x), .agg (ev (x * x)), .agg (ev y), .agg (ev u), .agg (ev u), u25, u26, .agg (ks b), u28, u29, u30, u31, u32, u33, u34, u35, u36, u37, u38, u39, u40, u41, u42, u43, u44, u45, u46, u47, u48, u49, u50, u51, u52, u53, u54, u55, u56, u57, u58, u59, u60, u61, u62, u63, u64, u65, u66, u67, u68, u69, u70, u71, u72, u73, u74], defers := [] } W := by
            as_aux_lemma =>
              clear st0_56 st1_6 st1_5 st2_ st1_56 st2_6 st2_5 st3_ st2_56 st3_6 st3_5 st3_56
              intro W hHeld
              rw [← hops]
              refine wpAnyH_ready (rs := [1, 5, 6]) (by kernel_rfl) (by simp) (AllReadyH.cons rfl (fun K hK => ?_) (AllReadyH.cons rfl (fun K hK => ?_) (AllReadyH.cons rfl (fun K hK => ?_) AllReadyH.nil)))
              · have h0 := hHeld
                clear hHeld
                try simp only [List.getElem_toArray, List.getElem_cons_succ, List.getElem_cons_zero]
                have H0 := Lib.hid h0
                clear h0
                go_simp
                go_at_call 8
                refine (bytes_row HNU.out _).mono ?_
                rintro e vv ⟨rfl, hb⟩
                have h1 := H0.out.ext hb
                clear hb H0
                go_wp2_with (fail)
                refine hK.out _ _ h1 (fun hHeld => ?_)
                clear hK K h1
                try simp only [Act.put, List.getElem_toArray, List.getElem_cons_succ, List.getElem_cons_zero, List.setIfInBounds_toArray, List.set_cons_zero, List.set_cons_succ]
                refine wpAnyH_cast (n' := 6) (l' := #[true, true, false, true, false, false, false, false, false]) (by kernel_rfl) (by kernel_rfl) ?_
                have hh := st1_ _ hHeld
                rw [← hops] at hh
                exact hh
              · have h0 := hHeld
                clear hHeld
                try simp only [List.getElem_toArray, List.getElem_cons_succ, List.getElem_cons_zero]
                obtain ⟨kz, hg⟩ := Fn.fresh h0 32 #[.int .u64 0, .int .u64 0, .int .u64 0, .int .u64 0, .int .u64 0, .int .u64 0, .int .u64 0, .int .u64 0, .int .u64 0, .int .u64 0, .int .u64 0, .int .u64 0, .int .u64 0, .int .u64 0, .int .u64 0, .int .u64 0]
                have KZ := Lib.hid kz
                have HG := Lib.hid hg
                have H0 := Lib.hid h0
                clear kz hg h0
                go_simp
                refine hK.out _ _ (Fn.pass H0.out _) (fun hHeld => ?_)
                clear hK K H0
                try simp only [Act.put, List.getElem_toArray, List.getElem_cons_succ, List.getElem_cons_zero, List.setIfInBounds_toArray, List.set_cons_zero, List.set_cons_succ]
                have k5 := KZ.out
                have z5 := HG.out
                refine wpAnyH_cast (n' := 6) (l' := #[true, false, false, true, false, true, false, false, false]) (by kernel_rfl) (by kernel_rfl) ?_
                have hh := st0_5 _ _ hHeld k5 z5
                rw [← hops] at hh
                exact hh
              · have h0 := hHeld
                clear hHeld
                try simp only [List.getElem_toArray, List.getElem_cons_succ, List.getElem_cons_zero]
                obtain ⟨kz, hg⟩ := Fn.fresh h0 32 #[.int .u64 0, .int .u64 0, .int .u64 0, .int .u64 0, .int .u64 0, .int .u64 0, .int .u64 0, .int .u64 0, .int .u64 0, .int .u64 0, .int .u64 0, .int .u64 0, .int .u64 0, .int .u64 0, .int .u64 0, .int .u64 0]
                have KZ := Lib.hid kz
                have HG := Lib.hid hg
                have H0 := Lib.hid h0
                clear kz hg h0
                go_simp
                refine hK.out _ _ (Fn.pass H0.out _) (fun hHeld => ?_)
                clear hK K H0
                try simp only [Act.put, List.getElem_toArray, List.getElem_cons_succ, List.getElem_cons_zero, List.setIfInBounds_toArray, List.set_cons_zero, List.set_cons_succ]
                have k6 := KZ.out
                have z6 := HG.out
                refine wpAnyH_cast (n' := 6) (l' := #[true, false, false, true, false, false, true, false, false]) (by kernel_rfl) (by kernel_rfl) ?_
                have hh := st0_6 _ _ hHeld k6 z6
                rw [← hops] at hh
                exact hh
          refine wpAnyH_cast (n' := 7) (l' := #[true, false, false, true, false, false, false, false, false]) (by kernel_rfl) (by kernel_rfl) ?_
          exact st0_ _ hHeld
      case rest =>
        as_aux_lemma =>
          obtain ⟨g9, g10, rfl, rfl, k9, k10, hb⟩ := hcut
          have hf2 := (((HF.out.ext hb).more k9).more k10)
          have hpg2 := HPG.out.ext hb
          clear HF HPG hb k9 k10 hpg2
          have HF := Lib.hid hf2
          clear hf2
          have l7 := HF.out.get (g := g7) (t := 27) (cs := ev u) (by simp)
          have l8 := HF.out.get (g := g8) (t := 27) (cs := ev y) (by simp)
          have L7 := Lib.hid l7
          have L8 := Lib.hid l8
          clear l7 l8
          go_wp2_with (first | (refine wpList_load_row rfl 27 (.tmp 7) rfl (g7) rfl 27 (ev u) (0, 0) _ L7.out Tryd.underlying27 rfl (info_ev _) ?_) | (refine wpList_load_row rfl 27 (.tmp 8) rfl (g8) rfl 27 (ev y) (0, 0) _ L8.out Tryd.underlying27 rfl (info_ev _) ?_))
          clear L7 L8
          refine (rootB HR.out _ (Fr.pg HF.out HP.out)).mono ?_
          rintro e v2 ⟨rfl, hb⟩
          have hf := HF.out.ext hb
          have ka : Blk (v2.alloc (.cells #[.int .u64 0, .int .u64 0, .int .u64 0, .int .u64 0] 27)) v2.heap.size 27 #[.int .u64 0, .int .u64 0, .int .u64 0, .int .u64 0] := Blk.new _ _ _
          have kc := ka.setRow_same (ev r)
          have hf3 := ((hf.pass (.cells #[.int .u64 0, .int .u64 0, .int .u64 0, .int .u64 0] 27)).setOut (g := v2.heap.size) (by have := hf.size; omega) (by intro p hp; exact Nat.ne_of_lt (hf.rows p hp).lt) (by simp) (ev r)).more kc
          have l9 := hf3.get (g := g9) (t := 32) (cs := dv u) (by simp)
          have l10 := hf3.get (g := g10) (t := 32) (cs := dv y) (by simp)
          have KA := Lib.hid ka
          have L9 := Lib.hid l9
          have L10 := Lib.hid l10
          have HF4 := Lib.hid hf3
          clear hb hf kc ka hf3 l9 l10 HF
          go_wp2_with (first | (refine wpList_store_row rfl 27 (.tmp 11) (.tmp 33) rfl (v2.heap.size) (ev r) rfl rfl 27 _ KA.out (info_ev _) rfl (ev_one _) ?_) | (refine wpList_load_row rfl 32 (.tmp 9) rfl (g9) rfl 32 (dv u) (0, 0) _ L9.out Tryd.underlying32 rfl (info_dv _) ?_) | (refine wpList_load_row rfl 32 (.tmp 10) rfl (g10) rfl 32 (dv y) (0, 0) _ L10.out Tryd.underlying32 rfl (info_dv _) ?_))
          have HF := HF4
          clear HF4 KA L9 L10
          obtain ⟨g11, hg11⟩ : ∃ g, g = v2.heap.size := ⟨_, rfl⟩
          obtain ⟨wy, hwy⟩ := fr_world HF.out
          rw [← hwy] at HF ⊢
          rw [← hg11] at HF ⊢
          clear hwy hg11
          refine (rrootD HRR.out _).mono ?_
          rintro e v3 ⟨rfl, hb⟩
          have hf := HF.out.ext hb
          have ka : Blk (v3.alloc (.cells #[.int .u64 0, .int .u64 0, .int .u64 0, .int .u64 0, .int .u64 0, .int .u64 0, .int .u64 0, .int .u64 0, .int .u64 0, .int .u64 0, .int .u64 0, .int .u64 0, .int .u64 0, .int .u64 0, .int .u64 0, .int .u64 0] 32)) v3.heap.size 32 #[.int .u64 0, .int .u64 0, .int .u64 0, .int .u64 0, .int .u64 0, .int .u64 0, .int .u64 0, .int .u64 0, .int .u64 0, .int .u64 0, .int .u64 0, .int .u64 0, .int .u64 0, .int .u64 0, .int .u64 0, .int .u64 0] := Blk.new _ _ _
          have kc := ka.setRow_same (dv r)
          have hf3 := ((hf.pass (.cells #[.int .u64 0, .int .u64 0, .int .u64 0, .int .u64 0, .int .u64 0, .int .u64 0, .int .u64 0, .int .u64 0, .int .u64 0, .int .u64 0, .int .u64 0, .int .u64 0, .int .u64 0, .int .u64 0, .int .u64 0, .int .u64 0] 32)).setOut (g := v3.heap.size) (by have := hf.size; omega) (by intro p hp; exact Nat.ne_of_lt (hf.rows p hp).lt) (by simp) (dv r)).more kc
          have l11 := hf3.get (g := g11) (t := 27) (cs := ev r) (by simp)
          have KA := Lib.hid ka
          have KC := Lib.hid kc
          have L11 := Lib.hid l11
          have HF4 := Lib.hid hf3
          clear hb hf kc ka hf3 l11 HF
          go_wp2_with (first | (refine wpList_store_row rfl 32 (.tmp 13) (.tmp 39) rfl (v3.heap.size) (dv r) rfl rfl 32 _ KA.out (info_dv _) (dv_zsize _) (dv_one _) ?_) | (refine wpList_load_wanted (by kernel_rfl) 27 (.tmp 11) rfl (g11) rfl 27 (ev r) (0, 0) _ L11.out Tryd.underlying27 rfl (info_ev _) ?_) | (refine wpList_load_wanted (by kernel_rfl) 32 (.tmp 13) rfl (v3.heap.size) rfl 32 (dv r) (0, 0) _ KC.out Tryd.underlying32 rfl (info_dv _) ?_))
          have HF := HF4
          clear HF4 KA KC L11
          refine (is_any r _).mono ?_
          rintro e v4 ⟨rfl, hb⟩
          have hf := HF.out.ext hb
          have HF4 := Lib.hid hf
          clear hb hf HF
          have HF := HF4
          clear HF4
          go_wp2_with (fail)
          refine wp_region_held_drew (S := fun W => Fr w W [(g11, 27, ev r), (g10, 32, dv y), (g9, 32, dv u), (g7, 27, ev u), (g8, 27, ev y), (w.heap.size, 23, ks a), (w.heap.size + 1, 23, ks b)] []) (by kernel_rfl) ?_ (fun hHeld => ?_)
          · exact (HF.out.sub (by simp) (by simp)).drew
          refine wpAnyH_take (i := 0) (v := ?_) rfl (by kernel_rfl) (by kernel_rfl) (by kernel_rfl) (fun _ _ _ h => h) (Or.inl ⟨by rfl, ?_⟩) hHeld ?_
          rotate_left
          · (intro W hSw; (try dsimp only at hSw); (try simp only [List.getElem_toArray, List.getElem_cons_succ, List.getElem_cons_zero]); go_simp; try with_reducible rfl)
          try simp only [Act.put, List.getElem_toArray, List.getElem_cons_succ, List.getElem_cons_zero, List.setIfInBounds_toArray, List.set_cons_zero, List.set_cons_succ]
          refine wpAnyH_take (i := 1) (v := ?_) rfl (by kernel_rfl) (by kernel_rfl) (by kernel_rfl) (fun _ _ _ h => h) (Or.inl ⟨by rfl, ?_⟩) hHeld ?_
          rotate_left
          · (intro W hSw; (try dsimp only at hSw); (try simp only [List.getElem_toArray, List.getElem_cons_succ, List.getElem_cons_zero]); go_simp; try with_reducible rfl)
          try simp only [Act.put, List.getElem_toArray, List.getElem_cons_succ, List.getElem_cons_zero, List.setIfInBounds_toArray, List.set_cons_zero, List.set_cons_succ]
          refine wpAnyH_take (i := 2) (v := ?_) rfl (by kernel_rfl) (by kernel_rfl) (by kernel_rfl) (fun _ _ _ h => h) (Or.inl ⟨by rfl, ?_⟩) hHeld ?_
          rotate_left
          · (intro W hSw; (try dsimp only at hSw); (try simp only [List.getElem_toArray, List.getElem_cons_succ, List.getElem_cons_zero]); go_simp; try with_reducible rfl)
          try simp only [Act.put, List.getElem_toArray, List.getElem_cons_succ, List.getElem_cons_zero, List.setIfInBounds_toArray, List.set_cons_zero, List.set_cons_succ]
          refine wpAnyH_take (i := 3) (v := .agg (ev r)) rfl (by kernel_rfl) (by kernel_rfl) (by kernel_rfl) (fun _ _ _ h => h) (yields_row (by rfl) 27 (.tmp 11) rfl (g11) rfl 27 (ev r) _ (fun W (h : Fr _ W _ _) => h.get (by simp)) Tryd.underlying27 rfl (info_ev _)) hHeld ?_
          try simp only [Act.put, List.getElem_toArray, List.getElem_cons_succ, List.getElem_cons_zero, List.setIfInBounds_toArray, List.set_cons_zero, List.set_cons_succ]
          refine wpAnyH_ready (rs := [4]) (by kernel_rfl) (by simp) (AllReadyH.cons rfl (fun K hK => ?_) AllReadyH.nil)
          have h0 := hHeld
          clear hHeld
          try simp only [List.getElem_toArray, List.getElem_cons_succ, List.getElem_cons_zero]
          have H0 := Lib.hid h0
          clear h0
          go_simp
          go_at_call 12
          refine (odd_no HEV.out _).mono ?_
          rintro e vv ⟨rfl, hb⟩
          have h1 := H0.out.ext hb
          clear hb H0
          go_wp2_with (fail)
          refine hK.out _ _ h1 (fun hHeld => ?_)
          clear hK K h1
          try simp only [Act.put, List.getElem_toArray, List.getElem_cons_succ, List.getElem_cons_zero, List.setIfInBounds_toArray, List.set_cons_zero, List.set_cons_succ]
          refine wpAnyH_take (i := 5) (v := ?_) rfl (by kernel_rfl) (by kernel_rfl) (by kernel_rfl) (fun _ _ _ h => h) (Or.inl ⟨by rfl, ?_⟩) hHeld ?_
          rotate_left
          · (intro W hSw; (try dsimp only at hSw); (try simp only [List.getElem_toArray, List.getElem_cons_succ, List.getElem_cons_zero]); go_simp; try with_reducible rfl)
          try simp only [Act.put, List.getElem_toArray, List.getElem_cons_succ, List.getElem_cons_zero, List.setIfInBounds_toArray, List.set_cons_zero, List.set_cons_succ]
          refine wpAnyH_take (i := 6) (v := ?_) rfl (by kernel_rfl) (by kernel_rfl) (by kernel_rfl) (fun _ _ _ h => h) (Or.inl ⟨by rfl, ?_⟩) hHeld ?_
          rotate_left
          · (intro W hSw; (try dsimp only at hSw); (try simp only [List.getElem_toArray, List.getElem_cons_succ, List.getElem_cons_zero]); go_simp; try with_reducible rfl)
          try simp only [Act.put, List.getElem_toArray, List.getElem_cons_succ, List.getElem_cons_zero, List.setIfInBounds_toArray, List.set_cons_zero, List.set_cons_succ]
          refine wpAnyH_take (i := 7) (v := .agg (ev y)) rfl (by kernel_rfl) (by kernel_rfl) (by kernel_rfl) (fun _ _ _ h => h) (yields_row (by rfl) 27 (.tmp 8) rfl (g8) rfl 27 (ev y) _ (fun W (h : Fr _ W _ _) => h.get (by simp)) Tryd.underlying27 rfl (info_ev _)) hHeld ?_
          try simp only [Act.put, List.getElem_toArray, List.getElem_cons_succ, List.getElem_cons_zero, List.setIfInBounds_toArray, List.set_cons_zero, List.set_cons_succ]
          refine wpAnyH_take (i := 8) (v := .agg (ev r)) rfl (by kernel_rfl) (by kernel_rfl) (by kernel_rfl) (fun _ _ _ h => h) (yields_row (by rfl) 27 (.tmp 11) rfl (g11) rfl 27 (ev r) _ (fun W (h : Fr _ W _ _) => h.get (by simp)) Tryd.underlying27 rfl (info_ev _)) hHeld ?_
          try simp only [Act.put, List.getElem_toArray, List.getElem_cons_succ, List.getElem_cons_zero, List.setIfInBounds_toArray, List.set_cons_zero, List.set_cons_succ]
          refine wpAnyH_take (i := 11) (v := .agg (ev u)) rfl (by kernel_rfl) (by kernel_rfl) (by kernel_rfl) (fun _ _ _ h => h) (yields_row (by rfl) 27 (.tmp 7) rfl (g7) rfl 27 (ev u) _ (fun W (h : Fr _ W _ _) => h.get (by simp)) Tryd.underlying27 rfl (info_ev _)) hHeld ?_
          try simp only [Act.put, List.getElem_toArray, List.getElem_cons_succ, List.getElem_cons_zero, List.setIfInBounds_toArray, List.set_cons_zero, List.set_cons_succ]
          refine wpAnyH_ready (rs := [9]) (by kernel_rfl) (by simp) (AllReadyH.cons rfl (fun K hK => ?_) AllReadyH.nil)
          have h0 := hHeld
          clear hHeld
          try simp only [List.getElem_toArray, List.getElem_cons_succ, List.getElem_cons_zero]
          have H0 := Lib.hid h0
          clear h0
          go_simp
          go_at_call 5
          refine (squareF r _ (Fr.pg H0.out HP.out)).mono ?_
          rintro e vv ⟨rfl, hb⟩
          have h1 := H0.out.ext hb
          clear hb H0
          go_wp2_with (fail)
          refine hK.out _ _ h1 (fun hHeld => ?_)
          clear hK K h1
          try simp only [Act.put, List.getElem_toArray, List.getElem_cons_succ, List.getElem_cons_zero, List.setIfInBounds_toArray, List.set_cons_zero, List.set_cons_succ]
          refine wpAnyH_ready (rs := [10]) (by kernel_rfl) (by simp) (AllReadyH.cons rfl (fun K hK => ?_) AllReadyH.nil)
          have h0 := hHeld
          clear hHeld
          try simp only [List.getElem_toArray, List.getElem_cons_succ, List.getElem_cons_zero]
          have H0 := Lib.hid h0
          clear h0
          go_simp
          go_at_call 6
          refine (mulF y (r * r) _ (Fr.pg H0.out HP.out)).mono ?_
          rintro e vv ⟨rfl, hb⟩
          have h1 := H0.out.ext hb
          clear hb H0
          go_wp2_with (fail)
          refine hK.out _ _ h1 (fun hHeld => ?_)
          clear hK K h1
          try simp only [Act.put, List.getElem_toArray, List.getElem_cons_succ, List.getElem_cons_zero, List.setIfInBounds_toArray, List.set_cons_zero, List.set_cons_succ]
          refine wpAnyH_ready (rs := [12]) (by kernel_rfl) (by simp) (AllReadyH.cons rfl (fun K hK => ?_) AllReadyH.nil)
          have h0 := hHeld
          clear hHeld
          try simp only [List.getElem_toArray, List.getElem_cons_succ, List.getElem_cons_zero]
          have H0 := Lib.hid h0
          clear h0
          go_simp
          go_at_call 13
          refine (equal_yes HSQ.out _).mono ?_
          rintro e vv ⟨rfl, hb⟩
          have h1 := H0.out.ext hb
          clear hb H0
          go_wp2_with (fail)
          refine hK.out _ _ h1 (fun hHeld => ?_)
          clear hK K h1
          try simp only [Act.put, List.getElem_toArray, List.getElem_cons_succ, List.getElem_cons_zero, List.setIfInBounds_toArray, List.set_cons_zero, List.set_cons_succ]
          refine wpAnyH_take (i := 13) (v := ?_) rfl (by kernel_rfl) (by kernel_rfl) (by kernel_rfl) (fun _ _ _ h => h) (Or.inl ⟨by rfl, ?_⟩) hHeld ?_
          rotate_left
          · (intro W hSw; (try dsimp only at hSw); (try simp only [List.getElem_toArray, List.getElem_cons_succ, List.getElem_cons_zero]); go_simp; try with_reducible rfl)
          try simp only [Act.put, List.getElem_toArray, List.getElem_cons_succ, List.getElem_cons_zero, List.setIfInBounds_toArray, List.set_cons_zero, List.set_cons_succ]
          refine wpAnyH_take (i := 14) (v := ?_) rfl (by kernel_rfl) (by kernel_rfl) (by kernel_rfl) (fun _ _ _ h => h) (Or.inl ⟨by rfl, ?_⟩) hHeld ?_
          rotate_left
          · (intro W hSw; (try dsimp only at hSw); (try simp only [List.getElem_toArray, List.getElem_cons_succ, List.getElem_cons_zero]); go_simp; try with_reducible rfl)
          try simp only [Act.put, List.getElem_toArray, List.getElem_cons_succ, List.getElem_cons_zero, List.setIfInBounds_toArray, List.set_cons_zero, List.set_cons_succ]
          refine wpAnyH_take (i := 15) (v := ?_) rfl (by kernel_rfl) (by kernel_rfl) (by kernel_rfl) (fun _ _ _ h => h) (Or.inl ⟨by rfl, ?_⟩) hHeld ?_
          rotate_left
          · (intro W hSw; (try dsimp only at hSw); (try simp only [List.getElem_toArray, List.getElem_cons_succ, List.getElem_cons_zero]); go_simp; try with_reducible rfl)
          try simp only [Act.put, List.getElem_toArray, List.getElem_cons_succ, List.getElem_cons_zero, List.setIfInBounds_toArray, List.set_cons_zero, List.set_cons_succ]
          refine wpAnyH_take (i := 16) (v := ?_) rfl (by kernel_rfl) (by kernel_rfl) (by kernel_rfl) (fun _ _ _ h => h) (Or.inl ⟨by rfl, ?_⟩) hHeld ?_
          rotate_left
          · (intro W hSw; (try dsimp only at hSw); (try simp only [List.getElem_toArray, List.getElem_cons_succ, List.getElem_cons_zero]); go_simp; try with_reducible rfl)
          try simp only [Act.put, List.getElem_toArray, List.getElem_cons_succ, List.getElem_cons_zero, List.setIfInBounds_toArray, List.set_cons_zero, List.set_cons_succ]
          refine wpAnyH_take (i := 17) (v := ?_) rfl (by kernel_rfl) (by kernel_rfl) (by kernel_rfl) (fun _ _ _ h => h) (Or.inl ⟨by rfl, ?_⟩) hHeld ?_
          rotate_left
          · (intro W hSw; (try dsimp only at hSw); (try simp only [List.getElem_toArray, List.getElem_cons_succ, List.getElem_cons_zero]); go_simp; try with_reducible rfl)
          try simp only [Act.put, List.getElem_toArray, List.getElem_cons_succ, List.getElem_cons_zero, List.setIfInBounds_toArray, List.set_cons_zero, List.set_cons_succ]
          refine wpAnyH_take (i := 18) (v := ?_) rfl (by kernel_rfl) (by kernel_rfl) (by kernel_rfl) (fun _ _ _ h => h) (Or.inl ⟨by rfl, ?_⟩) hHeld ?_
          rotate_left
          · (intro W hSw; (try dsimp only at hSw); (try simp only [List.getElem_toArray, List.getElem_cons_succ, List.getElem_cons_zero]); go_simp; try with_reducible rfl)
          try simp only [Act.put, List.getElem_toArray, List.getElem_cons_succ, List.getElem_cons_zero, List.setIfInBounds_toArray, List.set_cons_zero, List.set_cons_succ]
          refine wpAnyH_take (i := 19) (v := ?_) rfl (by kernel_rfl) (by kernel_rfl) (by kernel_rfl) (fun _ _ _ h => h) (Or.inl ⟨by rfl, ?_⟩) hHeld ?_
          rotate_left
          · (intro W hSw; (try dsimp only at hSw); (try simp only [List.getElem_toArray, List.getElem_cons_succ, List.getElem_cons_zero]); go_simp; try with_reducible rfl)
          try simp only [Act.put, List.getElem_toArray, List.getElem_cons_succ, List.getElem_cons_zero, List.setIfInBounds_toArray, List.set_cons_zero, List.set_cons_succ]
          refine wpAnyH_take (i := 20) (v := ?_) rfl (by kernel_rfl) (by kernel_rfl) (by kernel_rfl) (fun _ _ _ h => h) (Or.inl ⟨by rfl, ?_⟩) hHeld ?_
          rotate_left
          · (intro W hSw; (try dsimp only at hSw); (try simp only [List.getElem_toArray, List.getElem_cons_succ, List.getElem_cons_zero]); go_simp; try with_reducible rfl)
          try simp only [Act.put, List.getElem_toArray, List.getElem_cons_succ, List.getElem_cons_zero, List.setIfInBounds_toArray, List.set_cons_zero, List.set_cons_succ]
          refine wpAnyH_take (i := 21) (v := ?_) rfl (by kernel_rfl) (by kernel_rfl) (by kernel_rfl) (fun _ _ _ h => h) (Or.inl ⟨by rfl, ?_⟩) hHeld ?_
          rotate_left
          · (intro W hSw; (try dsimp only at hSw); (try simp only [List.getElem_toArray, List.getElem_cons_succ, List.getElem_cons_zero]); go_simp; try with_reducible rfl)
          try simp only [Act.put, List.getElem_toArray, List.getElem_cons_succ, List.getElem_cons_zero, List.setIfInBounds_toArray, List.set_cons_zero, List.set_cons_succ]
          refine wpAnyH_take (i := 22) (v := ?_) rfl (by kernel_rfl) (by kernel_rfl) (by kernel_rfl) (fun _ _ _ h => h) (Or.inl ⟨by rfl, ?_⟩) hHeld ?_
          rotate_left
          · (intro W hSw; (try dsimp only at hSw); (try simp only [List.getElem_toArray, List.getElem_cons_succ, List.getElem_cons_zero]); go_simp; try with_reducible rfl)
          try simp only [Act.put, List.getElem_toArray, List.getElem_cons_succ, List.getElem_cons_zero, List.setIfInBounds_toArray, List.set_cons_zero, List.set_cons_succ]
          refine wpAnyH_ready (rs := [23]) (by kernel_rfl) (by simp) (AllReadyH.cons rfl (fun K hK => ?_) AllReadyH.nil)
          have h0 := hHeld
          clear hHeld
          try simp only [List.getElem_toArray, List.getElem_cons_succ, List.getElem_cons_zero]
          have H0 := Lib.hid h0
          clear h0
          go_simp
          go_at_call 14
          refine (known_any _ (Fr.pg H0.out HP.out)).mono ?_
          rintro e vv ⟨rfl, hb⟩
          have h1 := H0.out.ext hb
          clear hb H0
          go_wp2_with (fail)
          refine hK.out _ _ h1 (fun hHeld => ?_)
          clear hK K h1
          try simp only [Act.put, List.getElem_toArray, List.getElem_cons_succ, List.getElem_cons_zero, List.setIfInBounds_toArray, List.set_cons_zero, List.set_cons_succ]
          refine wpAnyH_take (i := 24) (v := ?_) rfl (by kernel_rfl) (by kernel_rfl) (by kernel_rfl) (fun _ _ _ h => h) (Or.inl ⟨by rfl, ?_⟩) hHeld ?_
          rotate_left
          · (intro W hSw; (try dsimp only at hSw); (try simp only [List.getElem_toArray, List.getElem_cons_succ, List.getElem_cons_zero]); go_simp; try with_reducible rfl)
          try simp only [Act.put, List.getElem_toArray, List.getElem_cons_succ, List.getElem_cons_zero, List.setIfInBounds_toArray, List.set_cons_zero, List.set_cons_succ]
          refine wpAnyH_take (i := 25) (v := ?_) rfl (by kernel_rfl) (by kernel_rfl) (by kernel_rfl) (fun _ _ _ h => h) (Or.inl ⟨by rfl, ?_⟩) hHeld ?_
          rotate_left
          · (intro W hSw; (try dsimp only at hSw); (try simp only [List.getElem_toArray, List.getElem_cons_succ, List.getElem_cons_zero]); go_simp; try with_reducible rfl)
          try simp only [Act.put, List.getElem_toArray, List.getElem_cons_succ, List.getElem_cons_zero, List.setIfInBounds_toArray, List.set_cons_zero, List.set_cons_succ]
          refine wpAnyH_done (by kernel_rfl) ?_ _
          have HB := Lib.hid hHeld.below
          clear hHeld
          go_wp2_with (fail)
          go_ret
          exact ⟨rfl, HB.out⟩
end Go.Proofs.YtnfckoamjeafhaaDoor
