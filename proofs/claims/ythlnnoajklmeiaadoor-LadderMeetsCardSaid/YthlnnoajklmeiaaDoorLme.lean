/- The walk of LadderMeets; before it, the document's ladder under a name, its Public. -/
import Derived.Test.YthlnnoajklmeiaaDoorRl4
import Derived.Test.YthlnnoajklmeiaaDoorLkw
import Derived.Deep.DeepCutAuto
import Derived.Deep.CutBlock
namespace Go.Proofs.YthlnnoajklmeiaaDoor
set_option linter.unusedVariables false
set_option linter.unusedSimpArgs false
open Go Go.RowKit

attribute [local irreducible] lad lgo
theorem r4mulR {k n m : Nat} {y : Fin PP} (hy : y = lad Q0 (clampN k) (ofK n)) (h : m = y.val) (hk : k < 115792089237316195423570985008687907853269984665640564039457584007913129639936) (hn : n < 115792089237316195423570985008687907853269984665640564039457584007913129639936) (w : World) : Calls Tryd.prog 7 #[.agg (ks k), .agg (ks n)] w (KeyPost m w) := by
  rw [h]
  exact r4mul_any hy w hk hn
set_option maxRecDepth 100000 in
set_option maxHeartbeats 2000000 in
theorem r4public {k m : Nat} {y : Fin PP} (hy : y = lad Q0 (clampN k) (ofK 9)) (h : m = y.val) (hk : k < 115792089237316195423570985008687907853269984665640564039457584007913129639936) (w : World) : Calls Tryd.prog 12 #[.agg (ks k)] w (KeyPost m w) := by
  have hmu := fun W => r4mulR hy h hk (show 9 < 115792089237316195423570985008687907853269984665640564039457584007913129639936 by omega) W
  rw [lit9] at hmu
  have hfr := ((Fr.start w).row (ks k) 23 (g := w.heap.size) rfl).any (ks 0) 23 32 (ks_size 0) (g := w.heap.size + 1) (by simp)
  rw [ks_zero] at hfr
  have k0 := hfr.get (g := w.heap.size) (t := 23) (cs := ks k) (by simp)
  have HMU := Lib.hid hmu
  have HF := Lib.hid hfr
  have K0 := Lib.hid k0
  clear hmu hfr k0 hy h hk
  go_enter Tryd.func12, Tryd.ntmps12
  go_wp2_with (first | (refine wpList_load_row rfl 23 (.tmp 1) rfl (w.heap.size) rfl 23 (ks k) (0, 0) _ K0.out Tryd.underlying23 rfl (info_ks _) ?_))
  clear K0
  refine (HMU.out _).mono ?_
  rintro e v1 ⟨rfl, hb⟩
  have hf := HF.out.ext hb
  obtain ⟨old, hold, kR⟩ := hf.old (g := w.heap.size + 1) (t := 23) (n := 32) (by simp)
  have kS := kR.setRow_same (ks m)
  have hB2 := below_setRow hf.below (show w.heap.size ≤ w.heap.size + 1 by omega) (ks m)
  have hold' : old.size = (ks m).size := by rw [hold, ks_size]
  have HS := Lib.hid kS
  have HB2 := Lib.hid hB2
  have HO := Lib.hid hold'
  clear hb hf kS hB2 hold hold' HF
  go_wp2_with (first | (refine wpList_store_row rfl 23 (.tmp 2) (.tmp 5) rfl (w.heap.size + 1) (ks m) rfl rfl 23 old kR (info_ks _) HO.out (ks_one _) ?_))
  exact key_end (g := w.heap.size + 1) rfl rfl rfl HS.out HB2.out
set_option maxRecDepth 100000 in
set_option maxHeartbeats 16000000 in
theorem meets_no {a b pa pb m : Nat} {ya yb y : Fin PP} (hya : ya = lad Q0 (clampN a) (ofK 9)) (hpa : pa = ya.val) (hyb : yb = lad Q0 (clampN b) (ofK 9)) (hpb : pb = yb.val) (hy : y = lad Q0 (clampN a) (ofK pb)) (hy2 : y = lad Q0 (clampN b) (ofK pa)) (hm : m = y.val) (w : World) (hpg : PG w) (ha : a < 115792089237316195423570985008687907853269984665640564039457584007913129639936) (hb : b < 115792089237316195423570985008687907853269984665640564039457584007913129639936) (lpa : pa < 115792089237316195423570985008687907853269984665640564039457584007913129639936) (lpb : pb < 115792089237316195423570985008687907853269984665640564039457584007913129639936) (hz : m = 0) : Calls Tryd.prog 4 #[.agg (ks a), .agg (ks b)] w (BPost true w) := by
  have hs1 := fun W hp => shared_no hy hm ha lpb hz W hp
  have hs2 := fun W hp => shared_no hy2 hm hb lpa hz W hp
  have hp1 := fun W hp => public_any hyb hpb hb W hp
  have hp2 := fun W hp => public_any hya hpa ha W hp
  have hrp := fun W => r4public hya hpa ha W
  have hks := keys_same
  have hfr := ((Fr.start w).row (ks a) 23 (g := w.heap.size) rfl).row (ks b) 23 (g := w.heap.size + 1) (by simp)
  have HP := Lib.hid hpg
  have HS1 := Lib.hid hs1
  have HS2 := Lib.hid hs2
  have HP1 := Lib.hid hp1
  have HP2 := Lib.hid hp2
  have HRP := Lib.hid hrp
  clear hpg hs1 hs2 hp1 hp2 hrp hz hm hy hy2 hya hyb hpa hpb ha hb lpa lpb
  go_enter Tryd.func4, Tryd.ntmps4
  go_wp2_with (fail)
  obtain ⟨wx, hwx⟩ : ∃ wx : World, wx = (w.alloc (.cells (ks a) 23)).alloc (.cells (ks b) 23) := ⟨_, rfl⟩
  rw [← hwx] at hfr ⊢
  clear hwx
  have HF := Lib.hid hfr
  clear hfr
  have HPX := Lib.hid (Fr.pg HF.out HP.out)
  go_cut [5, 6] (fun s5 s6 wz => ∃ g5 : Nat, s5 = .pointer (some ⟨g5, 0, none⟩) ∧ s6 = .int .i64 8 ∧ wx.heap.size ≤ g5 ∧ Blk wz g5 23 (ks m) ∧ Below wx.heap.size wx wz)
  case first =>
    as_aux_lemma =>
      have hn := (HF.out.now.sub (L' := [(w.heap.size + 1, 23, ks b), (w.heap.size, 23, ks a)]) (by simp))
      have HN := Lib.hid hn
      clear hn
      refine wp_region_held_drew (S := fun W => Fn wx W [(w.heap.size + 1, 23, ks b), (w.heap.size, 23, ks a)]) (by kernel_rfl) ?_ (fun hHeld => ?_)
      · exact HN.out.drew
      refine wpAnyH_take (i := 0) (v := .agg (ks a)) rfl (by kernel_rfl) (by kernel_rfl) (by kernel_rfl) (fun _ _ _ h => h) (yields_row (by rfl) 23 (.tmp 2) rfl (w.heap.size) rfl 23 (ks a) _ (fun W (h : Fn _ W _) => h.get (by simp)) Tryd.underlying23 rfl (info_ks _)) hHeld ?_
      try simp only [Act.put, List.getElem_toArray, List.getElem_cons_succ, List.getElem_cons_zero, List.setIfInBounds_toArray, List.set_cons_zero, List.set_cons_succ]
      refine wpAnyH_take (i := 1) (v := .agg (ks b)) rfl (by kernel_rfl) (by kernel_rfl) (by kernel_rfl) (fun _ _ _ h => h) (yields_row (by rfl) 23 (.tmp 3) rfl (w.heap.size + 1) rfl 23 (ks b) _ (fun W (h : Fn _ W _) => h.get (by simp)) Tryd.underlying23 rfl (info_ks _)) hHeld ?_
      try simp only [Act.put, List.getElem_toArray, List.getElem_cons_succ, List.getElem_cons_zero, List.setIfInBounds_toArray, List.set_cons_zero, List.set_cons_succ]
      refine wpAnyH_name ?_
      intro ops Q hops hQ
      have st2_7 : ∀ (g5 : Nat) (W : World), Fn wx W [(w.heap.size + 1, 23, ks b), (w.heap.size, 23, ks a)] → Blk W g5 23 #[.int .u8 0, .int .u8 0, .int .u8 0, .int .u8 0, .int .u8 0, .int .u8 0, .int .u8 0, .int .u8 0, .int .u8 0, .int .u8 0, .int .u8 0, .int .u8 0, .int .u8 0, .int .u8 0, .int .u8 0, .int .u8 0, .int .u8 0, .int .u8 0, .int .u8 0, .int .u8 0, .int .u8 0, .int .u8 0, .int .u8 0, .int .u8 0, .int .u8 0, .int .u8 0, .int .u8 0, .int .u8 0, .int .u8 0, .int .u8 0, .int .u8 0, .int .u8 0] → wx.heap.size ≤ g5 → wpAnyH Tryd.prog .any ops Q (fun W => Fn wx W [(w.heap.size + 1, 23, ks b), (w.heap.size, 23, ks a)]) 2 #[true, true, true, true, true, true, true, true, false, false] { tmps := #[.agg (ks a), .agg (ks b), .pointer (some ⟨w.heap.size, 0, none⟩), .pointer (some ⟨w.heap.size + 1, 0, none⟩), .bool false, .pointer (some ⟨g5, 0, none⟩), undef, undef, undef, .tuple #[.agg (ks m), .int .i64 8], .agg (ks a), .agg (ks b), .agg (ks pb), .tuple #[.agg (ks m), .int .i64 8], .agg (ks m), .int .i64 8, undef, undef, undef, undef, undef, undef, undef, undef, undef, undef, undef, undef, undef, undef, undef, undef, undef, undef, undef, undef, undef, undef, undef, undef, undef], defers := [] } W := by
        as_aux_lemma =>
          intro g5 W hHeld K7 Z7
          rw [← hops]
          rw [← hQ]
          have KK7 := Lib.hid K7
          clear K7
          refine wpAnyH_ready (rs := [8]) (by kernel_rfl) (by simp) (AllReadyH.cons rfl (fun K hK => ?_) AllReadyH.nil)
          have h0 := hHeld
          clear hHeld
          try simp only [List.getElem_toArray, List.getElem_cons_succ, List.getElem_cons_zero]
          rw [if_pos (by rfl)]
          refine wp_store_row 23 (.tmp 5) (.tmp 14) rfl g5 (ks m) rfl rfl 23 _ KK7.out (info_ks _) (by rw [ks_size]; rfl) (ks_one _) ?_
          refine hK.out _ _ (Fn.setFresh h0 Z7 _) (fun hHeld => ?_)
          have J7 := Lib.hid (KK7.out.setRow_same (ks m))
          clear KK7
          have KK7 := J7
          clear J7
          clear hK K h0
          try simp only [Act.put, List.getElem_toArray, List.getElem_cons_succ, List.getElem_cons_zero, List.setIfInBounds_toArray, List.set_cons_zero, List.set_cons_succ]
          refine wpAnyH_take (i := 9) (v := ?_) rfl (by kernel_rfl) (by kernel_rfl) (by kernel_rfl) (fun _ _ _ h => h) (Or.inl ⟨by rfl, ?_⟩) hHeld ?_
          rotate_left
          · (intro W hSw; (try dsimp only at hSw); (try simp only [List.getElem_toArray, List.getElem_cons_succ, List.getElem_cons_zero]); go_simp; try with_reducible rfl)
          try simp only [Act.put, List.getElem_toArray, List.getElem_cons_succ, List.getElem_cons_zero, List.setIfInBounds_toArray, List.set_cons_zero, List.set_cons_succ]
          refine wpAnyH_done (by kernel_rfl) ?_ _
          have HB := Lib.hid hHeld.below
          clear hHeld
          go_wp2_with (fail)
          go_meet
          exact ⟨g5, rfl, rfl, Z7, KK7.out, HB.out⟩
      have st2_ : ∀ (W : World), Fn wx W [(w.heap.size + 1, 23, ks b), (w.heap.size, 23, ks a)] → wpAnyH Tryd.prog .any ops Q (fun W => Fn wx W [(w.heap.size + 1, 23, ks b), (w.heap.size, 23, ks a)]) 3 #[true, true, true, true, true, true, true, false, false, false] { tmps := #[.agg (ks a), .agg (ks b), .pointer (some ⟨w.heap.size, 0, none⟩), .pointer (some ⟨w.heap.size + 1, 0, none⟩), .bool false, undef, undef, undef, undef, .tuple #[.agg (ks m), .int .i64 8], .agg (ks a), .agg (ks b), .agg (ks pb), .tuple #[.agg (ks m), .int .i64 8], .agg (ks m), .int .i64 8, undef, undef, undef, undef, undef, undef, undef, undef, undef, undef, undef, undef, undef, undef, undef, undef, undef, undef, undef, undef, undef, undef, undef, undef, undef], defers := [] } W := by
        as_aux_lemma =>
          intro W hHeld
          rw [← hops]
          refine wpAnyH_ready (rs := [7]) (by kernel_rfl) (by simp) (AllReadyH.cons rfl (fun K hK => ?_) AllReadyH.nil)
          have h0 := hHeld
          clear hHeld
          try simp only [List.getElem_toArray, List.getElem_cons_succ, List.getElem_cons_zero]
          obtain ⟨kz, hg⟩ := Fn.fresh h0 23 #[.int .u8 0, .int .u8 0, .int .u8 0, .int .u8 0, .int .u8 0, .int .u8 0, .int .u8 0, .int .u8 0, .int .u8 0, .int .u8 0, .int .u8 0, .int .u8 0, .int .u8 0, .int .u8 0, .int .u8 0, .int .u8 0, .int .u8 0, .int .u8 0, .int .u8 0, .int .u8 0, .int .u8 0, .int .u8 0, .int .u8 0, .int .u8 0, .int .u8 0, .int .u8 0, .int .u8 0, .int .u8 0, .int .u8 0, .int .u8 0, .int .u8 0, .int .u8 0]
          have KZ := Lib.hid kz
          have HG := Lib.hid hg
          have H0 := Lib.hid h0
          clear kz hg h0
          go_simp
          refine hK.out _ _ (Fn.pass H0.out _) (fun hHeld => ?_)
          clear hK K H0
          try simp only [Act.put, List.getElem_toArray, List.getElem_cons_succ, List.getElem_cons_zero, List.setIfInBounds_toArray, List.set_cons_zero, List.set_cons_succ]
          have k7 := KZ.out
          have z7 := HG.out
          refine wpAnyH_cast (n' := 2) (l' := #[true, true, true, true, true, true, true, true, false, false]) (by kernel_rfl) (by kernel_rfl) ?_
          have hh := st2_7 _ _ hHeld k7 z7
          rw [← hops] at hh
          exact hh
      have st1_7 : ∀ (g5 : Nat) (W : World), Fn wx W [(w.heap.size + 1, 23, ks b), (w.heap.size, 23, ks a)] → Blk W g5 23 #[.int .u8 0, .int .u8 0, .int .u8 0, .int .u8 0, .int .u8 0, .int .u8 0, .int .u8 0, .int .u8 0, .int .u8 0, .int .u8 0, .int .u8 0, .int .u8 0, .int .u8 0, .int .u8 0, .int .u8 0, .int .u8 0, .int .u8 0, .int .u8 0, .int .u8 0, .int .u8 0, .int .u8 0, .int .u8 0, .int .u8 0, .int .u8 0, .int .u8 0, .int .u8 0, .int .u8 0, .int .u8 0, .int .u8 0, .int .u8 0, .int .u8 0, .int .u8 0] → wx.heap.size ≤ g5 → wpAnyH Tryd.prog .any ops Q (fun W => Fn wx W [(w.heap.size + 1, 23, ks b), (w.heap.size, 23, ks a)]) 6 #[true, true, true, false, false, false, false, true, false, false] { tmps := #[.agg (ks a), .agg (ks b), .pointer (some ⟨w.heap.size, 0, none⟩), .pointer (some ⟨w.heap.size + 1, 0, none⟩), .bool false, .pointer (some ⟨g5, 0, none⟩), undef, undef, undef, undef, .agg (ks a), .agg (ks b), .agg (ks pb), undef, undef, undef, undef, undef, undef, undef, undef, undef, undef, undef, undef, undef, undef, undef, undef, undef, undef, undef, undef, undef, undef, undef, undef, undef, undef, undef, undef], defers := [] } W := by
        as_aux_lemma =>
          clear st2_
          intro g5 W hHeld K7 Z7
          rw [← hops]
          refine wpAnyH_ready (rs := [3]) (by kernel_rfl) (by simp) (AllReadyH.cons rfl (fun K hK => ?_) AllReadyH.nil)
          have KH7 := Lib.hid K7
          have h0 := hHeld
          clear hHeld
          try simp only [List.getElem_toArray, List.getElem_cons_succ, List.getElem_cons_zero]
          have H0 := Lib.hid h0
          clear h0
          go_simp
          go_at_call 8
          refine (HS1.out _ (HPX.out.ext H0.out.below)).mono ?_
          rintro e vv ⟨rfl, hb⟩
          have KJ7 := Lib.hid (KH7.out.below hb KH7.out.lt)
          have h1 := H0.out.ext hb
          clear hb H0
          go_wp2_with (fail)
          refine hK.out _ _ h1 (fun hHeld => ?_)
          clear hK K h1
          try simp only [Act.put, List.getElem_toArray, List.getElem_cons_succ, List.getElem_cons_zero, List.setIfInBounds_toArray, List.set_cons_zero, List.set_cons_succ]
          have k7 := KJ7.out
          have z7 := Z7
          rw [← hQ]
          refine wpAnyH_take (i := 4) (v := ?_) rfl (by kernel_rfl) (by kernel_rfl) (by kernel_rfl) (fun _ _ _ h => h) (Or.inl ⟨by rfl, ?_⟩) hHeld ?_
          rotate_left
          · (intro W hSw; (try dsimp only at hSw); (try simp only [List.getElem_toArray, List.getElem_cons_succ, List.getElem_cons_zero]); go_simp; try with_reducible rfl)
          try simp only [Act.put, List.getElem_toArray, List.getElem_cons_succ, List.getElem_cons_zero, List.setIfInBounds_toArray, List.set_cons_zero, List.set_cons_succ]
          refine wpAnyH_take (i := 5) (v := ?_) rfl (by kernel_rfl) (by kernel_rfl) (by kernel_rfl) (fun _ _ _ h => h) (Or.inl ⟨by rfl, ?_⟩) hHeld ?_
          rotate_left
          · (intro W hSw; (try dsimp only at hSw); (try simp only [List.getElem_toArray, List.getElem_cons_succ, List.getElem_cons_zero]); go_simp; try with_reducible rfl)
          try simp only [Act.put, List.getElem_toArray, List.getElem_cons_succ, List.getElem_cons_zero, List.setIfInBounds_toArray, List.set_cons_zero, List.set_cons_succ]
          refine wpAnyH_take (i := 6) (v := ?_) rfl (by kernel_rfl) (by kernel_rfl) (by kernel_rfl) (fun _ _ _ h => h) (Or.inl ⟨by rfl, ?_⟩) hHeld ?_
          rotate_left
          · (intro W hSw; (try dsimp only at hSw); (try simp only [List.getElem_toArray, List.getElem_cons_succ, List.getElem_cons_zero]); go_simp; try with_reducible rfl)
          try simp only [Act.put, List.getElem_toArray, List.getElem_cons_succ, List.getElem_cons_zero, List.setIfInBounds_toArray, List.set_cons_zero, List.set_cons_succ]
          refine wpAnyH_cast (n' := 2) (l' := #[true, true, true, true, true, true, true, true, false, false]) (by kernel_rfl) (by kernel_rfl) ?_
          have hh := st2_7 g5 _ hHeld k7 z7
          rw [← hops, ← hQ] at hh
          exact hh
      have st1_ : ∀ (W : World), Fn wx W [(w.heap.size + 1, 23, ks b), (w.heap.size, 23, ks a)] → wpAnyH Tryd.prog .any ops Q (fun W => Fn wx W [(w.heap.size + 1, 23, ks b), (w.heap.size, 23, ks a)]) 7 #[true, true, true, false, false, false, false, false, false, false] { tmps := #[.agg (ks a), .agg (ks b), .pointer (some ⟨w.heap.size, 0, none⟩), .pointer (some ⟨w.heap.size + 1, 0, none⟩), .bool false, undef, undef, undef, undef, undef, .agg (ks a), .agg (ks b), .agg (ks pb), undef, undef, undef, undef, undef, undef, undef, undef, undef, undef, undef, undef, undef, undef, undef, undef, undef, undef, undef, undef, undef, undef, undef, undef, undef, undef, undef, undef], defers := [] } W := by
        as_aux_lemma =>
          clear st2_7
          intro W hHeld
          rw [← hops]
          refine wpAnyH_ready (rs := [3, 7]) (by kernel_rfl) (by simp) (AllReadyH.cons rfl (fun K hK => ?_) (AllReadyH.cons rfl (fun K hK => ?_) AllReadyH.nil))
          · have h0 := hHeld
            clear hHeld
            try simp only [List.getElem_toArray, List.getElem_cons_succ, List.getElem_cons_zero]
            have H0 := Lib.hid h0
            clear h0
            go_simp
            go_at_call 8
            refine (HS1.out _ (HPX.out.ext H0.out.below)).mono ?_
            rintro e vv ⟨rfl, hb⟩
            have h1 := H0.out.ext hb
            clear hb H0
            go_wp2_with (fail)
            refine hK.out _ _ h1 (fun hHeld => ?_)
            clear hK K h1
            try simp only [Act.put, List.getElem_toArray, List.getElem_cons_succ, List.getElem_cons_zero, List.setIfInBounds_toArray, List.set_cons_zero, List.set_cons_succ]
            rw [← hQ]
            refine wpAnyH_take (i := 4) (v := ?_) rfl (by kernel_rfl) (by kernel_rfl) (by kernel_rfl) (fun _ _ _ h => h) (Or.inl ⟨by rfl, ?_⟩) hHeld ?_
            rotate_left
            · (intro W hSw; (try dsimp only at hSw); (try simp only [List.getElem_toArray, List.getElem_cons_succ, List.getElem_cons_zero]); go_simp; try with_reducible rfl)
            try simp only [Act.put, List.getElem_toArray, List.getElem_cons_succ, List.getElem_cons_zero, List.setIfInBounds_toArray, List.set_cons_zero, List.set_cons_succ]
            refine wpAnyH_take (i := 5) (v := ?_) rfl (by kernel_rfl) (by kernel_rfl) (by kernel_rfl) (fun _ _ _ h => h) (Or.inl ⟨by rfl, ?_⟩) hHeld ?_
            rotate_left
            · (intro W hSw; (try dsimp only at hSw); (try simp only [List.getElem_toArray, List.getElem_cons_succ, List.getElem_cons_zero]); go_simp; try with_reducible rfl)
            try simp only [Act.put, List.getElem_toArray, List.getElem_cons_succ, List.getElem_cons_zero, List.setIfInBounds_toArray, List.set_cons_zero, List.set_cons_succ]
            refine wpAnyH_take (i := 6) (v := ?_) rfl (by kernel_rfl) (by kernel_rfl) (by kernel_rfl) (fun _ _ _ h => h) (Or.inl ⟨by rfl, ?_⟩) hHeld ?_
            rotate_left
            · (intro W hSw; (try dsimp only at hSw); (try simp only [List.getElem_toArray, List.getElem_cons_succ, List.getElem_cons_zero]); go_simp; try with_reducible rfl)
            try simp only [Act.put, List.getElem_toArray, List.getElem_cons_succ, List.getElem_cons_zero, List.setIfInBounds_toArray, List.set_cons_zero, List.set_cons_succ]
            refine wpAnyH_cast (n' := 3) (l' := #[true, true, true, true, true, true, true, false, false, false]) (by kernel_rfl) (by kernel_rfl) ?_
            have hh := st2_ _ hHeld
            rw [← hops, ← hQ] at hh
            exact hh
          · have h0 := hHeld
            clear hHeld
            try simp only [List.getElem_toArray, List.getElem_cons_succ, List.getElem_cons_zero]
            obtain ⟨kz, hg⟩ := Fn.fresh h0 23 #[.int .u8 0, .int .u8 0, .int .u8 0, .int .u8 0, .int .u8 0, .int .u8 0, .int .u8 0, .int .u8 0, .int .u8 0, .int .u8 0, .int .u8 0, .int .u8 0, .int .u8 0, .int .u8 0, .int .u8 0, .int .u8 0, .int .u8 0, .int .u8 0, .int .u8 0, .int .u8 0, .int .u8 0, .int .u8 0, .int .u8 0, .int .u8 0, .int .u8 0, .int .u8 0, .int .u8 0, .int .u8 0, .int .u8 0, .int .u8 0, .int .u8 0, .int .u8 0]
            have KZ := Lib.hid kz
            have HG := Lib.hid hg
            have H0 := Lib.hid h0
            clear kz hg h0
            go_simp
            refine hK.out _ _ (Fn.pass H0.out _) (fun hHeld => ?_)
            clear hK K H0
            try simp only [Act.put, List.getElem_toArray, List.getElem_cons_succ, List.getElem_cons_zero, List.setIfInBounds_toArray, List.set_cons_zero, List.set_cons_succ]
            have k7 := KZ.out
            have z7 := HG.out
            refine wpAnyH_cast (n' := 6) (l' := #[true, true, true, false, false, false, false, true, false, false]) (by kernel_rfl) (by kernel_rfl) ?_
            have hh := st1_7 _ _ hHeld k7 z7
            rw [← hops] at hh
            exact hh
      have st0_7 : ∀ (g5 : Nat) (W : World), Fn wx W [(w.heap.size + 1, 23, ks b), (w.heap.size, 23, ks a)] → Blk W g5 23 #[.int .u8 0, .int .u8 0, .int .u8 0, .int .u8 0, .int .u8 0, .int .u8 0, .int .u8 0, .int .u8 0, .int .u8 0, .int .u8 0, .int .u8 0, .int .u8 0, .int .u8 0, .int .u8 0, .int .u8 0, .int .u8 0, .int .u8 0, .int .u8 0, .int .u8 0, .int .u8 0, .int .u8 0, .int .u8 0, .int .u8 0, .int .u8 0, .int .u8 0, .int .u8 0, .int .u8 0, .int .u8 0, .int .u8 0, .int .u8 0, .int .u8 0, .int .u8 0] → wx.heap.size ≤ g5 → wpAnyH Tryd.prog .any ops Q (fun W => Fn wx W [(w.heap.size + 1, 23, ks b), (w.heap.size, 23, ks a)]) 7 #[true, true, false, false, false, false, false, true, false, false] { tmps := #[.agg (ks a), .agg (ks b), .pointer (some ⟨w.heap.size, 0, none⟩), .pointer (some ⟨w.heap.size + 1, 0, none⟩), .bool false, .pointer (some ⟨g5, 0, none⟩), undef, undef, undef, undef, .agg (ks a), .agg (ks b), undef, undef, undef, undef, undef, undef, undef, undef, undef, undef, undef, undef, undef, undef, undef, undef, undef, undef, undef, undef, undef, undef, undef, undef, undef, undef, undef, undef, undef], defers := [] } W := by
        as_aux_lemma =>
          clear st1_ st2_ st2_7
          intro g5 W hHeld K7 Z7
          rw [← hops]
          refine wpAnyH_ready (rs := [2]) (by kernel_rfl) (by simp) (AllReadyH.cons rfl (fun K hK => ?_) AllReadyH.nil)
          have KH7 := Lib.hid K7
          have h0 := hHeld
          clear hHeld
          try simp only [List.getElem_toArray, List.getElem_cons_succ, List.getElem_cons_zero]
          have H0 := Lib.hid h0
          clear h0
          go_simp
          go_at_call 11
          refine (HP1.out _ (HPX.out.ext H0.out.below)).mono ?_
          rintro e vv ⟨rfl, hb⟩
          have KJ7 := Lib.hid (KH7.out.below hb KH7.out.lt)
          have h1 := H0.out.ext hb
          clear hb H0
          go_wp2_with (fail)
          refine hK.out _ _ h1 (fun hHeld => ?_)
          clear hK K h1
          try simp only [Act.put, List.getElem_toArray, List.getElem_cons_succ, List.getElem_cons_zero, List.setIfInBounds_toArray, List.set_cons_zero, List.set_cons_succ]
          have k7 := KJ7.out
          have z7 := Z7
          refine wpAnyH_cast (n' := 6) (l' := #[true, true, true, false, false, false, false, true, false, false]) (by kernel_rfl) (by kernel_rfl) ?_
          have hh := st1_7 g5 _ hHeld k7 z7
          rw [← hops] at hh
          exact hh
      have st0_ : ∀ (W : World), Fn wx W [(w.heap.size + 1, 23, ks b), (w.heap.size, 23, ks a)] → wpAnyH Tryd.prog .any ops Q (fun W => Fn wx W [(w.heap.size + 1, 23, ks b), (w.heap.size, 23, ks a)]) 8 #[true, true, false, false, false, false, false, false, false, false] { tmps := #[.agg (ks a), .agg (ks b), .pointer (some ⟨w.heap.size, 0, none⟩), .pointer (some ⟨w.heap.size + 1, 0, none⟩), .bool false, undef, undef, undef, undef, undef, .agg (ks a), .agg (ks b), undef, undef, undef, undef, undef, undef, undef, undef, undef, undef, undef, undef, undef, undef, undef, undef, undef, undef, undef, undef, undef, undef, undef, undef, undef, undef, undef, undef, undef], defers := [] } W := by
        as_aux_lemma =>
          clear st1_7 st2_ st2_7
          intro W hHeld
          rw [← hops]
          refine wpAnyH_ready (rs := [2, 7]) (by kernel_rfl) (by simp) (AllReadyH.cons rfl (fun K hK => ?_) (AllReadyH.cons rfl (fun K hK => ?_) AllReadyH.nil))
          · have h0 := hHeld
            clear hHeld
            try simp only [List.getElem_toArray, List.getElem_cons_succ, List.getElem_cons_zero]
            have H0 := Lib.hid h0
            clear h0
            go_simp
            go_at_call 11
            refine (HP1.out _ (HPX.out.ext H0.out.below)).mono ?_
            rintro e vv ⟨rfl, hb⟩
            have h1 := H0.out.ext hb
            clear hb H0
            go_wp2_with (fail)
            refine hK.out _ _ h1 (fun hHeld => ?_)
            clear hK K h1
            try simp only [Act.put, List.getElem_toArray, List.getElem_cons_succ, List.getElem_cons_zero, List.setIfInBounds_toArray, List.set_cons_zero, List.set_cons_succ]
            refine wpAnyH_cast (n' := 7) (l' := #[true, true, true, false, false, false, false, false, false, false]) (by kernel_rfl) (by kernel_rfl) ?_
            have hh := st1_ _ hHeld
            rw [← hops] at hh
            exact hh
          · have h0 := hHeld
            clear hHeld
            try simp only [List.getElem_toArray, List.getElem_cons_succ, List.getElem_cons_zero]
            obtain ⟨kz, hg⟩ := Fn.fresh h0 23 #[.int .u8 0, .int .u8 0, .int .u8 0, .int .u8 0, .int .u8 0, .int .u8 0, .int .u8 0, .int .u8 0, .int .u8 0, .int .u8 0, .int .u8 0, .int .u8 0, .int .u8 0, .int .u8 0, .int .u8 0, .int .u8 0, .int .u8 0, .int .u8 0, .int .u8 0, .int .u8 0, .int .u8 0, .int .u8 0, .int .u8 0, .int .u8 0, .int .u8 0, .int .u8 0, .int .u8 0, .int .u8 0, .int .u8 0, .int .u8 0, .int .u8 0, .int .u8 0]
            have KZ := Lib.hid kz
            have HG := Lib.hid hg
            have H0 := Lib.hid h0
            clear kz hg h0
            go_simp
            refine hK.out _ _ (Fn.pass H0.out _) (fun hHeld => ?_)
            clear hK K H0
            try simp only [Act.put, List.getElem_toArray, List.getElem_cons_succ, List.getElem_cons_zero, List.setIfInBounds_toArray, List.set_cons_zero, List.set_cons_succ]
            have k7 := KZ.out
            have z7 := HG.out
            refine wpAnyH_cast (n' := 7) (l' := #[true, true, false, false, false, false, false, true, false, false]) (by kernel_rfl) (by kernel_rfl) ?_
            have hh := st0_7 _ _ hHeld k7 z7
            rw [← hops] at hh
            exact hh
      refine wpAnyH_cast (n' := 8) (l' := #[true, true, false, false, false, false, false, false, false, false]) (by kernel_rfl) (by kernel_rfl) ?_
      exact st0_ _ hHeld
  case rest =>
    as_aux_lemma =>
      obtain ⟨g5, rfl, rfl, z5, k5, hb⟩ := hcut
      have hf := (HF.out.ext hb).more k5
      have HF4 := Lib.hid hf
      clear hf hb HF k5
      have HF := HF4
      clear HF4
      obtain ⟨wy, h_w⟩ : ∃ z : World, z = wc := ⟨_, rfl⟩
      rw [← h_w] at HF ⊢
      clear h_w
      have HPwy := Lib.hid (Fr.pg HF.out HP.out)
      go_wp2_with (fail)
      go_cut [7, 8] (fun s7 s8 wz => ∃ g7 : Nat, s7 = .pointer (some ⟨g7, 0, none⟩) ∧ s8 = .int .i64 8 ∧ wy.heap.size ≤ g7 ∧ Blk wz g7 23 (ks m) ∧ Below wy.heap.size wy wz)
      case first =>
        as_aux_lemma =>
          have hn := (HF.out.now.sub (L' := [(g5, 23, ks m), (w.heap.size + 1, 23, ks b), (w.heap.size, 23, ks a)]) (by simp))
          have HN := Lib.hid hn
          clear hn
          refine wp_region_held_drew (S := fun W => Fn wy W [(g5, 23, ks m), (w.heap.size + 1, 23, ks b), (w.heap.size, 23, ks a)]) (by kernel_rfl) ?_ (fun hHeld => ?_)
          · exact HN.out.drew
          refine wpAnyH_take (i := 0) (v := .agg (ks b)) rfl (by kernel_rfl) (by kernel_rfl) (by kernel_rfl) (fun _ _ _ h => h) (yields_row (by rfl) 23 (.tmp 3) rfl (w.heap.size + 1) rfl 23 (ks b) _ (fun W (h : Fn _ W _) => h.get (by simp)) Tryd.underlying23 rfl (info_ks _)) hHeld ?_
          try simp only [Act.put, List.getElem_toArray, List.getElem_cons_succ, List.getElem_cons_zero, List.setIfInBounds_toArray, List.set_cons_zero, List.set_cons_succ]
          refine wpAnyH_take (i := 1) (v := .agg (ks a)) rfl (by kernel_rfl) (by kernel_rfl) (by kernel_rfl) (fun _ _ _ h => h) (yields_row (by rfl) 23 (.tmp 2) rfl (w.heap.size) rfl 23 (ks a) _ (fun W (h : Fn _ W _) => h.get (by simp)) Tryd.underlying23 rfl (info_ks _)) hHeld ?_
          try simp only [Act.put, List.getElem_toArray, List.getElem_cons_succ, List.getElem_cons_zero, List.setIfInBounds_toArray, List.set_cons_zero, List.set_cons_succ]
          refine wpAnyH_name ?_
          intro ops Q hops hQ
          have st2_7 : ∀ (g7 : Nat) (W : World), Fn wy W [(g5, 23, ks m), (w.heap.size + 1, 23, ks b), (w.heap.size, 23, ks a)] → Blk W g7 23 #[.int .u8 0, .int .u8 0, .int .u8 0, .int .u8 0, .int .u8 0, .int .u8 0, .int .u8 0, .int .u8 0, .int .u8 0, .int .u8 0, .int .u8 0, .int .u8 0, .int .u8 0, .int .u8 0, .int .u8 0, .int .u8 0, .int .u8 0, .int .u8 0, .int .u8 0, .int .u8 0, .int .u8 0, .int .u8 0, .int .u8 0, .int .u8 0, .int .u8 0, .int .u8 0, .int .u8 0, .int .u8 0, .int .u8 0, .int .u8 0, .int .u8 0, .int .u8 0] → wy.heap.size ≤ g7 → wpAnyH Tryd.prog .any ops Q (fun W => Fn wy W [(g5, 23, ks m), (w.heap.size + 1, 23, ks b), (w.heap.size, 23, ks a)]) 2 #[true, true, true, true, true, true, true, true, false, false] { tmps := #[.agg (ks a), .agg (ks b), .pointer (some ⟨w.heap.size, 0, none⟩), .pointer (some ⟨w.heap.size + 1, 0, none⟩), .bool false, .pointer (some ⟨g5, 0, none⟩), .int .i64 8, .pointer (some ⟨g7, 0, none⟩), undef, u9, u10, u11, u12, u13, u14, u15, .tuple #[.agg (ks m), .int .i64 8], .agg (ks b), .agg (ks a), .agg (ks pa), .tuple #[.agg (ks m), .int .i64 8], .agg (ks m), .int .i64 8, u23, u24, u25, u26, u27, u28, u29, u30, u31, u32, u33, u34, u35, u36, u37, u38, u39, u40], defers := [] } W := by
            as_aux_lemma =>
              intro g7 W hHeld K7 Z7
              rw [← hops]
              rw [← hQ]
              have KK7 := Lib.hid K7
              clear K7
              refine wpAnyH_ready (rs := [8]) (by kernel_rfl) (by simp) (AllReadyH.cons rfl (fun K hK => ?_) AllReadyH.nil)
              have h0 := hHeld
              clear hHeld
              try simp only [List.getElem_toArray, List.getElem_cons_succ, List.getElem_cons_zero]
              rw [if_pos (by rfl)]
              refine wp_store_row 23 (.tmp 7) (.tmp 21) rfl g7 (ks m) rfl rfl 23 _ KK7.out (info_ks _) (by rw [ks_size]; rfl) (ks_one _) ?_
              refine hK.out _ _ (Fn.setFresh h0 Z7 _) (fun hHeld => ?_)
              have J7 := Lib.hid (KK7.out.setRow_same (ks m))
              clear KK7
              have KK7 := J7
              clear J7
              clear hK K h0
              try simp only [Act.put, List.getElem_toArray, List.getElem_cons_succ, List.getElem_cons_zero, List.setIfInBounds_toArray, List.set_cons_zero, List.set_cons_succ]
              refine wpAnyH_take (i := 9) (v := ?_) rfl (by kernel_rfl) (by kernel_rfl) (by kernel_rfl) (fun _ _ _ h => h) (Or.inl ⟨by rfl, ?_⟩) hHeld ?_
              rotate_left
              · (intro W hSw; (try dsimp only at hSw); (try simp only [List.getElem_toArray, List.getElem_cons_succ, List.getElem_cons_zero]); go_simp; try with_reducible rfl)
              try simp only [Act.put, List.getElem_toArray, List.getElem_cons_succ, List.getElem_cons_zero, List.setIfInBounds_toArray, List.set_cons_zero, List.set_cons_succ]
              refine wpAnyH_done (by kernel_rfl) ?_ _
              have HB := Lib.hid hHeld.below
              clear hHeld
              go_wp2_with (fail)
              go_meet
              exact ⟨g7, rfl, rfl, Z7, KK7.out, HB.out⟩
          have st2_ : ∀ (W : World), Fn wy W [(g5, 23, ks m), (w.heap.size + 1, 23, ks b), (w.heap.size, 23, ks a)] → wpAnyH Tryd.prog .any ops Q (fun W => Fn wy W [(g5, 23, ks m), (w.heap.size + 1, 23, ks b), (w.heap.size, 23, ks a)]) 3 #[true, true, true, true, true, true, true, false, false, false] { tmps := #[.agg (ks a), .agg (ks b), .pointer (some ⟨w.heap.size, 0, none⟩), .pointer (some ⟨w.heap.size + 1, 0, none⟩), .bool false, .pointer (some ⟨g5, 0, none⟩), .int .i64 8, undef, undef, u9, u10, u11, u12, u13, u14, u15, .tuple #[.agg (ks m), .int .i64 8], .agg (ks b), .agg (ks a), .agg (ks pa), .tuple #[.agg (ks m), .int .i64 8], .agg (ks m), .int .i64 8, u23, u24, u25, u26, u27, u28, u29, u30, u31, u32, u33, u34, u35, u36, u37, u38, u39, u40], defers := [] } W := by
            as_aux_lemma =>
              intro W hHeld
              rw [← hops]
              refine wpAnyH_ready (rs := [7]) (by kernel_rfl) (by simp) (AllReadyH.cons rfl (fun K hK => ?_) AllReadyH.nil)
              have h0 := hHeld
              clear hHeld
              try simp only [List.getElem_toArray, List.getElem_cons_succ, List.getElem_cons_zero]
              obtain ⟨kz, hg⟩ := Fn.fresh h0 23 #[.int .u8 0, .int .u8 0, .int .u8 0, .int .u8 0, .int .u8 0, .int .u8 0, .int .u8 0, .int .u8 0, .int .u8 0, .int .u8 0, .int .u8 0, .int .u8 0, .int .u8 0, .int .u8 0, .int .u8 0, .int .u8 0, .int .u8 0, .int .u8 0, .int .u8 0, .int .u8 0, .int .u8 0, .int .u8 0, .int .u8 0, .int .u8 0, .int .u8 0, .int .u8 0, .int .u8 0, .int .u8 0, .int .u8 0, .int .u8 0, .int .u8 0, .int .u8 0]
              have KZ := Lib.hid kz
              have HG := Lib.hid hg
              have H0 := Lib.hid h0
              clear kz hg h0
              go_simp
              refine hK.out _ _ (Fn.pass H0.out _) (fun hHeld => ?_)
              clear hK K H0
              try simp only [Act.put, List.getElem_toArray, List.getElem_cons_succ, List.getElem_cons_zero, List.setIfInBounds_toArray, List.set_cons_zero, List.set_cons_succ]
              have k7 := KZ.out
              have z7 := HG.out
              refine wpAnyH_cast (n' := 2) (l' := #[true, true, true, true, true, true, true, true, false, false]) (by kernel_rfl) (by kernel_rfl) ?_
              have hh := st2_7 _ _ hHeld k7 z7
              rw [← hops] at hh
              exact hh
          have st1_7 : ∀ (g7 : Nat) (W : World), Fn wy W [(g5, 23, ks m), (w.heap.size + 1, 23, ks b), (w.heap.size, 23, ks a)] → Blk W g7 23 #[.int .u8 0, .int .u8 0, .int .u8 0, .int .u8 0, .int .u8 0, .int .u8 0, .int .u8 0, .int .u8 0, .int .u8 0, .int .u8 0, .int .u8 0, .int .u8 0, .int .u8 0, .int .u8 0, .int .u8 0, .int .u8 0, .int .u8 0, .int .u8 0, .int .u8 0, .int .u8 0, .int .u8 0, .int .u8 0, .int .u8 0, .int .u8 0, .int .u8 0, .int .u8 0, .int .u8 0, .int .u8 0, .int .u8 0, .int .u8 0, .int .u8 0, .int .u8 0] → wy.heap.size ≤ g7 → wpAnyH Tryd.prog .any ops Q (fun W => Fn wy W [(g5, 23, ks m), (w.heap.size + 1, 23, ks b), (w.heap.size, 23, ks a)]) 6 #[true, true, true, false, false, false, false, true, false, false] { tmps := #[.agg (ks a), .agg (ks b), .pointer (some ⟨w.heap.size, 0, none⟩), .pointer (some ⟨w.heap.size + 1, 0, none⟩), .bool false, .pointer (some ⟨g5, 0, none⟩), .int .i64 8, .pointer (some ⟨g7, 0, none⟩), undef, u9, u10, u11, u12, u13, u14, u15, u16, .agg (ks b), .agg (ks a), .agg (ks pa), u20, u21, u22, u23, u24, u25, u26, u27, u28, u29, u30, u31, u32, u33, u34, u35, u36, u37, u38, u39, u40], defers := [] } W := by
            as_aux_lemma =>
              clear st2_
              intro g7 W hHeld K7 Z7
              rw [← hops]
              refine wpAnyH_ready (rs := [3]) (by kernel_rfl) (by simp) (AllReadyH.cons rfl (fun K hK => ?_) AllReadyH.nil)
              have KH7 := Lib.hid K7
              have h0 := hHeld
              clear hHeld
              try simp only [List.getElem_toArray, List.getElem_cons_succ, List.getElem_cons_zero]
              have H0 := Lib.hid h0
              clear h0
              go_simp
              go_at_call 8
              refine (HS2.out _ (HPwy.out.ext H0.out.below)).mono ?_
              rintro e vv ⟨rfl, hb⟩
              have KJ7 := Lib.hid (KH7.out.below hb KH7.out.lt)
              have h1 := H0.out.ext hb
              clear hb H0
              go_wp2_with (fail)
              refine hK.out _ _ h1 (fun hHeld => ?_)
              clear hK K h1
              try simp only [Act.put, List.getElem_toArray, List.getElem_cons_succ, List.getElem_cons_zero, List.setIfInBounds_toArray, List.set_cons_zero, List.set_cons_succ]
              have k7 := KJ7.out
              have z7 := Z7
              rw [← hQ]
              refine wpAnyH_take (i := 4) (v := ?_) rfl (by kernel_rfl) (by kernel_rfl) (by kernel_rfl) (fun _ _ _ h => h) (Or.inl ⟨by rfl, ?_⟩) hHeld ?_
              rotate_left
              · (intro W hSw; (try dsimp only at hSw); (try simp only [List.getElem_toArray, List.getElem_cons_succ, List.getElem_cons_zero]); go_simp; try with_reducible rfl)
              try simp only [Act.put, List.getElem_toArray, List.getElem_cons_succ, List.getElem_cons_zero, List.setIfInBounds_toArray, List.set_cons_zero, List.set_cons_succ]
              refine wpAnyH_take (i := 5) (v := ?_) rfl (by kernel_rfl) (by kernel_rfl) (by kernel_rfl) (fun _ _ _ h => h) (Or.inl ⟨by rfl, ?_⟩) hHeld ?_
              rotate_left
              · (intro W hSw; (try dsimp only at hSw); (try simp only [List.getElem_toArray, List.getElem_cons_succ, List.getElem_cons_zero]); go_simp; try with_reducible rfl)
              try simp only [Act.put, List.getElem_toArray, List.getElem_cons_succ, List.getElem_cons_zero, List.setIfInBounds_toArray, List.set_cons_zero, List.set_cons_succ]
              refine wpAnyH_take (i := 6) (v := ?_) rfl (by kernel_rfl) (by kernel_rfl) (by kernel_rfl) (fun _ _ _ h => h) (Or.inl ⟨by rfl, ?_⟩) hHeld ?_
              rotate_left
              · (intro W hSw; (try dsimp only at hSw); (try simp only [List.getElem_toArray, List.getElem_cons_succ, List.getElem_cons_zero]); go_simp; try with_reducible rfl)
              try simp only [Act.put, List.getElem_toArray, List.getElem_cons_succ, List.getElem_cons_zero, List.setIfInBounds_toArray, List.set_cons_zero, List.set_cons_succ]
              refine wpAnyH_cast (n' := 2) (l' := #[true, true, true, true, true, true, true, true, false, false]) (by kernel_rfl) (by kernel_rfl) ?_
              have hh := st2_7 g7 _ hHeld k7 z7
              rw [← hops, ← hQ] at hh
              exact hh
          have st1_ : ∀ (W : World), Fn wy W [(g5, 23, ks m), (w.heap.size + 1, 23, ks b), (w.heap.size, 23, ks a)] → wpAnyH Tryd.prog .any ops Q (fun W => Fn wy W [(g5, 23, ks m), (w.heap.size + 1, 23, ks b), (w.heap.size, 23, ks a)]) 7 #[true, true, true, false, false, false, false, false, false, false] { tmps := #[.agg (ks a), .agg (ks b), .pointer (some ⟨w.heap.size, 0, none⟩), .pointer (some ⟨w.heap.size + 1, 0, none⟩), .bool false, .pointer (some ⟨g5, 0, none⟩), .int .i64 8, undef, undef, u9, u10, u11, u12, u13, u14, u15, u16, .agg (ks b), .agg (ks a), .agg (ks pa), u20, u21, u22, u23, u24, u25, u26, u27, u28, u29, u30, u31, u32, u33, u34, u35, u36, u37, u38, u39, u40], defers := [] } W := by
            as_aux_lemma =>
              clear st2_7
              intro W hHeld
              rw [← hops]
              refine wpAnyH_ready (rs := [3, 7]) (by kernel_rfl) (by simp) (AllReadyH.cons rfl (fun K hK => ?_) (AllReadyH.cons rfl (fun K hK => ?_) AllReadyH.nil))
              · have h0 := hHeld
                clear hHeld
                try simp only [List.getElem_toArray, List.getElem_cons_succ, List.getElem_cons_zero]
                have H0 := Lib.hid h0
                clear h0
                go_simp
                go_at_call 8
                refine (HS2.out _ (HPwy.out.ext H0.out.below)).mono ?_
                rintro e vv ⟨rfl, hb⟩
                have h1 := H0.out.ext hb
                clear hb H0
                go_wp2_with (fail)
                refine hK.out _ _ h1 (fun hHeld => ?_)
                clear hK K h1
                try simp only [Act.put, List.getElem_toArray, List.getElem_cons_succ, List.getElem_cons_zero, List.setIfInBounds_toArray, List.set_cons_zero, List.set_cons_succ]
                rw [← hQ]
                refine wpAnyH_take (i := 4) (v := ?_) rfl (by kernel_rfl) (by kernel_rfl) (by kernel_rfl) (fun _ _ _ h => h) (Or.inl ⟨by rfl, ?_⟩) hHeld ?_
                rotate_left
                · (intro W hSw; (try dsimp only at hSw); (try simp only [List.getElem_toArray, List.getElem_cons_succ, List.getElem_cons_zero]); go_simp; try with_reducible rfl)
                try simp only [Act.put, List.getElem_toArray, List.getElem_cons_succ, List.getElem_cons_zero, List.setIfInBounds_toArray, List.set_cons_zero, List.set_cons_succ]
                refine wpAnyH_take (i := 5) (v := ?_) rfl (by kernel_rfl) (by kernel_rfl) (by kernel_rfl) (fun _ _ _ h => h) (Or.inl ⟨by rfl, ?_⟩) hHeld ?_
                rotate_left
                · (intro W hSw; (try dsimp only at hSw); (try simp only [List.getElem_toArray, List.getElem_cons_succ, List.getElem_cons_zero]); go_simp; try with_reducible rfl)
                try simp only [Act.put, List.getElem_toArray, List.getElem_cons_succ, List.getElem_cons_zero, List.setIfInBounds_toArray, List.set_cons_zero, List.set_cons_succ]
                refine wpAnyH_take (i := 6) (v := ?_) rfl (by kernel_rfl) (by kernel_rfl) (by kernel_rfl) (fun _ _ _ h => h) (Or.inl ⟨by rfl, ?_⟩) hHeld ?_
                rotate_left
                · (intro W hSw; (try dsimp only at hSw); (try simp only [List.getElem_toArray, List.getElem_cons_succ, List.getElem_cons_zero]); go_simp; try with_reducible rfl)
                try simp only [Act.put, List.getElem_toArray, List.getElem_cons_succ, List.getElem_cons_zero, List.setIfInBounds_toArray, List.set_cons_zero, List.set_cons_succ]
                refine wpAnyH_cast (n' := 3) (l' := #[true, true, true, true, true, true, true, false, false, false]) (by kernel_rfl) (by kernel_rfl) ?_
                have hh := st2_ _ hHeld
                rw [← hops, ← hQ] at hh
                exact hh
              · have h0 := hHeld
                clear hHeld
                try simp only [List.getElem_toArray, List.getElem_cons_succ, List.getElem_cons_zero]
                obtain ⟨kz, hg⟩ := Fn.fresh h0 23 #[.int .u8 0, .int .u8 0, .int .u8 0, .int .u8 0, .int .u8 0, .int .u8 0, .int .u8 0, .int .u8 0, .int .u8 0, .int .u8 0, .int .u8 0, .int .u8 0, .int .u8 0, .int .u8 0, .int .u8 0, .int .u8 0, .int .u8 0, .int .u8 0, .int .u8 0, .int .u8 0, .int .u8 0, .int .u8 0, .int .u8 0, .int .u8 0, .int .u8 0, .int .u8 0, .int .u8 0, .int .u8 0, .int .u8 0, .int .u8 0, .int .u8 0, .int .u8 0]
                have KZ := Lib.hid kz
                have HG := Lib.hid hg
                have H0 := Lib.hid h0
                clear kz hg h0
                go_simp
                refine hK.out _ _ (Fn.pass H0.out _) (fun hHeld => ?_)
                clear hK K H0
                try simp only [Act.put, List.getElem_toArray, List.getElem_cons_succ, List.getElem_cons_zero, List.setIfInBounds_toArray, List.set_cons_zero, List.set_cons_succ]
                have k7 := KZ.out
                have z7 := HG.out
                refine wpAnyH_cast (n' := 6) (l' := #[true, true, true, false, false, false, false, true, false, false]) (by kernel_rfl) (by kernel_rfl) ?_
                have hh := st1_7 _ _ hHeld k7 z7
                rw [← hops] at hh
                exact hh
          have st0_7 : ∀ (g7 : Nat) (W : World), Fn wy W [(g5, 23, ks m), (w.heap.size + 1, 23, ks b), (w.heap.size, 23, ks a)] → Blk W g7 23 #[.int .u8 0, .int .u8 0, .int .u8 0, .int .u8 0, .int .u8 0, .int .u8 0, .int .u8 0, .int .u8 0, .int .u8 0, .int .u8 0, .int .u8 0, .int .u8 0, .int .u8 0, .int .u8 0, .int .u8 0, .int .u8 0, .int .u8 0, .int .u8 0, .int .u8 0, .int .u8 0, .int .u8 0, .int .u8 0, .int .u8 0, .int .u8 0, .int .u8 0, .int .u8 0, .int .u8 0, .int .u8 0, .int .u8 0, .int .u8 0, .int .u8 0, .int .u8 0] → wy.heap.size ≤ g7 → wpAnyH Tryd.prog .any ops Q (fun W => Fn wy W [(g5, 23, ks m), (w.heap.size + 1, 23, ks b), (w.heap.size, 23, ks a)]) 7 #[true, true, false, false, false, false, false, true, false, false] { tmps := #[.agg (ks a), .agg (ks b), .pointer (some ⟨w.heap.size, 0, none⟩), .pointer (some ⟨w.heap.size + 1, 0, none⟩), .bool false, .pointer (some ⟨g5, 0, none⟩), .int .i64 8, .pointer (some ⟨g7, 0, none⟩), undef, u9, u10, u11, u12, u13, u14, u15, u16, .agg (ks b), .agg (ks a), u19, u20, u21, u22, u23, u24, u25, u26, u27, u28, u29, u30, u31, u32, u33, u34, u35, u36, u37, u38, u39, u40], defers := [] } W := by
            as_aux_lemma =>
              clear st1_ st2_ st2_7
              intro g7 W hHeld K7 Z7
              rw [← hops]
              refine wpAnyH_ready (rs := [2]) (by kernel_rfl) (by simp) (AllReadyH.cons rfl (fun K hK => ?_) AllReadyH.nil)
              have KH7 := Lib.hid K7
              have h0 := hHeld
              clear hHeld
              try simp only [List.getElem_toArray, List.getElem_cons_succ, List.getElem_cons_zero]
              have H0 := Lib.hid h0
              clear h0
              go_simp
              go_at_call 11
              refine (HP2.out _ (HPwy.out.ext H0.out.below)).mono ?_
              rintro e vv ⟨rfl, hb⟩
              have KJ7 := Lib.hid (KH7.out.below hb KH7.out.lt)
              have h1 := H0.out.ext hb
              clear hb H0
              go_wp2_with (fail)
              refine hK.out _ _ h1 (fun hHeld => ?_)
              clear hK K h1
              try simp only [Act.put, List.getElem_toArray, List.getElem_cons_succ, List.getElem_cons_zero, List.setIfInBounds_toArray, List.set_cons_zero, List.set_cons_succ]
              have k7 := KJ7.out
              have z7 := Z7
              refine wpAnyH_cast (n' := 6) (l' := #[true, true, true, false, false, false, false, true, false, false]) (by kernel_rfl) (by kernel_rfl) ?_
              have hh := st1_7 g7 _ hHeld k7 z7
              rw [← hops] at hh
              exact hh
          have st0_ : ∀ (W : World), Fn wy W [(g5, 23, ks m), (w.heap.size + 1, 23, ks b), (w.heap.size, 23, ks a)] → wpAnyH Tryd.prog .any ops Q (fun W => Fn wy W [(g5, 23, ks m), (w.heap.size + 1, 23, ks b), (w.heap.size, 23, ks a)]) 8 #[true, true, false, false, false, false, false, false, false, false] { tmps := #[.agg (ks a), .agg (ks b), .pointer (some ⟨w.heap.size, 0, none⟩), .pointer (some ⟨w.heap.size + 1, 0, none⟩), .bool false, .pointer (some ⟨g5, 0, none⟩), .int .i64 8, undef, undef, u9, u10, u11, u12, u13, u14, u15, u16, .agg (ks b), .agg (ks a), u19, u20, u21, u22, u23, u24, u25, u26, u27, u28, u29, u30, u31, u32, u33, u34, u35, u36, u37, u38, u39, u40], defers := [] } W := by
            as_aux_lemma =>
              clear st1_7 st2_ st2_7
              intro W hHeld
              rw [← hops]
              refine wpAnyH_ready (rs := [2, 7]) (by kernel_rfl) (by simp) (AllReadyH.cons rfl (fun K hK => ?_) (AllReadyH.cons rfl (fun K hK => ?_) AllReadyH.nil))
              · have h0 := hHeld
                clear hHeld
                try simp only [List.getElem_toArray, List.getElem_cons_succ, List.getElem_cons_zero]
                have H0 := Lib.hid h0
                clear h0
                go_simp
                go_at_call 11
                refine (HP2.out _ (HPwy.out.ext H0.out.below)).mono ?_
                rintro e vv ⟨rfl, hb⟩
                have h1 := H0.out.ext hb
                clear hb H0
                go_wp2_with (fail)
                refine hK.out _ _ h1 (fun hHeld => ?_)
                clear hK K h1
                try simp only [Act.put, List.getElem_toArray, List.getElem_cons_succ, List.getElem_cons_zero, List.setIfInBounds_toArray, List.set_cons_zero, List.set_cons_succ]
                refine wpAnyH_cast (n' := 7) (l' := #[true, true, true, false, false, false, false, false, false, false]) (by kernel_rfl) (by kernel_rfl) ?_
                have hh := st1_ _ hHeld
                rw [← hops] at hh
                exact hh
              · have h0 := hHeld
                clear hHeld
                try simp only [List.getElem_toArray, List.getElem_cons_succ, List.getElem_cons_zero]
                obtain ⟨kz, hg⟩ := Fn.fresh h0 23 #[.int .u8 0, .int .u8 0, .int .u8 0, .int .u8 0, .int .u8 0, .int .u8 0, .int .u8 0, .int .u8 0, .int .u8 0, .int .u8 0, .int .u8 0, .int .u8 0, .int .u8 0, .int .u8 0, .int .u8 0, .int .u8 0, .int .u8 0, .int .u8 0, .int .u8 0, .int .u8 0, .int .u8 0, .int .u8 0, .int .u8 0, .int .u8 0, .int .u8 0, .int .u8 0, .int .u8 0, .int .u8 0, .int .u8 0, .int .u8 0, .int .u8 0, .int .u8 0]
                have KZ := Lib.hid kz
                have HG := Lib.hid hg
                have H0 := Lib.hid h0
                clear kz hg h0
                go_simp
                refine hK.out _ _ (Fn.pass H0.out _) (fun hHeld => ?_)
                clear hK K H0
                try simp only [Act.put, List.getElem_toArray, List.getElem_cons_succ, List.getElem_cons_zero, List.setIfInBounds_toArray, List.set_cons_zero, List.set_cons_succ]
                have k7 := KZ.out
                have z7 := HG.out
                refine wpAnyH_cast (n' := 7) (l' := #[true, true, false, false, false, false, false, true, false, false]) (by kernel_rfl) (by kernel_rfl) ?_
                have hh := st0_7 _ _ hHeld k7 z7
                rw [← hops] at hh
                exact hh
          refine wpAnyH_cast (n' := 8) (l' := #[true, true, false, false, false, false, false, false, false, false]) (by kernel_rfl) (by kernel_rfl) ?_
          exact st0_ _ hHeld
      case rest =>
        as_aux_lemma =>
          obtain ⟨g7, rfl, rfl, z7, k7, hb⟩ := hcut
          have hf := (HF.out.ext hb).more k7
          have HF4 := Lib.hid hf
          clear hf hb HF k7
          have HF := HF4
          clear HF4
          obtain ⟨wv, h_w⟩ : ∃ z : World, z = wc := ⟨_, rfl⟩
          rw [← h_w] at HF ⊢
          clear h_w
          have HPwv := Lib.hid (Fr.pg HF.out HP.out)
          go_wp2_with (fail)
          refine wp_region_held_drew (S := fun W => Fr w W [(g7, 23, ks m), (g5, 23, ks m), (w.heap.size + 1, 23, ks b), (w.heap.size, 23, ks a)] []) (by kernel_rfl) ?_ (fun hHeld => ?_)
          · exact HF.out.drew
          refine wpAnyH_take (i := 0) (v := ?_) rfl (by kernel_rfl) (by kernel_rfl) (by kernel_rfl) (fun _ _ _ h => h) (Or.inl ⟨by rfl, ?_⟩) hHeld ?_
          rotate_left
          · (intro W hSw; (try dsimp only at hSw); (try simp only [List.getElem_toArray, List.getElem_cons_succ, List.getElem_cons_zero]); go_simp; try with_reducible rfl)
          try simp only [Act.put, List.getElem_toArray, List.getElem_cons_succ, List.getElem_cons_zero, List.setIfInBounds_toArray, List.set_cons_zero, List.set_cons_succ]
          refine wpAnyH_take (i := 1) (v := ?_) rfl (by kernel_rfl) (by kernel_rfl) (by kernel_rfl) (fun _ _ _ h => h) (Or.inl ⟨by rfl, ?_⟩) hHeld ?_
          rotate_left
          · (intro W hSw; (try dsimp only at hSw); (try simp only [List.getElem_toArray, List.getElem_cons_succ, List.getElem_cons_zero]); go_simp; try with_reducible rfl)
          try simp only [Act.put, List.getElem_toArray, List.getElem_cons_succ, List.getElem_cons_zero, List.setIfInBounds_toArray, List.set_cons_zero, List.set_cons_succ]
          refine wpAnyH_take (i := 2) (v := ?_) rfl (by kernel_rfl) (by kernel_rfl) (by kernel_rfl) (fun _ _ _ h => h) (Or.inl ⟨by rfl, ?_⟩) hHeld ?_
          rotate_left
          · (intro W hSw; (try dsimp only at hSw); (try simp only [List.getElem_toArray, List.getElem_cons_succ, List.getElem_cons_zero]); go_simp; try with_reducible rfl)
          try simp only [Act.put, List.getElem_toArray, List.getElem_cons_succ, List.getElem_cons_zero, List.setIfInBounds_toArray, List.set_cons_zero, List.set_cons_succ]
          refine wpAnyH_take (i := 3) (v := ?_) rfl (by kernel_rfl) (by kernel_rfl) (by kernel_rfl) (fun _ _ _ h => h) (Or.inl ⟨by rfl, ?_⟩) hHeld ?_
          rotate_left
          · (intro W hSw; (try dsimp only at hSw); (try simp only [List.getElem_toArray, List.getElem_cons_succ, List.getElem_cons_zero]); go_simp; try with_reducible rfl)
          try simp only [Act.put, List.getElem_toArray, List.getElem_cons_succ, List.getElem_cons_zero, List.setIfInBounds_toArray, List.set_cons_zero, List.set_cons_succ]
          refine wpAnyH_take (i := 4) (v := .agg (ks m)) rfl (by kernel_rfl) (by kernel_rfl) (by kernel_rfl) (fun _ _ _ h => h) (yields_row (by rfl) 23 (.tmp 5) rfl (g5) rfl 23 (ks m) _ (fun W (h : Fr _ W _ _) => h.get (by simp)) Tryd.underlying23 rfl (info_ks _)) hHeld ?_
          try simp only [Act.put, List.getElem_toArray, List.getElem_cons_succ, List.getElem_cons_zero, List.setIfInBounds_toArray, List.set_cons_zero, List.set_cons_succ]
          refine wpAnyH_take (i := 5) (v := .agg (ks m)) rfl (by kernel_rfl) (by kernel_rfl) (by kernel_rfl) (fun _ _ _ h => h) (yields_row (by rfl) 23 (.tmp 7) rfl (g7) rfl 23 (ks m) _ (fun W (h : Fr _ W _ _) => h.get (by simp)) Tryd.underlying23 rfl (info_ks _)) hHeld ?_
          try simp only [Act.put, List.getElem_toArray, List.getElem_cons_succ, List.getElem_cons_zero, List.setIfInBounds_toArray, List.set_cons_zero, List.set_cons_succ]
          refine wpAnyH_take (i := 6) (v := ?_) rfl (by kernel_rfl) (by kernel_rfl) (by kernel_rfl) (fun _ _ _ h => h) (Or.inl ⟨by rfl, ?_⟩) hHeld ?_
          rotate_left
          · (intro W hSw; (try dsimp only at hSw); (try simp only [List.getElem_toArray, List.getElem_cons_succ, List.getElem_cons_zero]); go_simp; try with_reducible rfl)
          try simp only [Act.put, List.getElem_toArray, List.getElem_cons_succ, List.getElem_cons_zero, List.setIfInBounds_toArray, List.set_cons_zero, List.set_cons_succ]
          refine wpAnyH_take (i := 7) (v := ?_) rfl (by kernel_rfl) (by kernel_rfl) (by kernel_rfl) (fun _ _ _ h => h) (Or.inl ⟨by rfl, ?_⟩) hHeld ?_
          rotate_left
          · (intro W hSw; (try dsimp only at hSw); (try simp only [List.getElem_toArray, List.getElem_cons_succ, List.getElem_cons_zero]); go_simp; try with_reducible rfl)
          try simp only [Act.put, List.getElem_toArray, List.getElem_cons_succ, List.getElem_cons_zero, List.setIfInBounds_toArray, List.set_cons_zero, List.set_cons_succ]
          refine wpAnyH_take (i := 8) (v := ?_) rfl (by kernel_rfl) (by kernel_rfl) (by kernel_rfl) (fun _ _ _ h => h) (Or.inl ⟨by rfl, ?_⟩) hHeld ?_
          rotate_left
          · (intro W hSw; (try dsimp only at hSw); (try simp only [List.getElem_toArray, List.getElem_cons_succ, List.getElem_cons_zero]); go_simp; try with_reducible rfl)
          try simp only [Act.put, List.getElem_toArray, List.getElem_cons_succ, List.getElem_cons_zero, List.setIfInBounds_toArray, List.set_cons_zero, List.set_cons_succ]
          refine wpAnyH_take (i := 9) (v := .agg (ks a)) rfl (by kernel_rfl) (by kernel_rfl) (by kernel_rfl) (fun _ _ _ h => h) (yields_row (by rfl) 23 (.tmp 2) rfl (w.heap.size) rfl 23 (ks a) _ (fun W (h : Fr _ W _ _) => h.get (by simp)) Tryd.underlying23 rfl (info_ks _)) hHeld ?_
          try simp only [Act.put, List.getElem_toArray, List.getElem_cons_succ, List.getElem_cons_zero, List.setIfInBounds_toArray, List.set_cons_zero, List.set_cons_succ]
          refine wpAnyH_take (i := 11) (v := .agg (ks a)) rfl (by kernel_rfl) (by kernel_rfl) (by kernel_rfl) (fun _ _ _ h => h) (yields_row (by rfl) 23 (.tmp 2) rfl (w.heap.size) rfl 23 (ks a) _ (fun W (h : Fr _ W _ _) => h.get (by simp)) Tryd.underlying23 rfl (info_ks _)) hHeld ?_
          try simp only [Act.put, List.getElem_toArray, List.getElem_cons_succ, List.getElem_cons_zero, List.setIfInBounds_toArray, List.set_cons_zero, List.set_cons_succ]
          refine wpAnyH_ready (rs := [10]) (by kernel_rfl) (by simp) (AllReadyH.cons rfl (fun K hK => ?_) AllReadyH.nil)
          have h0 := hHeld
          clear hHeld
          try simp only [List.getElem_toArray, List.getElem_cons_succ, List.getElem_cons_zero]
          have H0 := Lib.hid h0
          clear h0
          go_simp
          go_at_call 11
          refine (HP2.out _ (Fr.pg H0.out HP.out)).mono ?_
          rintro e vv ⟨rfl, hb⟩
          have h1 := H0.out.ext hb
          clear hb H0
          go_wp2_with (fail)
          refine hK.out _ _ h1 (fun hHeld => ?_)
          clear hK K h1
          try simp only [Act.put, List.getElem_toArray, List.getElem_cons_succ, List.getElem_cons_zero, List.setIfInBounds_toArray, List.set_cons_zero, List.set_cons_succ]
          refine wpAnyH_ready (rs := [12]) (by kernel_rfl) (by simp) (AllReadyH.cons rfl (fun K hK => ?_) AllReadyH.nil)
          have h0 := hHeld
          clear hHeld
          try simp only [List.getElem_toArray, List.getElem_cons_succ, List.getElem_cons_zero]
          have H0 := Lib.hid h0
          clear h0
          go_simp
          go_at_call 12
          refine (HRP.out _).mono ?_
          rintro e vv ⟨rfl, hb⟩
          have h1 := H0.out.ext hb
          clear hb H0
          go_wp2_with (fail)
          refine hK.out _ _ h1 (fun hHeld => ?_)
          clear hK K h1
          try simp only [Act.put, List.getElem_toArray, List.getElem_cons_succ, List.getElem_cons_zero, List.setIfInBounds_toArray, List.set_cons_zero, List.set_cons_succ]
          refine wpAnyH_take (i := 13) (v := ?_) rfl (by kernel_rfl) (by kernel_rfl) (by kernel_rfl) (fun _ _ _ h => h) (Or.inl ⟨by rfl, ?_⟩) hHeld ?_
          rotate_left
          · (intro W hSw; (try dsimp only at hSw); (try simp only [List.getElem_toArray, List.getElem_cons_succ, List.getElem_cons_zero]); go_simp; try with_reducible rfl)
          try simp only [Act.put, List.getElem_toArray, List.getElem_cons_succ, List.getElem_cons_zero, List.setIfInBounds_toArray, List.set_cons_zero, List.set_cons_succ]
          refine wpAnyH_take (i := 14) (v := ?_) rfl (by kernel_rfl) (by kernel_rfl) (by kernel_rfl) (fun _ _ _ h => h) (Or.inl ⟨by rfl, ?_⟩) hHeld ?_
          rotate_left
          · (intro W hSw; (try dsimp only at hSw); (try simp only [List.getElem_toArray, List.getElem_cons_succ, List.getElem_cons_zero]); go_simp; try with_reducible rfl)
          try simp only [Act.put, List.getElem_toArray, List.getElem_cons_succ, List.getElem_cons_zero, List.setIfInBounds_toArray, List.set_cons_zero, List.set_cons_succ]
          refine wpAnyH_take (i := 15) (v := ?_) rfl (by kernel_rfl) (by kernel_rfl) (by kernel_rfl) (fun _ _ _ h => h) (Or.inl ⟨by rfl, ?_⟩) hHeld ?_
          rotate_left
          · (intro W hSw; (try dsimp only at hSw); (try simp only [List.getElem_toArray, List.getElem_cons_succ, List.getElem_cons_zero]); go_simp; try with_reducible rfl)
          try simp only [Act.put, List.getElem_toArray, List.getElem_cons_succ, List.getElem_cons_zero, List.setIfInBounds_toArray, List.set_cons_zero, List.set_cons_succ]
          refine wpAnyH_ready (rs := [16]) (by kernel_rfl) (by simp) (AllReadyH.cons rfl (fun K hK => ?_) AllReadyH.nil)
          have h0 := hHeld
          clear hHeld
          try simp only [List.getElem_toArray, List.getElem_cons_succ, List.getElem_cons_zero]
          have H0 := Lib.hid h0
          clear h0
          go_simp
          go_at_call 10
          refine (lknown_any _ (Fr.pg H0.out HP.out)).mono ?_
          rintro e vv ⟨rfl, hb⟩
          have h1 := H0.out.ext hb
          clear hb H0
          go_wp2_with (fail)
          refine hK.out _ _ h1 (fun hHeld => ?_)
          clear hK K h1
          try simp only [Act.put, List.getElem_toArray, List.getElem_cons_succ, List.getElem_cons_zero, List.setIfInBounds_toArray, List.set_cons_zero, List.set_cons_succ]
          refine wpAnyH_take (i := 17) (v := ?_) rfl (by kernel_rfl) (by kernel_rfl) (by kernel_rfl) (fun _ _ _ h => h) (Or.inl ⟨by rfl, ?_⟩) hHeld ?_
          rotate_left
          · (intro W hSw; (try dsimp only at hSw); (try simp only [List.getElem_toArray, List.getElem_cons_succ, List.getElem_cons_zero]); go_simp; try with_reducible rfl)
          try simp only [Act.put, List.getElem_toArray, List.getElem_cons_succ, List.getElem_cons_zero, List.setIfInBounds_toArray, List.set_cons_zero, List.set_cons_succ]
          refine wpAnyH_take (i := 18) (v := ?_) rfl (by kernel_rfl) (by kernel_rfl) (by kernel_rfl) (fun _ _ _ h => h) (Or.inl ⟨by rfl, ?_⟩) hHeld ?_
          rotate_left
          · (intro W hSw; (try dsimp only at hSw); (try simp only [List.getElem_toArray, List.getElem_cons_succ, List.getElem_cons_zero]); go_simp; try with_reducible rfl)
          try simp only [Act.put, List.getElem_toArray, List.getElem_cons_succ, List.getElem_cons_zero, List.setIfInBounds_toArray, List.set_cons_zero, List.set_cons_succ]
          refine wpAnyH_done (by kernel_rfl) ?_ _
          have HB := Lib.hid hHeld.below
          clear hHeld
          go_wp2_with (fail)
          go_ret
          exact ⟨rfl, HB.out⟩
set_option maxRecDepth 100000 in
set_option maxHeartbeats 16000000 in
theorem meets_yes {a b pa pb m : Nat} {ya yb y : Fin PP} (hya : ya = lad Q0 (clampN a) (ofK 9)) (hpa : pa = ya.val) (hyb : yb = lad Q0 (clampN b) (ofK 9)) (hpb : pb = yb.val) (hy : y = lad Q0 (clampN a) (ofK pb)) (hy2 : y = lad Q0 (clampN b) (ofK pa)) (hm : m = y.val) (w : World) (hpg : PG w) (ha : a < 115792089237316195423570985008687907853269984665640564039457584007913129639936) (hb : b < 115792089237316195423570985008687907853269984665640564039457584007913129639936) (lpa : pa < 115792089237316195423570985008687907853269984665640564039457584007913129639936) (lpb : pb < 115792089237316195423570985008687907853269984665640564039457584007913129639936) (hz : m ≠ 0) : Calls Tryd.prog 4 #[.agg (ks a), .agg (ks b)] w (BPost true w) := by
  have hs1 := fun W hp => shared_yes hy hm ha lpb hz W hp
  have hs2 := fun W hp => shared_yes hy2 hm hb lpa hz W hp
  have hp1 := fun W hp => public_any hyb hpb hb W hp
  have hp2 := fun W hp => public_any hya hpa ha W hp
  have hrp := fun W => r4public hya hpa ha W
  have hks := keys_same
  have hfr := ((Fr.start w).row (ks a) 23 (g := w.heap.size) rfl).row (ks b) 23 (g := w.heap.size + 1) (by simp)
  have HP := Lib.hid hpg
  have HS1 := Lib.hid hs1
  have HS2 := Lib.hid hs2
  have HP1 := Lib.hid hp1
  have HP2 := Lib.hid hp2
  have HRP := Lib.hid hrp
  clear hpg hs1 hs2 hp1 hp2 hrp hz hm hy hy2 hya hyb hpa hpb ha hb lpa lpb
  go_enter Tryd.func4, Tryd.ntmps4
  go_wp2_with (fail)
  obtain ⟨wx, hwx⟩ : ∃ wx : World, wx = (w.alloc (.cells (ks a) 23)).alloc (.cells (ks b) 23) := ⟨_, rfl⟩
  rw [← hwx] at hfr ⊢
  clear hwx
  have HF := Lib.hid hfr
  clear hfr
  have HPX := Lib.hid (Fr.pg HF.out HP.out)
  go_cut [5, 6] (fun s5 s6 wz => ∃ g5 : Nat, s5 = .pointer (some ⟨g5, 0, none⟩) ∧ s6 = .int .i64 0 ∧ wx.heap.size ≤ g5 ∧ Blk wz g5 23 (ks m) ∧ Below wx.heap.size wx wz)
  case first =>
    as_aux_lemma =>
      have hn := (HF.out.now.sub (L' := [(w.heap.size + 1, 23, ks b), (w.heap.size, 23, ks a)]) (by simp))
      have HN := Lib.hid hn
      clear hn
      refine wp_region_held_drew (S := fun W => Fn wx W [(w.heap.size + 1, 23, ks b), (w.heap.size, 23, ks a)]) (by kernel_rfl) ?_ (fun hHeld => ?_)
      · exact HN.out.drew
      refine wpAnyH_take (i := 0) (v := .agg (ks a)) rfl (by kernel_rfl) (by kernel_rfl) (by kernel_rfl) (fun _ _ _ h => h) (yields_row (by rfl) 23 (.tmp 2) rfl (w.heap.size) rfl 23 (ks a) _ (fun W (h : Fn _ W _) => h.get (by simp)) Tryd.underlying23 rfl (info_ks _)) hHeld ?_
      try simp only [Act.put, List.getElem_toArray, List.getElem_cons_succ, List.getElem_cons_zero, List.setIfInBounds_toArray, List.set_cons_zero, List.set_cons_succ]
      refine wpAnyH_take (i := 1) (v := .agg (ks b)) rfl (by kernel_rfl) (by kernel_rfl) (by kernel_rfl) (fun _ _ _ h => h) (yields_row (by rfl) 23 (.tmp 3) rfl (w.heap.size + 1) rfl 23 (ks b) _ (fun W (h : Fn _ W _) => h.get (by simp)) Tryd.underlying23 rfl (info_ks _)) hHeld ?_
      try simp only [Act.put, List.getElem_toArray, List.getElem_cons_succ, List.getElem_cons_zero, List.setIfInBounds_toArray, List.set_cons_zero, List.set_cons_succ]
      refine wpAnyH_name ?_
      intro ops Q hops hQ
      have st2_7 : ∀ (g5 : Nat) (W : World), Fn wx W [(w.heap.size + 1, 23, ks b), (w.heap.size, 23, ks a)] → Blk W g5 23 #[.int .u8 0, .int .u8 0, .int .u8 0, .int .u8 0, .int .u8 0, .int .u8 0, .int .u8 0, .int .u8 0, .int .u8 0, .int .u8 0, .int .u8 0, .int .u8 0, .int .u8 0, .int .u8 0, .int .u8 0, .int .u8 0, .int .u8 0, .int .u8 0, .int .u8 0, .int .u8 0, .int .u8 0, .int .u8 0, .int .u8 0, .int .u8 0, .int .u8 0, .int .u8 0, .int .u8 0, .int .u8 0, .int .u8 0, .int .u8 0, .int .u8 0, .int .u8 0] → wx.heap.size ≤ g5 → wpAnyH Tryd.prog .any ops Q (fun W => Fn wx W [(w.heap.size + 1, 23, ks b), (w.heap.size, 23, ks a)]) 2 #[true, true, true, true, true, true, true, true, false, false] { tmps := #[.agg (ks a), .agg (ks b), .pointer (some ⟨w.heap.size, 0, none⟩), .pointer (some ⟨w.heap.size + 1, 0, none⟩), .bool false, .pointer (some ⟨g5, 0, none⟩), undef, undef, undef, .tuple #[.agg (ks m), .int .i64 0], .agg (ks a), .agg (ks b), .agg (ks pb), .tuple #[.agg (ks m), .int .i64 0], .agg (ks m), .int .i64 0, undef, undef, undef, undef, undef, undef, undef, undef, undef, undef, undef, undef, undef, undef, undef, undef, undef, undef, undef, undef, undef, undef, undef, undef, undef], defers := [] } W := by
        as_aux_lemma =>
          intro g5 W hHeld K7 Z7
          rw [← hops]
          rw [← hQ]
          have KK7 := Lib.hid K7
          clear K7
          refine wpAnyH_ready (rs := [8]) (by kernel_rfl) (by simp) (AllReadyH.cons rfl (fun K hK => ?_) AllReadyH.nil)
          have h0 := hHeld
          clear hHeld
          try simp only [List.getElem_toArray, List.getElem_cons_succ, List.getElem_cons_zero]
          rw [if_pos (by rfl)]
          refine wp_store_row 23 (.tmp 5) (.tmp 14) rfl g5 (ks m) rfl rfl 23 _ KK7.out (info_ks _) (by rw [ks_size]; rfl) (ks_one _) ?_
          refine hK.out _ _ (Fn.setFresh h0 Z7 _) (fun hHeld => ?_)
          have J7 := Lib.hid (KK7.out.setRow_same (ks m))
          clear KK7
          have KK7 := J7
          clear J7
          clear hK K h0
          try simp only [Act.put, List.getElem_toArray, List.getElem_cons_succ, List.getElem_cons_zero, List.setIfInBounds_toArray, List.set_cons_zero, List.set_cons_succ]
          refine wpAnyH_take (i := 9) (v := ?_) rfl (by kernel_rfl) (by kernel_rfl) (by kernel_rfl) (fun _ _ _ h => h) (Or.inl ⟨by rfl, ?_⟩) hHeld ?_
          rotate_left
          · (intro W hSw; (try dsimp only at hSw); (try simp only [List.getElem_toArray, List.getElem_cons_succ, List.getElem_cons_zero]); go_simp; try with_reducible rfl)
          try simp only [Act.put, List.getElem_toArray, List.getElem_cons_succ, List.getElem_cons_zero, List.setIfInBounds_toArray, List.set_cons_zero, List.set_cons_succ]
          refine wpAnyH_done (by kernel_rfl) ?_ _
          have HB := Lib.hid hHeld.below
          clear hHeld
          go_wp2_with (fail)
          go_meet
          exact ⟨g5, rfl, rfl, Z7, KK7.out, HB.out⟩
      have st2_ : ∀ (W : World), Fn wx W [(w.heap.size + 1, 23, ks b), (w.heap.size, 23, ks a)] → wpAnyH Tryd.prog .any ops Q (fun W => Fn wx W [(w.heap.size + 1, 23, ks b), (w.heap.size, 23, ks a)]) 3 #[true, true, true, true, true, true, true, false, false, false] { tmps := #[.agg (ks a), .agg (ks b), .pointer (some ⟨w.heap.size, 0, none⟩), .pointer (some ⟨w.heap.size + 1, 0, none⟩), .bool false, undef, undef, undef, undef, .tuple #[.agg (ks m), .int .i64 0], .agg (ks a), .agg (ks b), .agg (ks pb), .tuple #[.agg (ks m), .int .i64 0], .agg (ks m), .int .i64 0, undef, undef, undef, undef, undef, undef, undef, undef, undef, undef, undef, undef, undef, undef, undef, undef, undef, undef, undef, undef, undef, undef, undef, undef, undef], defers := [] } W := by
        as_aux_lemma =>
          intro W hHeld
          rw [← hops]
          refine wpAnyH_ready (rs := [7]) (by kernel_rfl) (by simp) (AllReadyH.cons rfl (fun K hK => ?_) AllReadyH.nil)
          have h0 := hHeld
          clear hHeld
          try simp only [List.getElem_toArray, List.getElem_cons_succ, List.getElem_cons_zero]
          obtain ⟨kz, hg⟩ := Fn.fresh h0 23 #[.int .u8 0, .int .u8 0, .int .u8 0, .int .u8 0, .int .u8 0, .int .u8 0, .int .u8 0, .int .u8 0, .int .u8 0, .int .u8 0, .int .u8 0, .int .u8 0, .int .u8 0, .int .u8 0, .int .u8 0, .int .u8 0, .int .u8 0, .int .u8 0, .int .u8 0, .int .u8 0, .int .u8 0, .int .u8 0, .int .u8 0, .int .u8 0, .int .u8 0, .int .u8 0, .int .u8 0, .int .u8 0, .int .u8 0, .int .u8 0, .int .u8 0, .int .u8 0]
          have KZ := Lib.hid kz
          have HG := Lib.hid hg
          have H0 := Lib.hid h0
          clear kz hg h0
          go_simp
          refine hK.out _ _ (Fn.pass H0.out _) (fun hHeld => ?_)
          clear hK K H0
          try simp only [Act.put, List.getElem_toArray, List.getElem_cons_succ, List.getElem_cons_zero, List.setIfInBounds_toArray, List.set_cons_zero, List.set_cons_succ]
          have k7 := KZ.out
          have z7 := HG.out
          refine wpAnyH_cast (n' := 2) (l' := #[true, true, true, true, true, true, true, true, false, false]) (by kernel_rfl) (by kernel_rfl) ?_
          have hh := st2_7 _ _ hHeld k7 z7
          rw [← hops] at hh
          exact hh
      have st1_7 : ∀ (g5 : Nat) (W : World), Fn wx W [(w.heap.size + 1, 23, ks b), (w.heap.size, 23, ks a)] → Blk W g5 23 #[.int .u8 0, .int .u8 0, .int .u8 0, .int .u8 0, .int .u8 0, .int .u8 0, .int .u8 0, .int .u8 0, .int .u8 0, .int .u8 0, .int .u8 0, .int .u8 0, .int .u8 0, .int .u8 0, .int .u8 0, .int .u8 0, .int .u8 0, .int .u8 0, .int .u8 0, .int .u8 0, .int .u8 0, .int .u8 0, .int .u8 0, .int .u8 0, .int .u8 0, .int .u8 0, .int .u8 0, .int .u8 0, .int .u8 0, .int .u8 0, .int .u8 0, .int .u8 0] → wx.heap.size ≤ g5 → wpAnyH Tryd.prog .any ops Q (fun W => Fn wx W [(w.heap.size + 1, 23, ks b), (w.heap.size, 23, ks a)]) 6 #[true, true, true, false, false, false, false, true, false, false] { tmps := #[.agg (ks a), .agg (ks b), .pointer (some ⟨w.heap.size, 0, none⟩), .pointer (some ⟨w.heap.size + 1, 0, none⟩), .bool false, .pointer (some ⟨g5, 0, none⟩), undef, undef, undef, undef, .agg (ks a), .agg (ks b), .agg (ks pb), undef, undef, undef, undef, undef, undef, undef, undef, undef, undef, undef, undef, undef, undef, undef, undef, undef, undef, undef, undef, undef, undef, undef, undef, undef, undef, undef, undef], defers := [] } W := by
        as_aux_lemma =>
          clear st2_
          intro g5 W hHeld K7 Z7
          rw [← hops]
          refine wpAnyH_ready (rs := [3]) (by kernel_rfl) (by simp) (AllReadyH.cons rfl (fun K hK => ?_) AllReadyH.nil)
          have KH7 := Lib.hid K7
          have h0 := hHeld
          clear hHeld
          try simp only [List.getElem_toArray, List.getElem_cons_succ, List.getElem_cons_zero]
          have H0 := Lib.hid h0
          clear h0
          go_simp
          go_at_call 8
          refine (HS1.out _ (HPX.out.ext H0.out.below)).mono ?_
          rintro e vv ⟨rfl, hb⟩
          have KJ7 := Lib.hid (KH7.out.below hb KH7.out.lt)
          have h1 := H0.out.ext hb
          clear hb H0
          go_wp2_with (fail)
          refine hK.out _ _ h1 (fun hHeld => ?_)
          clear hK K h1
          try simp only [Act.put, List.getElem_toArray, List.getElem_cons_succ, List.getElem_cons_zero, List.setIfInBounds_toArray, List.set_cons_zero, List.set_cons_succ]
          have k7 := KJ7.out
          have z7 := Z7
          rw [← hQ]
          refine wpAnyH_take (i := 4) (v := ?_) rfl (by kernel_rfl) (by kernel_rfl) (by kernel_rfl) (fun _ _ _ h => h) (Or.inl ⟨by rfl, ?_⟩) hHeld ?_
          rotate_left
          · (intro W hSw; (try dsimp only at hSw); (try simp only [List.getElem_toArray, List.getElem_cons_succ, List.getElem_cons_zero]); go_simp; try with_reducible rfl)
          try simp only [Act.put, List.getElem_toArray, List.getElem_cons_succ, List.getElem_cons_zero, List.setIfInBounds_toArray, List.set_cons_zero, List.set_cons_succ]
          refine wpAnyH_take (i := 5) (v := ?_) rfl (by kernel_rfl) (by kernel_rfl) (by kernel_rfl) (fun _ _ _ h => h) (Or.inl ⟨by rfl, ?_⟩) hHeld ?_
          rotate_left
          · (intro W hSw; (try dsimp only at hSw); (try simp only [List.getElem_toArray, List.getElem_cons_succ, List.getElem_cons_zero]); go_simp; try with_reducible rfl)
          try simp only [Act.put, List.getElem_toArray, List.getElem_cons_succ, List.getElem_cons_zero, List.setIfInBounds_toArray, List.set_cons_zero, List.set_cons_succ]
          refine wpAnyH_take (i := 6) (v := ?_) rfl (by kernel_rfl) (by kernel_rfl) (by kernel_rfl) (fun _ _ _ h => h) (Or.inl ⟨by rfl, ?_⟩) hHeld ?_
          rotate_left
          · (intro W hSw; (try dsimp only at hSw); (try simp only [List.getElem_toArray, List.getElem_cons_succ, List.getElem_cons_zero]); go_simp; try with_reducible rfl)
          try simp only [Act.put, List.getElem_toArray, List.getElem_cons_succ, List.getElem_cons_zero, List.setIfInBounds_toArray, List.set_cons_zero, List.set_cons_succ]
          refine wpAnyH_cast (n' := 2) (l' := #[true, true, true, true, true, true, true, true, false, false]) (by kernel_rfl) (by kernel_rfl) ?_
          have hh := st2_7 g5 _ hHeld k7 z7
          rw [← hops, ← hQ] at hh
          exact hh
      have st1_ : ∀ (W : World), Fn wx W [(w.heap.size + 1, 23, ks b), (w.heap.size, 23, ks a)] → wpAnyH Tryd.prog .any ops Q (fun W => Fn wx W [(w.heap.size + 1, 23, ks b), (w.heap.size, 23, ks a)]) 7 #[true, true, true, false, false, false, false, false, false, false] { tmps := #[.agg (ks a), .agg (ks b), .pointer (some ⟨w.heap.size, 0, none⟩), .pointer (some ⟨w.heap.size + 1, 0, none⟩), .bool false, undef, undef, undef, undef, undef, .agg (ks a), .agg (ks b), .agg (ks pb), undef, undef, undef, undef, undef, undef, undef, undef, undef, undef, undef, undef, undef, undef, undef, undef, undef, undef, undef, undef, undef, undef, undef, undef, undef, undef, undef, undef], defers := [] } W := by
        as_aux_lemma =>
          clear st2_7
          intro W hHeld
          rw [← hops]
          refine wpAnyH_ready (rs := [3, 7]) (by kernel_rfl) (by simp) (AllReadyH.cons rfl (fun K hK => ?_) (AllReadyH.cons rfl (fun K hK => ?_) AllReadyH.nil))
          · have h0 := hHeld
            clear hHeld
            try simp only [List.getElem_toArray, List.getElem_cons_succ, List.getElem_cons_zero]
            have H0 := Lib.hid h0
            clear h0
            go_simp
            go_at_call 8
            refine (HS1.out _ (HPX.out.ext H0.out.below)).mono ?_
            rintro e vv ⟨rfl, hb⟩
            have h1 := H0.out.ext hb
            clear hb H0
            go_wp2_with (fail)
            refine hK.out _ _ h1 (fun hHeld => ?_)
            clear hK K h1
            try simp only [Act.put, List.getElem_toArray, List.getElem_cons_succ, List.getElem_cons_zero, List.setIfInBounds_toArray, List.set_cons_zero, List.set_cons_succ]
            rw [← hQ]
            refine wpAnyH_take (i := 4) (v := ?_) rfl (by kernel_rfl) (by kernel_rfl) (by kernel_rfl) (fun _ _ _ h => h) (Or.inl ⟨by rfl, ?_⟩) hHeld ?_
            rotate_left
            · (intro W hSw; (try dsimp only at hSw); (try simp only [List.getElem_toArray, List.getElem_cons_succ, List.getElem_cons_zero]); go_simp; try with_reducible rfl)
            try simp only [Act.put, List.getElem_toArray, List.getElem_cons_succ, List.getElem_cons_zero, List.setIfInBounds_toArray, List.set_cons_zero, List.set_cons_succ]
            refine wpAnyH_take (i := 5) (v := ?_) rfl (by kernel_rfl) (by kernel_rfl) (by kernel_rfl) (fun _ _ _ h => h) (Or.inl ⟨by rfl, ?_⟩) hHeld ?_
            rotate_left
            · (intro W hSw; (try dsimp only at hSw); (try simp only [List.getElem_toArray, List.getElem_cons_succ, List.getElem_cons_zero]); go_simp; try with_reducible rfl)
            try simp only [Act.put, List.getElem_toArray, List.getElem_cons_succ, List.getElem_cons_zero, List.setIfInBounds_toArray, List.set_cons_zero, List.set_cons_succ]
            refine wpAnyH_take (i := 6) (v := ?_) rfl (by kernel_rfl) (by kernel_rfl) (by kernel_rfl) (fun _ _ _ h => h) (Or.inl ⟨by rfl, ?_⟩) hHeld ?_
            rotate_left
            · (intro W hSw; (try dsimp only at hSw); (try simp only [List.getElem_toArray, List.getElem_cons_succ, List.getElem_cons_zero]); go_simp; try with_reducible rfl)
            try simp only [Act.put, List.getElem_toArray, List.getElem_cons_succ, List.getElem_cons_zero, List.setIfInBounds_toArray, List.set_cons_zero, List.set_cons_succ]
            refine wpAnyH_cast (n' := 3) (l' := #[true, true, true, true, true, true, true, false, false, false]) (by kernel_rfl) (by kernel_rfl) ?_
            have hh := st2_ _ hHeld
            rw [← hops, ← hQ] at hh
            exact hh
          · have h0 := hHeld
            clear hHeld
            try simp only [List.getElem_toArray, List.getElem_cons_succ, List.getElem_cons_zero]
            obtain ⟨kz, hg⟩ := Fn.fresh h0 23 #[.int .u8 0, .int .u8 0, .int .u8 0, .int .u8 0, .int .u8 0, .int .u8 0, .int .u8 0, .int .u8 0, .int .u8 0, .int .u8 0, .int .u8 0, .int .u8 0, .int .u8 0, .int .u8 0, .int .u8 0, .int .u8 0, .int .u8 0, .int .u8 0, .int .u8 0, .int .u8 0, .int .u8 0, .int .u8 0, .int .u8 0, .int .u8 0, .int .u8 0, .int .u8 0, .int .u8 0, .int .u8 0, .int .u8 0, .int .u8 0, .int .u8 0, .int .u8 0]
            have KZ := Lib.hid kz
            have HG := Lib.hid hg
            have H0 := Lib.hid h0
            clear kz hg h0
            go_simp
            refine hK.out _ _ (Fn.pass H0.out _) (fun hHeld => ?_)
            clear hK K H0
            try simp only [Act.put, List.getElem_toArray, List.getElem_cons_succ, List.getElem_cons_zero, List.setIfInBounds_toArray, List.set_cons_zero, List.set_cons_succ]
            have k7 := KZ.out
            have z7 := HG.out
            refine wpAnyH_cast (n' := 6) (l' := #[true, true, true, false, false, false, false, true, false, false]) (by kernel_rfl) (by kernel_rfl) ?_
            have hh := st1_7 _ _ hHeld k7 z7
            rw [← hops] at hh
            exact hh
      have st0_7 : ∀ (g5 : Nat) (W : World), Fn wx W [(w.heap.size + 1, 23, ks b), (w.heap.size, 23, ks a)] → Blk W g5 23 #[.int .u8 0, .int .u8 0, .int .u8 0, .int .u8 0, .int .u8 0, .int .u8 0, .int .u8 0, .int .u8 0, .int .u8 0, .int .u8 0, .int .u8 0, .int .u8 0, .int .u8 0, .int .u8 0, .int .u8 0, .int .u8 0, .int .u8 0, .int .u8 0, .int .u8 0, .int .u8 0, .int .u8 0, .int .u8 0, .int .u8 0, .int .u8 0, .int .u8 0, .int .u8 0, .int .u8 0, .int .u8 0, .int .u8 0, .int .u8 0, .int .u8 0, .int .u8 0] → wx.heap.size ≤ g5 → wpAnyH Tryd.prog .any ops Q (fun W => Fn wx W [(w.heap.size + 1, 23, ks b), (w.heap.size, 23, ks a)]) 7 #[true, true, false, false, false, false, false, true, false, false] { tmps := #[.agg (ks a), .agg (ks b), .pointer (some ⟨w.heap.size, 0, none⟩), .pointer (some ⟨w.heap.size + 1, 0, none⟩), .bool false, .pointer (some ⟨g5, 0, none⟩), undef, undef, undef, undef, .agg (ks a), .agg (ks b), undef, undef, undef, undef, undef, undef, undef, undef, undef, undef, undef, undef, undef, undef, undef, undef, undef, undef, undef, undef, undef, undef, undef, undef, undef, undef, undef, undef, undef], defers := [] } W := by
        as_aux_lemma =>
          clear st1_ st2_ st2_7
          intro g5 W hHeld K7 Z7
          rw [← hops]
          refine wpAnyH_ready (rs := [2]) (by kernel_rfl) (by simp) (AllReadyH.cons rfl (fun K hK => ?_) AllReadyH.nil)
          have KH7 := Lib.hid K7
          have h0 := hHeld
          clear hHeld
          try simp only [List.getElem_toArray, List.getElem_cons_succ, List.getElem_cons_zero]
          have H0 := Lib.hid h0
          clear h0
          go_simp
          go_at_call 11
          refine (HP1.out _ (HPX.out.ext H0.out.below)).mono ?_
          rintro e vv ⟨rfl, hb⟩
          have KJ7 := Lib.hid (KH7.out.below hb KH7.out.lt)
          have h1 := H0.out.ext hb
          clear hb H0
          go_wp2_with (fail)
          refine hK.out _ _ h1 (fun hHeld => ?_)
          clear hK K h1
          try simp only [Act.put, List.getElem_toArray, List.getElem_cons_succ, List.getElem_cons_zero, List.setIfInBounds_toArray, List.set_cons_zero, List.set_cons_succ]
          have k7 := KJ7.out
          have z7 := Z7
          refine wpAnyH_cast (n' := 6) (l' := #[true, true, true, false, false, false, false, true, false, false]) (by kernel_rfl) (by kernel_rfl) ?_
          have hh := st1_7 g5 _ hHeld k7 z7
          rw [← hops] at hh
          exact hh
      have st0_ : ∀ (W : World), Fn wx W [(w.heap.size + 1, 23, ks b), (w.heap.size, 23, ks a)] → wpAnyH Tryd.prog .any ops Q (fun W => Fn wx W [(w.heap.size + 1, 23, ks b), (w.heap.size, 23, ks a)]) 8 #[true, true, false, false, false, false, false, false, false, false] { tmps := #[.agg (ks a), .agg (ks b), .pointer (some ⟨w.heap.size, 0, none⟩), .pointer (some ⟨w.heap.size + 1, 0, none⟩), .bool false, undef, undef, undef, undef, undef, .agg (ks a), .agg (ks b), undef, undef, undef, undef, undef, undef, undef, undef, undef, undef, undef, undef, undef, undef, undef, undef, undef, undef, undef, undef, undef, undef, undef, undef, undef, undef, undef, undef, undef], defers := [] } W := by
        as_aux_lemma =>
          clear st1_7 st2_ st2_7
          intro W hHeld
          rw [← hops]
          refine wpAnyH_ready (rs := [2, 7]) (by kernel_rfl) (by simp) (AllReadyH.cons rfl (fun K hK => ?_) (AllReadyH.cons rfl (fun K hK => ?_) AllReadyH.nil))
          · have h0 := hHeld
            clear hHeld
            try simp only [List.getElem_toArray, List.getElem_cons_succ, List.getElem_cons_zero]
            have H0 := Lib.hid h0
            clear h0
            go_simp
            go_at_call 11
            refine (HP1.out _ (HPX.out.ext H0.out.below)).mono ?_
            rintro e vv ⟨rfl, hb⟩
            have h1 := H0.out.ext hb
            clear hb H0
            go_wp2_with (fail)
            refine hK.out _ _ h1 (fun hHeld => ?_)
            clear hK K h1
            try simp only [Act.put, List.getElem_toArray, List.getElem_cons_succ, List.getElem_cons_zero, List.setIfInBounds_toArray, List.set_cons_zero, List.set_cons_succ]
            refine wpAnyH_cast (n' := 7) (l' := #[true, true, true, false, false, false, false, false, false, false]) (by kernel_rfl) (by kernel_rfl) ?_
            have hh := st1_ _ hHeld
            rw [← hops] at hh
            exact hh
          · have h0 := hHeld
            clear hHeld
            try simp only [List.getElem_toArray, List.getElem_cons_succ, List.getElem_cons_zero]
            obtain ⟨kz, hg⟩ := Fn.fresh h0 23 #[.int .u8 0, .int .u8 0, .int .u8 0, .int .u8 0, .int .u8 0, .int .u8 0, .int .u8 0, .int .u8 0, .int .u8 0, .int .u8 0, .int .u8 0, .int .u8 0, .int .u8 0, .int .u8 0, .int .u8 0, .int .u8 0, .int .u8 0, .int .u8 0, .int .u8 0, .int .u8 0, .int .u8 0, .int .u8 0, .int .u8 0, .int .u8 0, .int .u8 0, .int .u8 0, .int .u8 0, .int .u8 0, .int .u8 0, .int .u8 0, .int .u8 0, .int .u8 0]
            have KZ := Lib.hid kz
            have HG := Lib.hid hg
            have H0 := Lib.hid h0
            clear kz hg h0
            go_simp
            refine hK.out _ _ (Fn.pass H0.out _) (fun hHeld => ?_)
            clear hK K H0
            try simp only [Act.put, List.getElem_toArray, List.getElem_cons_succ, List.getElem_cons_zero, List.setIfInBounds_toArray, List.set_cons_zero, List.set_cons_succ]
            have k7 := KZ.out
            have z7 := HG.out
            refine wpAnyH_cast (n' := 7) (l' := #[true, true, false, false, false, false, false, true, false, false]) (by kernel_rfl) (by kernel_rfl) ?_
            have hh := st0_7 _ _ hHeld k7 z7
            rw [← hops] at hh
            exact hh
      refine wpAnyH_cast (n' := 8) (l' := #[true, true, false, false, false, false, false, false, false, false]) (by kernel_rfl) (by kernel_rfl) ?_
      exact st0_ _ hHeld
  case rest =>
    as_aux_lemma =>
      obtain ⟨g5, rfl, rfl, z5, k5, hb⟩ := hcut
      have hf := (HF.out.ext hb).more k5
      have HF4 := Lib.hid hf
      clear hf hb HF k5
      have HF := HF4
      clear HF4
      obtain ⟨wy, h_w⟩ : ∃ z : World, z = wc := ⟨_, rfl⟩
      rw [← h_w] at HF ⊢
      clear h_w
      have HPwy := Lib.hid (Fr.pg HF.out HP.out)
      go_wp2_with (fail)
      go_cut [7, 8] (fun s7 s8 wz => ∃ g7 : Nat, s7 = .pointer (some ⟨g7, 0, none⟩) ∧ s8 = .int .i64 0 ∧ wy.heap.size ≤ g7 ∧ Blk wz g7 23 (ks m) ∧ Below wy.heap.size wy wz)
      case first =>
        as_aux_lemma =>
          have hn := (HF.out.now.sub (L' := [(g5, 23, ks m), (w.heap.size + 1, 23, ks b), (w.heap.size, 23, ks a)]) (by simp))
          have HN := Lib.hid hn
          clear hn
          refine wp_region_held_drew (S := fun W => Fn wy W [(g5, 23, ks m), (w.heap.size + 1, 23, ks b), (w.heap.size, 23, ks a)]) (by kernel_rfl) ?_ (fun hHeld => ?_)
          · exact HN.out.drew
          refine wpAnyH_take (i := 0) (v := .agg (ks b)) rfl (by kernel_rfl) (by kernel_rfl) (by kernel_rfl) (fun _ _ _ h => h) (yields_row (by rfl) 23 (.tmp 3) rfl (w.heap.size + 1) rfl 23 (ks b) _ (fun W (h : Fn _ W _) => h.get (by simp)) Tryd.underlying23 rfl (info_ks _)) hHeld ?_
          try simp only [Act.put, List.getElem_toArray, List.getElem_cons_succ, List.getElem_cons_zero, List.setIfInBounds_toArray, List.set_cons_zero, List.set_cons_succ]
          refine wpAnyH_take (i := 1) (v := .agg (ks a)) rfl (by kernel_rfl) (by kernel_rfl) (by kernel_rfl) (fun _ _ _ h => h) (yields_row (by rfl) 23 (.tmp 2) rfl (w.heap.size) rfl 23 (ks a) _ (fun W (h : Fn _ W _) => h.get (by simp)) Tryd.underlying23 rfl (info_ks _)) hHeld ?_
          try simp only [Act.put, List.getElem_toArray, List.getElem_cons_succ, List.getElem_cons_zero, List.setIfInBounds_toArray, List.set_cons_zero, List.set_cons_succ]
          refine wpAnyH_name ?_
          intro ops Q hops hQ
          have st2_7 : ∀ (g7 : Nat) (W : World), Fn wy W [(g5, 23, ks m), (w.heap.size + 1, 23, ks b), (w.heap.size, 23, ks a)] → Blk W g7 23 #[.int .u8 0, .int .u8 0, .int .u8 0, .int .u8 0, .int .u8 0, .int .u8 0, .int .u8 0, .int .u8 0, .int .u8 0, .int .u8 0, .int .u8 0, .int .u8 0, .int .u8 0, .int .u8 0, .int .u8 0, .int .u8 0, .int .u8 0, .int .u8 0, .int .u8 0, .int .u8 0, .int .u8 0, .int .u8 0, .int .u8 0, .int .u8 0, .int .u8 0, .int .u8 0, .int .u8 0, .int .u8 0, .int .u8 0, .int .u8 0, .int .u8 0, .int .u8 0] → wy.heap.size ≤ g7 → wpAnyH Tryd.prog .any ops Q (fun W => Fn wy W [(g5, 23, ks m), (w.heap.size + 1, 23, ks b), (w.heap.size, 23, ks a)]) 2 #[true, true, true, true, true, true, true, true, false, false] { tmps := #[.agg (ks a), .agg (ks b), .pointer (some ⟨w.heap.size, 0, none⟩), .pointer (some ⟨w.heap.size + 1, 0, none⟩), .bool false, .pointer (some ⟨g5, 0, none⟩), .int .i64 0, .pointer (some ⟨g7, 0, none⟩), undef, u9, u10, u11, u12, u13, u14, u15, .tuple #[.agg (ks m), .int .i64 0], .agg (ks b), .agg (ks a), .agg (ks pa), .tuple #[.agg (ks m), .int .i64 0], .agg (ks m), .int .i64 0, u23, u24, u25, u26, u27, u28, u29, u30, u31, u32, u33, u34, u35, u36, u37, u38, u39, u40], defers := [] } W := by
            as_aux_lemma =>
              intro g7 W hHeld K7 Z7
              rw [← hops]
              rw [← hQ]
              have KK7 := Lib.hid K7
              clear K7
              refine wpAnyH_ready (rs := [8]) (by kernel_rfl) (by simp) (AllReadyH.cons rfl (fun K hK => ?_) AllReadyH.nil)
              have h0 := hHeld
              clear hHeld
              try simp only [List.getElem_toArray, List.getElem_cons_succ, List.getElem_cons_zero]
              rw [if_pos (by rfl)]
              refine wp_store_row 23 (.tmp 7) (.tmp 21) rfl g7 (ks m) rfl rfl 23 _ KK7.out (info_ks _) (by rw [ks_size]; rfl) (ks_one _) ?_
              refine hK.out _ _ (Fn.setFresh h0 Z7 _) (fun hHeld => ?_)
              have J7 := Lib.hid (KK7.out.setRow_same (ks m))
              clear KK7
              have KK7 := J7
              clear J7
              clear hK K h0
              try simp only [Act.put, List.getElem_toArray, List.getElem_cons_succ, List.getElem_cons_zero, List.setIfInBounds_toArray, List.set_cons_zero, List.set_cons_succ]
              refine wpAnyH_take (i := 9) (v := ?_) rfl (by kernel_rfl) (by kernel_rfl) (by kernel_rfl) (fun _ _ _ h => h) (Or.inl ⟨by rfl, ?_⟩) hHeld ?_
              rotate_left
              · (intro W hSw; (try dsimp only at hSw); (try simp only [List.getElem_toArray, List.getElem_cons_succ, List.getElem_cons_zero]); go_simp; try with_reducible rfl)
              try simp only [Act.put, List.getElem_toArray, List.getElem_cons_succ, List.getElem_cons_zero, List.setIfInBounds_toArray, List.set_cons_zero, List.set_cons_succ]
              refine wpAnyH_done (by kernel_rfl) ?_ _
              have HB := Lib.hid hHeld.below
              clear hHeld
              go_wp2_with (fail)
              go_meet
              exact ⟨g7, rfl, rfl, Z7, KK7.out, HB.out⟩
          have st2_ : ∀ (W : World), Fn wy W [(g5, 23, ks m), (w.heap.size + 1, 23, ks b), (w.heap.size, 23, ks a)] → wpAnyH Tryd.prog .any ops Q (fun W => Fn wy W [(g5, 23, ks m), (w.heap.size + 1, 23, ks b), (w.heap.size, 23, ks a)]) 3 #[true, true, true, true, true, true, true, false, false, false] { tmps := #[.agg (ks a), .agg (ks b), .pointer (some ⟨w.heap.size, 0, none⟩), .pointer (some ⟨w.heap.size + 1, 0, none⟩), .bool false, .pointer (some ⟨g5, 0, none⟩), .int .i64 0, undef, undef, u9, u10, u11, u12, u13, u14, u15, .tuple #[.agg (ks m), .int .i64 0], .agg (ks b), .agg (ks a), .agg (ks pa), .tuple #[.agg (ks m), .int .i64 0], .agg (ks m), .int .i64 0, u23, u24, u25, u26, u27, u28, u29, u30, u31, u32, u33, u34, u35, u36, u37, u38, u39, u40], defers := [] } W := by
            as_aux_lemma =>
              intro W hHeld
              rw [← hops]
              refine wpAnyH_ready (rs := [7]) (by kernel_rfl) (by simp) (AllReadyH.cons rfl (fun K hK => ?_) AllReadyH.nil)
              have h0 := hHeld
              clear hHeld
              try simp only [List.getElem_toArray, List.getElem_cons_succ, List.getElem_cons_zero]
              obtain ⟨kz, hg⟩ := Fn.fresh h0 23 #[.int .u8 0, .int .u8 0, .int .u8 0, .int .u8 0, .int .u8 0, .int .u8 0, .int .u8 0, .int .u8 0, .int .u8 0, .int .u8 0, .int .u8 0, .int .u8 0, .int .u8 0, .int .u8 0, .int .u8 0, .int .u8 0, .int .u8 0, .int .u8 0, .int .u8 0, .int .u8 0, .int .u8 0, .int .u8 0, .int .u8 0, .int .u8 0, .int .u8 0, .int .u8 0, .int .u8 0, .int .u8 0, .int .u8 0, .int .u8 0, .int .u8 0, .int .u8 0]
              have KZ := Lib.hid kz
              have HG := Lib.hid hg
              have H0 := Lib.hid h0
              clear kz hg h0
              go_simp
              refine hK.out _ _ (Fn.pass H0.out _) (fun hHeld => ?_)
              clear hK K H0
              try simp only [Act.put, List.getElem_toArray, List.getElem_cons_succ, List.getElem_cons_zero, List.setIfInBounds_toArray, List.set_cons_zero, List.set_cons_succ]
              have k7 := KZ.out
              have z7 := HG.out
              refine wpAnyH_cast (n' := 2) (l' := #[true, true, true, true, true, true, true, true, false, false]) (by kernel_rfl) (by kernel_rfl) ?_
              have hh := st2_7 _ _ hHeld k7 z7
              rw [← hops] at hh
              exact hh
          have st1_7 : ∀ (g7 : Nat) (W : World), Fn wy W [(g5, 23, ks m), (w.heap.size + 1, 23, ks b), (w.heap.size, 23, ks a)] → Blk W g7 23 #[.int .u8 0, .int .u8 0, .int .u8 0, .int .u8 0, .int .u8 0, .int .u8 0, .int .u8 0, .int .u8 0, .int .u8 0, .int .u8 0, .int .u8 0, .int .u8 0, .int .u8 0, .int .u8 0, .int .u8 0, .int .u8 0, .int .u8 0, .int .u8 0, .int .u8 0, .int .u8 0, .int .u8 0, .int .u8 0, .int .u8 0, .int .u8 0, .int .u8 0, .int .u8 0, .int .u8 0, .int .u8 0, .int .u8 0, .int .u8 0, .int .u8 0, .int .u8 0] → wy.heap.size ≤ g7 → wpAnyH Tryd.prog .any ops Q (fun W => Fn wy W [(g5, 23, ks m), (w.heap.size + 1, 23, ks b), (w.heap.size, 23, ks a)]) 6 #[true, true, true, false, false, false, false, true, false, false] { tmps := #[.agg (ks a), .agg (ks b), .pointer (some ⟨w.heap.size, 0, none⟩), .pointer (some ⟨w.heap.size + 1, 0, none⟩), .bool false, .pointer (some ⟨g5, 0, none⟩), .int .i64 0, .pointer (some ⟨g7, 0, none⟩), undef, u9, u10, u11, u12, u13, u14, u15, u16, .agg (ks b), .agg (ks a), .agg (ks pa), u20, u21, u22, u23, u24, u25, u26, u27, u28, u29, u30, u31, u32, u33, u34, u35, u36, u37, u38, u39, u40], defers := [] } W := by
            as_aux_lemma =>
              clear st2_
              intro g7 W hHeld K7 Z7
              rw [← hops]
              refine wpAnyH_ready (rs := [3]) (by kernel_rfl) (by simp) (AllReadyH.cons rfl (fun K hK => ?_) AllReadyH.nil)
              have KH7 := Lib.hid K7
              have h0 := hHeld
              clear hHeld
              try simp only [List.getElem_toArray, List.getElem_cons_succ, List.getElem_cons_zero]
              have H0 := Lib.hid h0
              clear h0
              go_simp
              go_at_call 8
              refine (HS2.out _ (HPwy.out.ext H0.out.below)).mono ?_
              rintro e vv ⟨rfl, hb⟩
              have KJ7 := Lib.hid (KH7.out.below hb KH7.out.lt)
              have h1 := H0.out.ext hb
              clear hb H0
              go_wp2_with (fail)
              refine hK.out _ _ h1 (fun hHeld => ?_)
              clear hK K h1
              try simp only [Act.put, List.getElem_toArray, List.getElem_cons_succ, List.getElem_cons_zero, List.setIfInBounds_toArray, List.set_cons_zero, List.set_cons_succ]
              have k7 := KJ7.out
              have z7 := Z7
              rw [← hQ]
              refine wpAnyH_take (i := 4) (v := ?_) rfl (by kernel_rfl) (by kernel_rfl) (by kernel_rfl) (fun _ _ _ h => h) (Or.inl ⟨by rfl, ?_⟩) hHeld ?_
              rotate_left
              · (intro W hSw; (try dsimp only at hSw); (try simp only [List.getElem_toArray, List.getElem_cons_succ, List.getElem_cons_zero]); go_simp; try with_reducible rfl)
              try simp only [Act.put, List.getElem_toArray, List.getElem_cons_succ, List.getElem_cons_zero, List.setIfInBounds_toArray, List.set_cons_zero, List.set_cons_succ]
              refine wpAnyH_take (i := 5) (v := ?_) rfl (by kernel_rfl) (by kernel_rfl) (by kernel_rfl) (fun _ _ _ h => h) (Or.inl ⟨by rfl, ?_⟩) hHeld ?_
              rotate_left
              · (intro W hSw; (try dsimp only at hSw); (try simp only [List.getElem_toArray, List.getElem_cons_succ, List.getElem_cons_zero]); go_simp; try with_reducible rfl)
              try simp only [Act.put, List.getElem_toArray, List.getElem_cons_succ, List.getElem_cons_zero, List.setIfInBounds_toArray, List.set_cons_zero, List.set_cons_succ]
              refine wpAnyH_take (i := 6) (v := ?_) rfl (by kernel_rfl) (by kernel_rfl) (by kernel_rfl) (fun _ _ _ h => h) (Or.inl ⟨by rfl, ?_⟩) hHeld ?_
              rotate_left
              · (intro W hSw; (try dsimp only at hSw); (try simp only [List.getElem_toArray, List.getElem_cons_succ, List.getElem_cons_zero]); go_simp; try with_reducible rfl)
              try simp only [Act.put, List.getElem_toArray, List.getElem_cons_succ, List.getElem_cons_zero, List.setIfInBounds_toArray, List.set_cons_zero, List.set_cons_succ]
              refine wpAnyH_cast (n' := 2) (l' := #[true, true, true, true, true, true, true, true, false, false]) (by kernel_rfl) (by kernel_rfl) ?_
              have hh := st2_7 g7 _ hHeld k7 z7
              rw [← hops, ← hQ] at hh
              exact hh
          have st1_ : ∀ (W : World), Fn wy W [(g5, 23, ks m), (w.heap.size + 1, 23, ks b), (w.heap.size, 23, ks a)] → wpAnyH Tryd.prog .any ops Q (fun W => Fn wy W [(g5, 23, ks m), (w.heap.size + 1, 23, ks b), (w.heap.size, 23, ks a)]) 7 #[true, true, true, false, false, false, false, false, false, false] { tmps := #[.agg (ks a), .agg (ks b), .pointer (some ⟨w.heap.size, 0, none⟩), .pointer (some ⟨w.heap.size + 1, 0, none⟩), .bool false, .pointer (some ⟨g5, 0, none⟩), .int .i64 0, undef, undef, u9, u10, u11, u12, u13, u14, u15, u16, .agg (ks b), .agg (ks a), .agg (ks pa), u20, u21, u22, u23, u24, u25, u26, u27, u28, u29, u30, u31, u32, u33, u34, u35, u36, u37, u38, u39, u40], defers := [] } W := by
            as_aux_lemma =>
              clear st2_7
              intro W hHeld
              rw [← hops]
              refine wpAnyH_ready (rs := [3, 7]) (by kernel_rfl) (by simp) (AllReadyH.cons rfl (fun K hK => ?_) (AllReadyH.cons rfl (fun K hK => ?_) AllReadyH.nil))
              · have h0 := hHeld
                clear hHeld
                try simp only [List.getElem_toArray, List.getElem_cons_succ, List.getElem_cons_zero]
                have H0 := Lib.hid h0
                clear h0
                go_simp
                go_at_call 8
                refine (HS2.out _ (HPwy.out.ext H0.out.below)).mono ?_
                rintro e vv ⟨rfl, hb⟩
                have h1 := H0.out.ext hb
                clear hb H0
                go_wp2_with (fail)
                refine hK.out _ _ h1 (fun hHeld => ?_)
                clear hK K h1
                try simp only [Act.put, List.getElem_toArray, List.getElem_cons_succ, List.getElem_cons_zero, List.setIfInBounds_toArray, List.set_cons_zero, List.set_cons_succ]
                rw [← hQ]
                refine wpAnyH_take (i := 4) (v := ?_) rfl (by kernel_rfl) (by kernel_rfl) (by kernel_rfl) (fun _ _ _ h => h) (Or.inl ⟨by rfl, ?_⟩) hHeld ?_
                rotate_left
                · (intro W hSw; (try dsimp only at hSw); (try simp only [List.getElem_toArray, List.getElem_cons_succ, List.getElem_cons_zero]); go_simp; try with_reducible rfl)
                try simp only [Act.put, List.getElem_toArray, List.getElem_cons_succ, List.getElem_cons_zero, List.setIfInBounds_toArray, List.set_cons_zero, List.set_cons_succ]
                refine wpAnyH_take (i := 5) (v := ?_) rfl (by kernel_rfl) (by kernel_rfl) (by kernel_rfl) (fun _ _ _ h => h) (Or.inl ⟨by rfl, ?_⟩) hHeld ?_
                rotate_left
                · (intro W hSw; (try dsimp only at hSw); (try simp only [List.getElem_toArray, List.getElem_cons_succ, List.getElem_cons_zero]); go_simp; try with_reducible rfl)
                try simp only [Act.put, List.getElem_toArray, List.getElem_cons_succ, List.getElem_cons_zero, List.setIfInBounds_toArray, List.set_cons_zero, List.set_cons_succ]
                refine wpAnyH_take (i := 6) (v := ?_) rfl (by kernel_rfl) (by kernel_rfl) (by kernel_rfl) (fun _ _ _ h => h) (Or.inl ⟨by rfl, ?_⟩) hHeld ?_
                rotate_left
                · (intro W hSw; (try dsimp only at hSw); (try simp only [List.getElem_toArray, List.getElem_cons_succ, List.getElem_cons_zero]); go_simp; try with_reducible rfl)
                try simp only [Act.put, List.getElem_toArray, List.getElem_cons_succ, List.getElem_cons_zero, List.setIfInBounds_toArray, List.set_cons_zero, List.set_cons_succ]
                refine wpAnyH_cast (n' := 3) (l' := #[true, true, true, true, true, true, true, false, false, false]) (by kernel_rfl) (by kernel_rfl) ?_
                have hh := st2_ _ hHeld
                rw [← hops, ← hQ] at hh
                exact hh
              · have h0 := hHeld
                clear hHeld
                try simp only [List.getElem_toArray, List.getElem_cons_succ, List.getElem_cons_zero]
                obtain ⟨kz, hg⟩ := Fn.fresh h0 23 #[.int .u8 0, .int .u8 0, .int .u8 0, .int .u8 0, .int .u8 0, .int .u8 0, .int .u8 0, .int .u8 0, .int .u8 0, .int .u8 0, .int .u8 0, .int .u8 0, .int .u8 0, .int .u8 0, .int .u8 0, .int .u8 0, .int .u8 0, .int .u8 0, .int .u8 0, .int .u8 0, .int .u8 0, .int .u8 0, .int .u8 0, .int .u8 0, .int .u8 0, .int .u8 0, .int .u8 0, .int .u8 0, .int .u8 0, .int .u8 0, .int .u8 0, .int .u8 0]
                have KZ := Lib.hid kz
                have HG := Lib.hid hg
                have H0 := Lib.hid h0
                clear kz hg h0
                go_simp
                refine hK.out _ _ (Fn.pass H0.out _) (fun hHeld => ?_)
                clear hK K H0
                try simp only [Act.put, List.getElem_toArray, List.getElem_cons_succ, List.getElem_cons_zero, List.setIfInBounds_toArray, List.set_cons_zero, List.set_cons_succ]
                have k7 := KZ.out
                have z7 := HG.out
                refine wpAnyH_cast (n' := 6) (l' := #[true, true, true, false, false, false, false, true, false, false]) (by kernel_rfl) (by kernel_rfl) ?_
                have hh := st1_7 _ _ hHeld k7 z7
                rw [← hops] at hh
                exact hh
          have st0_7 : ∀ (g7 : Nat) (W : World), Fn wy W [(g5, 23, ks m), (w.heap.size + 1, 23, ks b), (w.heap.size, 23, ks a)] → Blk W g7 23 #[.int .u8 0, .int .u8 0, .int .u8 0, .int .u8 0, .int .u8 0, .int .u8 0, .int .u8 0, .int .u8 0, .int .u8 0, .int .u8 0, .int .u8 0, .int .u8 0, .int .u8 0, .int .u8 0, .int .u8 0, .int .u8 0, .int .u8 0, .int .u8 0, .int .u8 0, .int .u8 0, .int .u8 0, .int .u8 0, .int .u8 0, .int .u8 0, .int .u8 0, .int .u8 0, .int .u8 0, .int .u8 0, .int .u8 0, .int .u8 0, .int .u8 0, .int .u8 0] → wy.heap.size ≤ g7 → wpAnyH Tryd.prog .any ops Q (fun W => Fn wy W [(g5, 23, ks m), (w.heap.size + 1, 23, ks b), (w.heap.size, 23, ks a)]) 7 #[true, true, false, false, false, false, false, true, false, false] { tmps := #[.agg (ks a), .agg (ks b), .pointer (some ⟨w.heap.size, 0, none⟩), .pointer (some ⟨w.heap.size + 1, 0, none⟩), .bool false, .pointer (some ⟨g5, 0, none⟩), .int .i64 0, .pointer (some ⟨g7, 0, none⟩), undef, u9, u10, u11, u12, u13, u14, u15, u16, .agg (ks b), .agg (ks a), u19, u20, u21, u22, u23, u24, u25, u26, u27, u28, u29, u30, u31, u32, u33, u34, u35, u36, u37, u38, u39, u40], defers := [] } W := by
            as_aux_lemma =>
              clear st1_ st2_ st2_7
              intro g7 W hHeld K7 Z7
              rw [← hops]
              refine wpAnyH_ready (rs := [2]) (by kernel_rfl) (by simp) (AllReadyH.cons rfl (fun K hK => ?_) AllReadyH.nil)
              have KH7 := Lib.hid K7
              have h0 := hHeld
              clear hHeld
              try simp only [List.getElem_toArray, List.getElem_cons_succ, List.getElem_cons_zero]
              have H0 := Lib.hid h0
              clear h0
              go_simp
              go_at_call 11
              refine (HP2.out _ (HPwy.out.ext H0.out.below)).mono ?_
              rintro e vv ⟨rfl, hb⟩
              have KJ7 := Lib.hid (KH7.out.below hb KH7.out.lt)
              have h1 := H0.out.ext hb
              clear hb H0
              go_wp2_with (fail)
              refine hK.out _ _ h1 (fun hHeld => ?_)
              clear hK K h1
              try simp only [Act.put, List.getElem_toArray, List.getElem_cons_succ, List.getElem_cons_zero, List.setIfInBounds_toArray, List.set_cons_zero, List.set_cons_succ]
              have k7 := KJ7.out
              have z7 := Z7
              refine wpAnyH_cast (n' := 6) (l' := #[true, true, true, false, false, false, false, true, false, false]) (by kernel_rfl) (by kernel_rfl) ?_
              have hh := st1_7 g7 _ hHeld k7 z7
              rw [← hops] at hh
              exact hh
          have st0_ : ∀ (W : World), Fn wy W [(g5, 23, ks m), (w.heap.size + 1, 23, ks b), (w.heap.size, 23, ks a)] → wpAnyH Tryd.prog .any ops Q (fun W => Fn wy W [(g5, 23, ks m), (w.heap.size + 1, 23, ks b), (w.heap.size, 23, ks a)]) 8 #[true, true, false, false, false, false, false, false, false, false] { tmps := #[.agg (ks a), .agg (ks b), .pointer (some ⟨w.heap.size, 0, none⟩), .pointer (some ⟨w.heap.size + 1, 0, none⟩), .bool false, .pointer (some ⟨g5, 0, none⟩), .int .i64 0, undef, undef, u9, u10, u11, u12, u13, u14, u15, u16, .agg (ks b), .agg (ks a), u19, u20, u21, u22, u23, u24, u25, u26, u27, u28, u29, u30, u31, u32, u33, u34, u35, u36, u37, u38, u39, u40], defers := [] } W := by
            as_aux_lemma =>
              clear st1_7 st2_ st2_7
              intro W hHeld
              rw [← hops]
              refine wpAnyH_ready (rs := [2, 7]) (by kernel_rfl) (by simp) (AllReadyH.cons rfl (fun K hK => ?_) (AllReadyH.cons rfl (fun K hK => ?_) AllReadyH.nil))
              · have h0 := hHeld
                clear hHeld
                try simp only [List.getElem_toArray, List.getElem_cons_succ, List.getElem_cons_zero]
                have H0 := Lib.hid h0
                clear h0
                go_simp
                go_at_call 11
                refine (HP2.out _ (HPwy.out.ext H0.out.below)).mono ?_
                rintro e vv ⟨rfl, hb⟩
                have h1 := H0.out.ext hb
                clear hb H0
                go_wp2_with (fail)
                refine hK.out _ _ h1 (fun hHeld => ?_)
                clear hK K h1
                try simp only [Act.put, List.getElem_toArray, List.getElem_cons_succ, List.getElem_cons_zero, List.setIfInBounds_toArray, List.set_cons_zero, List.set_cons_succ]
                refine wpAnyH_cast (n' := 7) (l' := #[true, true, true, false, false, false, false, false, false, false]) (by kernel_rfl) (by kernel_rfl) ?_
                have hh := st1_ _ hHeld
                rw [← hops] at hh
                exact hh
              · have h0 := hHeld
                clear hHeld
                try simp only [List.getElem_toArray, List.getElem_cons_succ, List.getElem_cons_zero]
                obtain ⟨kz, hg⟩ := Fn.fresh h0 23 #[.int .u8 0, .int .u8 0, .int .u8 0, .int .u8 0, .int .u8 0, .int .u8 0, .int .u8 0, .int .u8 0, .int .u8 0, .int .u8 0, .int .u8 0, .int .u8 0, .int .u8 0, .int .u8 0, .int .u8 0, .int .u8 0, .int .u8 0, .int .u8 0, .int .u8 0, .int .u8 0, .int .u8 0, .int .u8 0, .int .u8 0, .int .u8 0, .int .u8 0, .int .u8 0, .int .u8 0, .int .u8 0, .int .u8 0, .int .u8 0, .int .u8 0, .int .u8 0]
                have KZ := Lib.hid kz
                have HG := Lib.hid hg
                have H0 := Lib.hid h0
                clear kz hg h0
                go_simp
                refine hK.out _ _ (Fn.pass H0.out _) (fun hHeld => ?_)
                clear hK K H0
                try simp only [Act.put, List.getElem_toArray, List.getElem_cons_succ, List.getElem_cons_zero, List.setIfInBounds_toArray, List.set_cons_zero, List.set_cons_succ]
                have k7 := KZ.out
                have z7 := HG.out
                refine wpAnyH_cast (n' := 7) (l' := #[true, true, false, false, false, false, false, true, false, false]) (by kernel_rfl) (by kernel_rfl) ?_
                have hh := st0_7 _ _ hHeld k7 z7
                rw [← hops] at hh
                exact hh
          refine wpAnyH_cast (n' := 8) (l' := #[true, true, false, false, false, false, false, false, false, false]) (by kernel_rfl) (by kernel_rfl) ?_
          exact st0_ _ hHeld
      case rest =>
        as_aux_lemma =>
          obtain ⟨g7, rfl, rfl, z7, k7, hb⟩ := hcut
          have hf := (HF.out.ext hb).more k7
          have HF4 := Lib.hid hf
          clear hf hb HF k7
          have HF := HF4
          clear HF4
          obtain ⟨wv, h_w⟩ : ∃ z : World, z = wc := ⟨_, rfl⟩
          rw [← h_w] at HF ⊢
          clear h_w
          have HPwv := Lib.hid (Fr.pg HF.out HP.out)
          go_wp2_with (fail)
          refine wp_region_held_drew (S := fun W => Fr w W [(g7, 23, ks m), (g5, 23, ks m), (w.heap.size + 1, 23, ks b), (w.heap.size, 23, ks a)] []) (by kernel_rfl) ?_ (fun hHeld => ?_)
          · exact HF.out.drew
          refine wpAnyH_take (i := 0) (v := ?_) rfl (by kernel_rfl) (by kernel_rfl) (by kernel_rfl) (fun _ _ _ h => h) (Or.inl ⟨by rfl, ?_⟩) hHeld ?_
          rotate_left
          · (intro W hSw; (try dsimp only at hSw); (try simp only [List.getElem_toArray, List.getElem_cons_succ, List.getElem_cons_zero]); go_simp; try with_reducible rfl)
          try simp only [Act.put, List.getElem_toArray, List.getElem_cons_succ, List.getElem_cons_zero, List.setIfInBounds_toArray, List.set_cons_zero, List.set_cons_succ]
          refine wpAnyH_take (i := 1) (v := ?_) rfl (by kernel_rfl) (by kernel_rfl) (by kernel_rfl) (fun _ _ _ h => h) (Or.inl ⟨by rfl, ?_⟩) hHeld ?_
          rotate_left
          · (intro W hSw; (try dsimp only at hSw); (try simp only [List.getElem_toArray, List.getElem_cons_succ, List.getElem_cons_zero]); go_simp; try with_reducible rfl)
          try simp only [Act.put, List.getElem_toArray, List.getElem_cons_succ, List.getElem_cons_zero, List.setIfInBounds_toArray, List.set_cons_zero, List.set_cons_succ]
          refine wpAnyH_take (i := 2) (v := ?_) rfl (by kernel_rfl) (by kernel_rfl) (by kernel_rfl) (fun _ _ _ h => h) (Or.inl ⟨by rfl, ?_⟩) hHeld ?_
          rotate_left
          · (intro W hSw; (try dsimp only at hSw); (try simp only [List.getElem_toArray, List.getElem_cons_succ, List.getElem_cons_zero]); go_simp; try with_reducible rfl)
          try simp only [Act.put, List.getElem_toArray, List.getElem_cons_succ, List.getElem_cons_zero, List.setIfInBounds_toArray, List.set_cons_zero, List.set_cons_succ]
          refine wpAnyH_take (i := 3) (v := ?_) rfl (by kernel_rfl) (by kernel_rfl) (by kernel_rfl) (fun _ _ _ h => h) (Or.inl ⟨by rfl, ?_⟩) hHeld ?_
          rotate_left
          · (intro W hSw; (try dsimp only at hSw); (try simp only [List.getElem_toArray, List.getElem_cons_succ, List.getElem_cons_zero]); go_simp; try with_reducible rfl)
          try simp only [Act.put, List.getElem_toArray, List.getElem_cons_succ, List.getElem_cons_zero, List.setIfInBounds_toArray, List.set_cons_zero, List.set_cons_succ]
          refine wpAnyH_take (i := 4) (v := .agg (ks m)) rfl (by kernel_rfl) (by kernel_rfl) (by kernel_rfl) (fun _ _ _ h => h) (yields_row (by rfl) 23 (.tmp 5) rfl (g5) rfl 23 (ks m) _ (fun W (h : Fr _ W _ _) => h.get (by simp)) Tryd.underlying23 rfl (info_ks _)) hHeld ?_
          try simp only [Act.put, List.getElem_toArray, List.getElem_cons_succ, List.getElem_cons_zero, List.setIfInBounds_toArray, List.set_cons_zero, List.set_cons_succ]
          refine wpAnyH_take (i := 5) (v := .agg (ks m)) rfl (by kernel_rfl) (by kernel_rfl) (by kernel_rfl) (fun _ _ _ h => h) (yields_row (by rfl) 23 (.tmp 7) rfl (g7) rfl 23 (ks m) _ (fun W (h : Fr _ W _ _) => h.get (by simp)) Tryd.underlying23 rfl (info_ks _)) hHeld ?_
          try simp only [Act.put, List.getElem_toArray, List.getElem_cons_succ, List.getElem_cons_zero, List.setIfInBounds_toArray, List.set_cons_zero, List.set_cons_succ]
          refine wpAnyH_take (i := 6) (v := ?_) rfl (by kernel_rfl) (by kernel_rfl) (by kernel_rfl) (fun _ _ _ h => h) (Or.inl ⟨by rfl, ?_⟩) hHeld ?_
          rotate_left
          · (intro W hSw; (try dsimp only at hSw); (try simp only [List.getElem_toArray, List.getElem_cons_succ, List.getElem_cons_zero]); go_simp; try with_reducible rfl)
          try simp only [Act.put, List.getElem_toArray, List.getElem_cons_succ, List.getElem_cons_zero, List.setIfInBounds_toArray, List.set_cons_zero, List.set_cons_succ]
          refine wpAnyH_take (i := 7) (v := ?_) rfl (by kernel_rfl) (by kernel_rfl) (by kernel_rfl) (fun _ _ _ h => h) (Or.inl ⟨by rfl, ?_⟩) hHeld ?_
          rotate_left
          · (intro W hSw; (try dsimp only at hSw); (try simp only [List.getElem_toArray, List.getElem_cons_succ, List.getElem_cons_zero]); go_simp; try with_reducible rfl)
          try simp only [Act.put, List.getElem_toArray, List.getElem_cons_succ, List.getElem_cons_zero, List.setIfInBounds_toArray, List.set_cons_zero, List.set_cons_succ]
          refine wpAnyH_take (i := 8) (v := ?_) rfl (by kernel_rfl) (by kernel_rfl) (by kernel_rfl) (fun _ _ _ h => h) (Or.inl ⟨by rfl, ?_⟩) hHeld ?_
          rotate_left
          · (intro W hSw; (try dsimp only at hSw); (try simp only [List.getElem_toArray, List.getElem_cons_succ, List.getElem_cons_zero]); go_simp; try with_reducible rfl)
          try simp only [Act.put, List.getElem_toArray, List.getElem_cons_succ, List.getElem_cons_zero, List.setIfInBounds_toArray, List.set_cons_zero, List.set_cons_succ]
          refine wpAnyH_take (i := 9) (v := .agg (ks a)) rfl (by kernel_rfl) (by kernel_rfl) (by kernel_rfl) (fun _ _ _ h => h) (yields_row (by rfl) 23 (.tmp 2) rfl (w.heap.size) rfl 23 (ks a) _ (fun W (h : Fr _ W _ _) => h.get (by simp)) Tryd.underlying23 rfl (info_ks _)) hHeld ?_
          try simp only [Act.put, List.getElem_toArray, List.getElem_cons_succ, List.getElem_cons_zero, List.setIfInBounds_toArray, List.set_cons_zero, List.set_cons_succ]
          refine wpAnyH_take (i := 11) (v := .agg (ks a)) rfl (by kernel_rfl) (by kernel_rfl) (by kernel_rfl) (fun _ _ _ h => h) (yields_row (by rfl) 23 (.tmp 2) rfl (w.heap.size) rfl 23 (ks a) _ (fun W (h : Fr _ W _ _) => h.get (by simp)) Tryd.underlying23 rfl (info_ks _)) hHeld ?_
          try simp only [Act.put, List.getElem_toArray, List.getElem_cons_succ, List.getElem_cons_zero, List.setIfInBounds_toArray, List.set_cons_zero, List.set_cons_succ]
          refine wpAnyH_ready (rs := [10]) (by kernel_rfl) (by simp) (AllReadyH.cons rfl (fun K hK => ?_) AllReadyH.nil)
          have h0 := hHeld
          clear hHeld
          try simp only [List.getElem_toArray, List.getElem_cons_succ, List.getElem_cons_zero]
          have H0 := Lib.hid h0
          clear h0
          go_simp
          go_at_call 11
          refine (HP2.out _ (Fr.pg H0.out HP.out)).mono ?_
          rintro e vv ⟨rfl, hb⟩
          have h1 := H0.out.ext hb
          clear hb H0
          go_wp2_with (fail)
          refine hK.out _ _ h1 (fun hHeld => ?_)
          clear hK K h1
          try simp only [Act.put, List.getElem_toArray, List.getElem_cons_succ, List.getElem_cons_zero, List.setIfInBounds_toArray, List.set_cons_zero, List.set_cons_succ]
          refine wpAnyH_ready (rs := [12]) (by kernel_rfl) (by simp) (AllReadyH.cons rfl (fun K hK => ?_) AllReadyH.nil)
          have h0 := hHeld
          clear hHeld
          try simp only [List.getElem_toArray, List.getElem_cons_succ, List.getElem_cons_zero]
          have H0 := Lib.hid h0
          clear h0
          go_simp
          go_at_call 12
          refine (HRP.out _).mono ?_
          rintro e vv ⟨rfl, hb⟩
          have h1 := H0.out.ext hb
          clear hb H0
          go_wp2_with (fail)
          refine hK.out _ _ h1 (fun hHeld => ?_)
          clear hK K h1
          try simp only [Act.put, List.getElem_toArray, List.getElem_cons_succ, List.getElem_cons_zero, List.setIfInBounds_toArray, List.set_cons_zero, List.set_cons_succ]
          refine wpAnyH_take (i := 13) (v := ?_) rfl (by kernel_rfl) (by kernel_rfl) (by kernel_rfl) (fun _ _ _ h => h) (Or.inl ⟨by rfl, ?_⟩) hHeld ?_
          rotate_left
          · (intro W hSw; (try dsimp only at hSw); (try simp only [List.getElem_toArray, List.getElem_cons_succ, List.getElem_cons_zero]); go_simp; try with_reducible rfl)
          try simp only [Act.put, List.getElem_toArray, List.getElem_cons_succ, List.getElem_cons_zero, List.setIfInBounds_toArray, List.set_cons_zero, List.set_cons_succ]
          refine wpAnyH_take (i := 14) (v := ?_) rfl (by kernel_rfl) (by kernel_rfl) (by kernel_rfl) (fun _ _ _ h => h) (Or.inl ⟨by rfl, ?_⟩) hHeld ?_
          rotate_left
          · (intro W hSw; (try dsimp only at hSw); (try simp only [List.getElem_toArray, List.getElem_cons_succ, List.getElem_cons_zero]); go_simp; try with_reducible rfl)
          try simp only [Act.put, List.getElem_toArray, List.getElem_cons_succ, List.getElem_cons_zero, List.setIfInBounds_toArray, List.set_cons_zero, List.set_cons_succ]
          refine wpAnyH_take (i := 15) (v := ?_) rfl (by kernel_rfl) (by kernel_rfl) (by kernel_rfl) (fun _ _ _ h => h) (Or.inl ⟨by rfl, ?_⟩) hHeld ?_
          rotate_left
          · (intro W hSw; (try dsimp only at hSw); (try simp only [List.getElem_toArray, List.getElem_cons_succ, List.getElem_cons_zero]); go_simp; try with_reducible rfl)
          try simp only [Act.put, List.getElem_toArray, List.getElem_cons_succ, List.getElem_cons_zero, List.setIfInBounds_toArray, List.set_cons_zero, List.set_cons_succ]
          refine wpAnyH_ready (rs := [16]) (by kernel_rfl) (by simp) (AllReadyH.cons rfl (fun K hK => ?_) AllReadyH.nil)
          have h0 := hHeld
          clear hHeld
          try simp only [List.getElem_toArray, List.getElem_cons_succ, List.getElem_cons_zero]
          have H0 := Lib.hid h0
          clear h0
          go_simp
          go_at_call 10
          refine (lknown_any _ (Fr.pg H0.out HP.out)).mono ?_
          rintro e vv ⟨rfl, hb⟩
          have h1 := H0.out.ext hb
          clear hb H0
          go_wp2_with (fail)
          refine hK.out _ _ h1 (fun hHeld => ?_)
          clear hK K h1
          try simp only [Act.put, List.getElem_toArray, List.getElem_cons_succ, List.getElem_cons_zero, List.setIfInBounds_toArray, List.set_cons_zero, List.set_cons_succ]
          refine wpAnyH_take (i := 17) (v := ?_) rfl (by kernel_rfl) (by kernel_rfl) (by kernel_rfl) (fun _ _ _ h => h) (Or.inl ⟨by rfl, ?_⟩) hHeld ?_
          rotate_left
          · (intro W hSw; (try dsimp only at hSw); (try simp only [List.getElem_toArray, List.getElem_cons_succ, List.getElem_cons_zero]); go_simp; try with_reducible rfl)
          try simp only [Act.put, List.getElem_toArray, List.getElem_cons_succ, List.getElem_cons_zero, List.setIfInBounds_toArray, List.set_cons_zero, List.set_cons_succ]
          refine wpAnyH_take (i := 18) (v := ?_) rfl (by kernel_rfl) (by kernel_rfl) (by kernel_rfl) (fun _ _ _ h => h) (Or.inl ⟨by rfl, ?_⟩) hHeld ?_
          rotate_left
          · (intro W hSw; (try dsimp only at hSw); (try simp only [List.getElem_toArray, List.getElem_cons_succ, List.getElem_cons_zero]); go_simp; try with_reducible rfl)
          try simp only [Act.put, List.getElem_toArray, List.getElem_cons_succ, List.getElem_cons_zero, List.setIfInBounds_toArray, List.set_cons_zero, List.set_cons_succ]
          refine wpAnyH_done (by kernel_rfl) ?_ _
          have HB := Lib.hid hHeld.below
          clear hHeld
          go_wp2_with (fail)
          go_ret
          exact ⟨rfl, HB.out⟩
theorem law_meets (a b : Nat) (w : World) (hpg : PG w) (ha : a < 115792089237316195423570985008687907853269984665640564039457584007913129639936) (hb : b < 115792089237316195423570985008687907853269984665640564039457584007913129639936) : Calls Tryd.prog 4 #[.agg (ks a), .agg (ks b)] w (BPost true w) := by
  obtain ⟨ya, hya⟩ : ∃ y, y = lad Q0 (clampN a) (ofK 9) := ⟨_, rfl⟩
  obtain ⟨yb, hyb⟩ : ∃ y, y = lad Q0 (clampN b) (ofK 9) := ⟨_, rfl⟩
  obtain ⟨pa, hpa⟩ : ∃ m, m = ya.val := ⟨_, rfl⟩
  obtain ⟨pb, hpb⟩ : ∃ m, m = yb.val := ⟨_, rfl⟩
  have lpa : pa < 115792089237316195423570985008687907853269984665640564039457584007913129639936 := by rw [hpa]; exact PP_lt256 ya.isLt
  have lpb : pb < 115792089237316195423570985008687907853269984665640564039457584007913129639936 := by rw [hpb]; exact PP_lt256 yb.isLt
  obtain ⟨y, hy⟩ : ∃ y, y = lad Q0 (clampN a) (ofK pb) := ⟨_, rfl⟩
  have hy2 : y = lad Q0 (clampN b) (ofK pa) := by
    rw [hy, hpa, hpb, ofK_val, ofK_val, hya, hyb]
    exact lad_comm LD _ _ _ (clampN_lt ha) (clampN_lt hb)
  obtain ⟨m, hm⟩ : ∃ m, m = y.val := ⟨_, rfl⟩
  by_cases hz : m = 0
  · exact meets_no hya hpa hyb hpb hy hy2 hm w hpg ha hb lpa lpb hz
  · exact meets_yes hya hpa hyb hpb hy hy2 hm w hpg ha hb lpa lpb hz
end Go.Proofs.YthlnnoajklmeiaaDoor
