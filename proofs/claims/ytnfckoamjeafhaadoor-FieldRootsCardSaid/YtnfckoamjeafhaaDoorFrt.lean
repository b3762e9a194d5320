/- The walk of Root. -/
import Derived.Test.YtnfckoamjeafhaaDoorFi
import Derived.Deep.DeepCutAuto
import Derived.Deep.CutBlock
import Derived.Deep.RegionWith
namespace Go.Proofs.YtnfckoamjeafhaaDoor
set_option linter.unusedVariables false
set_option linter.unusedSimpArgs false
open Go.RowKit

theorem rootI_of {i : Fin PP} (h : i = II) (w : World) (hp : PG w) : Calls Tryd.prog 24 #[] w (EPost i w) := by
  rw [h]
  exact rootI_any w hp
theorem EE_lt : EE < 115792089237316195423570985008687907853269984665640564039457584007913129639936 := by decide +kernel
theorem powR {x y : Fin PP} (h : y = x ^ EE) (w : World) (hp : PG w) : Calls Tryd.prog 21 #[.agg (ev x), .agg (ks EE)] w (EPost y w) := by
  have h2 := powerF x w EE hp EE_lt
  rw [← h] at h2
  exact h2
theorem evenOf_yes {p : Nat} {r : Fin p} (h : r.val % 2 = 1) : evenOf r = -r := by unfold evenOf; rw [if_pos h]
theorem evenOf_no {p : Nat} {r : Fin p} (h : ¬ r.val % 2 = 1) : evenOf r = r := by unfold evenOf; rw [if_neg h]
section
variable {p : Nat} [NeZero p] {e : Nat} {i u v p0 : Fin p}
theorem rootC_a (h : p0 = (u * (v * v * v * (v * v * v) * v)) ^ e) (h1 : v * ((u * (v * v * v) * p0) * (u * (v * v * v) * p0)) = -u) (h2 : v * ((u * (v * v * v) * p0 * i) * (u * (v * v * v) * p0 * i)) = u) :
    rootC e i u v = (evenOf (u * (v * v * v) * p0 * i), true) := by
  subst h
  unfold rootC
  dsimp only
  rw [if_pos h1, if_pos h2]
theorem rootC_b (h : p0 = (u * (v * v * v * (v * v * v) * v)) ^ e) (h1 : v * ((u * (v * v * v) * p0) * (u * (v * v * v) * p0)) = -u) (h2 : ¬ v * ((u * (v * v * v) * p0 * i) * (u * (v * v * v) * p0 * i)) = u) :
    rootC e i u v = (0, false) := by
  subst h
  unfold rootC
  dsimp only
  rw [if_pos h1, if_neg h2]
theorem rootC_c (h : p0 = (u * (v * v * v * (v * v * v) * v)) ^ e) (h1 : ¬ v * ((u * (v * v * v) * p0) * (u * (v * v * v) * p0)) = -u) (h2 : v * ((u * (v * v * v) * p0) * (u * (v * v * v) * p0)) = u) :
    rootC e i u v = (evenOf (u * (v * v * v) * p0), true) := by
  subst h
  unfold rootC
  dsimp only
  rw [if_neg h1, if_pos h2]
theorem rootC_d (h : p0 = (u * (v * v * v * (v * v * v) * v)) ^ e) (h1 : ¬ v * ((u * (v * v * v) * p0) * (u * (v * v * v) * p0)) = -u) (h2 : ¬ v * ((u * (v * v * v) * p0) * (u * (v * v * v) * p0)) = u) :
    rootC e i u v = (0, false) := by
  subst h
  unfold rootC
  dsimp only
  rw [if_neg h1, if_neg h2]
end
set_option maxRecDepth 100000 in
set_option maxHeartbeats 1000000 in
theorem rootX (u v : Fin PP) (w : World) (hpg : PG w) : Calls Tryd.prog 9 #[.agg (ev u), .agg (ev v)] w fun e w' => e = .returned (.tuple #[.agg (ev (rootC EE II u v).1), .bool (rootC EE II u v).2]) ∧ Below w.heap.size w w' := by
  have hfr := ((Fr.start w).row (ev u) 27 (g := w.heap.size) rfl).row (ev v) 27 (g := w.heap.size + 1) (by simp) |>.any #[.int .u64 0, .int .u64 0, .int .u64 0, .int .u64 0] 27 4 rfl (g := w.heap.size + 1 + 1) (by simp)
  have hz : w.heap.size + 1 + 1 < (((w.alloc (.cells (ev u) 27)).alloc (.cells (ev v) 27)).alloc (.cells #[.int .u64 0, .int .u64 0, .int .u64 0, .int .u64 0] 27)).heap.size := by simp <;> omega
  have hpg0 := ((hpg.alloc (.cells (ev u) 27)).alloc (.cells (ev v) 27)).alloc (.cells #[.int .u64 0, .int .u64 0, .int .u64 0, .int .u64 0] 27)
  have HP := Lib.hid hpg
  clear hpg
  obtain ⟨p0, hp0⟩ : ∃ p0, p0 = (u * (v * v * v * (v * v * v) * v)) ^ EE := ⟨_, rfl⟩
  have HP0 := Lib.hid hp0
  clear hp0
  obtain ⟨i0, hi0⟩ : ∃ i0, i0 = II := ⟨_, rfl⟩
  have HI0 := Lib.hid hi0
  clear hi0
  obtain ⟨X, hX⟩ : ∃ X, X = rootC EE II u v := ⟨_, rfl⟩
  rw [← hX]
  have HX := Lib.hid hX
  clear hX
  go_enter Tryd.func9, Tryd.ntmps9
  go_wp2_with (fail)
  obtain ⟨wx, hwx⟩ : ∃ wx : World, wx = (((w.alloc (.cells (ev u) 27)).alloc (.cells (ev v) 27)).alloc (.cells #[.int .u64 0, .int .u64 0, .int .u64 0, .int .u64 0] 27)) := ⟨_, rfl⟩
  rw [← hwx] at hfr hpg0 hz ⊢
  clear hwx
  have HF := Lib.hid hfr
  have HPG := Lib.hid hpg0
  clear hfr hpg0
  go_cut [6] (fun s6 wz => ∃ g : Nat, s6 = .pointer (some ⟨g, 0, none⟩) ∧ wx.heap.size ≤ g ∧ Blk wz g 27 (ev (v * v * v)) ∧ Below wx.heap.size wx wz)
  case first =>
    as_aux_lemma =>
      have hn := (HF.out.now.sub (L' := [(w.heap.size + 1, 27, ev v), (w.heap.size, 27, ev u)]) (by simp))
      have HN := Lib.hid hn
      clear hn
      refine wp_region_held_drew (S := fun W => Fn wx W [(w.heap.size + 1, 27, ev v), (w.heap.size, 27, ev u)]) (by kernel_rfl) ?_ (fun hHeld => ?_)
      · exact HN.out.drew
      refine wpAnyH_take (i := 0) (v := .agg (ev v)) rfl (by kernel_rfl) (by kernel_rfl) (by kernel_rfl) (fun _ _ _ h => h) (yields_row (by rfl) 27 (.tmp 3) rfl (w.heap.size + 1) rfl 27 (ev v) _ (fun W (h : Fn _ W _) => h.get (by simp)) Tryd.underlying27 rfl (info_ev _)) hHeld ?_
      try simp only [Act.put, List.getElem_toArray, List.getElem_cons_succ, List.getElem_cons_zero, List.setIfInBounds_toArray, List.set_cons_zero, List.set_cons_succ]
      refine wpAnyH_take (i := 2) (v := .agg (ev v)) rfl (by kernel_rfl) (by kernel_rfl) (by kernel_rfl) (fun _ _ _ h => h) (yields_row (by rfl) 27 (.tmp 3) rfl (w.heap.size + 1) rfl 27 (ev v) _ (fun W (h : Fn _ W _) => h.get (by simp)) Tryd.underlying27 rfl (info_ev _)) hHeld ?_
      try simp only [Act.put, List.getElem_toArray, List.getElem_cons_succ, List.getElem_cons_zero, List.setIfInBounds_toArray, List.set_cons_zero, List.set_cons_succ]
      refine wpAnyH_ready (rs := [1, 4]) (by kernel_rfl) (by simp) (AllReadyH.cons rfl (fun K hK => ?_) (AllReadyH.cons rfl (fun K hK => ?_) AllReadyH.nil))
      · have h0 := hHeld
        clear hHeld
        try simp only [List.getElem_toArray, List.getElem_cons_succ, List.getElem_cons_zero]
        have H0 := Lib.hid h0
        clear h0
        go_simp
        go_at_call 5
        refine (squareF v _ (HPG.out.ext H0.out.below)).mono ?_
        rintro e vv ⟨rfl, hb⟩
        have h1 := H0.out.ext hb
        clear hb H0
        go_wp2_with (fail)
        refine hK.out _ _ h1 (fun hHeld => ?_)
        clear hK K h1
        try simp only [Act.put, List.getElem_toArray, List.getElem_cons_succ, List.getElem_cons_zero, List.setIfInBounds_toArray, List.set_cons_zero, List.set_cons_succ]
        refine wpAnyH_ready (rs := [3, 4]) (by kernel_rfl) (by simp) (AllReadyH.cons rfl (fun K hK => ?_) (AllReadyH.cons rfl (fun K hK => ?_) AllReadyH.nil))
        · have h0 := hHeld
          clear hHeld
          try simp only [List.getElem_toArray, List.getElem_cons_succ, List.getElem_cons_zero]
          have H0 := Lib.hid h0
          clear h0
          go_simp
          go_at_call 6
          refine (mulF (v * v) v _ (HPG.out.ext H0.out.below)).mono ?_
          rintro e vv ⟨rfl, hb⟩
          have h1 := H0.out.ext hb
          clear hb H0
          go_wp2_with (fail)
          refine hK.out _ _ h1 (fun hHeld => ?_)
          clear hK K h1
          try simp only [Act.put, List.getElem_toArray, List.getElem_cons_succ, List.getElem_cons_zero, List.setIfInBounds_toArray, List.set_cons_zero, List.set_cons_succ]
          refine wpAnyH_ready (rs := [4]) (by kernel_rfl) (by simp) (AllReadyH.cons rfl (fun K hK => ?_) AllReadyH.nil)
          have h0 := hHeld
          clear hHeld
          try simp only [List.getElem_toArray, List.getElem_cons_succ, List.getElem_cons_zero]
          obtain ⟨kz, hg⟩ := Fn.fresh h0 27 #[.int .u64 0, .int .u64 0, .int .u64 0, .int .u64 0]
          have KZ := Lib.hid kz
          have HG := Lib.hid hg
          have H0 := Lib.hid h0
          clear kz hg h0
          go_simp
          refine hK.out _ _ (Fn.pass H0.out _) (fun hHeld => ?_)
          clear hK K H0
          try simp only [Act.put, List.getElem_toArray, List.getElem_cons_succ, List.getElem_cons_zero, List.setIfInBounds_toArray, List.set_cons_zero, List.set_cons_succ]
          refine wpAnyH_ready (rs := [5]) (by kernel_rfl) (by simp) (AllReadyH.cons rfl (fun K hK => ?_) AllReadyH.nil)
          have h0 := hHeld
          clear hHeld
          try simp only [List.getElem_toArray, List.getElem_cons_succ, List.getElem_cons_zero]
          rw [if_pos (by rfl)]
          refine wp_store_row 27 (.tmp 6) (.tmp 12) rfl _ (ev (v * v * v)) rfl rfl 27 _ KZ.out (info_ev _) rfl (ev_one _) ?_
          refine hK.out _ _ (Fn.setFresh h0 HG.out _) (fun hHeld => ?_)
          have kb := KZ.out.setRow_same (ev (v * v * v))
          clear hK K h0
          try simp only [Act.put, List.getElem_toArray, List.getElem_cons_succ, List.getElem_cons_zero, List.setIfInBounds_toArray, List.set_cons_zero, List.set_cons_succ]
          refine wpAnyH_done (by kernel_rfl) ?_ _
          have HB := Lib.hid hHeld.below
          have HGG := Lib.hid HG.out
          clear hHeld
          go_wp2_with (fail)
          go_meet
          exact ⟨_, rfl, HGG.out, kb, HB.out⟩
        · have h0 := hHeld
          clear hHeld
          try simp only [List.getElem_toArray, List.getElem_cons_succ, List.getElem_cons_zero]
          obtain ⟨kz, hg⟩ := Fn.fresh h0 27 #[.int .u64 0, .int .u64 0, .int .u64 0, .int .u64 0]
          have KZ := Lib.hid kz
          have HG := Lib.hid hg
          have H0 := Lib.hid h0
          clear kz hg h0
          go_simp
          refine hK.out _ _ (Fn.pass H0.out _) (fun hHeld => ?_)
          clear hK K H0
          try simp only [Act.put, List.getElem_toArray, List.getElem_cons_succ, List.getElem_cons_zero, List.setIfInBounds_toArray, List.set_cons_zero, List.set_cons_succ]
          refine wpAnyH_ready (rs := [3]) (by kernel_rfl) (by simp) (AllReadyH.cons rfl (fun K hK => ?_) AllReadyH.nil)
          have h0 := hHeld
          clear hHeld
          try simp only [List.getElem_toArray, List.getElem_cons_succ, List.getElem_cons_zero]
          have H0 := Lib.hid h0
          clear h0
          go_simp
          go_at_call 6
          refine (mulF (v * v) v _ (HPG.out.ext H0.out.below)).mono ?_
          rintro e vv ⟨rfl, hb⟩
          have kz := KZ.out.below hb KZ.out.lt
          clear KZ
          have KZ := Lib.hid kz
          clear kz
          have h1 := H0.out.ext hb
          clear hb H0
          go_wp2_with (fail)
          refine hK.out _ _ h1 (fun hHeld => ?_)
          clear hK K h1
          try simp only [Act.put, List.getElem_toArray, List.getElem_cons_succ, List.getElem_cons_zero, List.setIfInBounds_toArray, List.set_cons_zero, List.set_cons_succ]
          refine wpAnyH_ready (rs := [5]) (by kernel_rfl) (by simp) (AllReadyH.cons rfl (fun K hK => ?_) AllReadyH.nil)
          have h0 := hHeld
          clear hHeld
          try simp only [List.getElem_toArray, List.getElem_cons_succ, List.getElem_cons_zero]
          rw [if_pos (by rfl)]
          refine wp_store_row 27 (.tmp 6) (.tmp 12) rfl _ (ev (v * v * v)) rfl rfl 27 _ KZ.out (info_ev _) rfl (ev_one _) ?_
          refine hK.out _ _ (Fn.setFresh h0 HG.out _) (fun hHeld => ?_)
          have kb := KZ.out.setRow_same (ev (v * v * v))
          clear hK K h0
          try simp only [Act.put, List.getElem_toArray, List.getElem_cons_succ, List.getElem_cons_zero, List.setIfInBounds_toArray, List.set_cons_zero, List.set_cons_succ]
          refine wpAnyH_done (by kernel_rfl) ?_ _
          have HB := Lib.hid hHeld.below
          have HGG := Lib.hid HG.out
          clear hHeld
          go_wp2_with (fail)
          go_meet
          exact ⟨_, rfl, HGG.out, kb, HB.out⟩
      · have h0 := hHeld
        clear hHeld
        try simp only [List.getElem_toArray, List.getElem_cons_succ, List.getElem_cons_zero]
        obtain ⟨kz, hg⟩ := Fn.fresh h0 27 #[.int .u64 0, .int .u64 0, .int .u64 0, .int .u64 0]
        have KZ := Lib.hid kz
        have HG := Lib.hid hg
        have H0 := Lib.hid h0
        clear kz hg h0
        go_simp
        refine hK.out _ _ (Fn.pass H0.out _) (fun hHeld => ?_)
        clear hK K H0
        try simp only [Act.put, List.getElem_toArray, List.getElem_cons_succ, List.getElem_cons_zero, List.setIfInBounds_toArray, List.set_cons_zero, List.set_cons_succ]
        refine wpAnyH_ready (rs := [1]) (by kernel_rfl) (by simp) (AllReadyH.cons rfl (fun K hK => ?_) AllReadyH.nil)
        have h0 := hHeld
        clear hHeld
        try simp only [List.getElem_toArray, List.getElem_cons_succ, List.getElem_cons_zero]
        have H0 := Lib.hid h0
        clear h0
        go_simp
        go_at_call 5
        refine (squareF v _ (HPG.out.ext H0.out.below)).mono ?_
        rintro e vv ⟨rfl, hb⟩
        have kz := KZ.out.below hb KZ.out.lt
        clear KZ
        have KZ := Lib.hid kz
        clear kz
        have h1 := H0.out.ext hb
        clear hb H0
        go_wp2_with (fail)
        refine hK.out _ _ h1 (fun hHeld => ?_)
        clear hK K h1
        try simp only [Act.put, List.getElem_toArray, List.getElem_cons_succ, List.getElem_cons_zero, List.setIfInBounds_toArray, List.set_cons_zero, List.set_cons_succ]
        refine wpAnyH_ready (rs := [3]) (by kernel_rfl) (by simp) (AllReadyH.cons rfl (fun K hK => ?_) AllReadyH.nil)
        have h0 := hHeld
        clear hHeld
        try simp only [List.getElem_toArray, List.getElem_cons_succ, List.getElem_cons_zero]
        have H0 := Lib.hid h0
        clear h0
        go_simp
        go_at_call 6
        refine (mulF (v * v) v _ (HPG.out.ext H0.out.below)).mono ?_
        rintro e vv ⟨rfl, hb⟩
        have kz := KZ.out.below hb KZ.out.lt
        clear KZ
        have KZ := Lib.hid kz
        clear kz
        have h1 := H0.out.ext hb
        clear hb H0
        go_wp2_with (fail)
        refine hK.out _ _ h1 (fun hHeld => ?_)
        clear hK K h1
        try simp only [Act.put, List.getElem_toArray, List.getElem_cons_succ, List.getElem_cons_zero, List.setIfInBounds_toArray, List.set_cons_zero, List.set_cons_succ]
        refine wpAnyH_ready (rs := [5]) (by kernel_rfl) (by simp) (AllReadyH.cons rfl (fun K hK => ?_) AllReadyH.nil)
        have h0 := hHeld
        clear hHeld
        try simp only [List.getElem_toArray, List.getElem_cons_succ, List.getElem_cons_zero]
        rw [if_pos (by rfl)]
        refine wp_store_row 27 (.tmp 6) (.tmp 12) rfl _ (ev (v * v * v)) rfl rfl 27 _ KZ.out (info_ev _) rfl (ev_one _) ?_
        refine hK.out _ _ (Fn.setFresh h0 HG.out _) (fun hHeld => ?_)
        have kb := KZ.out.setRow_same (ev (v * v * v))
        clear hK K h0
        try simp only [Act.put, List.getElem_toArray, List.getElem_cons_succ, List.getElem_cons_zero, List.setIfInBounds_toArray, List.set_cons_zero, List.set_cons_succ]
        refine wpAnyH_done (by kernel_rfl) ?_ _
        have HB := Lib.hid hHeld.below
        have HGG := Lib.hid HG.out
        clear hHeld
        go_wp2_with (fail)
        go_meet
        exact ⟨_, rfl, HGG.out, kb, HB.out⟩
  case rest =>
    obtain ⟨g6, rfl, hg, hk, hb⟩ := hcut
    have hf2 := (HF.out.ext hb).more hk
    have hpg2 := HPG.out.ext hb
    have hz6 : wx.heap.size ≤ g6 := hg
    have hz6l := hk.lt
    clear HF HPG hb hk hg
    have HF := Lib.hid hf2
    have HPG := Lib.hid hpg2
    clear hf2 hpg2
    obtain ⟨wy, hwy⟩ : ∃ wy : World, wy = wc := ⟨_, rfl⟩
    rw [← hwy] at HF HPG hz6l ⊢
    clear hwy
    go_wp2_with (fail)
    go_cut [7] (fun s6 wz => ∃ g : Nat, s6 = .pointer (some ⟨g, 0, none⟩) ∧ wy.heap.size ≤ g ∧ Blk wz g 27 (ev (v * v * v * (v * v * v) * v)) ∧ Below wy.heap.size wy wz)
    case first =>
      as_aux_lemma =>
        have hn := (HF.out.now.sub (L' := [(g6, 27, ev (v * v * v)), (w.heap.size + 1, 27, ev v), (w.heap.size, 27, ev u)]) (by simp))
        have HN := Lib.hid hn
        clear hn
        refine wp_region_held_drew (S := fun W => Fn wy W [(g6, 27, ev (v * v * v)), (w.heap.size + 1, 27, ev v), (w.heap.size, 27, ev u)]) (by kernel_rfl) ?_ (fun hHeld => ?_)
        · exact HN.out.drew
        refine wpAnyH_take (i := 0) (v := .agg (ev (v * v * v))) rfl (by kernel_rfl) (by kernel_rfl) (by kernel_rfl) (fun _ _ _ h => h) (yields_row (by rfl) 27 (.tmp 6) rfl (g6) rfl 27 (ev (v * v * v)) _ (fun W (h : Fn _ W _) => h.get (by simp)) Tryd.underlying27 rfl (info_ev _)) hHeld ?_
        try simp only [Act.put, List.getElem_toArray, List.getElem_cons_succ, List.getElem_cons_zero, List.setIfInBounds_toArray, List.set_cons_zero, List.set_cons_succ]
        refine wpAnyH_take (i := 2) (v := .agg (ev v)) rfl (by kernel_rfl) (by kernel_rfl) (by kernel_rfl) (fun _ _ _ h => h) (yields_row (by rfl) 27 (.tmp 3) rfl (w.heap.size + 1) rfl 27 (ev v) _ (fun W (h : Fn _ W _) => h.get (by simp)) Tryd.underlying27 rfl (info_ev _)) hHeld ?_
        try simp only [Act.put, List.getElem_toArray, List.getElem_cons_succ, List.getElem_cons_zero, List.setIfInBounds_toArray, List.set_cons_zero, List.set_cons_succ]
        refine wpAnyH_ready (rs := [1, 4]) (by kernel_rfl) (by simp) (AllReadyH.cons rfl (fun K hK => ?_) (AllReadyH.cons rfl (fun K hK => ?_) AllReadyH.nil))
        · have h0 := hHeld
          clear hHeld
          try simp only [List.getElem_toArray, List.getElem_cons_succ, List.getElem_cons_zero]
          have H0 := Lib.hid h0
          clear h0
          go_simp
          go_at_call 5
          refine (squareF (v * v * v) _ (HPG.out.ext H0.out.below)).mono ?_
          rintro e vv ⟨rfl, hb⟩
          have h1 := H0.out.ext hb
          clear hb H0
          go_wp2_with (fail)
          refine hK.out _ _ h1 (fun hHeld => ?_)
          clear hK K h1
          try simp only [Act.put, List.getElem_toArray, List.getElem_cons_succ, List.getElem_cons_zero, List.setIfInBounds_toArray, List.set_cons_zero, List.set_cons_succ]
          refine wpAnyH_ready (rs := [3, 4]) (by kernel_rfl) (by simp) (AllReadyH.cons rfl (fun K hK => ?_) (AllReadyH.cons rfl (fun K hK => ?_) AllReadyH.nil))
          · have h0 := hHeld
            clear hHeld
            try simp only [List.getElem_toArray, List.getElem_cons_succ, List.getElem_cons_zero]
            have H0 := Lib.hid h0
            clear h0
            go_simp
            go_at_call 6
            refine (mulF ((v * v * v) * (v * v * v)) v _ (HPG.out.ext H0.out.below)).mono ?_
            rintro e vv ⟨rfl, hb⟩
            have h1 := H0.out.ext hb
            clear hb H0
            go_wp2_with (fail)
            refine hK.out _ _ h1 (fun hHeld => ?_)
            clear hK K h1
            try simp only [Act.put, List.getElem_toArray, List.getElem_cons_succ, List.getElem_cons_zero, List.setIfInBounds_toArray, List.set_cons_zero, List.set_cons_succ]
            refine wpAnyH_ready (rs := [4]) (by kernel_rfl) (by simp) (AllReadyH.cons rfl (fun K hK => ?_) AllReadyH.nil)
            have h0 := hHeld
            clear hHeld
            try simp only [List.getElem_toArray, List.getElem_cons_succ, List.getElem_cons_zero]
            obtain ⟨kz, hg⟩ := Fn.fresh h0 27 #[.int .u64 0, .int .u64 0, .int .u64 0, .int .u64 0]
            have KZ := Lib.hid kz
            have HG := Lib.hid hg
            have H0 := Lib.hid h0
            clear kz hg h0
            go_simp
            refine hK.out _ _ (Fn.pass H0.out _) (fun hHeld => ?_)
            clear hK K H0
            try simp only [Act.put, List.getElem_toArray, List.getElem_cons_succ, List.getElem_cons_zero, List.setIfInBounds_toArray, List.set_cons_zero, List.set_cons_succ]
            refine wpAnyH_ready (rs := [5]) (by kernel_rfl) (by simp) (AllReadyH.cons rfl (fun K hK => ?_) AllReadyH.nil)
            have h0 := hHeld
            clear hHeld
            try simp only [List.getElem_toArray, List.getElem_cons_succ, List.getElem_cons_zero]
            rw [if_pos (by rfl)]
            refine wp_store_row 27 (.tmp 7) (.tmp 16) rfl _ (ev (v * v * v * (v * v * v) * v)) rfl rfl 27 _ KZ.out (info_ev _) rfl (ev_one _) ?_
            refine hK.out _ _ (Fn.setFresh h0 HG.out _) (fun hHeld => ?_)
            have kb := KZ.out.setRow_same (ev (v * v * v * (v * v * v) * v))
            clear hK K h0
            try simp only [Act.put, List.getElem_toArray, List.getElem_cons_succ, List.getElem_cons_zero, List.setIfInBounds_toArray, List.set_cons_zero, List.set_cons_succ]
            refine wpAnyH_done (by kernel_rfl) ?_ _
            have HB := Lib.hid hHeld.below
            have HGG := Lib.hid HG.out
            clear hHeld
            go_wp2_with (fail)
            go_meet
            exact ⟨_, rfl, HGG.out, kb, HB.out⟩
          · have h0 := hHeld
            clear hHeld
            try simp only [List.getElem_toArray, List.getElem_cons_succ, List.getElem_cons_zero]
            obtain ⟨kz, hg⟩ := Fn.fresh h0 27 #[.int .u64 0, .int .u64 0, .int .u64 0, .int .u64 0]
            have KZ := Lib.hid kz
            have HG := Lib.hid hg
            have H0 := Lib.hid h0
            clear kz hg h0
            go_simp
            refine hK.out _ _ (Fn.pass H0.out _) (fun hHeld => ?_)
            clear hK K H0
            try simp only [Act.put, List.getElem_toArray, List.getElem_cons_succ, List.getElem_cons_zero, List.setIfInBounds_toArray, List.set_cons_zero, List.set_cons_succ]
            refine wpAnyH_ready (rs := [3]) (by kernel_rfl) (by simp) (AllReadyH.cons rfl (fun K hK => ?_) AllReadyH.nil)
            have h0 := hHeld
            clear hHeld
            try simp only [List.getElem_toArray, List.getElem_cons_succ, List.getElem_cons_zero]
            have H0 := Lib.hid h0
            clear h0
            go_simp
            go_at_call 6
            refine (mulF ((v * v * v) * (v * v * v)) v _ (HPG.out.ext H0.out.below)).mono ?_
            rintro e vv ⟨rfl, hb⟩
            have kz := KZ.out.below hb KZ.out.lt
            clear KZ
            have KZ := Lib.hid kz
            clear kz
            have h1 := H0.out.ext hb
            clear hb H0
            go_wp2_with (fail)
            refine hK.out _ _ h1 (fun hHeld => ?_)
            clear hK K h1
            try simp only [Act.put, List.getElem_toArray, List.getElem_cons_succ, List.getElem_cons_zero, List.setIfInBounds_toArray, List.set_cons_zero, List.set_cons_succ]
            refine wpAnyH_ready (rs := [5]) (by kernel_rfl) (by simp) (AllReadyH.cons rfl (fun K hK => ?_) AllReadyH.nil)
            have h0 := hHeld
            clear hHeld
            try simp only [List.getElem_toArray, List.getElem_cons_succ, List.getElem_cons_zero]
            rw [if_pos (by rfl)]
            refine wp_store_row 27 (.tmp 7) (.tmp 16) rfl _ (ev (v * v * v * (v * v * v) * v)) rfl rfl 27 _ KZ.out (info_ev _) rfl (ev_one _) ?_
            refine hK.out _ _ (Fn.setFresh h0 HG.out _) (fun hHeld => ?_)
            have kb := KZ.out.setRow_same (ev (v * v * v * (v * v * v) * v))
            clear hK K h0
            try simp only [Act.put, List.getElem_toArray, List.getElem_cons_succ, List.getElem_cons_zero, List.setIfInBounds_toArray, List.set_cons_zero, List.set_cons_succ]
            refine wpAnyH_done (by kernel_rfl) ?_ _
            have HB := Lib.hid hHeld.below
            have HGG := Lib.hid HG.out
            clear hHeld
            go_wp2_with (fail)
            go_meet
            exact ⟨_, rfl, HGG.out, kb, HB.out⟩
        · have h0 := hHeld
          clear hHeld
          try simp only [List.getElem_toArray, List.getElem_cons_succ, List.getElem_cons_zero]
          obtain ⟨kz, hg⟩ := Fn.fresh h0 27 #[.int .u64 0, .int .u64 0, .int .u64 0, .int .u64 0]
          have KZ := Lib.hid kz
          have HG := Lib.hid hg
          have H0 := Lib.hid h0
          clear kz hg h0
          go_simp
          refine hK.out _ _ (Fn.pass H0.out _) (fun hHeld => ?_)
          clear hK K H0
          try simp only [Act.put, List.getElem_toArray, List.getElem_cons_succ, List.getElem_cons_zero, List.setIfInBounds_toArray, List.set_cons_zero, List.set_cons_succ]
          refine wpAnyH_ready (rs := [1]) (by kernel_rfl) (by simp) (AllReadyH.cons rfl (fun K hK => ?_) AllReadyH.nil)
          have h0 := hHeld
          clear hHeld
          try simp only [List.getElem_toArray, List.getElem_cons_succ, List.getElem_cons_zero]
          have H0 := Lib.hid h0
          clear h0
          go_simp
          go_at_call 5
          refine (squareF (v * v * v) _ (HPG.out.ext H0.out.below)).mono ?_
          rintro e vv ⟨rfl, hb⟩
          have kz := KZ.out.below hb KZ.out.lt
          clear KZ
          have KZ := Lib.hid kz
          clear kz
          have h1 := H0.out.ext hb
          clear hb H0
          go_wp2_with (fail)
          refine hK.out _ _ h1 (fun hHeld => ?_)
          clear hK K h1
          try simp only [Act.put, List.getElem_toArray, List.getElem_cons_succ, List.getElem_cons_zero, List.setIfInBounds_toArray, List.set_cons_zero, List.set_cons_succ]
          refine wpAnyH_ready (rs := [3]) (by kernel_rfl) (by simp) (AllReadyH.cons rfl (fun K hK => ?_) AllReadyH.nil)
          have h0 := hHeld
          clear hHeld
          try simp only [List.getElem_toArray, List.getElem_cons_succ, List.getElem_cons_zero]
          have H0 := Lib.hid h0
          clear h0
          go_simp
          go_at_call 6
          refine (mulF ((v * v * v) * (v * v * v)) v _ (HPG.out.ext H0.out.below)).mono ?_
          rintro e vv ⟨rfl, hb⟩
          have kz := KZ.out.below hb KZ.out.lt
          clear KZ
          have KZ := Lib.hid kz
          clear kz
          have h1 := H0.out.ext hb
          clear hb H0
          go_wp2_with (fail)
          refine hK.out _ _ h1 (fun hHeld => ?_)
          clear hK K h1
          try simp only [Act.put, List.getElem_toArray, List.getElem_cons_succ, List.getElem_cons_zero, List.setIfInBounds_toArray, List.set_cons_zero, List.set_cons_succ]
          refine wpAnyH_ready (rs := [5]) (by kernel_rfl) (by simp) (AllReadyH.cons rfl (fun K hK => ?_) AllReadyH.nil)
          have h0 := hHeld
          clear hHeld
          try simp only [List.getElem_toArray, List.getElem_cons_succ, List.getElem_cons_zero]
          rw [if_pos (by rfl)]
          refine wp_store_row 27 (.tmp 7) (.tmp 16) rfl _ (ev (v * v * v * (v * v * v) * v)) rfl rfl 27 _ KZ.out (info_ev _) rfl (ev_one _) ?_
          refine hK.out _ _ (Fn.setFresh h0 HG.out _) (fun hHeld => ?_)
          have kb := KZ.out.setRow_same (ev (v * v * v * (v * v * v) * v))
          clear hK K h0
          try simp only [Act.put, List.getElem_toArray, List.getElem_cons_succ, List.getElem_cons_zero, List.setIfInBounds_toArray, List.set_cons_zero, List.set_cons_succ]
          refine wpAnyH_done (by kernel_rfl) ?_ _
          have HB := Lib.hid hHeld.below
          have HGG := Lib.hid HG.out
          clear hHeld
          go_wp2_with (fail)
          go_meet
          exact ⟨_, rfl, HGG.out, kb, HB.out⟩
    case rest =>
      obtain ⟨g7, rfl, hg, hk, hb⟩ := hcut
      have hf2 := (HF.out.ext hb).more hk
      have hpg2 := HPG.out.ext hb
      have hz7 : wy.heap.size ≤ g7 := hg
      have hz7l := hk.lt
      clear HF HPG hb hk hg
      have HF := Lib.hid hf2
      have HPG := Lib.hid hpg2
      clear hf2 hpg2
      obtain ⟨wz, hwz⟩ : ∃ wz : World, wz = wc := ⟨_, rfl⟩
      rw [← hwz] at HF HPG hz7l ⊢
      clear hwz
      go_wp2_with (fail)
      go_cut [8] (fun s6 wq => ∃ g : Nat, s6 = .pointer (some ⟨g, 0, none⟩) ∧ wz.heap.size ≤ g ∧ Blk wq g 27 (ev (u * (v * v * v) * p0)) ∧ Below wz.heap.size wz wq)
      case first =>
        as_aux_lemma =>
          have hn := (HF.out.now.sub (L' := [(g7, 27, ev (v * v * v * (v * v * v) * v)), (g6, 27, ev (v * v * v)), (w.heap.size + 1, 27, ev v), (w.heap.size, 27, ev u)]) (by simp))
          have HN := Lib.hid hn
          clear hn
          refine wp_region_held_drew (S := fun W => Fn wz W [(g7, 27, ev (v * v * v * (v * v * v) * v)), (g6, 27, ev (v * v * v)), (w.heap.size + 1, 27, ev v), (w.heap.size, 27, ev u)]) (by kernel_rfl) ?_ (fun hHeld => ?_)
          · exact HN.out.drew
          refine wpAnyH_take (i := 0) (v := .agg (ev u)) rfl (by kernel_rfl) (by kernel_rfl) (by kernel_rfl) (fun _ _ _ h => h) (yields_row (by rfl) 27 (.tmp 2) rfl (w.heap.size) rfl 27 (ev u) _ (fun W (h : Fn _ W _) => h.get (by simp)) Tryd.underlying27 rfl (info_ev _)) hHeld ?_
          try simp only [Act.put, List.getElem_toArray, List.getElem_cons_succ, List.getElem_cons_zero, List.setIfInBounds_toArray, List.set_cons_zero, List.set_cons_succ]
          refine wpAnyH_take (i := 1) (v := .agg (ev (v * v * v))) rfl (by kernel_rfl) (by kernel_rfl) (by kernel_rfl) (fun _ _ _ h => h) (yields_row (by rfl) 27 (.tmp 6) rfl (g6) rfl 27 (ev (v * v * v)) _ (fun W (h : Fn _ W _) => h.get (by simp)) Tryd.underlying27 rfl (info_ev _)) hHeld ?_
          try simp only [Act.put, List.getElem_toArray, List.getElem_cons_succ, List.getElem_cons_zero, List.setIfInBounds_toArray, List.set_cons_zero, List.set_cons_succ]
          refine wpAnyH_take (i := 3) (v := .agg (ev u)) rfl (by kernel_rfl) (by kernel_rfl) (by kernel_rfl) (fun _ _ _ h => h) (yields_row (by rfl) 27 (.tmp 2) rfl (w.heap.size) rfl 27 (ev u) _ (fun W (h : Fn _ W _) => h.get (by simp)) Tryd.underlying27 rfl (info_ev _)) hHeld ?_
          try simp only [Act.put, List.getElem_toArray, List.getElem_cons_succ, List.getElem_cons_zero, List.setIfInBounds_toArray, List.set_cons_zero, List.set_cons_succ]
          refine wpAnyH_take (i := 4) (v := .agg (ev (v * v * v * (v * v * v) * v))) rfl (by kernel_rfl) (by kernel_rfl) (by kernel_rfl) (fun _ _ _ h => h) (yields_row (by rfl) 27 (.tmp 7) rfl (g7) rfl 27 (ev (v * v * v * (v * v * v) * v)) _ (fun W (h : Fn _ W _) => h.get (by simp)) Tryd.underlying27 rfl (info_ev _)) hHeld ?_
          try simp only [Act.put, List.getElem_toArray, List.getElem_cons_succ, List.getElem_cons_zero, List.setIfInBounds_toArray, List.set_cons_zero, List.set_cons_succ]
          refine wpAnyH_ready (rs := [2, 9]) (by kernel_rfl) (by simp) (AllReadyH.cons rfl (fun K hK => ?_) (AllReadyH.cons rfl (fun K hK => ?_) AllReadyH.nil))
          · have h0 := hHeld
            clear hHeld
            try simp only [List.getElem_toArray, List.getElem_cons_succ, List.getElem_cons_zero]
            have H0 := Lib.hid h0
            clear h0
            go_simp
            go_at_call 6
            refine (mulF u (v * v * v) _ (HPG.out.ext H0.out.below)).mono ?_
            rintro e vv ⟨rfl, hb⟩
            have h1 := H0.out.ext hb
            clear hb H0
            go_wp2_with (fail)
            refine hK.out _ _ h1 (fun hHeld => ?_)
            clear hK K h1
            try simp only [Act.put, List.getElem_toArray, List.getElem_cons_succ, List.getElem_cons_zero, List.setIfInBounds_toArray, List.set_cons_zero, List.set_cons_succ]
            refine wpAnyH_ready (rs := [5, 9]) (by kernel_rfl) (by simp) (AllReadyH.cons rfl (fun K hK => ?_) (AllReadyH.cons rfl (fun K hK => ?_) AllReadyH.nil))
            · have h0 := hHeld
              clear hHeld
              try simp only [List.getElem_toArray, List.getElem_cons_succ, List.getElem_cons_zero]
              have H0 := Lib.hid h0
              clear h0
              go_simp
              go_at_call 6
              refine (mulF u (v * v * v * (v * v * v) * v) _ (HPG.out.ext H0.out.below)).mono ?_
              rintro e vv ⟨rfl, hb⟩
              have h1 := H0.out.ext hb
              clear hb H0
              go_wp2_with (fail)
              refine hK.out _ _ h1 (fun hHeld => ?_)
              clear hK K h1
              try simp only [Act.put, List.getElem_toArray, List.getElem_cons_succ, List.getElem_cons_zero, List.setIfInBounds_toArray, List.set_cons_zero, List.set_cons_succ]
              refine wpAnyH_ready (rs := [6, 9]) (by kernel_rfl) (by simp) (AllReadyH.cons rfl (fun K hK => ?_) (AllReadyH.cons rfl (fun K hK => ?_) AllReadyH.nil))
              · have h0 := hHeld
                clear hHeld
                try simp only [List.getElem_toArray, List.getElem_cons_succ, List.getElem_cons_zero]
                have H0 := Lib.hid h0
                clear h0
                go_simp
                go_at_call 22
                refine (rootPower_any _).mono ?_
                rintro e vv ⟨rfl, hb⟩
                have h1 := H0.out.ext hb
                clear hb H0
                go_wp2_with (fail)
                refine hK.out _ _ h1 (fun hHeld => ?_)
                clear hK K h1
                try simp only [Act.put, List.getElem_toArray, List.getElem_cons_succ, List.getElem_cons_zero, List.setIfInBounds_toArray, List.set_cons_zero, List.set_cons_succ]
                refine wpAnyH_ready (rs := [7, 9]) (by kernel_rfl) (by simp) (AllReadyH.cons rfl (fun K hK => ?_) (AllReadyH.cons rfl (fun K hK => ?_) AllReadyH.nil))
                · have h0 := hHeld
                  clear hHeld
                  try simp only [List.getElem_toArray, List.getElem_cons_succ, List.getElem_cons_zero]
                  have H0 := Lib.hid h0
                  clear h0
                  go_simp
                  go_at_call 21
                  refine (powR HP0.out _ (HPG.out.ext H0.out.below)).mono ?_
                  rintro e vv ⟨rfl, hb⟩
                  have h1 := H0.out.ext hb
                  clear hb H0
                  go_wp2_with (fail)
                  refine hK.out _ _ h1 (fun hHeld => ?_)
                  clear hK K h1
                  try simp only [Act.put, List.getElem_toArray, List.getElem_cons_succ, List.getElem_cons_zero, List.setIfInBounds_toArray, List.set_cons_zero, List.set_cons_succ]
                  refine wpAnyH_ready (rs := [8, 9]) (by kernel_rfl) (by simp) (AllReadyH.cons rfl (fun K hK => ?_) (AllReadyH.cons rfl (fun K hK => ?_) AllReadyH.nil))
                  · have h0 := hHeld
                    clear hHeld
                    try simp only [List.getElem_toArray, List.getElem_cons_succ, List.getElem_cons_zero]
                    have H0 := Lib.hid h0
                    clear h0
                    go_simp
                    go_at_call 6
                    refine (mulF (u * (v * v * v)) p0 _ (HPG.out.ext H0.out.below)).mono ?_
                    rintro e vv ⟨rfl, hb⟩
                    have h1 := H0.out.ext hb
                    clear hb H0
                    go_wp2_with (fail)
                    refine hK.out _ _ h1 (fun hHeld => ?_)
                    clear hK K h1
                    try simp only [Act.put, List.getElem_toArray, List.getElem_cons_succ, List.getElem_cons_zero, List.setIfInBounds_toArray, List.set_cons_zero, List.set_cons_succ]
                    refine wpAnyH_ready (rs := [9]) (by kernel_rfl) (by simp) (AllReadyH.cons rfl (fun K hK => ?_) AllReadyH.nil)
                    have h0 := hHeld
                    clear hHeld
                    try simp only [List.getElem_toArray, List.getElem_cons_succ, List.getElem_cons_zero]
                    obtain ⟨kz, hg⟩ := Fn.fresh h0 27 #[.int .u64 0, .int .u64 0, .int .u64 0, .int .u64 0]
                    have KZ := Lib.hid kz
                    have HG := Lib.hid hg
                    have H0 := Lib.hid h0
                    clear kz hg h0
                    go_simp
                    refine hK.out _ _ (Fn.pass H0.out _) (fun hHeld => ?_)
                    clear hK K H0
                    try simp only [Act.put, List.getElem_toArray, List.getElem_cons_succ, List.getElem_cons_zero, List.setIfInBounds_toArray, List.set_cons_zero, List.set_cons_succ]
                    refine wpAnyH_ready (rs := [10]) (by kernel_rfl) (by simp) (AllReadyH.cons rfl (fun K hK => ?_) AllReadyH.nil)
                    have h0 := hHeld
                    clear hHeld
                    try simp only [List.getElem_toArray, List.getElem_cons_succ, List.getElem_cons_zero]
                    rw [if_pos (by rfl)]
                    refine wp_store_row 27 (.tmp 8) (.tmp 25) rfl _ (ev (u * (v * v * v) * p0)) rfl rfl 27 _ KZ.out (info_ev _) rfl (ev_one _) ?_
                    refine hK.out _ _ (Fn.setFresh h0 HG.out _) (fun hHeld => ?_)
                    have kb := KZ.out.setRow_same (ev (u * (v * v * v) * p0))
                    clear hK K h0
                    try simp only [Act.put, List.getElem_toArray, List.getElem_cons_succ, List.getElem_cons_zero, List.setIfInBounds_toArray, List.set_cons_zero, List.set_cons_succ]
                    refine wpAnyH_done (by kernel_rfl) ?_ _
                    have HB := Lib.hid hHeld.below
                    have HGG := Lib.hid HG.out
                    clear hHeld
                    go_wp2_with (fail)
                    go_meet
                    exact ⟨_, rfl, HGG.out, kb, HB.out⟩
                  · have h0 := hHeld
                    clear hHeld
                    try simp only [List.getElem_toArray, List.getElem_cons_succ, List.getElem_cons_zero]
                    obtain ⟨kz, hg⟩ := Fn.fresh h0 27 #[.int .u64 0, .int .u64 0, .int .u64 0, .int .u64 0]
                    have KZ := Lib.hid kz
                    have HG := Lib.hid hg
                    have H0 := Lib.hid h0
                    clear kz hg h0
                    go_simp
                    refine hK.out _ _ (Fn.pass H0.out _) (fun hHeld => ?_)
                    clear hK K H0
                    try simp only [Act.put, List.getElem_toArray, List.getElem_cons_succ, List.getElem_cons_zero, List.setIfInBounds_toArray, List.set_cons_zero, List.set_cons_succ]
                    refine wpAnyH_ready (rs := [8]) (by kernel_rfl) (by simp) (AllReadyH.cons rfl (fun K hK => ?_) AllReadyH.nil)
                    have h0 := hHeld
                    clear hHeld
                    try simp only [List.getElem_toArray, List.getElem_cons_succ, List.getElem_cons_zero]
                    have H0 := Lib.hid h0
                    clear h0
                    go_simp
                    go_at_call 6
                    refine (mulF (u * (v * v * v)) p0 _ (HPG.out.ext H0.out.below)).mono ?_
                    rintro e vv ⟨rfl, hb⟩
                    have kz := KZ.out.below hb KZ.out.lt
                    clear KZ
                    have KZ := Lib.hid kz
                    clear kz
                    have h1 := H0.out.ext hb
                    clear hb H0
                    go_wp2_with (fail)
                    refine hK.out _ _ h1 (fun hHeld => ?_)
                    clear hK K h1
                    try simp only [Act.put, List.getElem_toArray, List.getElem_cons_succ, List.getElem_cons_zero, List.setIfInBounds_toArray, List.set_cons_zero, List.set_cons_succ]
                    refine wpAnyH_ready (rs := [10]) (by kernel_rfl) (by simp) (AllReadyH.cons rfl (fun K hK => ?_) AllReadyH.nil)
                    have h0 := hHeld
                    clear hHeld
                    try simp only [List.getElem_toArray, List.getElem_cons_succ, List.getElem_cons_zero]
                    rw [if_pos (by rfl)]
                    refine wp_store_row 27 (.tmp 8) (.tmp 25) rfl _ (ev (u * (v * v * v) * p0)) rfl rfl 27 _ KZ.out (info_ev _) rfl (ev_one _) ?_
                    refine hK.out _ _ (Fn.setFresh h0 HG.out _) (fun hHeld => ?_)
                    have kb := KZ.out.setRow_same (ev (u * (v * v * v) * p0))
                    clear hK K h0
                    try simp only [Act.put, List.getElem_toArray, List.getElem_cons_succ, List.getElem_cons_zero, List.setIfInBounds_toArray, List.set_cons_zero, List.set_cons_succ]
                    refine wpAnyH_done (by kernel_rfl) ?_ _
                    have HB := Lib.hid hHeld.below
                    have HGG := Lib.hid HG.out
                    clear hHeld
                    go_wp2_with (fail)
                    go_meet
                    exact ⟨_, rfl, HGG.out, kb, HB.out⟩
                · have h0 := hHeld
                  clear hHeld
                  try simp only [List.getElem_toArray, List.getElem_cons_succ, List.getElem_cons_zero]
                  obtain ⟨kz, hg⟩ := Fn.fresh h0 27 #[.int .u64 0, .int .u64 0, .int .u64 0, .int .u64 0]
                  have KZ := Lib.hid kz
                  have HG := Lib.hid hg
                  have H0 := Lib.hid h0
                  clear kz hg h0
                  go_simp
                  refine hK.out _ _ (Fn.pass H0.out _) (fun hHeld => ?_)
                  clear hK K H0
                  try simp only [Act.put, List.getElem_toArray, List.getElem_cons_succ, List.getElem_cons_zero, List.setIfInBounds_toArray, List.set_cons_zero, List.set_cons_succ]
                  refine wpAnyH_ready (rs := [7]) (by kernel_rfl) (by simp) (AllReadyH.cons rfl (fun K hK => ?_) AllReadyH.nil)
                  have h0 := hHeld
                  clear hHeld
                  try simp only [List.getElem_toArray, List.getElem_cons_succ, List.getElem_cons_zero]
                  have H0 := Lib.hid h0
                  clear h0
                  go_simp
                  go_at_call 21
                  refine (powR HP0.out _ (HPG.out.ext H0.out.below)).mono ?_
                  rintro e vv ⟨rfl, hb⟩
                  have kz := KZ.out.below hb KZ.out.lt
                  clear KZ
                  have KZ := Lib.hid kz
                  clear kz
                  have h1 := H0.out.ext hb
                  clear hb H0
                  go_wp2_with (fail)
                  refine hK.out _ _ h1 (fun hHeld => ?_)
                  clear hK K h1
                  try simp only [Act.put, List.getElem_toArray, List.getElem_cons_succ, List.getElem_cons_zero, List.setIfInBounds_toArray, List.set_cons_zero, List.set_cons_succ]
                  refine wpAnyH_ready (rs := [8]) (by kernel_rfl) (by simp) (AllReadyH.cons rfl (fun K hK => ?_) AllReadyH.nil)
                  have h0 := hHeld
                  clear hHeld
                  try simp only [List.getElem_toArray, List.getElem_cons_succ, List.getElem_cons_zero]
                  have H0 := Lib.hid h0
                  clear h0
                  go_simp
                  go_at_call 6
                  refine (mulF (u * (v * v * v)) p0 _ (HPG.out.ext H0.out.below)).mono ?_
                  rintro e vv ⟨rfl, hb⟩
                  have kz := KZ.out.below hb KZ.out.lt
                  clear KZ
                  have KZ := Lib.hid kz
                  clear kz
                  have h1 := H0.out.ext hb
                  clear hb H0
                  go_wp2_with (fail)
                  refine hK.out _ _ h1 (fun hHeld => ?_)
                  clear hK K h1
                  try simp only [Act.put, List.getElem_toArray, List.getElem_cons_succ, List.getElem_cons_zero, List.setIfInBounds_toArray, List.set_cons_zero, List.set_cons_succ]
                  refine wpAnyH_ready (rs := [10]) (by kernel_rfl) (by simp) (AllReadyH.cons rfl (fun K hK => ?_) AllReadyH.nil)
                  have h0 := hHeld
                  clear hHeld
                  try simp only [List.getElem_toArray, List.getElem_cons_succ, List.getElem_cons_zero]
                  rw [if_pos (by rfl)]
                  refine wp_store_row 27 (.tmp 8) (.tmp 25) rfl _ (ev (u * (v * v * v) * p0)) rfl rfl 27 _ KZ.out (info_ev _) rfl (ev_one _) ?_
                  refine hK.out _ _ (Fn.setFresh h0 HG.out _) (fun hHeld => ?_)
                  have kb := KZ.out.setRow_same (ev (u * (v * v * v) * p0))
                  clear hK K h0
                  try simp only [Act.put, List.getElem_toArray, List.getElem_cons_succ, List.getElem_cons_zero, List.setIfInBounds_toArray, List.set_cons_zero, List.set_cons_succ]
                  refine wpAnyH_done (by kernel_rfl) ?_ _
                  have HB := Lib.hid hHeld.below
                  have HGG := Lib.hid HG.out
                  clear hHeld
                  go_wp2_with (fail)
                  go_meet
                  exact ⟨_, rfl, HGG.out, kb, HB.out⟩
              · have h0 := hHeld
                clear hHeld
                try simp only [List.getElem_toArray, List.getElem_cons_succ, List.getElem_cons_zero]
                obtain ⟨kz, hg⟩ := Fn.fresh h0 27 #[.int .u64 0, .int .u64 0, .int .u64 0, .int .u64 0]
                have KZ := Lib.hid kz
                have HG := Lib.hid hg
                have H0 := Lib.hid h0
                clear kz hg h0
                go_simp
                refine hK.out _ _ (Fn.pass H0.out _) (fun hHeld => ?_)
                clear hK K H0
                try simp only [Act.put, List.getElem_toArray, List.getElem_cons_succ, List.getElem_cons_zero, List.setIfInBounds_toArray, List.set_cons_zero, List.set_cons_succ]
                refine wpAnyH_ready (rs := [6]) (by kernel_rfl) (by simp) (AllReadyH.cons rfl (fun K hK => ?_) AllReadyH.nil)
                have h0 := hHeld
                clear hHeld
                try simp only [List.getElem_toArray, List.getElem_cons_succ, List.getElem_cons_zero]
                have H0 := Lib.hid h0
                clear h0
                go_simp
                go_at_call 22
                refine (rootPower_any _).mono ?_
                rintro e vv ⟨rfl, hb⟩
                have kz := KZ.out.below hb KZ.out.lt
                clear KZ
                have KZ := Lib.hid kz
                clear kz
                have h1 := H0.out.ext hb
                clear hb H0
                go_wp2_with (fail)
                refine hK.out _ _ h1 (fun hHeld => ?_)
                clear hK K h1
                try simp only [Act.put, List.getElem_toArray, List.getElem_cons_succ, List.getElem_cons_zero, List.setIfInBounds_toArray, List.set_cons_zero, List.set_cons_succ]
                refine wpAnyH_ready (rs := [7]) (by kernel_rfl) (by simp) (AllReadyH.cons rfl (fun K hK => ?_) AllReadyH.nil)
                have h0 := hHeld
                clear hHeld
                try simp only [List.getElem_toArray, List.getElem_cons_succ, List.getElem_cons_zero]
                have H0 := Lib.hid h0
                clear h0
                go_simp
                go_at_call 21
                refine (powR HP0.out _ (HPG.out.ext H0.out.below)).mono ?_
                rintro e vv ⟨rfl, hb⟩
                have kz := KZ.out.below hb KZ.out.lt
                clear KZ
                have KZ := Lib.hid kz
                clear kz
                have h1 := H0.out.ext hb
                clear hb H0
                go_wp2_with (fail)
                refine hK.out _ _ h1 (fun hHeld => ?_)
                clear hK K h1
                try simp only [Act.put, List.getElem_toArray, List.getElem_cons_succ, List.getElem_cons_zero, List.setIfInBounds_toArray, List.set_cons_zero, List.set_cons_succ]
                refine wpAnyH_ready (rs := [8]) (by kernel_rfl) (by simp) (AllReadyH.cons rfl (fun K hK => ?_) AllReadyH.nil)
                have h0 := hHeld
                clear hHeld
                try simp only [List.getElem_toArray, List.getElem_cons_succ, List.getElem_cons_zero]
                have H0 := Lib.hid h0
                clear h0
                go_simp
                go_at_call 6
                refine (mulF (u * (v * v * v)) p0 _ (HPG.out.ext H0.out.below)).mono ?_
                rintro e vv ⟨rfl, hb⟩
                have kz := KZ.out.below hb KZ.out.lt
                clear KZ
                have KZ := Lib.hid kz
                clear kz
                have h1 := H0.out.ext hb
                clear hb H0
                go_wp2_with (fail)
                refine hK.out _ _ h1 (fun hHeld => ?_)
                clear hK K h1
                try simp only [Act.put, List.getElem_toArray, List.getElem_cons_succ, List.getElem_cons_zero, List.setIfInBounds_toArray, List.set_cons_zero, List.set_cons_succ]
                refine wpAnyH_ready (rs := [10]) (by kernel_rfl) (by simp) (AllReadyH.cons rfl (fun K hK => ?_) AllReadyH.nil)
                have h0 := hHeld
                clear hHeld
                try simp only [List.getElem_toArray, List.getElem_cons_succ, List.getElem_cons_zero]
                rw [if_pos (by rfl)]
                refine wp_store_row 27 (.tmp 8) (.tmp 25) rfl _ (ev (u * (v * v * v) * p0)) rfl rfl 27 _ KZ.out (info_ev _) rfl (ev_one _) ?_
                refine hK.out _ _ (Fn.setFresh h0 HG.out _) (fun hHeld => ?_)
                have kb := KZ.out.setRow_same (ev (u * (v * v * v) * p0))
                clear hK K h0
                try simp only [Act.put, List.getElem_toArray, List.getElem_cons_succ, List.getElem_cons_zero, List.setIfInBounds_toArray, List.set_cons_zero, List.set_cons_succ]
                refine wpAnyH_done (by kernel_rfl) ?_ _
                have HB := Lib.hid hHeld.below
                have HGG := Lib.hid HG.out
                clear hHeld
                go_wp2_with (fail)
                go_meet
                exact ⟨_, rfl, HGG.out, kb, HB.out⟩
            · have h0 := hHeld
              clear hHeld
              try simp only [List.getElem_toArray, List.getElem_cons_succ, List.getElem_cons_zero]
              obtain ⟨kz, hg⟩ := Fn.fresh h0 27 #[.int .u64 0, .int .u64 0, .int .u64 0, .int .u64 0]
              have KZ := Lib.hid kz
              have HG := Lib.hid hg
              have H0 := Lib.hid h0
              clear kz hg h0
              go_simp
              refine hK.out _ _ (Fn.pass H0.out _) (fun hHeld => ?_)
              clear hK K H0
              try simp only [Act.put, List.getElem_toArray, List.getElem_cons_succ, List.getElem_cons_zero, List.setIfInBounds_toArray, List.set_cons_zero, List.set_cons_succ]
              refine wpAnyH_ready (rs := [5]) (by kernel_rfl) (by simp) (AllReadyH.cons rfl (fun K hK => ?_) AllReadyH.nil)
              have h0 := hHeld
              clear hHeld
              try simp only [List.getElem_toArray, List.getElem_cons_succ, List.getElem_cons_zero]
              have H0 := Lib.hid h0
              clear h0
              go_simp
              go_at_call 6
              refine (mulF u (v * v * v * (v * v * v) * v) _ (HPG.out.ext H0.out.below)).mono ?_
              rintro e vv ⟨rfl, hb⟩
              have kz := KZ.out.below hb KZ.out.lt
              clear KZ
              have KZ := Lib.hid kz
              clear kz
              have h1 := H0.out.ext hb
              clear hb H0
              go_wp2_with (fail)
              refine hK.out _ _ h1 (fun hHeld => ?_)
              clear hK K h1
              try simp only [Act.put, List.getElem_toArray, List.getElem_cons_succ, List.getElem_cons_zero, List.setIfInBounds_toArray, List.set_cons_zero, List.set_cons_succ]
              refine wpAnyH_ready (rs := [6]) (by kernel_rfl) (by simp) (AllReadyH.cons rfl (fun K hK => ?_) AllReadyH.nil)
              have h0 := hHeld
              clear hHeld
              try simp only [List.getElem_toArray, List.getElem_cons_succ, List.getElem_cons_zero]
              have H0 := Lib.hid h0
              clear h0
              go_simp
              go_at_call 22
              refine (rootPower_any _).mono ?_
              rintro e vv ⟨rfl, hb⟩
              have kz := KZ.out.below hb KZ.out.lt
              clear KZ
              have KZ := Lib.hid kz
              clear kz
              have h1 := H0.out.ext hb
              clear hb H0
              go_wp2_with (fail)
              refine hK.out _ _ h1 (fun hHeld => ?_)
              clear hK K h1
              try simp only [Act.put, List.getElem_toArray, List.getElem_cons_succ, List.getElem_cons_zero, List.setIfInBounds_toArray, List.set_cons_zero, List.set_cons_succ]
              refine wpAnyH_ready (rs := [7]) (by kernel_rfl) (by simp) (AllReadyH.cons rfl (fun K hK => ?_) AllReadyH.nil)
              have h0 := hHeld
              clear hHeld
              try simp only [List.getElem_toArray, List.getElem_cons_succ, List.getElem_cons_zero]
              have H0 := Lib.hid h0
              clear h0
              go_simp
              go_at_call 21
              refine (powR HP0.out _ (HPG.out.ext H0.out.below)).mono ?_
              rintro e vv ⟨rfl, hb⟩
              have kz := KZ.out.below hb KZ.out.lt
              clear KZ
              have KZ := Lib.hid kz
              clear kz
              have h1 := H0.out.ext hb
              clear hb H0
              go_wp2_with (fail)
              refine hK.out _ _ h1 (fun hHeld => ?_)
              clear hK K h1
              try simp only [Act.put, List.getElem_toArray, List.getElem_cons_succ, List.getElem_cons_zero, List.setIfInBounds_toArray, List.set_cons_zero, List.set_cons_succ]
              refine wpAnyH_ready (rs := [8]) (by kernel_rfl) (by simp) (AllReadyH.cons rfl (fun K hK => ?_) AllReadyH.nil)
              have h0 := hHeld
              clear hHeld
              try simp only [List.getElem_toArray, List.getElem_cons_succ, List.getElem_cons_zero]
              have H0 := Lib.hid h0
              clear h0
              go_simp
              go_at_call 6
              refine (mulF (u * (v * v * v)) p0 _ (HPG.out.ext H0.out.below)).mono ?_
              rintro e vv ⟨rfl, hb⟩
              have kz := KZ.out.below hb KZ.out.lt
              clear KZ
              have KZ := Lib.hid kz
              clear kz
              have h1 := H0.out.ext hb
              clear hb H0
              go_wp2_with (fail)
              refine hK.out _ _ h1 (fun hHeld => ?_)
              clear hK K h1
              try simp only [Act.put, List.getElem_toArray, List.getElem_cons_succ, List.getElem_cons_zero, List.setIfInBounds_toArray, List.set_cons_zero, List.set_cons_succ]
              refine wpAnyH_ready (rs := [10]) (by kernel_rfl) (by simp) (AllReadyH.cons rfl (fun K hK => ?_) AllReadyH.nil)
              have h0 := hHeld
              clear hHeld
              try simp only [List.getElem_toArray, List.getElem_cons_succ, List.getElem_cons_zero]
              rw [if_pos (by rfl)]
              refine wp_store_row 27 (.tmp 8) (.tmp 25) rfl _ (ev (u * (v * v * v) * p0)) rfl rfl 27 _ KZ.out (info_ev _) rfl (ev_one _) ?_
              refine hK.out _ _ (Fn.setFresh h0 HG.out _) (fun hHeld => ?_)
              have kb := KZ.out.setRow_same (ev (u * (v * v * v) * p0))
              clear hK K h0
              try simp only [Act.put, List.getElem_toArray, List.getElem_cons_succ, List.getElem_cons_zero, List.setIfInBounds_toArray, List.set_cons_zero, List.set_cons_succ]
              refine wpAnyH_done (by kernel_rfl) ?_ _
              have HB := Lib.hid hHeld.below
              have HGG := Lib.hid HG.out
              clear hHeld
              go_wp2_with (fail)
              go_meet
              exact ⟨_, rfl, HGG.out, kb, HB.out⟩
          · have h0 := hHeld
            clear hHeld
            try simp only [List.getElem_toArray, List.getElem_cons_succ, List.getElem_cons_zero]
            obtain ⟨kz, hg⟩ := Fn.fresh h0 27 #[.int .u64 0, .int .u64 0, .int .u64 0, .int .u64 0]
            have KZ := Lib.hid kz
            have HG := Lib.hid hg
            have H0 := Lib.hid h0
            clear kz hg h0
            go_simp
            refine hK.out _ _ (Fn.pass H0.out _) (fun hHeld => ?_)
            clear hK K H0
            try simp only [Act.put, List.getElem_toArray, List.getElem_cons_succ, List.getElem_cons_zero, List.setIfInBounds_toArray, List.set_cons_zero, List.set_cons_succ]
            refine wpAnyH_ready (rs := [2]) (by kernel_rfl) (by simp) (AllReadyH.cons rfl (fun K hK => ?_) AllReadyH.nil)
            have h0 := hHeld
            clear hHeld
            try simp only [List.getElem_toArray, List.getElem_cons_succ, List.getElem_cons_zero]
            have H0 := Lib.hid h0
            clear h0
            go_simp
            go_at_call 6
            refine (mulF u (v * v * v) _ (HPG.out.ext H0.out.below)).mono ?_
            rintro e vv ⟨rfl, hb⟩
            have kz := KZ.out.below hb KZ.out.lt
            clear KZ
            have KZ := Lib.hid kz
            clear kz
            have h1 := H0.out.ext hb
            clear hb H0
            go_wp2_with (fail)
            refine hK.out _ _ h1 (fun hHeld => ?_)
            clear hK K h1
            try simp only [Act.put, List.getElem_toArray, List.getElem_cons_succ, List.getElem_cons_zero, List.setIfInBounds_toArray, List.set_cons_zero, List.set_cons_succ]
            refine wpAnyH_ready (rs := [5]) (by kernel_rfl) (by simp) (AllReadyH.cons rfl (fun K hK => ?_) AllReadyH.nil)
            have h0 := hHeld
            clear hHeld
            try simp only [List.getElem_toArray, List.getElem_cons_succ, List.getElem_cons_zero]
            have H0 := Lib.hid h0
            clear h0
            go_simp
            go_at_call 6
            refine (mulF u (v * v * v * (v * v * v) * v) _ (HPG.out.ext H0.out.below)).mono ?_
            rintro e vv ⟨rfl, hb⟩
            have kz := KZ.out.below hb KZ.out.lt
            clear KZ
            have KZ := Lib.hid kz
            clear kz
            have h1 := H0.out.ext hb
            clear hb H0
            go_wp2_with (fail)
            refine hK.out _ _ h1 (fun hHeld => ?_)
            clear hK K h1
            try simp only [Act.put, List.getElem_toArray, List.getElem_cons_succ, List.getElem_cons_zero, List.setIfInBounds_toArray, List.set_cons_zero, List.set_cons_succ]
            refine wpAnyH_ready (rs := [6]) (by kernel_rfl) (by simp) (AllReadyH.cons rfl (fun K hK => ?_) AllReadyH.nil)
            have h0 := hHeld
            clear hHeld
            try simp only [List.getElem_toArray, List.getElem_cons_succ, List.getElem_cons_zero]
            have H0 := Lib.hid h0
            clear h0
            go_simp
            go_at_call 22
            refine (rootPower_any _).mono ?_
            rintro e vv ⟨rfl, hb⟩
            have kz := KZ.out.below hb KZ.out.lt
            clear KZ
            have KZ := Lib.hid kz
            clear kz
            have h1 := H0.out.ext hb
            clear hb H0
            go_wp2_with (fail)
            refine hK.out _ _ h1 (fun hHeld => ?_)
            clear hK K h1
            try simp only [Act.put, List.getElem_toArray, List.getElem_cons_succ, List.getElem_cons_zero, List.setIfInBounds_toArray, List.set_cons_zero, List.set_cons_succ]
            refine wpAnyH_ready (rs := [7]) (by kernel_rfl) (by simp) (AllReadyH.cons rfl (fun K hK => ?_) AllReadyH.nil)
            have h0 := hHeld
            clear hHeld
            try simp only [List.getElem_toArray, List.getElem_cons_succ, List.getElem_cons_zero]
            have H0 := Lib.hid h0
            clear h0
            go_simp
            go_at_call 21
            refine (powR HP0.out _ (HPG.out.ext H0.out.below)).mono ?_
            rintro e vv ⟨rfl, hb⟩
            have kz := KZ.out.below hb KZ.out.lt
            clear KZ
            have KZ := Lib.hid kz
            clear kz
            have h1 := H0.out.ext hb
            clear hb H0
            go_wp2_with (fail)
            refine hK.out _ _ h1 (fun hHeld => ?_)
            clear hK K h1
            try simp only [Act.put, List.getElem_toArray, List.getElem_cons_succ, List.getElem_cons_zero, List.setIfInBounds_toArray, List.set_cons_zero, List.set_cons_succ]
            refine wpAnyH_ready (rs := [8]) (by kernel_rfl) (by simp) (AllReadyH.cons rfl (fun K hK => ?_) AllReadyH.nil)
            have h0 := hHeld
            clear hHeld
            try simp only [List.getElem_toArray, List.getElem_cons_succ, List.getElem_cons_zero]
            have H0 := Lib.hid h0
            clear h0
            go_simp
            go_at_call 6
            refine (mulF (u * (v * v * v)) p0 _ (HPG.out.ext H0.out.below)).mono ?_
            rintro e vv ⟨rfl, hb⟩
            have kz := KZ.out.below hb KZ.out.lt
            clear KZ
            have KZ := Lib.hid kz
            clear kz
            have h1 := H0.out.ext hb
            clear hb H0
            go_wp2_with (fail)
            refine hK.out _ _ h1 (fun hHeld => ?_)
            clear hK K h1
            try simp only [Act.put, List.getElem_toArray, List.getElem_cons_succ, List.getElem_cons_zero, List.setIfInBounds_toArray, List.set_cons_zero, List.set_cons_succ]
            refine wpAnyH_ready (rs := [10]) (by kernel_rfl) (by simp) (AllReadyH.cons rfl (fun K hK => ?_) AllReadyH.nil)
            have h0 := hHeld
            clear hHeld
            try simp only [List.getElem_toArray, List.getElem_cons_succ, List.getElem_cons_zero]
            rw [if_pos (by rfl)]
            refine wp_store_row 27 (.tmp 8) (.tmp 25) rfl _ (ev (u * (v * v * v) * p0)) rfl rfl 27 _ KZ.out (info_ev _) rfl (ev_one _) ?_
            refine hK.out _ _ (Fn.setFresh h0 HG.out _) (fun hHeld => ?_)
            have kb := KZ.out.setRow_same (ev (u * (v * v * v) * p0))
            clear hK K h0
            try simp only [Act.put, List.getElem_toArray, List.getElem_cons_succ, List.getElem_cons_zero, List.setIfInBounds_toArray, List.set_cons_zero, List.set_cons_succ]
            refine wpAnyH_done (by kernel_rfl) ?_ _
            have HB := Lib.hid hHeld.below
            have HGG := Lib.hid HG.out
            clear hHeld
            go_wp2_with (fail)
            go_meet
            exact ⟨_, rfl, HGG.out, kb, HB.out⟩
      case rest =>
        obtain ⟨g8, rfl, hg, hk, hb⟩ := hcut
        have hf2 := (HF.out.ext hb).more hk
        have hpg2 := HPG.out.ext hb
        have hz8 : wz.heap.size ≤ g8 := hg
        have hz8l := hk.lt
        clear HF HPG hb hk hg
        have HF := Lib.hid hf2
        have HPG := Lib.hid hpg2
        clear hf2 hpg2
        go_wp2_with (fail)
        by_cases ht1 : v * ((u * (v * v * v) * p0) * (u * (v * v * v) * p0)) = -u
        · have HT1 := Lib.hid ht1
          clear ht1
          refine wp_region_held_drew (S := fun W => Fr w W [(g8, 27, ev (u * (v * v * v) * p0)), (w.heap.size + 1, 27, ev v), (w.heap.size, 27, ev u)] [(w.heap.size + 1 + 1, 27, 4)]) (by kernel_rfl) ?_ (fun hHeld => ?_)
          · exact (HF.out.sub (by simp) (by simp)).drew
          refine wpAnyH_take (i := 0) (v := .agg (ev v)) rfl (by kernel_rfl) (by kernel_rfl) (by kernel_rfl) (fun _ _ _ h => h) (yields_row (by rfl) 27 (.tmp 3) rfl (w.heap.size + 1) rfl 27 (ev v) _ (fun W (h : Fr _ W _ _) => h.get (by simp)) Tryd.underlying27 rfl (info_ev _)) hHeld ?_
          try simp only [Act.put, List.getElem_toArray, List.getElem_cons_succ, List.getElem_cons_zero, List.setIfInBounds_toArray, List.set_cons_zero, List.set_cons_succ]
          refine wpAnyH_take (i := 1) (v := .agg (ev (u * (v * v * v) * p0))) rfl (by kernel_rfl) (by kernel_rfl) (by kernel_rfl) (fun _ _ _ h => h) (yields_row (by rfl) 27 (.tmp 8) rfl (g8) rfl 27 (ev (u * (v * v * v) * p0)) _ (fun W (h : Fr _ W _ _) => h.get (by simp)) Tryd.underlying27 rfl (info_ev _)) hHeld ?_
          try simp only [Act.put, List.getElem_toArray, List.getElem_cons_succ, List.getElem_cons_zero, List.setIfInBounds_toArray, List.set_cons_zero, List.set_cons_succ]
          refine wpAnyH_take (i := 4) (v := .agg (ev u)) rfl (by kernel_rfl) (by kernel_rfl) (by kernel_rfl) (fun _ _ _ h => h) (yields_row (by rfl) 27 (.tmp 2) rfl (w.heap.size) rfl 27 (ev u) _ (fun W (h : Fr _ W _ _) => h.get (by simp)) Tryd.underlying27 rfl (info_ev _)) hHeld ?_
          try simp only [Act.put, List.getElem_toArray, List.getElem_cons_succ, List.getElem_cons_zero, List.setIfInBounds_toArray, List.set_cons_zero, List.set_cons_succ]
          refine wpAnyH_ready (rs := [2]) (by kernel_rfl) (by simp) (AllReadyH.cons rfl (fun K hK => ?_) AllReadyH.nil)
          have h0 := hHeld
          clear hHeld
          try simp only [List.getElem_toArray, List.getElem_cons_succ, List.getElem_cons_zero]
          have H0 := Lib.hid h0
          clear h0
          go_simp
          go_at_call 5
          refine (squareF (u * (v * v * v) * p0) _ (Fr.pg H0.out HP.out)).mono ?_
          rintro e vv ⟨rfl, hb⟩
          have h1 := H0.out.ext hb
          clear hb H0
          go_wp2_with (fail)
          refine hK.out _ _ h1 (fun hHeld => ?_)
          clear hK K h1
          try simp only [Act.put, List.getElem_toArray, List.getElem_cons_succ, List.getElem_cons_zero, List.setIfInBounds_toArray, List.set_cons_zero, List.set_cons_succ]
          refine wpAnyH_ready (rs := [3]) (by kernel_rfl) (by simp) (AllReadyH.cons rfl (fun K hK => ?_) AllReadyH.nil)
          have h0 := hHeld
          clear hHeld
          try simp only [List.getElem_toArray, List.getElem_cons_succ, List.getElem_cons_zero]
          have H0 := Lib.hid h0
          clear h0
          go_simp
          go_at_call 6
          refine (mulF v ((u * (v * v * v) * p0) * (u * (v * v * v) * p0)) _ (Fr.pg H0.out HP.out)).mono ?_
          rintro e vv ⟨rfl, hb⟩
          have h1 := H0.out.ext hb
          clear hb H0
          go_wp2_with (fail)
          refine hK.out _ _ h1 (fun hHeld => ?_)
          clear hK K h1
          try simp only [Act.put, List.getElem_toArray, List.getElem_cons_succ, List.getElem_cons_zero, List.setIfInBounds_toArray, List.set_cons_zero, List.set_cons_succ]
          refine wpAnyH_ready (rs := [5]) (by kernel_rfl) (by simp) (AllReadyH.cons rfl (fun K hK => ?_) AllReadyH.nil)
          have h0 := hHeld
          clear hHeld
          try simp only [List.getElem_toArray, List.getElem_cons_succ, List.getElem_cons_zero]
          have H0 := Lib.hid h0
          clear h0
          go_simp
          go_at_call 23
          refine (negF u _ (Fr.pg H0.out HP.out)).mono ?_
          rintro e vv ⟨rfl, hb⟩
          have h1 := H0.out.ext hb
          clear hb H0
          go_wp2_with (fail)
          refine hK.out _ _ h1 (fun hHeld => ?_)
          clear hK K h1
          try simp only [Act.put, List.getElem_toArray, List.getElem_cons_succ, List.getElem_cons_zero, List.setIfInBounds_toArray, List.set_cons_zero, List.set_cons_succ]
          refine wpAnyH_ready (rs := [6]) (by kernel_rfl) (by simp) (AllReadyH.cons rfl (fun K hK => ?_) AllReadyH.nil)
          have h0 := hHeld
          clear hHeld
          try simp only [List.getElem_toArray, List.getElem_cons_succ, List.getElem_cons_zero]
          have H0 := Lib.hid h0
          clear h0
          go_simp
          go_at_call 13
          refine (equal_yes HT1.out _).mono ?_
          rintro e vv ⟨rfl, hb⟩
          have h1 := H0.out.ext hb
          clear hb H0
          go_wp2_with (fail)
          refine hK.out _ _ h1 (fun hHeld => ?_)
          clear hK K h1
          try simp only [Act.put, List.getElem_toArray, List.getElem_cons_succ, List.getElem_cons_zero, List.setIfInBounds_toArray, List.set_cons_zero, List.set_cons_succ]
          refine wpAnyH_done (by kernel_rfl) ?_ _
          have HF := Lib.hid hHeld
          clear hHeld
          go_wp2_with (fail)
          have kz := HF.out.get (g := g8) (t := 27) (cs := ev (u * (v * v * v) * p0)) (by simp)
          have KZ := Lib.hid kz.drew
          clear kz
          refine wp_region_held_drew (S := fun W => Fr w W [(w.heap.size + 1, 27, ev v), (w.heap.size, 27, ev u)] [(w.heap.size + 1 + 1, 27, 4)]) (by kernel_rfl) ?_ (fun hHeld => ?_)
          · exact (HF.out.sub (by simp) (by simp)).drew
          refine wpAnyH_ready (rs := [0, 1]) (by kernel_rfl) (by simp) (AllReadyH.cons rfl (fun K hK => ?_) (AllReadyH.cons rfl (fun K hK => ?_) AllReadyH.nil))
          · have h0 := hHeld
            clear hHeld
            try simp only [List.getElem_toArray, List.getElem_cons_succ, List.getElem_cons_zero]
            rw [if_pos (by rfl)]
            refine wp_load_row 27 (.tmp 8) rfl (g8) rfl 27 (ev (u * (v * v * v) * p0)) (0, 0) _ KZ.out Tryd.underlying27 rfl (info_ev _) ?_
            refine hK.out _ _ h0 (fun hHeld => ?_)
            clear hK K h0
            try simp only [Act.put, List.getElem_toArray, List.getElem_cons_succ, List.getElem_cons_zero, List.setIfInBounds_toArray, List.set_cons_zero, List.set_cons_succ]
            refine wpAnyH_ready (rs := [1]) (by kernel_rfl) (by simp) (AllReadyH.cons rfl (fun K hK => ?_) AllReadyH.nil)
            have h0 := hHeld
            clear hHeld
            try simp only [List.getElem_toArray, List.getElem_cons_succ, List.getElem_cons_zero]
            have H0 := Lib.hid h0
            clear h0
            go_simp
            go_at_call 24
            refine (rootI_of HI0.out _ (Fr.pg H0.out HP.out)).mono ?_
            rintro e vv ⟨rfl, hb⟩
            have kz := KZ.out.below hb KZ.out.lt
            clear KZ
            have KZ := Lib.hid kz
            clear kz
            have h1 := H0.out.ext hb
            clear hb H0
            go_wp2_with (fail)
            refine hK.out _ _ h1 (fun hHeld => ?_)
            clear hK K h1
            try simp only [Act.put, List.getElem_toArray, List.getElem_cons_succ, List.getElem_cons_zero, List.setIfInBounds_toArray, List.set_cons_zero, List.set_cons_succ]
            refine wpAnyH_ready (rs := [2]) (by kernel_rfl) (by simp) (AllReadyH.cons rfl (fun K hK => ?_) AllReadyH.nil)
            have h0 := hHeld
            clear hHeld
            try simp only [List.getElem_toArray, List.getElem_cons_succ, List.getElem_cons_zero]
            have H0 := Lib.hid h0
            clear h0
            go_simp
            go_at_call 6
            refine (mulF (u * (v * v * v) * p0) i0 _ (Fr.pg H0.out HP.out)).mono ?_
            rintro e vv ⟨rfl, hb⟩
            have kz := KZ.out.below hb KZ.out.lt
            clear KZ
            have KZ := Lib.hid kz
            clear kz
            have h1 := H0.out.ext hb
            clear hb H0
            go_wp2_with (fail)
            refine hK.out _ _ h1 (fun hHeld => ?_)
            clear hK K h1
            try simp only [Act.put, List.getElem_toArray, List.getElem_cons_succ, List.getElem_cons_zero, List.setIfInBounds_toArray, List.set_cons_zero, List.set_cons_succ]
            refine wpAnyH_ready (rs := [3]) (by kernel_rfl) (by simp) (AllReadyH.cons rfl (fun K hK => ?_) AllReadyH.nil)
            have h0 := hHeld
            clear hHeld
            try simp only [List.getElem_toArray, List.getElem_cons_succ, List.getElem_cons_zero]
            rw [if_pos (by rfl)]
            refine wp_store_row 27 (.tmp 8) (.tmp 35) rfl (g8) (ev ((u * (v * v * v) * p0) * i0)) rfl rfl 27 _ KZ.out (info_ev _) ((ev_size _).trans (ev_size _).symm) (ev_one _) ?_
            refine hK.out _ _ (Fr.setOut h0 (g := g8) (by omega) (by simp <;> omega) (by simp <;> omega) _) (fun hHeld => ?_)
            have kb := KZ.out.setRow_same (ev ((u * (v * v * v) * p0) * i0))
            clear hK K h0
            try simp only [Act.put, List.getElem_toArray, List.getElem_cons_succ, List.getElem_cons_zero, List.setIfInBounds_toArray, List.set_cons_zero, List.set_cons_succ]
            refine wpAnyH_done (by kernel_rfl) ?_ _
            have hf9 := hHeld.more kb
            have HF := Lib.hid hf9
            clear hHeld hf9 kb KZ
            go_wp2_with (fail)
            by_cases ht2 : v * (((u * (v * v * v) * p0) * i0) * ((u * (v * v * v) * p0) * i0)) = u
            · as_aux_lemma =>
                have HT2 := Lib.hid ht2
                clear ht2
                refine wp_region_held_drew (S := fun W => Fr w W [(g8, 27, ev ((u * (v * v * v) * p0) * i0)), (w.heap.size + 1, 27, ev v), (w.heap.size, 27, ev u)] [(w.heap.size + 1 + 1, 27, 4)]) (by kernel_rfl) ?_ (fun hHeld => ?_)
                · exact (HF.out.sub (by simp) (by simp)).drew
                refine wpAnyH_take (i := 0) (v := .agg (ev v)) rfl (by kernel_rfl) (by kernel_rfl) (by kernel_rfl) (fun _ _ _ h => h) (yields_row (by rfl) 27 (.tmp 3) rfl (w.heap.size + 1) rfl 27 (ev v) _ (fun W (h : Fr _ W _ _) => h.get (by simp)) Tryd.underlying27 rfl (info_ev _)) hHeld ?_
                try simp only [Act.put, List.getElem_toArray, List.getElem_cons_succ, List.getElem_cons_zero, List.setIfInBounds_toArray, List.set_cons_zero, List.set_cons_succ]
                refine wpAnyH_take (i := 1) (v := .agg (ev ((u * (v * v * v) * p0) * i0))) rfl (by kernel_rfl) (by kernel_rfl) (by kernel_rfl) (fun _ _ _ h => h) (yields_row (by rfl) 27 (.tmp 8) rfl (g8) rfl 27 (ev ((u * (v * v * v) * p0) * i0)) _ (fun W (h : Fr _ W _ _) => h.get (by simp)) Tryd.underlying27 rfl (info_ev _)) hHeld ?_
                try simp only [Act.put, List.getElem_toArray, List.getElem_cons_succ, List.getElem_cons_zero, List.setIfInBounds_toArray, List.set_cons_zero, List.set_cons_succ]
                refine wpAnyH_take (i := 4) (v := .agg (ev u)) rfl (by kernel_rfl) (by kernel_rfl) (by kernel_rfl) (fun _ _ _ h => h) (yields_row (by rfl) 27 (.tmp 2) rfl (w.heap.size) rfl 27 (ev u) _ (fun W (h : Fr _ W _ _) => h.get (by simp)) Tryd.underlying27 rfl (info_ev _)) hHeld ?_
                try simp only [Act.put, List.getElem_toArray, List.getElem_cons_succ, List.getElem_cons_zero, List.setIfInBounds_toArray, List.set_cons_zero, List.set_cons_succ]
                refine wpAnyH_ready (rs := [2]) (by kernel_rfl) (by simp) (AllReadyH.cons rfl (fun K hK => ?_) AllReadyH.nil)
                have h0 := hHeld
                clear hHeld
                try simp only [List.getElem_toArray, List.getElem_cons_succ, List.getElem_cons_zero]
                have H0 := Lib.hid h0
                clear h0
                go_simp
                go_at_call 5
                refine (squareF ((u * (v * v * v) * p0) * i0) _ (Fr.pg H0.out HP.out)).mono ?_
                rintro e vv ⟨rfl, hb⟩
                have h1 := H0.out.ext hb
                clear hb H0
                go_wp2_with (fail)
                refine hK.out _ _ h1 (fun hHeld => ?_)
                clear hK K h1
                try simp only [Act.put, List.getElem_toArray, List.getElem_cons_succ, List.getElem_cons_zero, List.setIfInBounds_toArray, List.set_cons_zero, List.set_cons_succ]
                refine wpAnyH_ready (rs := [3]) (by kernel_rfl) (by simp) (AllReadyH.cons rfl (fun K hK => ?_) AllReadyH.nil)
                have h0 := hHeld
                clear hHeld
                try simp only [List.getElem_toArray, List.getElem_cons_succ, List.getElem_cons_zero]
                have H0 := Lib.hid h0
                clear h0
                go_simp
                go_at_call 6
                refine (mulF v (((u * (v * v * v) * p0) * i0) * ((u * (v * v * v) * p0) * i0)) _ (Fr.pg H0.out HP.out)).mono ?_
                rintro e vv ⟨rfl, hb⟩
                have h1 := H0.out.ext hb
                clear hb H0
                go_wp2_with (fail)
                refine hK.out _ _ h1 (fun hHeld => ?_)
                clear hK K h1
                try simp only [Act.put, List.getElem_toArray, List.getElem_cons_succ, List.getElem_cons_zero, List.setIfInBounds_toArray, List.set_cons_zero, List.set_cons_succ]
                refine wpAnyH_ready (rs := [5]) (by kernel_rfl) (by simp) (AllReadyH.cons rfl (fun K hK => ?_) AllReadyH.nil)
                have h0 := hHeld
                clear hHeld
                try simp only [List.getElem_toArray, List.getElem_cons_succ, List.getElem_cons_zero]
                have H0 := Lib.hid h0
                clear h0
                go_simp
                go_at_call 13
                refine (equal_yes HT2.out _).mono ?_
                rintro e vv ⟨rfl, hb⟩
                have h1 := H0.out.ext hb
                clear hb H0
                go_wp2_with (fail)
                refine hK.out _ _ h1 (fun hHeld => ?_)
                clear hK K h1
                try simp only [Act.put, List.getElem_toArray, List.getElem_cons_succ, List.getElem_cons_zero, List.setIfInBounds_toArray, List.set_cons_zero, List.set_cons_succ]
                refine wpAnyH_take (i := 6) (v := ?_) rfl (by kernel_rfl) (by kernel_rfl) (by kernel_rfl) (fun _ _ _ h => h) (Or.inl ⟨by rfl, ?_⟩) hHeld ?_
                rotate_left
                · (intro W hSw; (try dsimp only at hSw); (try simp only [List.getElem_toArray, List.getElem_cons_succ, List.getElem_cons_zero]); go_simp; try with_reducible rfl)
                try simp only [Act.put, List.getElem_toArray, List.getElem_cons_succ, List.getElem_cons_zero, List.setIfInBounds_toArray, List.set_cons_zero, List.set_cons_succ]
                refine wpAnyH_done (by kernel_rfl) ?_ _
                have HF := Lib.hid hHeld
                clear hHeld
                go_wp2_with (fail)
                by_cases ht3 : (((u * (v * v * v) * p0) * i0)).val % 2 = 1
                · as_aux_lemma =>
                    have HT3 := Lib.hid ht3
                    clear ht3
                    refine wp_region_held_drew (S := fun W => Fr w W [(g8, 27, ev ((u * (v * v * v) * p0) * i0)), (w.heap.size + 1, 27, ev v), (w.heap.size, 27, ev u)] [(w.heap.size + 1 + 1, 27, 4)]) (by kernel_rfl) ?_ (fun hHeld => ?_)
                    · exact (HF.out.sub (by simp) (by simp)).drew
                    refine wpAnyH_take (i := 0) (v := .agg (ev ((u * (v * v * v) * p0) * i0))) rfl (by kernel_rfl) (by kernel_rfl) (by kernel_rfl) (fun _ _ _ h => h) (yields_row (by rfl) 27 (.tmp 8) rfl (g8) rfl 27 (ev ((u * (v * v * v) * p0) * i0)) _ (fun W (h : Fr _ W _ _) => h.get (by simp)) Tryd.underlying27 rfl (info_ev _)) hHeld ?_
                    try simp only [Act.put, List.getElem_toArray, List.getElem_cons_succ, List.getElem_cons_zero, List.setIfInBounds_toArray, List.set_cons_zero, List.set_cons_succ]
                    refine wpAnyH_take (i := 1) (v := .agg (ev ((u * (v * v * v) * p0) * i0))) rfl (by kernel_rfl) (by kernel_rfl) (by kernel_rfl) (fun _ _ _ h => h) (yields_row (by rfl) 27 (.tmp 8) rfl (g8) rfl 27 (ev ((u * (v * v * v) * p0) * i0)) _ (fun W (h : Fr _ W _ _) => h.get (by simp)) Tryd.underlying27 rfl (info_ev _)) hHeld ?_
                    try simp only [Act.put, List.getElem_toArray, List.getElem_cons_succ, List.getElem_cons_zero, List.setIfInBounds_toArray, List.set_cons_zero, List.set_cons_succ]
                    refine wpAnyH_take (i := 3) (v := .agg (ev ((u * (v * v * v) * p0) * i0))) rfl (by kernel_rfl) (by kernel_rfl) (by kernel_rfl) (fun _ _ _ h => h) (yields_row (by rfl) 27 (.tmp 8) rfl (g8) rfl 27 (ev ((u * (v * v * v) * p0) * i0)) _ (fun W (h : Fr _ W _ _) => h.get (by simp)) Tryd.underlying27 rfl (info_ev _)) hHeld ?_
                    try simp only [Act.put, List.getElem_toArray, List.getElem_cons_succ, List.getElem_cons_zero, List.setIfInBounds_toArray, List.set_cons_zero, List.set_cons_succ]
                    refine wpAnyH_ready (rs := [2]) (by kernel_rfl) (by simp) (AllReadyH.cons rfl (fun K hK => ?_) AllReadyH.nil)
                    have h0 := hHeld
                    clear hHeld
                    try simp only [List.getElem_toArray, List.getElem_cons_succ, List.getElem_cons_zero]
                    have H0 := Lib.hid h0
                    clear h0
                    go_simp
                    go_at_call 23
                    refine (negF ((u * (v * v * v) * p0) * i0) _ (Fr.pg H0.out HP.out)).mono ?_
                    rintro e vv ⟨rfl, hb⟩
                    have h1 := H0.out.ext hb
                    clear hb H0
                    go_wp2_with (fail)
                    refine hK.out _ _ h1 (fun hHeld => ?_)
                    clear hK K h1
                    try simp only [Act.put, List.getElem_toArray, List.getElem_cons_succ, List.getElem_cons_zero, List.setIfInBounds_toArray, List.set_cons_zero, List.set_cons_succ]
                    refine wpAnyH_ready (rs := [4]) (by kernel_rfl) (by simp) (AllReadyH.cons rfl (fun K hK => ?_) AllReadyH.nil)
                    have h0 := hHeld
                    clear hHeld
                    try simp only [List.getElem_toArray, List.getElem_cons_succ, List.getElem_cons_zero]
                    have H0 := Lib.hid h0
                    clear h0
                    go_simp
                    go_at_call 12
                    refine (odd_yes HT3.out _).mono ?_
                    rintro e vv ⟨rfl, hb⟩
                    have h1 := H0.out.ext hb
                    clear hb H0
                    go_wp2_with (fail)
                    refine hK.out _ _ h1 (fun hHeld => ?_)
                    clear hK K h1
                    try simp only [Act.put, List.getElem_toArray, List.getElem_cons_succ, List.getElem_cons_zero, List.setIfInBounds_toArray, List.set_cons_zero, List.set_cons_succ]
                    refine wpAnyH_ready (rs := [5]) (by kernel_rfl) (by simp) (AllReadyH.cons rfl (fun K hK => ?_) AllReadyH.nil)
                    have h0 := hHeld
                    clear hHeld
                    try simp only [List.getElem_toArray, List.getElem_cons_succ, List.getElem_cons_zero]
                    have H0 := Lib.hid h0
                    clear h0
                    go_simp
                    go_at_call 25
                    refine (selF_yes ((u * (v * v * v) * p0) * i0) (-((u * (v * v * v) * p0) * i0)) _).mono ?_
                    rintro e vv ⟨rfl, hb⟩
                    have h1 := H0.out.ext hb
                    clear hb H0
                    go_wp2_with (fail)
                    refine hK.out _ _ h1 (fun hHeld => ?_)
                    clear hK K h1
                    try simp only [Act.put, List.getElem_toArray, List.getElem_cons_succ, List.getElem_cons_zero, List.setIfInBounds_toArray, List.set_cons_zero, List.set_cons_succ]
                    refine wpAnyH_ready (rs := [6]) (by kernel_rfl) (by simp) (AllReadyH.cons rfl (fun K hK => ?_) AllReadyH.nil)
                    have h0 := hHeld
                    clear hHeld
                    try simp only [List.getElem_toArray, List.getElem_cons_succ, List.getElem_cons_zero]
                    rw [if_pos (by rfl)]
                    obtain ⟨old, hold, kold⟩ := Fr.old h0 (g := w.heap.size + 1 + 1) (t := 27) (n := 4) (by simp)
                    refine wp_store_row 27 (.tmp 4) (.tmp 49) rfl (w.heap.size + 1 + 1) (ev (-((u * (v * v * v) * p0) * i0))) rfl rfl 27 old kold (info_ev _) hold (ev_one _) ?_
                    refine hK.out _ _ (Fr.setAny h0 (g := w.heap.size + 1 + 1) (t := 27) (ev_size _) (by simp) (by simp <;> omega)) (fun hHeld => ?_)
                    have kb := kold.setRow_same (ev (-((u * (v * v * v) * p0) * i0)))
                    clear hK K h0 hold
                    try simp only [Act.put, List.getElem_toArray, List.getElem_cons_succ, List.getElem_cons_zero, List.setIfInBounds_toArray, List.set_cons_zero, List.set_cons_succ]
                    refine wpAnyH_take (i := 7) (v := ?_) rfl (by kernel_rfl) (by kernel_rfl) (by kernel_rfl) (fun _ _ _ h => h) (Or.inl ⟨by rfl, ?_⟩) hHeld ?_
                    rotate_left
                    · (intro W hSw; (try dsimp only at hSw); (try simp only [List.getElem_toArray, List.getElem_cons_succ, List.getElem_cons_zero]); go_simp; try with_reducible rfl)
                    try simp only [Act.put, List.getElem_toArray, List.getElem_cons_succ, List.getElem_cons_zero, List.setIfInBounds_toArray, List.set_cons_zero, List.set_cons_succ]
                    refine wpAnyH_done (by kernel_rfl) ?_ _
                    have HG := Lib.hid hHeld
                    clear hHeld
                    go_wp2_with (fail)
                    have hres : X = ((-((u * (v * v * v) * p0) * i0)), true) := by
                      rw [HX.out, ← HI0.out]
                      rw [rootC_a HP0.out HT1.out HT2.out, evenOf_yes HT3.out]
                    rw [hres]
                    exact bodyPost_ret (results_row_tmp rfl rfl rfl kb Tryd.underlying27 rfl (info_ev _)) rfl ⟨rfl, HG.out.below⟩
                · as_aux_lemma =>
                    have HT3 := Lib.hid ht3
                    clear ht3
                    refine wp_region_held_drew (S := fun W => Fr w W [(g8, 27, ev ((u * (v * v * v) * p0) * i0)), (w.heap.size + 1, 27, ev v), (w.heap.size, 27, ev u)] [(w.heap.size + 1 + 1, 27, 4)]) (by kernel_rfl) ?_ (fun hHeld => ?_)
                    · exact (HF.out.sub (by simp) (by simp)).drew
                    refine wpAnyH_take (i := 0) (v := .agg (ev ((u * (v * v * v) * p0) * i0))) rfl (by kernel_rfl) (by kernel_rfl) (by kernel_rfl) (fun _ _ _ h => h) (yields_row (by rfl) 27 (.tmp 8) rfl (g8) rfl 27 (ev ((u * (v * v * v) * p0) * i0)) _ (fun W (h : Fr _ W _ _) => h.get (by simp)) Tryd.underlying27 rfl (info_ev _)) hHeld ?_
                    try simp only [Act.put, List.getElem_toArray, List.getElem_cons_succ, List.getElem_cons_zero, List.setIfInBounds_toArray, List.set_cons_zero, List.set_cons_succ]
                    refine wpAnyH_take (i := 1) (v := .agg (ev ((u * (v * v * v) * p0) * i0))) rfl (by kernel_rfl) (by kernel_rfl) (by kernel_rfl) (fun _ _ _ h => h) (yields_row (by rfl) 27 (.tmp 8) rfl (g8) rfl 27 (ev ((u * (v * v * v) * p0) * i0)) _ (fun W (h : Fr _ W _ _) => h.get (by simp)) Tryd.underlying27 rfl (info_ev _)) hHeld ?_
                    try simp only [Act.put, List.getElem_toArray, List.getElem_cons_succ, List.getElem_cons_zero, List.setIfInBounds_toArray, List.set_cons_zero, List.set_cons_succ]
                    refine wpAnyH_take (i := 3) (v := .agg (ev ((u * (v * v * v) * p0) * i0))) rfl (by kernel_rfl) (by kernel_rfl) (by kernel_rfl) (fun _ _ _ h => h) (yields_row (by rfl) 27 (.tmp 8) rfl (g8) rfl 27 (ev ((u * (v * v * v) * p0) * i0)) _ (fun W (h : Fr _ W _ _) => h.get (by simp)) Tryd.underlying27 rfl (info_ev _)) hHeld ?_
                    try simp only [Act.put, List.getElem_toArray, List.getElem_cons_succ, List.getElem_cons_zero, List.setIfInBounds_toArray, List.set_cons_zero, List.set_cons_succ]
                    refine wpAnyH_ready (rs := [2]) (by kernel_rfl) (by simp) (AllReadyH.cons rfl (fun K hK => ?_) AllReadyH.nil)
                    have h0 := hHeld
                    clear hHeld
                    try simp only [List.getElem_toArray, List.getElem_cons_succ, List.getElem_cons_zero]
                    have H0 := Lib.hid h0
                    clear h0
                    go_simp
                    go_at_call 23
                    refine (negF ((u * (v * v * v) * p0) * i0) _ (Fr.pg H0.out HP.out)).mono ?_
                    rintro e vv ⟨rfl, hb⟩
                    have h1 := H0.out.ext hb
                    clear hb H0
                    go_wp2_with (fail)
                    refine hK.out _ _ h1 (fun hHeld => ?_)
                    clear hK K h1
                    try simp only [Act.put, List.getElem_toArray, List.getElem_cons_succ, List.getElem_cons_zero, List.setIfInBounds_toArray, List.set_cons_zero, List.set_cons_succ]
                    refine wpAnyH_ready (rs := [4]) (by kernel_rfl) (by simp) (AllReadyH.cons rfl (fun K hK => ?_) AllReadyH.nil)
                    have h0 := hHeld
                    clear hHeld
                    try simp only [List.getElem_toArray, List.getElem_cons_succ, List.getElem_cons_zero]
                    have H0 := Lib.hid h0
                    clear h0
                    go_simp
                    go_at_call 12
                    refine (odd_no HT3.out _).mono ?_
                    rintro e vv ⟨rfl, hb⟩
                    have h1 := H0.out.ext hb
                    clear hb H0
                    go_wp2_with (fail)
                    refine hK.out _ _ h1 (fun hHeld => ?_)
                    clear hK K h1
                    try simp only [Act.put, List.getElem_toArray, List.getElem_cons_succ, List.getElem_cons_zero, List.setIfInBounds_toArray, List.set_cons_zero, List.set_cons_succ]
                    refine wpAnyH_ready (rs := [5]) (by kernel_rfl) (by simp) (AllReadyH.cons rfl (fun K hK => ?_) AllReadyH.nil)
                    have h0 := hHeld
                    clear hHeld
                    try simp only [List.getElem_toArray, List.getElem_cons_succ, List.getElem_cons_zero]
                    have H0 := Lib.hid h0
                    clear h0
                    go_simp
                    go_at_call 25
                    refine (selF_no ((u * (v * v * v) * p0) * i0) (-((u * (v * v * v) * p0) * i0)) _).mono ?_
                    rintro e vv ⟨rfl, hb⟩
                    have h1 := H0.out.ext hb
                    clear hb H0
                    go_wp2_with (fail)
                    refine hK.out _ _ h1 (fun hHeld => ?_)
                    clear hK K h1
                    try simp only [Act.put, List.getElem_toArray, List.getElem_cons_succ, List.getElem_cons_zero, List.setIfInBounds_toArray, List.set_cons_zero, List.set_cons_succ]
                    refine wpAnyH_ready (rs := [6]) (by kernel_rfl) (by simp) (AllReadyH.cons rfl (fun K hK => ?_) AllReadyH.nil)
                    have h0 := hHeld
                    clear hHeld
                    try simp only [List.getElem_toArray, List.getElem_cons_succ, List.getElem_cons_zero]
                    rw [if_pos (by rfl)]
                    obtain ⟨old, hold, kold⟩ := Fr.old h0 (g := w.heap.size + 1 + 1) (t := 27) (n := 4) (by simp)
                    refine wp_store_row 27 (.tmp 4) (.tmp 49) rfl (w.heap.size + 1 + 1) (ev ((u * (v * v * v) * p0) * i0)) rfl rfl 27 old kold (info_ev _) hold (ev_one _) ?_
                    refine hK.out _ _ (Fr.setAny h0 (g := w.heap.size + 1 + 1) (t := 27) (ev_size _) (by simp) (by simp <;> omega)) (fun hHeld => ?_)
                    have kb := kold.setRow_same (ev ((u * (v * v * v) * p0) * i0))
                    clear hK K h0 hold
                    try simp only [Act.put, List.getElem_toArray, List.getElem_cons_succ, List.getElem_cons_zero, List.setIfInBounds_toArray, List.set_cons_zero, List.set_cons_succ]
                    refine wpAnyH_take (i := 7) (v := ?_) rfl (by kernel_rfl) (by kernel_rfl) (by kernel_rfl) (fun _ _ _ h => h) (Or.inl ⟨by rfl, ?_⟩) hHeld ?_
                    rotate_left
                    · (intro W hSw; (try dsimp only at hSw); (try simp only [List.getElem_toArray, List.getElem_cons_succ, List.getElem_cons_zero]); go_simp; try with_reducible rfl)
                    try simp only [Act.put, List.getElem_toArray, List.getElem_cons_succ, List.getElem_cons_zero, List.setIfInBounds_toArray, List.set_cons_zero, List.set_cons_succ]
                    refine wpAnyH_done (by kernel_rfl) ?_ _
                    have HG := Lib.hid hHeld
                    clear hHeld
                    go_wp2_with (fail)
                    have hres : X = (((u * (v * v * v) * p0) * i0), true) := by
                      rw [HX.out, ← HI0.out]
                      rw [rootC_a HP0.out HT1.out HT2.out, evenOf_no HT3.out]
                    rw [hres]
                    exact bodyPost_ret (results_row_tmp rfl rfl rfl kb Tryd.underlying27 rfl (info_ev _)) rfl ⟨rfl, HG.out.below⟩
            · as_aux_lemma =>
                have HT2 := Lib.hid ht2
                clear ht2
                refine wp_region_held_drew (S := fun W => Fr w W [(g8, 27, ev ((u * (v * v * v) * p0) * i0)), (w.heap.size + 1, 27, ev v), (w.heap.size, 27, ev u)] [(w.heap.size + 1 + 1, 27, 4)]) (by kernel_rfl) ?_ (fun hHeld => ?_)
                · exact (HF.out.sub (by simp) (by simp)).drew
                refine wpAnyH_take (i := 0) (v := .agg (ev v)) rfl (by kernel_rfl) (by kernel_rfl) (by kernel_rfl) (fun _ _ _ h => h) (yields_row (by rfl) 27 (.tmp 3) rfl (w.heap.size + 1) rfl 27 (ev v) _ (fun W (h : Fr _ W _ _) => h.get (by simp)) Tryd.underlying27 rfl (info_ev _)) hHeld ?_
                try simp only [Act.put, List.getElem_toArray, List.getElem_cons_succ, List.getElem_cons_zero, List.setIfInBounds_toArray, List.set_cons_zero, List.set_cons_succ]
                refine wpAnyH_take (i := 1) (v := .agg (ev ((u * (v * v * v) * p0) * i0))) rfl (by kernel_rfl) (by kernel_rfl) (by kernel_rfl) (fun _ _ _ h => h) (yields_row (by rfl) 27 (.tmp 8) rfl (g8) rfl 27 (ev ((u * (v * v * v) * p0) * i0)) _ (fun W (h : Fr _ W _ _) => h.get (by simp)) Tryd.underlying27 rfl (info_ev _)) hHeld ?_
                try simp only [Act.put, List.getElem_toArray, List.getElem_cons_succ, List.getElem_cons_zero, List.setIfInBounds_toArray, List.set_cons_zero, List.set_cons_succ]
                refine wpAnyH_take (i := 4) (v := .agg (ev u)) rfl (by kernel_rfl) (by kernel_rfl) (by kernel_rfl) (fun _ _ _ h => h) (yields_row (by rfl) 27 (.tmp 2) rfl (w.heap.size) rfl 27 (ev u) _ (fun W (h : Fr _ W _ _) => h.get (by simp)) Tryd.underlying27 rfl (info_ev _)) hHeld ?_
                try simp only [Act.put, List.getElem_toArray, List.getElem_cons_succ, List.getElem_cons_zero, List.setIfInBounds_toArray, List.set_cons_zero, List.set_cons_succ]
                refine wpAnyH_ready (rs := [2]) (by kernel_rfl) (by simp) (AllReadyH.cons rfl (fun K hK => ?_) AllReadyH.nil)
                have h0 := hHeld
                clear hHeld
                try simp only [List.getElem_toArray, List.getElem_cons_succ, List.getElem_cons_zero]
                have H0 := Lib.hid h0
                clear h0
                go_simp
                go_at_call 5
                refine (squareF ((u * (v * v * v) * p0) * i0) _ (Fr.pg H0.out HP.out)).mono ?_
                rintro e vv ⟨rfl, hb⟩
                have h1 := H0.out.ext hb
                clear hb H0
                go_wp2_with (fail)
                refine hK.out _ _ h1 (fun hHeld => ?_)
                clear hK K h1
                try simp only [Act.put, List.getElem_toArray, List.getElem_cons_succ, List.getElem_cons_zero, List.setIfInBounds_toArray, List.set_cons_zero, List.set_cons_succ]
                refine wpAnyH_ready (rs := [3]) (by kernel_rfl) (by simp) (AllReadyH.cons rfl (fun K hK => ?_) AllReadyH.nil)
                have h0 := hHeld
                clear hHeld
                try simp only [List.getElem_toArray, List.getElem_cons_succ, List.getElem_cons_zero]
                have H0 := Lib.hid h0
                clear h0
                go_simp
                go_at_call 6
                refine (mulF v (((u * (v * v * v) * p0) * i0) * ((u * (v * v * v) * p0) * i0)) _ (Fr.pg H0.out HP.out)).mono ?_
                rintro e vv ⟨rfl, hb⟩
                have h1 := H0.out.ext hb
                clear hb H0
                go_wp2_with (fail)
                refine hK.out _ _ h1 (fun hHeld => ?_)
                clear hK K h1
                try simp only [Act.put, List.getElem_toArray, List.getElem_cons_succ, List.getElem_cons_zero, List.setIfInBounds_toArray, List.set_cons_zero, List.set_cons_succ]
                refine wpAnyH_ready (rs := [5]) (by kernel_rfl) (by simp) (AllReadyH.cons rfl (fun K hK => ?_) AllReadyH.nil)
                have h0 := hHeld
                clear hHeld
                try simp only [List.getElem_toArray, List.getElem_cons_succ, List.getElem_cons_zero]
                have H0 := Lib.hid h0
                clear h0
                go_simp
                go_at_call 13
                refine (equal_no HT2.out _).mono ?_
                rintro e vv ⟨rfl, hb⟩
                have h1 := H0.out.ext hb
                clear hb H0
                go_wp2_with (fail)
                refine hK.out _ _ h1 (fun hHeld => ?_)
                clear hK K h1
                try simp only [Act.put, List.getElem_toArray, List.getElem_cons_succ, List.getElem_cons_zero, List.setIfInBounds_toArray, List.set_cons_zero, List.set_cons_succ]
                refine wpAnyH_take (i := 6) (v := ?_) rfl (by kernel_rfl) (by kernel_rfl) (by kernel_rfl) (fun _ _ _ h => h) (Or.inl ⟨by rfl, ?_⟩) hHeld ?_
                rotate_left
                · (intro W hSw; (try dsimp only at hSw); (try simp only [List.getElem_toArray, List.getElem_cons_succ, List.getElem_cons_zero]); go_simp; try with_reducible rfl)
                try simp only [Act.put, List.getElem_toArray, List.getElem_cons_succ, List.getElem_cons_zero, List.setIfInBounds_toArray, List.set_cons_zero, List.set_cons_succ]
                refine wpAnyH_done (by kernel_rfl) ?_ _
                have HF := Lib.hid hHeld
                clear hHeld
                obtain ⟨old, hold, kR⟩ := HF.out.old (g := w.heap.size + 1 + 1) (t := 27) (n := 4) (by simp)
                have kS := kR.setRow_same #[.int .u64 0, .int .u64 0, .int .u64 0, .int .u64 0]
                have hB := below_setRow HF.out.below (show w.heap.size ≤ w.heap.size + 1 + 1 by omega) #[.int .u64 0, .int .u64 0, .int .u64 0, .int .u64 0]
                have HS := Lib.hid kS
                have HB := Lib.hid hB
                have HO := Lib.hid hold
                clear kS hB hold
                go_wp2_with (first | (refine wpList_store_row rfl 27 (.tmp 4) (.tmp 43) rfl (w.heap.size + 1 + 1) #[.int .u64 0, .int .u64 0, .int .u64 0, .int .u64 0] rfl rfl 27 old kR info_elem HO.out (es_one 0) ?_))
                have hres : X = (0, false) := by
                  rw [HX.out, ← HI0.out]
                  rw [rootC_b HP0.out HT1.out HT2.out]
                rw [hres]
                exact bodyPost_ret (results_row_tmp rfl rfl rfl (show Blk _ _ _ (ev 0) from HS.out) Tryd.underlying27 rfl (info_ev _)) rfl ⟨rfl, HB.out⟩
          · have h0 := hHeld
            clear hHeld
            try simp only [List.getElem_toArray, List.getElem_cons_succ, List.getElem_cons_zero]
            have H0 := Lib.hid h0
            clear h0
            go_simp
            go_at_call 24
            refine (rootI_of HI0.out _ (Fr.pg H0.out HP.out)).mono ?_
            rintro e vv ⟨rfl, hb⟩
            have kz := KZ.out.below hb KZ.out.lt
            clear KZ
            have KZ := Lib.hid kz
            clear kz
            have h1 := H0.out.ext hb
            clear hb H0
            go_wp2_with (fail)
            refine hK.out _ _ h1 (fun hHeld => ?_)
            clear hK K h1
            try simp only [Act.put, List.getElem_toArray, List.getElem_cons_succ, List.getElem_cons_zero, List.setIfInBounds_toArray, List.set_cons_zero, List.set_cons_succ]
            refine wpAnyH_ready (rs := [0]) (by kernel_rfl) (by simp) (AllReadyH.cons rfl (fun K hK => ?_) AllReadyH.nil)
            have h0 := hHeld
            clear hHeld
            try simp only [List.getElem_toArray, List.getElem_cons_succ, List.getElem_cons_zero]
            rw [if_pos (by rfl)]
            refine wp_load_row 27 (.tmp 8) rfl (g8) rfl 27 (ev (u * (v * v * v) * p0)) (0, 0) _ KZ.out Tryd.underlying27 rfl (info_ev _) ?_
            refine hK.out _ _ h0 (fun hHeld => ?_)
            clear hK K h0
            try simp only [Act.put, List.getElem_toArray, List.getElem_cons_succ, List.getElem_cons_zero, List.setIfInBounds_toArray, List.set_cons_zero, List.set_cons_succ]
            refine wpAnyH_ready (rs := [2]) (by kernel_rfl) (by simp) (AllReadyH.cons rfl (fun K hK => ?_) AllReadyH.nil)
            have h0 := hHeld
            clear hHeld
            try simp only [List.getElem_toArray, List.getElem_cons_succ, List.getElem_cons_zero]
            have H0 := Lib.hid h0
            clear h0
            go_simp
            go_at_call 6
            refine (mulF (u * (v * v * v) * p0) i0 _ (Fr.pg H0.out HP.out)).mono ?_
            rintro e vv ⟨rfl, hb⟩
            have kz := KZ.out.below hb KZ.out.lt
            clear KZ
            have KZ := Lib.hid kz
            clear kz
            have h1 := H0.out.ext hb
            clear hb H0
            go_wp2_with (fail)
            refine hK.out _ _ h1 (fun hHeld => ?_)
            clear hK K h1
            try simp only [Act.put, List.getElem_toArray, List.getElem_cons_succ, List.getElem_cons_zero, List.setIfInBounds_toArray, List.set_cons_zero, List.set_cons_succ]
            refine wpAnyH_ready (rs := [3]) (by kernel_rfl) (by simp) (AllReadyH.cons rfl (fun K hK => ?_) AllReadyH.nil)
            have h0 := hHeld
            clear hHeld
            try simp only [List.getElem_toArray, List.getElem_cons_succ, List.getElem_cons_zero]
            rw [if_pos (by rfl)]
            refine wp_store_row 27 (.tmp 8) (.tmp 35) rfl (g8) (ev ((u * (v * v * v) * p0) * i0)) rfl rfl 27 _ KZ.out (info_ev _) ((ev_size _).trans (ev_size _).symm) (ev_one _) ?_
            refine hK.out _ _ (Fr.setOut h0 (g := g8) (by omega) (by simp <;> omega) (by simp <;> omega) _) (fun hHeld => ?_)
            have kb := KZ.out.setRow_same (ev ((u * (v * v * v) * p0) * i0))
            clear hK K h0
            try simp only [Act.put, List.getElem_toArray, List.getElem_cons_succ, List.getElem_cons_zero, List.setIfInBounds_toArray, List.set_cons_zero, List.set_cons_succ]
            refine wpAnyH_done (by kernel_rfl) ?_ _
            have hf9 := hHeld.more kb
            have HF := Lib.hid hf9
            clear hHeld hf9 kb KZ
            go_wp2_with (fail)
            by_cases ht2 : v * (((u * (v * v * v) * p0) * i0) * ((u * (v * v * v) * p0) * i0)) = u
            · as_aux_lemma =>
                have HT2 := Lib.hid ht2
                clear ht2
                refine wp_region_held_drew (S := fun W => Fr w W [(g8, 27, ev ((u * (v * v * v) * p0) * i0)), (w.heap.size + 1, 27, ev v), (w.heap.size, 27, ev u)] [(w.heap.size + 1 + 1, 27, 4)]) (by kernel_rfl) ?_ (fun hHeld => ?_)
                · exact (HF.out.sub (by simp) (by simp)).drew
                refine wpAnyH_take (i := 0) (v := .agg (ev v)) rfl (by kernel_rfl) (by kernel_rfl) (by kernel_rfl) (fun _ _ _ h => h) (yields_row (by rfl) 27 (.tmp 3) rfl (w.heap.size + 1) rfl 27 (ev v) _ (fun W (h : Fr _ W _ _) => h.get (by simp)) Tryd.underlying27 rfl (info_ev _)) hHeld ?_
                try simp only [Act.put, List.getElem_toArray, List.getElem_cons_succ, List.getElem_cons_zero, List.setIfInBounds_toArray, List.set_cons_zero, List.set_cons_succ]
                refine wpAnyH_take (i := 1) (v := .agg (ev ((u * (v * v * v) * p0) * i0))) rfl (by kernel_rfl) (by kernel_rfl) (by kernel_rfl) (fun _ _ _ h => h) (yields_row (by rfl) 27 (.tmp 8) rfl (g8) rfl 27 (ev ((u * (v * v * v) * p0) * i0)) _ (fun W (h : Fr _ W _ _) => h.get (by simp)) Tryd.underlying27 rfl (info_ev _)) hHeld ?_
                try simp only [Act.put, List.getElem_toArray, List.getElem_cons_succ, List.getElem_cons_zero, List.setIfInBounds_toArray, List.set_cons_zero, List.set_cons_succ]
                refine wpAnyH_take (i := 4) (v := .agg (ev u)) rfl (by kernel_rfl) (by kernel_rfl) (by kernel_rfl) (fun _ _ _ h => h) (yields_row (by rfl) 27 (.tmp 2) rfl (w.heap.size) rfl 27 (ev u) _ (fun W (h : Fr _ W _ _) => h.get (by simp)) Tryd.underlying27 rfl (info_ev _)) hHeld ?_
                try simp only [Act.put, List.getElem_toArray, List.getElem_cons_succ, List.getElem_cons_zero, List.setIfInBounds_toArray, List.set_cons_zero, List.set_cons_succ]
                refine wpAnyH_ready (rs := [2]) (by kernel_rfl) (by simp) (AllReadyH.cons rfl (fun K hK => ?_) AllReadyH.nil)
                have h0 := hHeld
                clear hHeld
                try simp only [List.getElem_toArray, List.getElem_cons_succ, List.getElem_cons_zero]
                have H0 := Lib.hid h0
                clear h0
                go_simp
                go_at_call 5
                refine (squareF ((u * (v * v * v) * p0) * i0) _ (Fr.pg H0.out HP.out)).mono ?_
                rintro e vv ⟨rfl, hb⟩
                have h1 := H0.out.ext hb
                clear hb H0
                go_wp2_with (fail)
                refine hK.out _ _ h1 (fun hHeld => ?_)
                clear hK K h1
                try simp only [Act.put, List.getElem_toArray, List.getElem_cons_succ, List.getElem_cons_zero, List.setIfInBounds_toArray, List.set_cons_zero, List.set_cons_succ]
                refine wpAnyH_ready (rs := [3]) (by kernel_rfl) (by simp) (AllReadyH.cons rfl (fun K hK => ?_) AllReadyH.nil)
                have h0 := hHeld
                clear hHeld
                try simp only [List.getElem_toArray, List.getElem_cons_succ, List.getElem_cons_zero]
                have H0 := Lib.hid h0
                clear h0
                go_simp
                go_at_call 6
                refine (mulF v (((u * (v * v * v) * p0) * i0) * ((u * (v * v * v) * p0) * i0)) _ (Fr.pg H0.out HP.out)).mono ?_
                rintro e vv ⟨rfl, hb⟩
                have h1 := H0.out.ext hb
                clear hb H0
                go_wp2_with (fail)
                refine hK.out _ _ h1 (fun hHeld => ?_)
                clear hK K h1
                try simp only [Act.put, List.getElem_toArray, List.getElem_cons_succ, List.getElem_cons_zero, List.setIfInBounds_toArray, List.set_cons_zero, List.set_cons_succ]
                refine wpAnyH_ready (rs := [5]) (by kernel_rfl) (by simp) (AllReadyH.cons rfl (fun K hK => ?_) AllReadyH.nil)
                have h0 := hHeld
                clear hHeld
                try simp only [List.getElem_toArray, List.getElem_cons_succ, List.getElem_cons_zero]
                have H0 := Lib.hid h0
                clear h0
                go_simp
                go_at_call 13
                refine (equal_yes HT2.out _).mono ?_
                rintro e vv ⟨rfl, hb⟩
                have h1 := H0.out.ext hb
                clear hb H0
                go_wp2_with (fail)
                refine hK.out _ _ h1 (fun hHeld => ?_)
                clear hK K h1
                try simp only [Act.put, List.getElem_toArray, List.getElem_cons_succ, List.getElem_cons_zero, List.setIfInBounds_toArray, List.set_cons_zero, List.set_cons_succ]
                refine wpAnyH_take (i := 6) (v := ?_) rfl (by kernel_rfl) (by kernel_rfl) (by kernel_rfl) (fun _ _ _ h => h) (Or.inl ⟨by rfl, ?_⟩) hHeld ?_
                rotate_left
                · (intro W hSw; (try dsimp only at hSw); (try simp only [List.getElem_toArray, List.getElem_cons_succ, List.getElem_cons_zero]); go_simp; try with_reducible rfl)
                try simp only [Act.put, List.getElem_toArray, List.getElem_cons_succ, List.getElem_cons_zero, List.setIfInBounds_toArray, List.set_cons_zero, List.set_cons_succ]
                refine wpAnyH_done (by kernel_rfl) ?_ _
                have HF := Lib.hid hHeld
                clear hHeld
                go_wp2_with (fail)
                by_cases ht3 : (((u * (v * v * v) * p0) * i0)).val % 2 = 1
                · as_aux_lemma =>
                    have HT3 := Lib.hid ht3
                    clear ht3
                    refine wp_region_held_drew (S := fun W => Fr w W [(g8, 27, ev ((u * (v * v * v) * p0) * i0)), (w.heap.size + 1, 27, ev v), (w.heap.size, 27, ev u)] [(w.heap.size + 1 + 1, 27, 4)]) (by kernel_rfl) ?_ (fun hHeld => ?_)
                    · exact (HF.out.sub (by simp) (by simp)).drew
                    refine wpAnyH_take (i := 0) (v := .agg (ev ((u * (v * v * v) * p0) * i0))) rfl (by kernel_rfl) (by kernel_rfl) (by kernel_rfl) (fun _ _ _ h => h) (yields_row (by rfl) 27 (.tmp 8) rfl (g8) rfl 27 (ev ((u * (v * v * v) * p0) * i0)) _ (fun W (h : Fr _ W _ _) => h.get (by simp)) Tryd.underlying27 rfl (info_ev _)) hHeld ?_
                    try simp only [Act.put, List.getElem_toArray, List.getElem_cons_succ, List.getElem_cons_zero, List.setIfInBounds_toArray, List.set_cons_zero, List.set_cons_succ]
                    refine wpAnyH_take (i := 1) (v := .agg (ev ((u * (v * v * v) * p0) * i0))) rfl (by kernel_rfl) (by kernel_rfl) (by kernel_rfl) (fun _ _ _ h => h) (yields_row (by rfl) 27 (.tmp 8) rfl (g8) rfl 27 (ev ((u * (v * v * v) * p0) * i0)) _ (fun W (h : Fr _ W _ _) => h.get (by simp)) Tryd.underlying27 rfl (info_ev _)) hHeld ?_
                    try simp only [Act.put, List.getElem_toArray, List.getElem_cons_succ, List.getElem_cons_zero, List.setIfInBounds_toArray, List.set_cons_zero, List.set_cons_succ]
                    refine wpAnyH_take (i := 3) (v := .agg (ev ((u * (v * v * v) * p0) * i0))) rfl (by kernel_rfl) (by kernel_rfl) (by kernel_rfl) (fun _ _ _ h => h) (yields_row (by rfl) 27 (.tmp 8) rfl (g8) rfl 27 (ev ((u * (v * v * v) * p0) * i0)) _ (fun W (h : Fr _ W _ _) => h.get (by simp)) Tryd.underlying27 rfl (info_ev _)) hHeld ?_
                    try simp only [Act.put, List.getElem_toArray, List.getElem_cons_succ, List.getElem_cons_zero, List.setIfInBounds_toArray, List.set_cons_zero, List.set_cons_succ]
                    refine wpAnyH_ready (rs := [2]) (by kernel_rfl) (by simp) (AllReadyH.cons rfl (fun K hK => ?_) AllReadyH.nil)
                    have h0 := hHeld
                    clear hHeld
                    try simp only [List.getElem_toArray, List.getElem_cons_succ, List.getElem_cons_zero]
                    have H0 := Lib.hid h0
                    clear h0
                    go_simp
                    go_at_call 23
                    refine (negF ((u * (v * v * v) * p0) * i0) _ (Fr.pg H0.out HP.out)).mono ?_
                    rintro e vv ⟨rfl, hb⟩
                    have h1 := H0.out.ext hb
                    clear hb H0
                    go_wp2_with (fail)
                    refine hK.out _ _ h1 (fun hHeld => ?_)
                    clear hK K h1
                    try simp only [Act.put, List.getElem_toArray, List.getElem_cons_succ, List.getElem_cons_zero, List.setIfInBounds_toArray, List.set_cons_zero, List.set_cons_succ]
                    refine wpAnyH_ready (rs := [4]) (by kernel_rfl) (by simp) (AllReadyH.cons rfl (fun K hK => ?_) AllReadyH.nil)
                    have h0 := hHeld
                    clear hHeld
                    try simp only [List.getElem_toArray, List.getElem_cons_succ, List.getElem_cons_zero]
                    have H0 := Lib.hid h0
                    clear h0
                    go_simp
                    go_at_call 12
                    refine (odd_yes HT3.out _).mono ?_
                    rintro e vv ⟨rfl, hb⟩
                    have h1 := H0.out.ext hb
                    clear hb H0
                    go_wp2_with (fail)
                    refine hK.out _ _ h1 (fun hHeld => ?_)
                    clear hK K h1
                    try simp only [Act.put, List.getElem_toArray, List.getElem_cons_succ, List.getElem_cons_zero, List.setIfInBounds_toArray, List.set_cons_zero, List.set_cons_succ]
                    refine wpAnyH_ready (rs := [5]) (by kernel_rfl) (by simp) (AllReadyH.cons rfl (fun K hK => ?_) AllReadyH.nil)
                    have h0 := hHeld
                    clear hHeld
                    try simp only [List.getElem_toArray, List.getElem_cons_succ, List.getElem_cons_zero]
                    have H0 := Lib.hid h0
                    clear h0
                    go_simp
                    go_at_call 25
                    refine (selF_yes ((u * (v * v * v) * p0) * i0) (-((u * (v * v * v) * p0) * i0)) _).mono ?_
                    rintro e vv ⟨rfl, hb⟩
                    have h1 := H0.out.ext hb
                    clear hb H0
                    go_wp2_with (fail)
                    refine hK.out _ _ h1 (fun hHeld => ?_)
                    clear hK K h1
                    try simp only [Act.put, List.getElem_toArray, List.getElem_cons_succ, List.getElem_cons_zero, List.setIfInBounds_toArray, List.set_cons_zero, List.set_cons_succ]
                    refine wpAnyH_ready (rs := [6]) (by kernel_rfl) (by simp) (AllReadyH.cons rfl (fun K hK => ?_) AllReadyH.nil)
                    have h0 := hHeld
                    clear hHeld
                    try simp only [List.getElem_toArray, List.getElem_cons_succ, List.getElem_cons_zero]
                    rw [if_pos (by rfl)]
                    obtain ⟨old, hold, kold⟩ := Fr.old h0 (g := w.heap.size + 1 + 1) (t := 27) (n := 4) (by simp)
                    refine wp_store_row 27 (.tmp 4) (.tmp 49) rfl (w.heap.size + 1 + 1) (ev (-((u * (v * v * v) * p0) * i0))) rfl rfl 27 old kold (info_ev _) hold (ev_one _) ?_
                    refine hK.out _ _ (Fr.setAny h0 (g := w.heap.size + 1 + 1) (t := 27) (ev_size _) (by simp) (by simp <;> omega)) (fun hHeld => ?_)
                    have kb := kold.setRow_same (ev (-((u * (v * v * v) * p0) * i0)))
                    clear hK K h0 hold
                    try simp only [Act.put, List.getElem_toArray, List.getElem_cons_succ, List.getElem_cons_zero, List.setIfInBounds_toArray, List.set_cons_zero, List.set_cons_succ]
                    refine wpAnyH_take (i := 7) (v := ?_) rfl (by kernel_rfl) (by kernel_rfl) (by kernel_rfl) (fun _ _ _ h => h) (Or.inl ⟨by rfl, ?_⟩) hHeld ?_
                    rotate_left
                    · (intro W hSw; (try dsimp only at hSw); (try simp only [List.getElem_toArray, List.getElem_cons_succ, List.getElem_cons_zero]); go_simp; try with_reducible rfl)
                    try simp only [Act.put, List.getElem_toArray, List.getElem_cons_succ, List.getElem_cons_zero, List.setIfInBounds_toArray, List.set_cons_zero, List.set_cons_succ]
                    refine wpAnyH_done (by kernel_rfl) ?_ _
                    have HG := Lib.hid hHeld
                    clear hHeld
                    go_wp2_with (fail)
                    have hres : X = ((-((u * (v * v * v) * p0) * i0)), true) := by
                      rw [HX.out, ← HI0.out]
                      rw [rootC_a HP0.out HT1.out HT2.out, evenOf_yes HT3.out]
                    rw [hres]
                    exact bodyPost_ret (results_row_tmp rfl rfl rfl kb Tryd.underlying27 rfl (info_ev _)) rfl ⟨rfl, HG.out.below⟩
                · as_aux_lemma =>
                    have HT3 := Lib.hid ht3
                    clear ht3
                    refine wp_region_held_drew (S := fun W => Fr w W [(g8, 27, ev ((u * (v * v * v) * p0) * i0)), (w.heap.size + 1, 27, ev v), (w.heap.size, 27, ev u)] [(w.heap.size + 1 + 1, 27, 4)]) (by kernel_rfl) ?_ (fun hHeld => ?_)
                    · exact (HF.out.sub (by simp) (by simp)).drew
                    refine wpAnyH_take (i := 0) (v := .agg (ev ((u * (v * v * v) * p0) * i0))) rfl (by kernel_rfl) (by kernel_rfl) (by kernel_rfl) (fun _ _ _ h => h) (yields_row (by rfl) 27 (.tmp 8) rfl (g8) rfl 27 (ev ((u * (v * v * v) * p0) * i0)) _ (fun W (h : Fr _ W _ _) => h.get (by simp)) Tryd.underlying27 rfl (info_ev _)) hHeld ?_
                    try simp only [Act.put, List.getElem_toArray, List.getElem_cons_succ, List.getElem_cons_zero, List.setIfInBounds_toArray, List.set_cons_zero, List.set_cons_succ]
                    refine wpAnyH_take (i := 1) (v := .agg (ev ((u * (v * v * v) * p0) * i0))) rfl (by kernel_rfl) (by kernel_rfl) (by kernel_rfl) (fun _ _ _ h => h) (yields_row (by rfl) 27 (.tmp 8) rfl (g8) rfl 27 (ev ((u * (v * v * v) * p0) * i0)) _ (fun W (h : Fr _ W _ _) => h.get (by simp)) Tryd.underlying27 rfl (info_ev _)) hHeld ?_
                    try simp only [Act.put, List.getElem_toArray, List.getElem_cons_succ, List.getElem_cons_zero, List.setIfInBounds_toArray, List.set_cons_zero, List.set_cons_succ]
                    refine wpAnyH_take (i := 3) (v := .agg (ev ((u * (v * v * v) * p0) * i0))) rfl (by kernel_rfl) (by kernel_rfl) (by kernel_rfl) (fun _ _ _ h => h) (yields_row (by rfl) 27 (.tmp 8) rfl (g8) rfl 27 (ev ((u * (v * v * v) * p0) * i0)) _ (fun W (h : Fr _ W _ _) => h.get (by simp)) Tryd.underlying27 rfl (info_ev _)) hHeld ?_
                    try simp only [Act.put, List.getElem_toArray, List.getElem_cons_succ, List.getElem_cons_zero, List.setIfInBounds_toArray, List.set_cons_zero, List.set_cons_succ]
                    refine wpAnyH_ready (rs := [2]) (by kernel_rfl) (by simp) (AllReadyH.cons rfl (fun K hK => ?_) AllReadyH.nil)
                    have h0 := hHeld
                    clear hHeld
                    try simp only [List.getElem_toArray, List.getElem_cons_succ, List.getElem_cons_zero]
                    have H0 := Lib.hid h0
                    clear h0
                    go_simp
                    go_at_call 23
                    refine (negF ((u * (v * v * v) * p0) * i0) _ (Fr.pg H0.out HP.out)).mono ?_
                    rintro e vv ⟨rfl, hb⟩
                    have h1 := H0.out.ext hb
                    clear hb H0
                    go_wp2_with (fail)
                    refine hK.out _ _ h1 (fun hHeld => ?_)
                    clear hK K h1
                    try simp only [Act.put, List.getElem_toArray, List.getElem_cons_succ, List.getElem_cons_zero, List.setIfInBounds_toArray, List.set_cons_zero, List.set_cons_succ]
                    refine wpAnyH_ready (rs := [4]) (by kernel_rfl) (by simp) (AllReadyH.cons rfl (fun K hK => ?_) AllReadyH.nil)
                    have h0 := hHeld
                    clear hHeld
                    try simp only [List.getElem_toArray, List.getElem_cons_succ, List.getElem_cons_zero]
                    have H0 := Lib.hid h0
                    clear h0
                    go_simp
                    go_at_call 12
                    refine (odd_no HT3.out _).mono ?_
                    rintro e vv ⟨rfl, hb⟩
                    have h1 := H0.out.ext hb
                    clear hb H0
                    go_wp2_with (fail)
                    refine hK.out _ _ h1 (fun hHeld => ?_)
                    clear hK K h1
                    try simp only [Act.put, List.getElem_toArray, List.getElem_cons_succ, List.getElem_cons_zero, List.setIfInBounds_toArray, List.set_cons_zero, List.set_cons_succ]
                    refine wpAnyH_ready (rs := [5]) (by kernel_rfl) (by simp) (AllReadyH.cons rfl (fun K hK => ?_) AllReadyH.nil)
                    have h0 := hHeld
                    clear hHeld
                    try simp only [List.getElem_toArray, List.getElem_cons_succ, List.getElem_cons_zero]
                    have H0 := Lib.hid h0
                    clear h0
                    go_simp
                    go_at_call 25
                    refine (selF_no ((u * (v * v * v) * p0) * i0) (-((u * (v * v * v) * p0) * i0)) _).mono ?_
                    rintro e vv ⟨rfl, hb⟩
                    have h1 := H0.out.ext hb
                    clear hb H0
                    go_wp2_with (fail)
                    refine hK.out _ _ h1 (fun hHeld => ?_)
                    clear hK K h1
                    try simp only [Act.put, List.getElem_toArray, List.getElem_cons_succ, List.getElem_cons_zero, List.setIfInBounds_toArray, List.set_cons_zero, List.set_cons_succ]
                    refine wpAnyH_ready (rs := [6]) (by kernel_rfl) (by simp) (AllReadyH.cons rfl (fun K hK => ?_) AllReadyH.nil)
                    have h0 := hHeld
                    clear hHeld
                    try simp only [List.getElem_toArray, List.getElem_cons_succ, List.getElem_cons_zero]
                    rw [if_pos (by rfl)]
                    obtain ⟨old, hold, kold⟩ := Fr.old h0 (g := w.heap.size + 1 + 1) (t := 27) (n := 4) (by simp)
                    refine wp_store_row 27 (.tmp 4) (.tmp 49) rfl (w.heap.size + 1 + 1) (ev ((u * (v * v * v) * p0) * i0)) rfl rfl 27 old kold (info_ev _) hold (ev_one _) ?_
                    refine hK.out _ _ (Fr.setAny h0 (g := w.heap.size + 1 + 1) (t := 27) (ev_size _) (by simp) (by simp <;> omega)) (fun hHeld => ?_)
                    have kb := kold.setRow_same (ev ((u * (v * v * v) * p0) * i0))
                    clear hK K h0 hold
                    try simp only [Act.put, List.getElem_toArray, List.getElem_cons_succ, List.getElem_cons_zero, List.setIfInBounds_toArray, List.set_cons_zero, List.set_cons_succ]
                    refine wpAnyH_take (i := 7) (v := ?_) rfl (by kernel_rfl) (by kernel_rfl) (by kernel_rfl) (fun _ _ _ h => h) (Or.inl ⟨by rfl, ?_⟩) hHeld ?_
                    rotate_left
                    · (intro W hSw; (try dsimp only at hSw); (try simp only [List.getElem_toArray, List.getElem_cons_succ, List.getElem_cons_zero]); go_simp; try with_reducible rfl)
                    try simp only [Act.put, List.getElem_toArray, List.getElem_cons_succ, List.getElem_cons_zero, List.setIfInBounds_toArray, List.set_cons_zero, List.set_cons_succ]
                    refine wpAnyH_done (by kernel_rfl) ?_ _
                    have HG := Lib.hid hHeld
                    clear hHeld
                    go_wp2_with (fail)
                    have hres : X = (((u * (v * v * v) * p0) * i0), true) := by
                      rw [HX.out, ← HI0.out]
                      rw [rootC_a HP0.out HT1.out HT2.out, evenOf_no HT3.out]
                    rw [hres]
                    exact bodyPost_ret (results_row_tmp rfl rfl rfl kb Tryd.underlying27 rfl (info_ev _)) rfl ⟨rfl, HG.out.below⟩
            · as_aux_lemma =>
                have HT2 := Lib.hid ht2
                clear ht2
                refine wp_region_held_drew (S := fun W => Fr w W [(g8, 27, ev ((u * (v * v * v) * p0) * i0)), (w.heap.size + 1, 27, ev v), (w.heap.size, 27, ev u)] [(w.heap.size + 1 + 1, 27, 4)]) (by kernel_rfl) ?_ (fun hHeld => ?_)
                · exact (HF.out.sub (by simp) (by simp)).drew
                refine wpAnyH_take (i := 0) (v := .agg (ev v)) rfl (by kernel_rfl) (by kernel_rfl) (by kernel_rfl) (fun _ _ _ h => h) (yields_row (by rfl) 27 (.tmp 3) rfl (w.heap.size + 1) rfl 27 (ev v) _ (fun W (h : Fr _ W _ _) => h.get (by simp)) Tryd.underlying27 rfl (info_ev _)) hHeld ?_
                try simp only [Act.put, List.getElem_toArray, List.getElem_cons_succ, List.getElem_cons_zero, List.setIfInBounds_toArray, List.set_cons_zero, List.set_cons_succ]
                refine wpAnyH_take (i := 1) (v := .agg (ev ((u * (v * v * v) * p0) * i0))) rfl (by kernel_rfl) (by kernel_rfl) (by kernel_rfl) (fun _ _ _ h => h) (yields_row (by rfl) 27 (.tmp 8) rfl (g8) rfl 27 (ev ((u * (v * v * v) * p0) * i0)) _ (fun W (h : Fr _ W _ _) => h.get (by simp)) Tryd.underlying27 rfl (info_ev _)) hHeld ?_
                try simp only [Act.put, List.getElem_toArray, List.getElem_cons_succ, List.getElem_cons_zero, List.setIfInBounds_toArray, List.set_cons_zero, List.set_cons_succ]
                refine wpAnyH_take (i := 4) (v := .agg (ev u)) rfl (by kernel_rfl) (by kernel_rfl) (by kernel_rfl) (fun _ _ _ h => h) (yields_row (by rfl) 27 (.tmp 2) rfl (w.heap.size) rfl 27 (ev u) _ (fun W (h : Fr _ W _ _) => h.get (by simp)) Tryd.underlying27 rfl (info_ev _)) hHeld ?_
                try simp only [Act.put, List.getElem_toArray, List.getElem_cons_succ, List.getElem_cons_zero, List.setIfInBounds_toArray, List.set_cons_zero, List.set_cons_succ]
                refine wpAnyH_ready (rs := [2]) (by kernel_rfl) (by simp) (AllReadyH.cons rfl (fun K hK => ?_) AllReadyH.nil)
                have h0 := hHeld
                clear hHeld
                try simp only [List.getElem_toArray, List.getElem_cons_succ, List.getElem_cons_zero]
                have H0 := Lib.hid h0
                clear h0
                go_simp
                go_at_call 5
                refine (squareF ((u * (v * v * v) * p0) * i0) _ (Fr.pg H0.out HP.out)).mono ?_
                rintro e vv ⟨rfl, hb⟩
                have h1 := H0.out.ext hb
                clear hb H0
                go_wp2_with (fail)
                refine hK.out _ _ h1 (fun hHeld => ?_)
                clear hK K h1
                try simp only [Act.put, List.getElem_toArray, List.getElem_cons_succ, List.getElem_cons_zero, List.setIfInBounds_toArray, List.set_cons_zero, List.set_cons_succ]
                refine wpAnyH_ready (rs := [3]) (by kernel_rfl) (by simp) (AllReadyH.cons rfl (fun K hK => ?_) AllReadyH.nil)
                have h0 := hHeld
                clear hHeld
                try simp only [List.getElem_toArray, List.getElem_cons_succ, List.getElem_cons_zero]
                have H0 := Lib.hid h0
                clear h0
                go_simp
                go_at_call 6
                refine (mulF v (((u * (v * v * v) * p0) * i0) * ((u * (v * v * v) * p0) * i0)) _ (Fr.pg H0.out HP.out)).mono ?_
                rintro e vv ⟨rfl, hb⟩
                have h1 := H0.out.ext hb
                clear hb H0
                go_wp2_with (fail)
                refine hK.out _ _ h1 (fun hHeld => ?_)
                clear hK K h1
                try simp only [Act.put, List.getElem_toArray, List.getElem_cons_succ, List.getElem_cons_zero, List.setIfInBounds_toArray, List.set_cons_zero, List.set_cons_succ]
                refine wpAnyH_ready (rs := [5]) (by kernel_rfl) (by simp) (AllReadyH.cons rfl (fun K hK => ?_) AllReadyH.nil)
                have h0 := hHeld
                clear hHeld
                try simp only [List.getElem_toArray, List.getElem_cons_succ, List.getElem_cons_zero]
                have H0 := Lib.hid h0
                clear h0
                go_simp
                go_at_call 13
                refine (equal_no HT2.out _).mono ?_
                rintro e vv ⟨rfl, hb⟩
                have h1 := H0.out.ext hb
                clear hb H0
                go_wp2_with (fail)
                refine hK.out _ _ h1 (fun hHeld => ?_)
                clear hK K h1
                try simp only [Act.put, List.getElem_toArray, List.getElem_cons_succ, List.getElem_cons_zero, List.setIfInBounds_toArray, List.set_cons_zero, List.set_cons_succ]
                refine wpAnyH_take (i := 6) (v := ?_) rfl (by kernel_rfl) (by kernel_rfl) (by kernel_rfl) (fun _ _ _ h => h) (Or.inl ⟨by rfl, ?_⟩) hHeld ?_
                rotate_left
                · (intro W hSw; (try dsimp only at hSw); (try simp only [List.getElem_toArray, List.getElem_cons_succ, List.getElem_cons_zero]); go_simp; try with_reducible rfl)
                try simp only [Act.put, List.getElem_toArray, List.getElem_cons_succ, List.getElem_cons_zero, List.setIfInBounds_toArray, List.set_cons_zero, List.set_cons_succ]
                refine wpAnyH_done (by kernel_rfl) ?_ _
                have HF := Lib.hid hHeld
                clear hHeld
                obtain ⟨old, hold, kR⟩ := HF.out.old (g := w.heap.size + 1 + 1) (t := 27) (n := 4) (by simp)
                have kS := kR.setRow_same #[.int .u64 0, .int .u64 0, .int .u64 0, .int .u64 0]
                have hB := below_setRow HF.out.below (show w.heap.size ≤ w.heap.size + 1 + 1 by omega) #[.int .u64 0, .int .u64 0, .int .u64 0, .int .u64 0]
                have HS := Lib.hid kS
                have HB := Lib.hid hB
                have HO := Lib.hid hold
                clear kS hB hold
                go_wp2_with (first | (refine wpList_store_row rfl 27 (.tmp 4) (.tmp 43) rfl (w.heap.size + 1 + 1) #[.int .u64 0, .int .u64 0, .int .u64 0, .int .u64 0] rfl rfl 27 old kR info_elem HO.out (es_one 0) ?_))
                have hres : X = (0, false) := by
                  rw [HX.out, ← HI0.out]
                  rw [rootC_b HP0.out HT1.out HT2.out]
                rw [hres]
                exact bodyPost_ret (results_row_tmp rfl rfl rfl (show Blk _ _ _ (ev 0) from HS.out) Tryd.underlying27 rfl (info_ev _)) rfl ⟨rfl, HB.out⟩
        · have HT1 := Lib.hid ht1
          clear ht1
          refine wp_region_held_drew (S := fun W => Fr w W [(g8, 27, ev (u * (v * v * v) * p0)), (w.heap.size + 1, 27, ev v), (w.heap.size, 27, ev u)] [(w.heap.size + 1 + 1, 27, 4)]) (by kernel_rfl) ?_ (fun hHeld => ?_)
          · exact (HF.out.sub (by simp) (by simp)).drew
          refine wpAnyH_take (i := 0) (v := .agg (ev v)) rfl (by kernel_rfl) (by kernel_rfl) (by kernel_rfl) (fun _ _ _ h => h) (yields_row (by rfl) 27 (.tmp 3) rfl (w.heap.size + 1) rfl 27 (ev v) _ (fun W (h : Fr _ W _ _) => h.get (by simp)) Tryd.underlying27 rfl (info_ev _)) hHeld ?_
          try simp only [Act.put, List.getElem_toArray, List.getElem_cons_succ, List.getElem_cons_zero, List.setIfInBounds_toArray, List.set_cons_zero, List.set_cons_succ]
          refine wpAnyH_take (i := 1) (v := .agg (ev (u * (v * v * v) * p0))) rfl (by kernel_rfl) (by kernel_rfl) (by kernel_rfl) (fun _ _ _ h => h) (yields_row (by rfl) 27 (.tmp 8) rfl (g8) rfl 27 (ev (u * (v * v * v) * p0)) _ (fun W (h : Fr _ W _ _) => h.get (by simp)) Tryd.underlying27 rfl (info_ev _)) hHeld ?_
          try simp only [Act.put, List.getElem_toArray, List.getElem_cons_succ, List.getElem_cons_zero, List.setIfInBounds_toArray, List.set_cons_zero, List.set_cons_succ]
          refine wpAnyH_take (i := 4) (v := .agg (ev u)) rfl (by kernel_rfl) (by kernel_rfl) (by kernel_rfl) (fun _ _ _ h => h) (yields_row (by rfl) 27 (.tmp 2) rfl (w.heap.size) rfl 27 (ev u) _ (fun W (h : Fr _ W _ _) => h.get (by simp)) Tryd.underlying27 rfl (info_ev _)) hHeld ?_
          try simp only [Act.put, List.getElem_toArray, List.getElem_cons_succ, List.getElem_cons_zero, List.setIfInBounds_toArray, List.set_cons_zero, List.set_cons_succ]
          refine wpAnyH_ready (rs := [2]) (by kernel_rfl) (by simp) (AllReadyH.cons rfl (fun K hK => ?_) AllReadyH.nil)
          have h0 := hHeld
          clear hHeld
          try simp only [List.getElem_toArray, List.getElem_cons_succ, List.getElem_cons_zero]
          have H0 := Lib.hid h0
          clear h0
          go_simp
          go_at_call 5
          refine (squareF (u * (v * v * v) * p0) _ (Fr.pg H0.out HP.out)).mono ?_
          rintro e vv ⟨rfl, hb⟩
          have h1 := H0.out.ext hb
          clear hb H0
          go_wp2_with (fail)
          refine hK.out _ _ h1 (fun hHeld => ?_)
          clear hK K h1
          try simp only [Act.put, List.getElem_toArray, List.getElem_cons_succ, List.getElem_cons_zero, List.setIfInBounds_toArray, List.set_cons_zero, List.set_cons_succ]
          refine wpAnyH_ready (rs := [3]) (by kernel_rfl) (by simp) (AllReadyH.cons rfl (fun K hK => ?_) AllReadyH.nil)
          have h0 := hHeld
          clear hHeld
          try simp only [List.getElem_toArray, List.getElem_cons_succ, List.getElem_cons_zero]
          have H0 := Lib.hid h0
          clear h0
          go_simp
          go_at_call 6
          refine (mulF v ((u * (v * v * v) * p0) * (u * (v * v * v) * p0)) _ (Fr.pg H0.out HP.out)).mono ?_
          rintro e vv ⟨rfl, hb⟩
          have h1 := H0.out.ext hb
          clear hb H0
          go_wp2_with (fail)
          refine hK.out _ _ h1 (fun hHeld => ?_)
          clear hK K h1
          try simp only [Act.put, List.getElem_toArray, List.getElem_cons_succ, List.getElem_cons_zero, List.setIfInBounds_toArray, List.set_cons_zero, List.set_cons_succ]
          refine wpAnyH_ready (rs := [5]) (by kernel_rfl) (by simp) (AllReadyH.cons rfl (fun K hK => ?_) AllReadyH.nil)
          have h0 := hHeld
          clear hHeld
          try simp only [List.getElem_toArray, List.getElem_cons_succ, List.getElem_cons_zero]
          have H0 := Lib.hid h0
          clear h0
          go_simp
          go_at_call 23
          refine (negF u _ (Fr.pg H0.out HP.out)).mono ?_
          rintro e vv ⟨rfl, hb⟩
          have h1 := H0.out.ext hb
          clear hb H0
          go_wp2_with (fail)
          refine hK.out _ _ h1 (fun hHeld => ?_)
          clear hK K h1
          try simp only [Act.put, List.getElem_toArray, List.getElem_cons_succ, List.getElem_cons_zero, List.setIfInBounds_toArray, List.set_cons_zero, List.set_cons_succ]
          refine wpAnyH_ready (rs := [6]) (by kernel_rfl) (by simp) (AllReadyH.cons rfl (fun K hK => ?_) AllReadyH.nil)
          have h0 := hHeld
          clear hHeld
          try simp only [List.getElem_toArray, List.getElem_cons_succ, List.getElem_cons_zero]
          have H0 := Lib.hid h0
          clear h0
          go_simp
          go_at_call 13
          refine (equal_no HT1.out _).mono ?_
          rintro e vv ⟨rfl, hb⟩
          have h1 := H0.out.ext hb
          clear hb H0
          go_wp2_with (fail)
          refine hK.out _ _ h1 (fun hHeld => ?_)
          clear hK K h1
          try simp only [Act.put, List.getElem_toArray, List.getElem_cons_succ, List.getElem_cons_zero, List.setIfInBounds_toArray, List.set_cons_zero, List.set_cons_succ]
          refine wpAnyH_done (by kernel_rfl) ?_ _
          have HF := Lib.hid hHeld
          clear hHeld
          go_wp2_with (fail)
          by_cases ht2 : v * ((u * (v * v * v) * p0) * (u * (v * v * v) * p0)) = u
          · as_aux_lemma =>
              have HT2 := Lib.hid ht2
              clear ht2
              refine wp_region_held_drew (S := fun W => Fr w W [(g8, 27, ev (u * (v * v * v) * p0)), (w.heap.size + 1, 27, ev v), (w.heap.size, 27, ev u)] [(w.heap.size + 1 + 1, 27, 4)]) (by kernel_rfl) ?_ (fun hHeld => ?_)
              · exact (HF.out.sub (by simp) (by simp)).drew
              refine wpAnyH_take (i := 0) (v := .agg (ev v)) rfl (by kernel_rfl) (by kernel_rfl) (by kernel_rfl) (fun _ _ _ h => h) (yields_row (by rfl) 27 (.tmp 3) rfl (w.heap.size + 1) rfl 27 (ev v) _ (fun W (h : Fr _ W _ _) => h.get (by simp)) Tryd.underlying27 rfl (info_ev _)) hHeld ?_
              try simp only [Act.put, List.getElem_toArray, List.getElem_cons_succ, List.getElem_cons_zero, List.setIfInBounds_toArray, List.set_cons_zero, List.set_cons_succ]
              refine wpAnyH_take (i := 1) (v := .agg (ev (u * (v * v * v) * p0))) rfl (by kernel_rfl) (by kernel_rfl) (by kernel_rfl) (fun _ _ _ h => h) (yields_row (by rfl) 27 (.tmp 8) rfl (g8) rfl 27 (ev (u * (v * v * v) * p0)) _ (fun W (h : Fr _ W _ _) => h.get (by simp)) Tryd.underlying27 rfl (info_ev _)) hHeld ?_
              try simp only [Act.put, List.getElem_toArray, List.getElem_cons_succ, List.getElem_cons_zero, List.setIfInBounds_toArray, List.set_cons_zero, List.set_cons_succ]
              refine wpAnyH_take (i := 4) (v := .agg (ev u)) rfl (by kernel_rfl) (by kernel_rfl) (by kernel_rfl) (fun _ _ _ h => h) (yields_row (by rfl) 27 (.tmp 2) rfl (w.heap.size) rfl 27 (ev u) _ (fun W (h : Fr _ W _ _) => h.get (by simp)) Tryd.underlying27 rfl (info_ev _)) hHeld ?_
              try simp only [Act.put, List.getElem_toArray, List.getElem_cons_succ, List.getElem_cons_zero, List.setIfInBounds_toArray, List.set_cons_zero, List.set_cons_succ]
              refine wpAnyH_ready (rs := [2]) (by kernel_rfl) (by simp) (AllReadyH.cons rfl (fun K hK => ?_) AllReadyH.nil)
              have h0 := hHeld
              clear hHeld
              try simp only [List.getElem_toArray, List.getElem_cons_succ, List.getElem_cons_zero]
              have H0 := Lib.hid h0
              clear h0
              go_simp
              go_at_call 5
              refine (squareF (u * (v * v * v) * p0) _ (Fr.pg H0.out HP.out)).mono ?_
              rintro e vv ⟨rfl, hb⟩
              have h1 := H0.out.ext hb
              clear hb H0
              go_wp2_with (fail)
              refine hK.out _ _ h1 (fun hHeld => ?_)
              clear hK K h1
              try simp only [Act.put, List.getElem_toArray, List.getElem_cons_succ, List.getElem_cons_zero, List.setIfInBounds_toArray, List.set_cons_zero, List.set_cons_succ]
              refine wpAnyH_ready (rs := [3]) (by kernel_rfl) (by simp) (AllReadyH.cons rfl (fun K hK => ?_) AllReadyH.nil)
              have h0 := hHeld
              clear hHeld
              try simp only [List.getElem_toArray, List.getElem_cons_succ, List.getElem_cons_zero]
              have H0 := Lib.hid h0
              clear h0
              go_simp
              go_at_call 6
              refine (mulF v ((u * (v * v * v) * p0) * (u * (v * v * v) * p0)) _ (Fr.pg H0.out HP.out)).mono ?_
              rintro e vv ⟨rfl, hb⟩
              have h1 := H0.out.ext hb
              clear hb H0
              go_wp2_with (fail)
              refine hK.out _ _ h1 (fun hHeld => ?_)
              clear hK K h1
              try simp only [Act.put, List.getElem_toArray, List.getElem_cons_succ, List.getElem_cons_zero, List.setIfInBounds_toArray, List.set_cons_zero, List.set_cons_succ]
              refine wpAnyH_ready (rs := [5]) (by kernel_rfl) (by simp) (AllReadyH.cons rfl (fun K hK => ?_) AllReadyH.nil)
              have h0 := hHeld
              clear hHeld
              try simp only [List.getElem_toArray, List.getElem_cons_succ, List.getElem_cons_zero]
              have H0 := Lib.hid h0
              clear h0
              go_simp
              go_at_call 13
              refine (equal_yes HT2.out _).mono ?_
              rintro e vv ⟨rfl, hb⟩
              have h1 := H0.out.ext hb
              clear hb H0
              go_wp2_with (fail)
              refine hK.out _ _ h1 (fun hHeld => ?_)
              clear hK K h1
              try simp only [Act.put, List.getElem_toArray, List.getElem_cons_succ, List.getElem_cons_zero, List.setIfInBounds_toArray, List.set_cons_zero, List.set_cons_succ]
              refine wpAnyH_take (i := 6) (v := ?_) rfl (by kernel_rfl) (by kernel_rfl) (by kernel_rfl) (fun _ _ _ h => h) (Or.inl ⟨by rfl, ?_⟩) hHeld ?_
              rotate_left
              · (intro W hSw; (try dsimp only at hSw); (try simp only [List.getElem_toArray, List.getElem_cons_succ, List.getElem_cons_zero]); go_simp; try with_reducible rfl)
              try simp only [Act.put, List.getElem_toArray, List.getElem_cons_succ, List.getElem_cons_zero, List.setIfInBounds_toArray, List.set_cons_zero, List.set_cons_succ]
              refine wpAnyH_done (by kernel_rfl) ?_ _
              have HF := Lib.hid hHeld
              clear hHeld
              go_wp2_with (fail)
              by_cases ht3 : ((u * (v * v * v) * p0)).val % 2 = 1
              · as_aux_lemma =>
                  have HT3 := Lib.hid ht3
                  clear ht3
                  refine wp_region_held_drew (S := fun W => Fr w W [(g8, 27, ev (u * (v * v * v) * p0)), (w.heap.size + 1, 27, ev v), (w.heap.size, 27, ev u)] [(w.heap.size + 1 + 1, 27, 4)]) (by kernel_rfl) ?_ (fun hHeld => ?_)
                  · exact (HF.out.sub (by simp) (by simp)).drew
                  refine wpAnyH_take (i := 0) (v := .agg (ev (u * (v * v * v) * p0))) rfl (by kernel_rfl) (by kernel_rfl) (by kernel_rfl) (fun _ _ _ h => h) (yields_row (by rfl) 27 (.tmp 8) rfl (g8) rfl 27 (ev (u * (v * v * v) * p0)) _ (fun W (h : Fr _ W _ _) => h.get (by simp)) Tryd.underlying27 rfl (info_ev _)) hHeld ?_
                  try simp only [Act.put, List.getElem_toArray, List.getElem_cons_succ, List.getElem_cons_zero, List.setIfInBounds_toArray, List.set_cons_zero, List.set_cons_succ]
                  refine wpAnyH_take (i := 1) (v := .agg (ev (u * (v * v * v) * p0))) rfl (by kernel_rfl) (by kernel_rfl) (by kernel_rfl) (fun _ _ _ h => h) (yields_row (by rfl) 27 (.tmp 8) rfl (g8) rfl 27 (ev (u * (v * v * v) * p0)) _ (fun W (h : Fr _ W _ _) => h.get (by simp)) Tryd.underlying27 rfl (info_ev _)) hHeld ?_
                  try simp only [Act.put, List.getElem_toArray, List.getElem_cons_succ, List.getElem_cons_zero, List.setIfInBounds_toArray, List.set_cons_zero, List.set_cons_succ]
                  refine wpAnyH_take (i := 3) (v := .agg (ev (u * (v * v * v) * p0))) rfl (by kernel_rfl) (by kernel_rfl) (by kernel_rfl) (fun _ _ _ h => h) (yields_row (by rfl) 27 (.tmp 8) rfl (g8) rfl 27 (ev (u * (v * v * v) * p0)) _ (fun W (h : Fr _ W _ _) => h.get (by simp)) Tryd.underlying27 rfl (info_ev _)) hHeld ?_
                  try simp only [Act.put, List.getElem_toArray, List.getElem_cons_succ, List.getElem_cons_zero, List.setIfInBounds_toArray, List.set_cons_zero, List.set_cons_succ]
                  refine wpAnyH_ready (rs := [2]) (by kernel_rfl) (by simp) (AllReadyH.cons rfl (fun K hK => ?_) AllReadyH.nil)
                  have h0 := hHeld
                  clear hHeld
                  try simp only [List.getElem_toArray, List.getElem_cons_succ, List.getElem_cons_zero]
                  have H0 := Lib.hid h0
                  clear h0
                  go_simp
                  go_at_call 23
                  refine (negF (u * (v * v * v) * p0) _ (Fr.pg H0.out HP.out)).mono ?_
                  rintro e vv ⟨rfl, hb⟩
                  have h1 := H0.out.ext hb
                  clear hb H0
                  go_wp2_with (fail)
                  refine hK.out _ _ h1 (fun hHeld => ?_)
                  clear hK K h1
                  try simp only [Act.put, List.getElem_toArray, List.getElem_cons_succ, List.getElem_cons_zero, List.setIfInBounds_toArray, List.set_cons_zero, List.set_cons_succ]
                  refine wpAnyH_ready (rs := [4]) (by kernel_rfl) (by simp) (AllReadyH.cons rfl (fun K hK => ?_) AllReadyH.nil)
                  have h0 := hHeld
                  clear hHeld
                  try simp only [List.getElem_toArray, List.getElem_cons_succ, List.getElem_cons_zero]
                  have H0 := Lib.hid h0
                  clear h0
                  go_simp
                  go_at_call 12
                  refine (odd_yes HT3.out _).mono ?_
                  rintro e vv ⟨rfl, hb⟩
                  have h1 := H0.out.ext hb
                  clear hb H0
                  go_wp2_with (fail)
                  refine hK.out _ _ h1 (fun hHeld => ?_)
                  clear hK K h1
                  try simp only [Act.put, List.getElem_toArray, List.getElem_cons_succ, List.getElem_cons_zero, List.setIfInBounds_toArray, List.set_cons_zero, List.set_cons_succ]
                  refine wpAnyH_ready (rs := [5]) (by kernel_rfl) (by simp) (AllReadyH.cons rfl (fun K hK => ?_) AllReadyH.nil)
                  have h0 := hHeld
                  clear hHeld
                  try simp only [List.getElem_toArray, List.getElem_cons_succ, List.getElem_cons_zero]
                  have H0 := Lib.hid h0
                  clear h0
                  go_simp
                  go_at_call 25
                  refine (selF_yes (u * (v * v * v) * p0) (-(u * (v * v * v) * p0)) _).mono ?_
                  rintro e vv ⟨rfl, hb⟩
                  have h1 := H0.out.ext hb
                  clear hb H0
                  go_wp2_with (fail)
                  refine hK.out _ _ h1 (fun hHeld => ?_)
                  clear hK K h1
                  try simp only [Act.put, List.getElem_toArray, List.getElem_cons_succ, List.getElem_cons_zero, List.setIfInBounds_toArray, List.set_cons_zero, List.set_cons_succ]
                  refine wpAnyH_ready (rs := [6]) (by kernel_rfl) (by simp) (AllReadyH.cons rfl (fun K hK => ?_) AllReadyH.nil)
                  have h0 := hHeld
                  clear hHeld
                  try simp only [List.getElem_toArray, List.getElem_cons_succ, List.getElem_cons_zero]
                  rw [if_pos (by rfl)]
                  obtain ⟨old, hold, kold⟩ := Fr.old h0 (g := w.heap.size + 1 + 1) (t := 27) (n := 4) (by simp)
                  refine wp_store_row 27 (.tmp 4) (.tmp 49) rfl (w.heap.size + 1 + 1) (ev (-(u * (v * v * v) * p0))) rfl rfl 27 old kold (info_ev _) hold (ev_one _) ?_
                  refine hK.out _ _ (Fr.setAny h0 (g := w.heap.size + 1 + 1) (t := 27) (ev_size _) (by simp) (by simp <;> omega)) (fun hHeld => ?_)
                  have kb := kold.setRow_same (ev (-(u * (v * v * v) * p0)))
                  clear hK K h0 hold
                  try simp only [Act.put, List.getElem_toArray, List.getElem_cons_succ, List.getElem_cons_zero, List.setIfInBounds_toArray, List.set_cons_zero, List.set_cons_succ]
                  refine wpAnyH_take (i := 7) (v := ?_) rfl (by kernel_rfl) (by kernel_rfl) (by kernel_rfl) (fun _ _ _ h => h) (Or.inl ⟨by rfl, ?_⟩) hHeld ?_
                  rotate_left
                  · (intro W hSw; (try dsimp only at hSw); (try simp only [List.getElem_toArray, List.getElem_cons_succ, List.getElem_cons_zero]); go_simp; try with_reducible rfl)
                  try simp only [Act.put, List.getElem_toArray, List.getElem_cons_succ, List.getElem_cons_zero, List.setIfInBounds_toArray, List.set_cons_zero, List.set_cons_succ]
                  refine wpAnyH_done (by kernel_rfl) ?_ _
                  have HG := Lib.hid hHeld
                  clear hHeld
                  go_wp2_with (fail)
                  have hres : X = ((-(u * (v * v * v) * p0)), true) := by
                    rw [HX.out, ← HI0.out]
                    rw [rootC_c HP0.out HT1.out HT2.out, evenOf_yes HT3.out]
                  rw [hres]
                  exact bodyPost_ret (results_row_tmp rfl rfl rfl kb Tryd.underlying27 rfl (info_ev _)) rfl ⟨rfl, HG.out.below⟩
              · as_aux_lemma =>
                  have HT3 := Lib.hid ht3
                  clear ht3
                  refine wp_region_held_drew (S := fun W => Fr w W [(g8, 27, ev (u * (v * v * v) * p0)), (w.heap.size + 1, 27, ev v), (w.heap.size, 27, ev u)] [(w.heap.size + 1 + 1, 27, 4)]) (by kernel_rfl) ?_ (fun hHeld => ?_)
                  · exact (HF.out.sub (by simp) (by simp)).drew
                  refine wpAnyH_take (i := 0) (v := .agg (ev (u * (v * v * v) * p0))) rfl (by kernel_rfl) (by kernel_rfl) (by kernel_rfl) (fun _ _ _ h => h) (yields_row (by rfl) 27 (.tmp 8) rfl (g8) rfl 27 (ev (u * (v * v * v) * p0)) _ (fun W (h : Fr _ W _ _) => h.get (by simp)) Tryd.underlying27 rfl (info_ev _)) hHeld ?_
                  try simp only [Act.put, List.getElem_toArray, List.getElem_cons_succ, List.getElem_cons_zero, List.setIfInBounds_toArray, List.set_cons_zero, List.set_cons_succ]
                  refine wpAnyH_take (i := 1) (v := .agg (ev (u * (v * v * v) * p0))) rfl (by kernel_rfl) (by kernel_rfl) (by kernel_rfl) (fun _ _ _ h => h) (yields_row (by rfl) 27 (.tmp 8) rfl (g8) rfl 27 (ev (u * (v * v * v) * p0)) _ (fun W (h : Fr _ W _ _) => h.get (by simp)) Tryd.underlying27 rfl (info_ev _)) hHeld ?_
                  try simp only [Act.put, List.getElem_toArray, List.getElem_cons_succ, List.getElem_cons_zero, List.setIfInBounds_toArray, List.set_cons_zero, List.set_cons_succ]
                  refine wpAnyH_take (i := 3) (v := .agg (ev (u * (v * v * v) * p0))) rfl (by kernel_rfl) (by kernel_rfl) (by kernel_rfl) (fun _ _ _ h => h) (yields_row (by rfl) 27 (.tmp 8) rfl (g8) rfl 27 (ev (u * (v * v * v) * p0)) _ (fun W (h : Fr _ W _ _) => h.get (by simp)) Tryd.underlying27 rfl (info_ev _)) hHeld ?_
                  try simp only [Act.put, List.getElem_toArray, List.getElem_cons_succ, List.getElem_cons_zero, List.setIfInBounds_toArray, List.set_cons_zero, List.set_cons_succ]
                  refine wpAnyH_ready (rs := [2]) (by kernel_rfl) (by simp) (AllReadyH.cons rfl (fun K hK => ?_) AllReadyH.nil)
                  have h0 := hHeld
                  clear hHeld
                  try simp only [List.getElem_toArray, List.getElem_cons_succ, List.getElem_cons_zero]
                  have H0 := Lib.hid h0
                  clear h0
                  go_simp
                  go_at_call 23
                  refine (negF (u * (v * v * v) * p0) _ (Fr.pg H0.out HP.out)).mono ?_
                  rintro e vv ⟨rfl, hb⟩
                  have h1 := H0.out.ext hb
                  clear hb H0
                  go_wp2_with (fail)
                  refine hK.out _ _ h1 (fun hHeld => ?_)
                  clear hK K h1
                  try simp only [Act.put, List.getElem_toArray, List.getElem_cons_succ, List.getElem_cons_zero, List.setIfInBounds_toArray, List.set_cons_zero, List.set_cons_succ]
                  refine wpAnyH_ready (rs := [4]) (by kernel_rfl) (by simp) (AllReadyH.cons rfl (fun K hK => ?_) AllReadyH.nil)
                  have h0 := hHeld
                  clear hHeld
                  try simp only [List.getElem_toArray, List.getElem_cons_succ, List.getElem_cons_zero]
                  have H0 := Lib.hid h0
                  clear h0
                  go_simp
                  go_at_call 12
                  refine (odd_no HT3.out _).mono ?_
                  rintro e vv ⟨rfl, hb⟩
                  have h1 := H0.out.ext hb
                  clear hb H0
                  go_wp2_with (fail)
                  refine hK.out _ _ h1 (fun hHeld => ?_)
                  clear hK K h1
                  try simp only [Act.put, List.getElem_toArray, List.getElem_cons_succ, List.getElem_cons_zero, List.setIfInBounds_toArray, List.set_cons_zero, List.set_cons_succ]
                  refine wpAnyH_ready (rs := [5]) (by kernel_rfl) (by simp) (AllReadyH.cons rfl (fun K hK => ?_) AllReadyH.nil)
                  have h0 := hHeld
                  clear hHeld
                  try simp only [List.getElem_toArray, List.getElem_cons_succ, List.getElem_cons_zero]
                  have H0 := Lib.hid h0
                  clear h0
                  go_simp
                  go_at_call 25
                  refine (selF_no (u * (v * v * v) * p0) (-(u * (v * v * v) * p0)) _).mono ?_
                  rintro e vv ⟨rfl, hb⟩
                  have h1 := H0.out.ext hb
                  clear hb H0
                  go_wp2_with (fail)
                  refine hK.out _ _ h1 (fun hHeld => ?_)
                  clear hK K h1
                  try simp only [Act.put, List.getElem_toArray, List.getElem_cons_succ, List.getElem_cons_zero, List.setIfInBounds_toArray, List.set_cons_zero, List.set_cons_succ]
                  refine wpAnyH_ready (rs := [6]) (by kernel_rfl) (by simp) (AllReadyH.cons rfl (fun K hK => ?_) AllReadyH.nil)
                  have h0 := hHeld
                  clear hHeld
                  try simp only [List.getElem_toArray, List.getElem_cons_succ, List.getElem_cons_zero]
                  rw [if_pos (by rfl)]
                  obtain ⟨old, hold, kold⟩ := Fr.old h0 (g := w.heap.size + 1 + 1) (t := 27) (n := 4) (by simp)
                  refine wp_store_row 27 (.tmp 4) (.tmp 49) rfl (w.heap.size + 1 + 1) (ev (u * (v * v * v) * p0)) rfl rfl 27 old kold (info_ev _) hold (ev_one _) ?_
                  refine hK.out _ _ (Fr.setAny h0 (g := w.heap.size + 1 + 1) (t := 27) (ev_size _) (by simp) (by simp <;> omega)) (fun hHeld => ?_)
                  have kb := kold.setRow_same (ev (u * (v * v * v) * p0))
                  clear hK K h0 hold
                  try simp only [Act.put, List.getElem_toArray, List.getElem_cons_succ, List.getElem_cons_zero, List.setIfInBounds_toArray, List.set_cons_zero, List.set_cons_succ]
                  refine wpAnyH_take (i := 7) (v := ?_) rfl (by kernel_rfl) (by kernel_rfl) (by kernel_rfl) (fun _ _ _ h => h) (Or.inl ⟨by rfl, ?_⟩) hHeld ?_
                  rotate_left
                  · (intro W hSw; (try dsimp only at hSw); (try simp only [List.getElem_toArray, List.getElem_cons_succ, List.getElem_cons_zero]); go_simp; try with_reducible rfl)
                  try simp only [Act.put, List.getElem_toArray, List.getElem_cons_succ, List.getElem_cons_zero, List.setIfInBounds_toArray, List.set_cons_zero, List.set_cons_succ]
                  refine wpAnyH_done (by kernel_rfl) ?_ _
                  have HG := Lib.hid hHeld
                  clear hHeld
                  go_wp2_with (fail)
                  have hres : X = ((u * (v * v * v) * p0), true) := by
                    rw [HX.out, ← HI0.out]
                    rw [rootC_c HP0.out HT1.out HT2.out, evenOf_no HT3.out]
                  rw [hres]
                  exact bodyPost_ret (results_row_tmp rfl rfl rfl kb Tryd.underlying27 rfl (info_ev _)) rfl ⟨rfl, HG.out.below⟩
          · as_aux_lemma =>
              have HT2 := Lib.hid ht2
              clear ht2
              refine wp_region_held_drew (S := fun W => Fr w W [(g8, 27, ev (u * (v * v * v) * p0)), (w.heap.size + 1, 27, ev v), (w.heap.size, 27, ev u)] [(w.heap.size + 1 + 1, 27, 4)]) (by kernel_rfl) ?_ (fun hHeld => ?_)
              · exact (HF.out.sub (by simp) (by simp)).drew
              refine wpAnyH_take (i := 0) (v := .agg (ev v)) rfl (by kernel_rfl) (by kernel_rfl) (by kernel_rfl) (fun _ _ _ h => h) (yields_row (by rfl) 27 (.tmp 3) rfl (w.heap.size + 1) rfl 27 (ev v) _ (fun W (h : Fr _ W _ _) => h.get (by simp)) Tryd.underlying27 rfl (info_ev _)) hHeld ?_
              try simp only [Act.put, List.getElem_toArray, List.getElem_cons_succ, List.getElem_cons_zero, List.setIfInBounds_toArray, List.set_cons_zero, List.set_cons_succ]
              refine wpAnyH_take (i := 1) (v := .agg (ev (u * (v * v * v) * p0))) rfl (by kernel_rfl) (by kernel_rfl) (by kernel_rfl) (fun _ _ _ h => h) (yields_row (by rfl) 27 (.tmp 8) rfl (g8) rfl 27 (ev (u * (v * v * v) * p0)) _ (fun W (h : Fr _ W _ _) => h.get (by simp)) Tryd.underlying27 rfl (info_ev _)) hHeld ?_
              try simp only [Act.put, List.getElem_toArray, List.getElem_cons_succ, List.getElem_cons_zero, List.setIfInBounds_toArray, List.set_cons_zero, List.set_cons_succ]
              refine wpAnyH_take (i := 4) (v := .agg (ev u)) rfl (by kernel_rfl) (by kernel_rfl) (by kernel_rfl) (fun _ _ _ h => h) (yields_row (by rfl) 27 (.tmp 2) rfl (w.heap.size) rfl 27 (ev u) _ (fun W (h : Fr _ W _ _) => h.get (by simp)) Tryd.underlying27 rfl (info_ev _)) hHeld ?_
              try simp only [Act.put, List.getElem_toArray, List.getElem_cons_succ, List.getElem_cons_zero, List.setIfInBounds_toArray, List.set_cons_zero, List.set_cons_succ]
              refine wpAnyH_ready (rs := [2]) (by kernel_rfl) (by simp) (AllReadyH.cons rfl (fun K hK => ?_) AllReadyH.nil)
              have h0 := hHeld
              clear hHeld
              try simp only [List.getElem_toArray, List.getElem_cons_succ, List.getElem_cons_zero]
              have H0 := Lib.hid h0
              clear h0
              go_simp
              go_at_call 5
              refine (squareF (u * (v * v * v) * p0) _ (Fr.pg H0.out HP.out)).mono ?_
              rintro e vv ⟨rfl, hb⟩
              have h1 := H0.out.ext hb
              clear hb H0
              go_wp2_with (fail)
              refine hK.out _ _ h1 (fun hHeld => ?_)
              clear hK K h1
              try simp only [Act.put, List.getElem_toArray, List.getElem_cons_succ, List.getElem_cons_zero, List.setIfInBounds_toArray, List.set_cons_zero, List.set_cons_succ]
              refine wpAnyH_ready (rs := [3]) (by kernel_rfl) (by simp) (AllReadyH.cons rfl (fun K hK => ?_) AllReadyH.nil)
              have h0 := hHeld
              clear hHeld
              try simp only [List.getElem_toArray, List.getElem_cons_succ, List.getElem_cons_zero]
              have H0 := Lib.hid h0
              clear h0
              go_simp
              go_at_call 6
              refine (mulF v ((u * (v * v * v) * p0) * (u * (v * v * v) * p0)) _ (Fr.pg H0.out HP.out)).mono ?_
              rintro e vv ⟨rfl, hb⟩
              have h1 := H0.out.ext hb
              clear hb H0
              go_wp2_with (fail)
              refine hK.out _ _ h1 (fun hHeld => ?_)
              clear hK K h1
              try simp only [Act.put, List.getElem_toArray, List.getElem_cons_succ, List.getElem_cons_zero, List.setIfInBounds_toArray, List.set_cons_zero, List.set_cons_succ]
              refine wpAnyH_ready (rs := [5]) (by kernel_rfl) (by simp) (AllReadyH.cons rfl (fun K hK => ?_) AllReadyH.nil)
              have h0 := hHeld
              clear hHeld
              try simp only [List.getElem_toArray, List.getElem_cons_succ, List.getElem_cons_zero]
              have H0 := Lib.hid h0
              clear h0
              go_simp
              go_at_call 13
              refine (equal_no HT2.out _).mono ?_
              rintro e vv ⟨rfl, hb⟩
              have h1 := H0.out.ext hb
              clear hb H0
              go_wp2_with (fail)
              refine hK.out _ _ h1 (fun hHeld => ?_)
              clear hK K h1
              try simp only [Act.put, List.getElem_toArray, List.getElem_cons_succ, List.getElem_cons_zero, List.setIfInBounds_toArray, List.set_cons_zero, List.set_cons_succ]
              refine wpAnyH_take (i := 6) (v := ?_) rfl (by kernel_rfl) (by kernel_rfl) (by kernel_rfl) (fun _ _ _ h => h) (Or.inl ⟨by rfl, ?_⟩) hHeld ?_
              rotate_left
              · (intro W hSw; (try dsimp only at hSw); (try simp only [List.getElem_toArray, List.getElem_cons_succ, List.getElem_cons_zero]); go_simp; try with_reducible rfl)
              try simp only [Act.put, List.getElem_toArray, List.getElem_cons_succ, List.getElem_cons_zero, List.setIfInBounds_toArray, List.set_cons_zero, List.set_cons_succ]
              refine wpAnyH_done (by kernel_rfl) ?_ _
              have HF := Lib.hid hHeld
              clear hHeld
              obtain ⟨old, hold, kR⟩ := HF.out.old (g := w.heap.size + 1 + 1) (t := 27) (n := 4) (by simp)
              have kS := kR.setRow_same #[.int .u64 0, .int .u64 0, .int .u64 0, .int .u64 0]
              have hB := below_setRow HF.out.below (show w.heap.size ≤ w.heap.size + 1 + 1 by omega) #[.int .u64 0, .int .u64 0, .int .u64 0, .int .u64 0]
              have HS := Lib.hid kS
              have HB := Lib.hid hB
              have HO := Lib.hid hold
              clear kS hB hold
              go_wp2_with (first | (refine wpList_store_row rfl 27 (.tmp 4) (.tmp 43) rfl (w.heap.size + 1 + 1) #[.int .u64 0, .int .u64 0, .int .u64 0, .int .u64 0] rfl rfl 27 old kR info_elem HO.out (es_one 0) ?_))
              have hres : X = (0, false) := by
                rw [HX.out, ← HI0.out]
                rw [rootC_d HP0.out HT1.out HT2.out]
              rw [hres]
              exact bodyPost_ret (results_row_tmp rfl rfl rfl (show Blk _ _ _ (ev 0) from HS.out) Tryd.underlying27 rfl (info_ev _)) rfl ⟨rfl, HB.out⟩
end Go.Proofs.YtnfckoamjeafhaaDoor
