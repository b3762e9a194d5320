/- Words, contracts and walks (Frt, Li0, Pv, Gb), laid together. No condition. -/
import Derived.Test.YtpagiffbjofihaaDoorZc
import Derived.Deep.DeepCutAuto
import Derived.Deep.CutBlock
import Derived.Deep.RegionWith
import Derived.Great.BuildSlice
import Derived.Great.Walk
import Derived.ArgAppend
import Derived.Laws.OwnMore
namespace Go.Proofs.YtpagiffbjofihaaDoor
set_option linter.unusedVariables false
set_option linter.unusedSimpArgs false
set_option maxRecDepth 100000
open Go.RowKit
theorem rootI_of {i : Fin PP} (h : i = II) (w : World) (hp : PG w) : Calls Tryd.prog 75 #[] w (EPost i w) := by
  rw [h]
  exact rootI_any w hp
theorem EE_lt : EE < 115792089237316195423570985008687907853269984665640564039457584007913129639936 := by decide +kernel
theorem powR {x y : Fin PP} (h : y = x ^ EE) (w : World) (hp : PG w) : Calls Tryd.prog 72 #[.agg (ev x), .agg (ks EE)] w (EPost y w) := by
  have h2 := powerF x w EE hp EE_lt
  rw [← h] at h2
  exact h2
theorem evenOf_yes {p : Nat} {r : Fin p} (h : r.val % 2 = 1) : evenOf r = -r := by unfold evenOf; rw [if_pos h]
theorem evenOf_no {p : Nat} {r : Fin p} (h : ¬ r.val % 2 = 1) : evenOf r = r := by unfold evenOf; rw [if_neg h]
section
variable {p : Nat} [NeZero p] {e : Nat} {i u v p0 : Fin p}
theorem rootC_a (h : p0 = (u * (v * v * v * (v * v * v) * v)) ^ e) (h1 : v * ((u * (v * v * v) * p0) * (u * (v * v * v) * p0)) = -u) (h2 : v * ((u * (v * v * v) * p0 * i) * (u * (v * v * v) * p0 * i)) = u) :
    rootC e i u v = (evenOf (u * (v * v * v) * p0 * i), true) := by
  subst h
  unfold rootC
  dsimp only
  rw [if_pos h1, if_pos h2]
theorem rootC_b (h : p0 = (u * (v * v * v * (v * v * v) * v)) ^ e) (h1 : v * ((u * (v * v * v) * p0) * (u * (v * v * v) * p0)) = -u) (h2 : ¬ v * ((u * (v * v * v) * p0 * i) * (u * (v * v * v) * p0 * i)) = u) :
    rootC e i u v = (0, false) := by
  subst h
  unfold rootC
  dsimp only
  rw [if_pos h1, if_neg h2]
theorem rootC_c (h : p0 = (u * (v * v * v * (v * v * v) * v)) ^ e) (h1 : ¬ v * ((u * (v * v * v) * p0) * (u * (v * v * v) * p0)) = -u) (h2 : v * ((u * (v * v * v) * p0) * (u * (v * v * v) * p0)) = u) :
    rootC e i u v = (evenOf (u * (v * v * v) * p0), true) := by
  subst h
  unfold rootC
  dsimp only
  rw [if_neg h1, if_pos h2]
theorem rootC_d (h : p0 = (u * (v * v * v * (v * v * v) * v)) ^ e) (h1 : ¬ v * ((u * (v * v * v) * p0) * (u * (v * v * v) * p0)) = -u) (h2 : ¬ v * ((u * (v * v * v) * p0) * (u * (v * v * v) * p0)) = u) :
    rootC e i u v = (0, false) := by
  subst h
  unfold rootC
  dsimp only
  rw [if_neg h1, if_neg h2]
end
set_option maxRecDepth 100000 in
set_option maxHeartbeats 1000000 in
theorem rootX (u v : Fin PP) (w : World) (hpg : PG w) : Calls Tryd.prog 62 #[.agg (ev u), .agg (ev v)] w fun e w' => e = .returned (.tuple #[.agg (ev (rootC EE II u v).1), .bool (rootC EE II u v).2]) ∧ Below w.heap.size w w' := by
  have hfr := ((Fr.start w).row (ev u) 39 (g := w.heap.size) rfl).row (ev v) 39 (g := w.heap.size + 1) (by simp) |>.any #[.int .u64 0, .int .u64 0, .int .u64 0, .int .u64 0] 39 4 rfl (g := w.heap.size + 1 + 1) (by simp)
  have hz : w.heap.size + 1 + 1 < (((w.alloc (.cells (ev u) 39)).alloc (.cells (ev v) 39)).alloc (.cells #[.int .u64 0, .int .u64 0, .int .u64 0, .int .u64 0] 39)).heap.size := by simp <;> omega
  have hpg0 := ((hpg.alloc (.cells (ev u) 39)).alloc (.cells (ev v) 39)).alloc (.cells #[.int .u64 0, .int .u64 0, .int .u64 0, .int .u64 0] 39)
  have HP := Lib.hid hpg
  clear hpg
  obtain ⟨p0, hp0⟩ : ∃ p0, p0 = (u * (v * v * v * (v * v * v) * v)) ^ EE := ⟨_, rfl⟩
  have HP0 := Lib.hid hp0
  clear hp0
  obtain ⟨i0, hi0⟩ : ∃ i0, i0 = II := ⟨_, rfl⟩
  have HI0 := Lib.hid hi0
  clear hi0
  obtain ⟨X, hX⟩ : ∃ X, X = rootC EE II u v := ⟨_, rfl⟩
  rw [← hX]
  have HX := Lib.hid hX
  clear hX
  go_enter Tryd.func62, Tryd.ntmps62
  go_wp2_with (fail)
  obtain ⟨wx, hwx⟩ : ∃ wx : World, wx = (((w.alloc (.cells (ev u) 39)).alloc (.cells (ev v) 39)).alloc (.cells #[.int .u64 0, .int .u64 0, .int .u64 0, .int .u64 0] 39)) := ⟨_, rfl⟩
  rw [← hwx] at hfr hpg0 hz ⊢
  clear hwx
  have HF := Lib.hid hfr
  have HPG := Lib.hid hpg0
  clear hfr hpg0
  go_cut [6] (fun s6 wz => ∃ g : Nat, s6 = .pointer (some ⟨g, 0, none⟩) ∧ wx.heap.size ≤ g ∧ Blk wz g 39 (ev (v * v * v)) ∧ Below wx.heap.size wx wz)
  case first =>
    as_aux_lemma =>
      have hn := (HF.out.now.sub (L' := [(w.heap.size + 1, 39, ev v), (w.heap.size, 39, ev u)]) (by simp))
      have HN := Lib.hid hn
      clear hn
      refine wp_region_held_drew (S := fun W => Fn wx W [(w.heap.size + 1, 39, ev v), (w.heap.size, 39, ev u)]) (by kernel_rfl) ?_ (fun hHeld => ?_)
      · exact HN.out.drew
      refine wpAnyH_take (i := 0) (v := .agg (ev v)) rfl (by kernel_rfl) (by kernel_rfl) (by kernel_rfl) (fun _ _ _ h => h) (yields_row (by rfl) 39 (.tmp 3) rfl (w.heap.size + 1) rfl 39 (ev v) _ (fun W (h : Fn _ W _) => h.get (by simp)) Tryd.underlying39 rfl (info_ev _)) hHeld ?_
      try simp only [Act.put, List.getElem_toArray, List.getElem_cons_succ, List.getElem_cons_zero, List.setIfInBounds_toArray, List.set_cons_zero, List.set_cons_succ]
      refine wpAnyH_take (i := 2) (v := .agg (ev v)) rfl (by kernel_rfl) (by kernel_rfl) (by kernel_rfl) (fun _ _ _ h => h) (yields_row (by rfl) 39 (.tmp 3) rfl (w.heap.size + 1) rfl 39 (ev v) _ (fun W (h : Fn _ W _) => h.get (by simp)) Tryd.underlying39 rfl (info_ev _)) hHeld ?_
      try simp only [Act.put, List.getElem_toArray, List.getElem_cons_succ, List.getElem_cons_zero, List.setIfInBounds_toArray, List.set_cons_zero, List.set_cons_succ]
      refine wpAnyH_ready (rs := [1, 4]) (by kernel_rfl) (by simp) (AllReadyH.cons rfl (fun K hK => ?_) (AllReadyH.cons rfl (fun K hK => ?_) AllReadyH.nil))
      · have h0 := hHeld
        clear hHeld
        try simp only [List.getElem_toArray, List.getElem_cons_succ, List.getElem_cons_zero]
        have H0 := Lib.hid h0
        clear h0
        go_simp
        go_at_call 61
        refine (squareF v _ (HPG.out.ext H0.out.below)).mono ?_
        rintro e vv ⟨rfl, hb⟩
        have h1 := H0.out.ext hb
        clear hb H0
        go_wp2_with (fail)
        refine hK.out _ _ h1 (fun hHeld => ?_)
        clear hK K h1
        try simp only [Act.put, List.getElem_toArray, List.getElem_cons_succ, List.getElem_cons_zero, List.setIfInBounds_toArray, List.set_cons_zero, List.set_cons_succ]
        refine wpAnyH_ready (rs := [3, 4]) (by kernel_rfl) (by simp) (AllReadyH.cons rfl (fun K hK => ?_) (AllReadyH.cons rfl (fun K hK => ?_) AllReadyH.nil))
        · have h0 := hHeld
          clear hHeld
          try simp only [List.getElem_toArray, List.getElem_cons_succ, List.getElem_cons_zero]
          have H0 := Lib.hid h0
          clear h0
          go_simp
          go_at_call 42
          refine (mulF (v * v) v _ (HPG.out.ext H0.out.below)).mono ?_
          rintro e vv ⟨rfl, hb⟩
          have h1 := H0.out.ext hb
          clear hb H0
          go_wp2_with (fail)
          refine hK.out _ _ h1 (fun hHeld => ?_)
          clear hK K h1
          try simp only [Act.put, List.getElem_toArray, List.getElem_cons_succ, List.getElem_cons_zero, List.setIfInBounds_toArray, List.set_cons_zero, List.set_cons_succ]
          refine wpAnyH_ready (rs := [4]) (by kernel_rfl) (by simp) (AllReadyH.cons rfl (fun K hK => ?_) AllReadyH.nil)
          have h0 := hHeld
          clear hHeld
          try simp only [List.getElem_toArray, List.getElem_cons_succ, List.getElem_cons_zero]
          obtain ⟨kz, hg⟩ := Fn.fresh h0 39 #[.int .u64 0, .int .u64 0, .int .u64 0, .int .u64 0]
          have KZ := Lib.hid kz
          have HG := Lib.hid hg
          have H0 := Lib.hid h0
          clear kz hg h0
          go_simp
          refine hK.out _ _ (Fn.pass H0.out _) (fun hHeld => ?_)
          clear hK K H0
          try simp only [Act.put, List.getElem_toArray, List.getElem_cons_succ, List.getElem_cons_zero, List.setIfInBounds_toArray, List.set_cons_zero, List.set_cons_succ]
          refine wpAnyH_ready (rs := [5]) (by kernel_rfl) (by simp) (AllReadyH.cons rfl (fun K hK => ?_) AllReadyH.nil)
          have h0 := hHeld
          clear hHeld
          try simp only [List.getElem_toArray, List.getElem_cons_succ, List.getElem_cons_zero]
          rw [if_pos (by rfl)]
          refine wp_store_row 39 (.tmp 6) (.tmp 12) rfl _ (ev (v * v * v)) rfl rfl 39 _ KZ.out (info_ev _) rfl (ev_one _) ?_
          refine hK.out _ _ (Fn.setFresh h0 HG.out _) (fun hHeld => ?_)
          have kb := KZ.out.setRow_same (ev (v * v * v))
          clear hK K h0
          try simp only [Act.put, List.getElem_toArray, List.getElem_cons_succ, List.getElem_cons_zero, List.setIfInBounds_toArray, List.set_cons_zero, List.set_cons_succ]
          refine wpAnyH_done (by kernel_rfl) ?_ _
          have HB := Lib.hid hHeld.below
          have HGG := Lib.hid HG.out
          clear hHeld
          go_wp2_with (fail)
          go_meet
          exact ⟨_, rfl, HGG.out, kb, HB.out⟩
        · have h0 := hHeld
          clear hHeld
          try simp only [List.getElem_toArray, List.getElem_cons_succ, List.getElem_cons_zero]
          obtain ⟨kz, hg⟩ := Fn.fresh h0 39 #[.int .u64 0, .int .u64 0, .int .u64 0, .int .u64 0]
          have KZ := Lib.hid kz
          have HG := Lib.hid hg
          have H0 := Lib.hid h0
          clear kz hg h0
          go_simp
          refine hK.out _ _ (Fn.pass H0.out _) (fun hHeld => ?_)
          clear hK K H0
          try simp only [Act.put, List.getElem_toArray, List.getElem_cons_succ, List.getElem_cons_zero, List.setIfInBounds_toArray, List.set_cons_zero, List.set_cons_succ]
          refine wpAnyH_ready (rs := [3]) (by kernel_rfl) (by simp) (AllReadyH.cons rfl (fun K hK => ?_) AllReadyH.nil)
          have h0 := hHeld
          clear hHeld
          try simp only [List.getElem_toArray, List.getElem_cons_succ, List.getElem_cons_zero]
          have H0 := Lib.hid h0
          clear h0
          go_simp
          go_at_call 42
          refine (mulF (v * v) v _ (HPG.out.ext H0.out.below)).mono ?_
          rintro e vv ⟨rfl, hb⟩
          have kz := KZ.out.below hb KZ.out.lt
          clear KZ
          have KZ := Lib.hid kz
          clear kz
          have h1 := H0.out.ext hb
          clear hb H0
          go_wp2_with (fail)
          refine hK.out _ _ h1 (fun hHeld => ?_)
          clear hK K h1
          try simp only [Act.put, List.getElem_toArray, List.getElem_cons_succ, List.getElem_cons_zero, List.setIfInBounds_toArray, List.set_cons_zero, List.set_cons_succ]
          refine wpAnyH_ready (rs := [5]) (by kernel_rfl) (by simp) (AllReadyH.cons rfl (fun K hK => ?_) AllReadyH.nil)
          have h0 := hHeld
          clear hHeld
          try simp only [List.getElem_toArray, List.getElem_cons_succ, List.getElem_cons_zero]
          rw [if_pos (by rfl)]
          refine wp_store_row 39 (.tmp 6) (.tmp 12) rfl _ (ev (v * v * v)) rfl rfl 39 _ KZ.out (info_ev _) rfl (ev_one _) ?_
          refine hK.out _ _ (Fn.setFresh h0 HG.out _) (fun hHeld => ?_)
          have kb := KZ.out.setRow_same (ev (v * v * v))
          clear hK K h0
          try simp only [Act.put, List.getElem_toArray, List.getElem_cons_succ, List.getElem_cons_zero, List.setIfInBounds_toArray, List.set_cons_zero, List.set_cons_succ]
          refine wpAnyH_done (by kernel_rfl) ?_ _
          have HB := Lib.hid hHeld.below
          have HGG := Lib.hid HG.out
          clear hHeld
          go_wp2_with (fail)
          go_meet
          exact ⟨_, rfl, HGG.out, kb, HB.out⟩
      · have h0 := hHeld
        clear hHeld
        try simp only [List.getElem_toArray, List.getElem_cons_succ, List.getElem_cons_zero]
        obtain ⟨kz, hg⟩ := Fn.fresh h0 39 #[.int .u64 0, .int .u64 0, .int .u64 0, .int .u64 0]
        have KZ := Lib.hid kz
        have HG := Lib.hid hg
        have H0 := Lib.hid h0
        clear kz hg h0
        go_simp
        refine hK.out _ _ (Fn.pass H0.out _) (fun hHeld => ?_)
        clear hK K H0
        try simp only [Act.put, List.getElem_toArray, List.getElem_cons_succ, List.getElem_cons_zero, List.setIfInBounds_toArray, List.set_cons_zero, List.set_cons_succ]
        refine wpAnyH_ready (rs := [1]) (by kernel_rfl) (by simp) (AllReadyH.cons rfl (fun K hK => ?_) AllReadyH.nil)
        have h0 := hHeld
        clear hHeld
        try simp only [List.getElem_toArray, List.getElem_cons_succ, List.getElem_cons_zero]
        have H0 := Lib.hid h0
        clear h0
        go_simp
        go_at_call 61
        refine (squareF v _ (HPG.out.ext H0.out.below)).mono ?_
        rintro e vv ⟨rfl, hb⟩
        have kz := KZ.out.below hb KZ.out.lt
        clear KZ
        have KZ := Lib.hid kz
        clear kz
        have h1 := H0.out.ext hb
        clear hb H0
        go_wp2_with (fail)
        refine hK.out _ _ h1 (fun hHeld => ?_)
        clear hK K h1
        try simp only [Act.put, List.getElem_toArray, List.getElem_cons_succ, List.getElem_cons_zero, List.setIfInBounds_toArray, List.set_cons_zero, List.set_cons_succ]
        refine wpAnyH_ready (rs := [3]) (by kernel_rfl) (by simp) (AllReadyH.cons rfl (fun K hK => ?_) AllReadyH.nil)
        have h0 := hHeld
        clear hHeld
        try simp only [List.getElem_toArray, List.getElem_cons_succ, List.getElem_cons_zero]
        have H0 := Lib.hid h0
        clear h0
        go_simp
        go_at_call 42
        refine (mulF (v * v) v _ (HPG.out.ext H0.out.below)).mono ?_
        rintro e vv ⟨rfl, hb⟩
        have kz := KZ.out.below hb KZ.out.lt
        clear KZ
        have KZ := Lib.hid kz
        clear kz
        have h1 := H0.out.ext hb
        clear hb H0
        go_wp2_with (fail)
        refine hK.out _ _ h1 (fun hHeld => ?_)
        clear hK K h1
        try simp only [Act.put, List.getElem_toArray, List.getElem_cons_succ, List.getElem_cons_zero, List.setIfInBounds_toArray, List.set_cons_zero, List.set_cons_succ]
        refine wpAnyH_ready (rs := [5]) (by kernel_rfl) (by simp) (AllReadyH.cons rfl (fun K hK => ?_) AllReadyH.nil)
        have h0 := hHeld
        clear hHeld
        try simp only [List.getElem_toArray, List.getElem_cons_succ, List.getElem_cons_zero]
        rw [if_pos (by rfl)]
        refine wp_store_row 39 (.tmp 6) (.tmp 12) rfl _ (ev (v * v * v)) rfl rfl 39 _ KZ.out (info_ev _) rfl (ev_one _) ?_
        refine hK.out _ _ (Fn.setFresh h0 HG.out _) (fun hHeld => ?_)
        have kb := KZ.out.setRow_same (ev (v * v * v))
        clear hK K h0
        try simp only [Act.put, List.getElem_toArray, List.getElem_cons_succ, List.getElem_cons_zero, List.setIfInBounds_toArray, List.set_cons_zero, List.set_cons_succ]
        refine wpAnyH_done (by kernel_rfl) ?_ _
        have HB := Lib.hid hHeld.below
        have HGG := Lib.hid HG.out
        clear hHeld
        go_wp2_with (fail)
        go_meet
        exact ⟨_, rfl, HGG.out, kb, HB.out⟩
  case rest =>
    obtain ⟨g6, rfl, hg, hk, hb⟩ := hcut
    have hf2 := (HF.out.ext hb).more hk
    have hpg2 := HPG.out.ext hb
    have hz6 : wx.heap.size ≤ g6 := hg
    have hz6l := hk.lt
    clear HF HPG hb hk hg
    have HF := Lib.hid hf2
    have HPG := Lib.hid hpg2
    clear hf2 hpg2
    obtain ⟨wy, hwy⟩ : ∃ wy : World, wy = wc := ⟨_, rfl⟩
    rw [← hwy] at HF HPG hz6l ⊢
    clear hwy
    go_wp2_with (fail)
    go_cut [7] (fun s6 wz => ∃ g : Nat, s6 = .pointer (some ⟨g, 0, none⟩) ∧ wy.heap.size ≤ g ∧ Blk wz g 39 (ev (v * v * v * (v * v * v) * v)) ∧ Below wy.heap.size wy wz)
    case first =>
      as_aux_lemma =>
        have hn := (HF.out.now.sub (L' := [(g6, 39, ev (v * v * v)), (w.heap.size + 1, 39, ev v), (w.heap.size, 39, ev u)]) (by simp))
        have HN := Lib.hid hn
        clear hn
        refine wp_region_held_drew (S := fun W => Fn wy W [(g6, 39, ev (v * v * v)), (w.heap.size + 1, 39, ev v), (w.heap.size, 39, ev u)]) (by kernel_rfl) ?_ (fun hHeld => ?_)
        · exact HN.out.drew
        refine wpAnyH_take (i := 0) (v := .agg (ev (v * v * v))) rfl (by kernel_rfl) (by kernel_rfl) (by kernel_rfl) (fun _ _ _ h => h) (yields_row (by rfl) 39 (.tmp 6) rfl (g6) rfl 39 (ev (v * v * v)) _ (fun W (h : Fn _ W _) => h.get (by simp)) Tryd.underlying39 rfl (info_ev _)) hHeld ?_
        try simp only [Act.put, List.getElem_toArray, List.getElem_cons_succ, List.getElem_cons_zero, List.setIfInBounds_toArray, List.set_cons_zero, List.set_cons_succ]
        refine wpAnyH_take (i := 2) (v := .agg (ev v)) rfl (by kernel_rfl) (by kernel_rfl) (by kernel_rfl) (fun _ _ _ h => h) (yields_row (by rfl) 39 (.tmp 3) rfl (w.heap.size + 1) rfl 39 (ev v) _ (fun W (h : Fn _ W _) => h.get (by simp)) Tryd.underlying39 rfl (info_ev _)) hHeld ?_
        try simp only [Act.put, List.getElem_toArray, List.getElem_cons_succ, List.getElem_cons_zero, List.setIfInBounds_toArray, List.set_cons_zero, List.set_cons_succ]
        refine wpAnyH_ready (rs := [1, 4]) (by kernel_rfl) (by simp) (AllReadyH.cons rfl (fun K hK => ?_) (AllReadyH.cons rfl (fun K hK => ?_) AllReadyH.nil))
        · have h0 := hHeld
          clear hHeld
          try simp only [List.getElem_toArray, List.getElem_cons_succ, List.getElem_cons_zero]
          have H0 := Lib.hid h0
          clear h0
          go_simp
          go_at_call 61
          refine (squareF (v * v * v) _ (HPG.out.ext H0.out.below)).mono ?_
          rintro e vv ⟨rfl, hb⟩
          have h1 := H0.out.ext hb
          clear hb H0
          go_wp2_with (fail)
          refine hK.out _ _ h1 (fun hHeld => ?_)
          clear hK K h1
          try simp only [Act.put, List.getElem_toArray, List.getElem_cons_succ, List.getElem_cons_zero, List.setIfInBounds_toArray, List.set_cons_zero, List.set_cons_succ]
          refine wpAnyH_ready (rs := [3, 4]) (by kernel_rfl) (by simp) (AllReadyH.cons rfl (fun K hK => ?_) (AllReadyH.cons rfl (fun K hK => ?_) AllReadyH.nil))
          · have h0 := hHeld
            clear hHeld
            try simp only [List.getElem_toArray, List.getElem_cons_succ, List.getElem_cons_zero]
            have H0 := Lib.hid h0
            clear h0
            go_simp
            go_at_call 42
            refine (mulF ((v * v * v) * (v * v * v)) v _ (HPG.out.ext H0.out.below)).mono ?_
            rintro e vv ⟨rfl, hb⟩
            have h1 := H0.out.ext hb
            clear hb H0
            go_wp2_with (fail)
            refine hK.out _ _ h1 (fun hHeld => ?_)
            clear hK K h1
            try simp only [Act.put, List.getElem_toArray, List.getElem_cons_succ, List.getElem_cons_zero, List.setIfInBounds_toArray, List.set_cons_zero, List.set_cons_succ]
            refine wpAnyH_ready (rs := [4]) (by kernel_rfl) (by simp) (AllReadyH.cons rfl (fun K hK => ?_) AllReadyH.nil)
            have h0 := hHeld
            clear hHeld
            try simp only [List.getElem_toArray, List.getElem_cons_succ, List.getElem_cons_zero]
            obtain ⟨kz, hg⟩ := Fn.fresh h0 39 #[.int .u64 0, .int .u64 0, .int .u64 0, .int .u64 0]
            have KZ := Lib.hid kz
            have HG := Lib.hid hg
            have H0 := Lib.hid h0
            clear kz hg h0
            go_simp
            refine hK.out _ _ (Fn.pass H0.out _) (fun hHeld => ?_)
            clear hK K H0
            try simp only [Act.put, List.getElem_toArray, List.getElem_cons_succ, List.getElem_cons_zero, List.setIfInBounds_toArray, List.set_cons_zero, List.set_cons_succ]
            refine wpAnyH_ready (rs := [5]) (by kernel_rfl) (by simp) (AllReadyH.cons rfl (fun K hK => ?_) AllReadyH.nil)
            have h0 := hHeld
            clear hHeld
            try simp only [List.getElem_toArray, List.getElem_cons_succ, List.getElem_cons_zero]
            rw [if_pos (by rfl)]
            refine wp_store_row 39 (.tmp 7) (.tmp 16) rfl _ (ev (v * v * v * (v * v * v) * v)) rfl rfl 39 _ KZ.out (info_ev _) rfl (ev_one _) ?_
            refine hK.out _ _ (Fn.setFresh h0 HG.out _) (fun hHeld => ?_)
            have kb := KZ.out.setRow_same (ev (v * v * v * (v * v * v) * v))
            clear hK K h0
            try simp only [Act.put, List.getElem_toArray, List.getElem_cons_succ, List.getElem_cons_zero, List.setIfInBounds_toArray, List.set_cons_zero, List.set_cons_succ]
            refine wpAnyH_done (by kernel_rfl) ?_ _
            have HB := Lib.hid hHeld.below
            have HGG := Lib.hid HG.out
            clear hHeld
            go_wp2_with (fail)
            go_meet
            exact ⟨_, rfl, HGG.out, kb, HB.out⟩
          · have h0 := hHeld
            clear hHeld
            try simp only [List.getElem_toArray, List.getElem_cons_succ, List.getElem_cons_zero]
            obtain ⟨kz, hg⟩ := Fn.fresh h0 39 #[.int .u64 0, .int .u64 0, .int .u64 0, .int .u64 0]
            have KZ := Lib.hid kz
            have HG := Lib.hid hg
            have H0 := Lib.hid h0
            clear kz hg h0
            go_simp
            refine hK.out _ _ (Fn.pass H0.out _) (fun hHeld => ?_)
            clear hK K H0
            try simp only [Act.put, List.getElem_toArray, List.getElem_cons_succ, List.getElem_cons_zero, List.setIfInBounds_toArray, List.set_cons_zero, List.set_cons_succ]
            refine wpAnyH_ready (rs := [3]) (by kernel_rfl) (by simp) (AllReadyH.cons rfl (fun K hK => ?_) AllReadyH.nil)
            have h0 := hHeld
            clear hHeld
            try simp only [List.getElem_toArray, List.getElem_cons_succ, List.getElem_cons_zero]
            have H0 := Lib.hid h0
            clear h0
            go_simp
            go_at_call 42
            refine (mulF ((v * v * v) * (v * v * v)) v _ (HPG.out.ext H0.out.below)).mono ?_
            rintro e vv ⟨rfl, hb⟩
            have kz := KZ.out.below hb KZ.out.lt
            clear KZ
            have KZ := Lib.hid kz
            clear kz
            have h1 := H0.out.ext hb
            clear hb H0
            go_wp2_with (fail)
            refine hK.out _ _ h1 (fun hHeld => ?_)
            clear hK K h1
            try simp only [Act.put, List.getElem_toArray, List.getElem_cons_succ, List.getElem_cons_zero, List.setIfInBounds_toArray, List.set_cons_zero, List.set_cons_succ]
            refine wpAnyH_ready (rs := [5]) (by kernel_rfl) (by simp) (AllReadyH.cons rfl (fun K hK => ?_) AllReadyH.nil)
            have h0 := hHeld
            clear hHeld
            try simp only [List.getElem_toArray, List.getElem_cons_succ, List.getElem_cons_zero]
            rw [if_pos (by rfl)]
            refine wp_store_row 39 (.tmp 7) (.tmp 16) rfl _ (ev (v * v * v * (v * v * v) * v)) rfl rfl 39 _ KZ.out (info_ev _) rfl (ev_one _) ?_
            refine hK.out _ _ (Fn.setFresh h0 HG.out _) (fun hHeld => ?_)
            have kb := KZ.out.setRow_same (ev (v * v * v * (v * v * v) * v))
            clear hK K h0
            try simp only [Act.put, List.getElem_toArray, List.getElem_cons_succ, List.getElem_cons_zero, List.setIfInBounds_toArray, List.set_cons_zero, List.set_cons_succ]
            refine wpAnyH_done (by kernel_rfl) ?_ _
            have HB := Lib.hid hHeld.below
            have HGG := Lib.hid HG.out
            clear hHeld
            go_wp2_with (fail)
            go_meet
            exact ⟨_, rfl, HGG.out, kb, HB.out⟩
        · have h0 := hHeld
          clear hHeld
          try simp only [List.getElem_toArray, List.getElem_cons_succ, List.getElem_cons_zero]
          obtain ⟨kz, hg⟩ := Fn.fresh h0 39 #[.int .u64 0, .int .u64 0, .int .u64 0, .int .u64 0]
          have KZ := Lib.hid kz
          have HG := Lib.hid hg
          have H0 := Lib.hid h0
          clear kz hg h0
          go_simp
          refine hK.out _ _ (Fn.pass H0.out _) (fun hHeld => ?_)
          clear hK K H0
          try simp only [Act.put, List.getElem_toArray, List.getElem_cons_succ, List.getElem_cons_zero, List.setIfInBounds_toArray, List.set_cons_zero, List.set_cons_succ]
          refine wpAnyH_ready (rs := [1]) (by kernel_rfl) (by simp) (AllReadyH.cons rfl (fun K hK => ?_) AllReadyH.nil)
          have h0 := hHeld
          clear hHeld
          try simp only [List.getElem_toArray, List.getElem_cons_succ, List.getElem_cons_zero]
          have H0 := Lib.hid h0
          clear h0
          go_simp
          go_at_call 61
          refine (squareF (v * v * v) _ (HPG.out.ext H0.out.below)).mono ?_
          rintro e vv ⟨rfl, hb⟩
          have kz := KZ.out.below hb KZ.out.lt
          clear KZ
          have KZ := Lib.hid kz
          clear kz
          have h1 := H0.out.ext hb
          clear hb H0
          go_wp2_with (fail)
          refine hK.out _ _ h1 (fun hHeld => ?_)
          clear hK K h1
          try simp only [Act.put, List.getElem_toArray, List.getElem_cons_succ, List.getElem_cons_zero, List.setIfInBounds_toArray, List.set_cons_zero, List.set_cons_succ]
          refine wpAnyH_ready (rs := [3]) (by kernel_rfl) (by simp) (AllReadyH.cons rfl (fun K hK => ?_) AllReadyH.nil)
          have h0 := hHeld
          clear hHeld
          try simp only [List.getElem_toArray, List.getElem_cons_succ, List.getElem_cons_zero]
          have H0 := Lib.hid h0
          clear h0
          go_simp
          go_at_call 42
          refine (mulF ((v * v * v) * (v * v * v)) v _ (HPG.out.ext H0.out.below)).mono ?_
          rintro e vv ⟨rfl, hb⟩
          have kz := KZ.out.below hb KZ.out.lt
          clear KZ
          have KZ := Lib.hid kz
          clear kz
          have h1 := H0.out.ext hb
          clear hb H0
          go_wp2_with (fail)
          refine hK.out _ _ h1 (fun hHeld => ?_)
          clear hK K h1
          try simp only [Act.put, List.getElem_toArray, List.getElem_cons_succ, List.getElem_cons_zero, List.setIfInBounds_toArray, List.set_cons_zero, List.set_cons_succ]
          refine wpAnyH_ready (rs := [5]) (by kernel_rfl) (by simp) (AllReadyH.cons rfl (fun K hK => ?_) AllReadyH.nil)
          have h0 := hHeld
          clear hHeld
          try simp only [List.getElem_toArray, List.getElem_cons_succ, List.getElem_cons_zero]
          rw [if_pos (by rfl)]
          refine wp_store_row 39 (.tmp 7) (.tmp 16) rfl _ (ev (v * v * v * (v * v * v) * v)) rfl rfl 39 _ KZ.out (info_ev _) rfl (ev_one _) ?_
          refine hK.out _ _ (Fn.setFresh h0 HG.out _) (fun hHeld => ?_)
          have kb := KZ.out.setRow_same (ev (v * v * v * (v * v * v) * v))
          clear hK K h0
          try simp only [Act.put, List.getElem_toArray, List.getElem_cons_succ, List.getElem_cons_zero, List.setIfInBounds_toArray, List.set_cons_zero, List.set_cons_succ]
          refine wpAnyH_done (by kernel_rfl) ?_ _
          have HB := Lib.hid hHeld.below
          have HGG := Lib.hid HG.out
          clear hHeld
          go_wp2_with (fail)
          go_meet
          exact ⟨_, rfl, HGG.out, kb, HB.out⟩
    case rest =>
      obtain ⟨g7, rfl, hg, hk, hb⟩ := hcut
      have hf2 := (HF.out.ext hb).more hk
      have hpg2 := HPG.out.ext hb
      have hz7 : wy.heap.size ≤ g7 := hg
      have hz7l := hk.lt
      clear HF HPG hb hk hg
      have HF := Lib.hid hf2
      have HPG := Lib.hid hpg2
      clear hf2 hpg2
      obtain ⟨wz, hwz⟩ : ∃ wz : World, wz = wc := ⟨_, rfl⟩
      rw [← hwz] at HF HPG hz7l ⊢
      clear hwz
      go_wp2_with (fail)
      go_cut [8] (fun s6 wq => ∃ g : Nat, s6 = .pointer (some ⟨g, 0, none⟩) ∧ wz.heap.size ≤ g ∧ Blk wq g 39 (ev (u * (v * v * v) * p0)) ∧ Below wz.heap.size wz wq)
      case first =>
        as_aux_lemma =>
          have hn := (HF.out.now.sub (L' := [(g7, 39, ev (v * v * v * (v * v * v) * v)), (g6, 39, ev (v * v * v)), (w.heap.size + 1, 39, ev v), (w.heap.size, 39, ev u)]) (by simp))
          have HN := Lib.hid hn
          clear hn
          refine wp_region_held_drew (S := fun W => Fn wz W [(g7, 39, ev (v * v * v * (v * v * v) * v)), (g6, 39, ev (v * v * v)), (w.heap.size + 1, 39, ev v), (w.heap.size, 39, ev u)]) (by kernel_rfl) ?_ (fun hHeld => ?_)
          · exact HN.out.drew
          refine wpAnyH_take (i := 0) (v := .agg (ev u)) rfl (by kernel_rfl) (by kernel_rfl) (by kernel_rfl) (fun _ _ _ h => h) (yields_row (by rfl) 39 (.tmp 2) rfl (w.heap.size) rfl 39 (ev u) _ (fun W (h : Fn _ W _) => h.get (by simp)) Tryd.underlying39 rfl (info_ev _)) hHeld ?_
          try simp only [Act.put, List.getElem_toArray, List.getElem_cons_succ, List.getElem_cons_zero, List.setIfInBounds_toArray, List.set_cons_zero, List.set_cons_succ]
          refine wpAnyH_take (i := 1) (v := .agg (ev (v * v * v))) rfl (by kernel_rfl) (by kernel_rfl) (by kernel_rfl) (fun _ _ _ h => h) (yields_row (by rfl) 39 (.tmp 6) rfl (g6) rfl 39 (ev (v * v * v)) _ (fun W (h : Fn _ W _) => h.get (by simp)) Tryd.underlying39 rfl (info_ev _)) hHeld ?_
          try simp only [Act.put, List.getElem_toArray, List.getElem_cons_succ, List.getElem_cons_zero, List.setIfInBounds_toArray, List.set_cons_zero, List.set_cons_succ]
          refine wpAnyH_take (i := 3) (v := .agg (ev u)) rfl (by kernel_rfl) (by kernel_rfl) (by kernel_rfl) (fun _ _ _ h => h) (yields_row (by rfl) 39 (.tmp 2) rfl (w.heap.size) rfl 39 (ev u) _ (fun W (h : Fn _ W _) => h.get (by simp)) Tryd.underlying39 rfl (info_ev _)) hHeld ?_
          try simp only [Act.put, List.getElem_toArray, List.getElem_cons_succ, List.getElem_cons_zero, List.setIfInBounds_toArray, List.set_cons_zero, List.set_cons_succ]
          refine wpAnyH_take (i := 4) (v := .agg (ev (v * v * v * (v * v * v) * v))) rfl (by kernel_rfl) (by kernel_rfl) (by kernel_rfl) (fun _ _ _ h => h) (yields_row (by rfl) 39 (.tmp 7) rfl (g7) rfl 39 (ev (v * v * v * (v * v * v) * v)) _ (fun W (h : Fn _ W _) => h.get (by simp)) Tryd.underlying39 rfl (info_ev _)) hHeld ?_
          try simp only [Act.put, List.getElem_toArray, List.getElem_cons_succ, List.getElem_cons_zero, List.setIfInBounds_toArray, List.set_cons_zero, List.set_cons_succ]
          refine wpAnyH_ready (rs := [2, 9]) (by kernel_rfl) (by simp) (AllReadyH.cons rfl (fun K hK => ?_) (AllReadyH.cons rfl (fun K hK => ?_) AllReadyH.nil))
          · have h0 := hHeld
            clear hHeld
            try simp only [List.getElem_toArray, List.getElem_cons_succ, List.getElem_cons_zero]
            have H0 := Lib.hid h0
            clear h0
            go_simp
            go_at_call 42
            refine (mulF u (v * v * v) _ (HPG.out.ext H0.out.below)).mono ?_
            rintro e vv ⟨rfl, hb⟩
            have h1 := H0.out.ext hb
            clear hb H0
            go_wp2_with (fail)
            refine hK.out _ _ h1 (fun hHeld => ?_)
            clear hK K h1
            try simp only [Act.put, List.getElem_toArray, List.getElem_cons_succ, List.getElem_cons_zero, List.setIfInBounds_toArray, List.set_cons_zero, List.set_cons_succ]
            refine wpAnyH_ready (rs := [5, 9]) (by kernel_rfl) (by simp) (AllReadyH.cons rfl (fun K hK => ?_) (AllReadyH.cons rfl (fun K hK => ?_) AllReadyH.nil))
            · have h0 := hHeld
              clear hHeld
              try simp only [List.getElem_toArray, List.getElem_cons_succ, List.getElem_cons_zero]
              have H0 := Lib.hid h0
              clear h0
              go_simp
              go_at_call 42
              refine (mulF u (v * v * v * (v * v * v) * v) _ (HPG.out.ext H0.out.below)).mono ?_
              rintro e vv ⟨rfl, hb⟩
              have h1 := H0.out.ext hb
              clear hb H0
              go_wp2_with (fail)
              refine hK.out _ _ h1 (fun hHeld => ?_)
              clear hK K h1
              try simp only [Act.put, List.getElem_toArray, List.getElem_cons_succ, List.getElem_cons_zero, List.setIfInBounds_toArray, List.set_cons_zero, List.set_cons_succ]
              refine wpAnyH_ready (rs := [6, 9]) (by kernel_rfl) (by simp) (AllReadyH.cons rfl (fun K hK => ?_) (AllReadyH.cons rfl (fun K hK => ?_) AllReadyH.nil))
              · have h0 := hHeld
                clear hHeld
                try simp only [List.getElem_toArray, List.getElem_cons_succ, List.getElem_cons_zero]
                have H0 := Lib.hid h0
                clear h0
                go_simp
                go_at_call 74
                refine (rootPower_any _).mono ?_
                rintro e vv ⟨rfl, hb⟩
                have h1 := H0.out.ext hb
                clear hb H0
                go_wp2_with (fail)
                refine hK.out _ _ h1 (fun hHeld => ?_)
                clear hK K h1
                try simp only [Act.put, List.getElem_toArray, List.getElem_cons_succ, List.getElem_cons_zero, List.setIfInBounds_toArray, List.set_cons_zero, List.set_cons_succ]
                refine wpAnyH_ready (rs := [7, 9]) (by kernel_rfl) (by simp) (AllReadyH.cons rfl (fun K hK => ?_) (AllReadyH.cons rfl (fun K hK => ?_) AllReadyH.nil))
                · have h0 := hHeld
                  clear hHeld
                  try simp only [List.getElem_toArray, List.getElem_cons_succ, List.getElem_cons_zero]
                  have H0 := Lib.hid h0
                  clear h0
                  go_simp
                  go_at_call 72
                  refine (powR HP0.out _ (HPG.out.ext H0.out.below)).mono ?_
                  rintro e vv ⟨rfl, hb⟩
                  have h1 := H0.out.ext hb
                  clear hb H0
                  go_wp2_with (fail)
                  refine hK.out _ _ h1 (fun hHeld => ?_)
                  clear hK K h1
                  try simp only [Act.put, List.getElem_toArray, List.getElem_cons_succ, List.getElem_cons_zero, List.setIfInBounds_toArray, List.set_cons_zero, List.set_cons_succ]
                  refine wpAnyH_ready (rs := [8, 9]) (by kernel_rfl) (by simp) (AllReadyH.cons rfl (fun K hK => ?_) (AllReadyH.cons rfl (fun K hK => ?_) AllReadyH.nil))
                  · have h0 := hHeld
                    clear hHeld
                    try simp only [List.getElem_toArray, List.getElem_cons_succ, List.getElem_cons_zero]
                    have H0 := Lib.hid h0
                    clear h0
                    go_simp
                    go_at_call 42
                    refine (mulF (u * (v * v * v)) p0 _ (HPG.out.ext H0.out.below)).mono ?_
                    rintro e vv ⟨rfl, hb⟩
                    have h1 := H0.out.ext hb
                    clear hb H0
                    go_wp2_with (fail)
                    refine hK.out _ _ h1 (fun hHeld => ?_)
                    clear hK K h1
                    try simp only [Act.put, List.getElem_toArray, List.getElem_cons_succ, List.getElem_cons_zero, List.setIfInBounds_toArray, List.set_cons_zero, List.set_cons_succ]
                    refine wpAnyH_ready (rs := [9]) (by kernel_rfl) (by simp) (AllReadyH.cons rfl (fun K hK => ?_) AllReadyH.nil)
                    have h0 := hHeld
                    clear hHeld
                    try simp only [List.getElem_toArray, List.getElem_cons_succ, List.getElem_cons_zero]
                    obtain ⟨kz, hg⟩ := Fn.fresh h0 39 #[.int .u64 0, .int .u64 0, .int .u64 0, .int .u64 0]
                    have KZ := Lib.hid kz
                    have HG := Lib.hid hg
                    have H0 := Lib.hid h0
                    clear kz hg h0
                    go_simp
                    refine hK.out _ _ (Fn.pass H0.out _) (fun hHeld => ?_)
                    clear hK K H0
                    try simp only [Act.put, List.getElem_toArray, List.getElem_cons_succ, List.getElem_cons_zero, List.setIfInBounds_toArray, List.set_cons_zero, List.set_cons_succ]
                    refine wpAnyH_ready (rs := [10]) (by kernel_rfl) (by simp) (AllReadyH.cons rfl (fun K hK => ?_) AllReadyH.nil)
                    have h0 := hHeld
                    clear hHeld
                    try simp only [List.getElem_toArray, List.getElem_cons_succ, List.getElem_cons_zero]
                    rw [if_pos (by rfl)]
                    refine wp_store_row 39 (.tmp 8) (.tmp 25) rfl _ (ev (u * (v * v * v) * p0)) rfl rfl 39 _ KZ.out (info_ev _) rfl (ev_one _) ?_
                    refine hK.out _ _ (Fn.setFresh h0 HG.out _) (fun hHeld => ?_)
                    have kb := KZ.out.setRow_same (ev (u * (v * v * v) * p0))
                    clear hK K h0
                    try simp only [Act.put, List.getElem_toArray, List.getElem_cons_succ, List.getElem_cons_zero, List.setIfInBounds_toArray, List.set_cons_zero, List.set_cons_succ]
                    refine wpAnyH_done (by kernel_rfl) ?_ _
                    have HB := Lib.hid hHeld.below
                    have HGG := Lib.hid HG.out
                    clear hHeld
                    go_wp2_with (fail)
                    go_meet
                    exact ⟨_, rfl, HGG.out, kb, HB.out⟩
                  · have h0 := hHeld
                    clear hHeld
                    try simp only [List.getElem_toArray, List.getElem_cons_succ, List.getElem_cons_zero]
                    obtain ⟨kz, hg⟩ := Fn.fresh h0 39 #[.int .u64 0, .int .u64 0, .int .u64 0, .int .u64 0]
                    have KZ := Lib.hid kz
                    have HG := Lib.hid hg
                    have H0 := Lib.hid h0
                    clear kz hg h0
                    go_simp
                    refine hK.out _ _ (Fn.pass H0.out _) (fun hHeld => ?_)
                    clear hK K H0
                    try simp only [Act.put, List.getElem_toArray, List.getElem_cons_succ, List.getElem_cons_zero, List.setIfInBounds_toArray, List.set_cons_zero, List.set_cons_succ]
                    refine wpAnyH_ready (rs := [8]) (by kernel_rfl) (by simp) (AllReadyH.cons rfl (fun K hK => ?_) AllReadyH.nil)
                    have h0 := hHeld
                    clear hHeld
                    try simp only [List.getElem_toArray, List.getElem_cons_succ, List.getElem_cons_zero]
                    have H0 := Lib.hid h0
                    clear h0
                    go_simp
                    go_at_call 42
                    refine (mulF (u * (v * v * v)) p0 _ (HPG.out.ext H0.out.below)).mono ?_
                    rintro e vv ⟨rfl, hb⟩
                    have kz := KZ.out.below hb KZ.out.lt
                    clear KZ
                    have KZ := Lib.hid kz
                    clear kz
                    have h1 := H0.out.ext hb
                    clear hb H0
                    go_wp2_with (fail)
                    refine hK.out _ _ h1 (fun hHeld => ?_)
                    clear hK K h1
                    try simp only [Act.put, List.getElem_toArray, List.getElem_cons_succ, List.getElem_cons_zero, List.setIfInBounds_toArray, List.set_cons_zero, List.set_cons_succ]
                    refine wpAnyH_ready (rs := [10]) (by kernel_rfl) (by simp) (AllReadyH.cons rfl (fun K hK => ?_) AllReadyH.nil)
                    have h0 := hHeld
                    clear hHeld
                    try simp only [List.getElem_toArray, List.getElem_cons_succ, List.getElem_cons_zero]
                    rw [if_pos (by rfl)]
                    refine wp_store_row 39 (.tmp 8) (.tmp 25) rfl _ (ev (u * (v * v * v) * p0)) rfl rfl 39 _ KZ.out (info_ev _) rfl (ev_one _) ?_
                    refine hK.out _ _ (Fn.setFresh h0 HG.out _) (fun hHeld => ?_)
                    have kb := KZ.out.setRow_same (ev (u * (v * v * v) * p0))
                    clear hK K h0
                    try simp only [Act.put, List.getElem_toArray, List.getElem_cons_succ, List.getElem_cons_zero, List.setIfInBounds_toArray, List.set_cons_zero, List.set_cons_succ]
                    refine wpAnyH_done (by kernel_rfl) ?_ _
                    have HB := Lib.hid hHeld.below
                    have HGG := Lib.hid HG.out
                    clear hHeld
                    go_wp2_with (fail)
                    go_meet
                    exact ⟨_, rfl, HGG.out, kb, HB.out⟩
                · have h0 := hHeld
                  clear hHeld
                  try simp only [List.getElem_toArray, List.getElem_cons_succ, List.getElem_cons_zero]
                  obtain ⟨kz, hg⟩ := Fn.fresh h0 39 #[.int .u64 0, .int .u64 0, .int .u64 0, .int .u64 0]
                  have KZ := Lib.hid kz
                  have HG := Lib.hid hg
                  have H0 := Lib.hid h0
                  clear kz hg h0
                  go_simp
                  refine hK.out _ _ (Fn.pass H0.out _) (fun hHeld => ?_)
                  clear hK K H0
                  try simp only [Act.put, List.getElem_toArray, List.getElem_cons_succ, List.getElem_cons_zero, List.setIfInBounds_toArray, List.set_cons_zero, List.set_cons_succ]
                  refine wpAnyH_ready (rs := [7]) (by kernel_rfl) (by simp) (AllReadyH.cons rfl (fun K hK => ?_) AllReadyH.nil)
                  have h0 := hHeld
                  clear hHeld
                  try simp only [List.getElem_toArray, List.getElem_cons_succ, List.getElem_cons_zero]
                  have H0 := Lib.hid h0
                  clear h0
                  go_simp
                  go_at_call 72
                  refine (powR HP0.out _ (HPG.out.ext H0.out.below)).mono ?_
                  rintro e vv ⟨rfl, hb⟩
                  have kz := KZ.out.below hb KZ.out.lt
                  clear KZ
                  have KZ := Lib.hid kz
                  clear kz
                  have h1 := H0.out.ext hb
                  clear hb H0
                  go_wp2_with (fail)
                  refine hK.out _ _ h1 (fun hHeld => ?_)
                  clear hK K h1
                  try simp only [Act.put, List.getElem_toArray, List.getElem_cons_succ, List.getElem_cons_zero, List.setIfInBounds_toArray, List.set_cons_zero, List.set_cons_succ]
                  refine wpAnyH_ready (rs := [8]) (by kernel_rfl) (by simp) (AllReadyH.cons rfl (fun K hK => ?_) AllReadyH.nil)
                  have h0 := hHeld
                  clear hHeld
                  try simp only [List.getElem_toArray, List.getElem_cons_succ, List.getElem_cons_zero]
                  have H0 := Lib.hid h0
                  clear h0
                  go_simp
                  go_at_call 42
                  refine (mulF (u * (v * v * v)) p0 _ (HPG.out.ext H0.out.below)).mono ?_
                  rintro e vv ⟨rfl, hb⟩
                  have kz := KZ.out.below hb KZ.out.lt
                  clear KZ
                  have KZ := Lib.hid kz
                  clear kz
                  have h1 := H0.out.ext hb
                  clear hb H0
                  go_wp2_with (fail)
                  refine hK.out _ _ h1 (fun hHeld => ?_)
                  clear hK K h1
                  try simp only [Act.put, List.getElem_toArray, List.getElem_cons_succ, List.getElem_cons_zero, List.setIfInBounds_toArray, List.set_cons_zero, List.set_cons_succ]
                  refine wpAnyH_ready (rs := [10]) (by kernel_rfl) (by simp) (AllReadyH.cons rfl (fun K hK => ?_) AllReadyH.nil)
                  have h0 := hHeld
                  clear hHeld
                  try simp only [List.getElem_toArray, List.getElem_cons_succ, List.getElem_cons_zero]
                  rw [if_pos (by rfl)]
                  refine wp_store_row 39 (.tmp 8) (.tmp 25) rfl _ (ev (u * (v * v * v) * p0)) rfl rfl 39 _ KZ.out (info_ev _) rfl (ev_one _) ?_
                  refine hK.out _ _ (Fn.setFresh h0 HG.out _) (fun hHeld => ?_)
                  have kb := KZ.out.setRow_same (ev (u * (v * v * v) * p0))
                  clear hK K h0
                  try simp only [Act.put, List.getElem_toArray, List.getElem_cons_succ, List.getElem_cons_zero, List.setIfInBounds_toArray, List.set_cons_zero, List.set_cons_succ]
                  refine wpAnyH_done (by kernel_rfl) ?_ _
                  have HB := Lib.hid hHeld.below
                  have HGG := Lib.hid HG.out
                  clear hHeld
                  go_wp2_with (fail)
                  go_meet
                  exact ⟨_, rfl, HGG.out, kb, HB.out⟩
              · have h0 := hHeld
                clear hHeld
                try simp only [List.getElem_toArray, List.getElem_cons_succ, List.getElem_cons_zero]
                obtain ⟨kz, hg⟩ := Fn.fresh h0 39 #[.int .u64 0, .int .u64 0, .int .u64 0, .int .u64 0]
                have KZ := Lib.hid kz
                have HG := Lib.hid hg
                have H0 := Lib.hid h0
                clear kz hg h0
                go_simp
                refine hK.out _ _ (Fn.pass H0.out _) (fun hHeld => ?_)
                clear hK K H0
                try simp only [Act.put, List.getElem_toArray, List.getElem_cons_succ, List.getElem_cons_zero, List.setIfInBounds_toArray, List.set_cons_zero, List.set_cons_succ]
                refine wpAnyH_ready (rs := [6]) (by kernel_rfl) (by simp) (AllReadyH.cons rfl (fun K hK => ?_) AllReadyH.nil)
                have h0 := hHeld
                clear hHeld
                try simp only [List.getElem_toArray, List.getElem_cons_succ, List.getElem_cons_zero]
                have H0 := Lib.hid h0
                clear h0
                go_simp
                go_at_call 74
                refine (rootPower_any _).mono ?_
                rintro e vv ⟨rfl, hb⟩
                have kz := KZ.out.below hb KZ.out.lt
                clear KZ
                have KZ := Lib.hid kz
                clear kz
                have h1 := H0.out.ext hb
                clear hb H0
                go_wp2_with (fail)
                refine hK.out _ _ h1 (fun hHeld => ?_)
                clear hK K h1
                try simp only [Act.put, List.getElem_toArray, List.getElem_cons_succ, List.getElem_cons_zero, List.setIfInBounds_toArray, List.set_cons_zero, List.set_cons_succ]
                refine wpAnyH_ready (rs := [7]) (by kernel_rfl) (by simp) (AllReadyH.cons rfl (fun K hK => ?_) AllReadyH.nil)
                have h0 := hHeld
                clear hHeld
                try simp only [List.getElem_toArray, List.getElem_cons_succ, List.getElem_cons_zero]
                have H0 := Lib.hid h0
                clear h0
                go_simp
                go_at_call 72
                refine (powR HP0.out _ (HPG.out.ext H0.out.below)).mono ?_
                rintro e vv ⟨rfl, hb⟩
                have kz := KZ.out.below hb KZ.out.lt
                clear KZ
                have KZ := Lib.hid kz
                clear kz
                have h1 := H0.out.ext hb
                clear hb H0
                go_wp2_with (fail)
                refine hK.out _ _ h1 (fun hHeld => ?_)
                clear hK K h1
                try simp only [Act.put, List.getElem_toArray, List.getElem_cons_succ, List.getElem_cons_zero, List.setIfInBounds_toArray, List.set_cons_zero, List.set_cons_succ]
                refine wpAnyH_ready (rs := [8]) (by kernel_rfl) (by simp) (AllReadyH.cons rfl (fun K hK => ?_) AllReadyH.nil)
                have h0 := hHeld
                clear hHeld
                try simp only [List.getElem_toArray, List.getElem_cons_succ, List.getElem_cons_zero]
                have H0 := Lib.hid h0
                clear h0
                go_simp
                go_at_call 42
                refine (mulF (u * (v * v * v)) p0 _ (HPG.out.ext H0.out.below)).mono ?_
                rintro e vv ⟨rfl, hb⟩
                have kz := KZ.out.below hb KZ.out.lt
                clear KZ
                have KZ := Lib.hid kz
                clear kz
                have h1 := H0.out.ext hb
                clear hb H0
                go_wp2_with (fail)
                refine hK.out _ _ h1 (fun hHeld => ?_)
                clear hK K h1
                try simp only [Act.put, List.getElem_toArray, List.getElem_cons_succ, List.getElem_cons_zero, List.setIfInBounds_toArray, List.set_cons_zero, List.set_cons_succ]
                refine wpAnyH_ready (rs := [10]) (by kernel_rfl) (by simp) (AllReadyH.cons rfl (fun K hK => ?_) AllReadyH.nil)
                have h0 := hHeld
                clear hHeld
                try simp only [List.getElem_toArray, List.getElem_cons_succ, List.getElem_cons_zero]
                rw [if_pos (by rfl)]
                refine wp_store_row 39 (.tmp 8) (.tmp 25) rfl _ (ev (u * (v * v * v) * p0)) rfl rfl 39 _ KZ.out (info_ev _) rfl (ev_one _) ?_
                refine hK.out _ _ (Fn.setFresh h0 HG.out _) (fun hHeld => ?_)
                have kb := KZ.out.setRow_same (ev (u * (v * v * v) * p0))
                clear hK K h0
                try simp only [Act.put, List.getElem_toArray, List.getElem_cons_succ, List.getElem_cons_zero, List.setIfInBounds_toArray, List.set_cons_zero, List.set_cons_succ]
                refine wpAnyH_done (by kernel_rfl) ?_ _
                have HB := Lib.hid hHeld.below
                have HGG := Lib.hid HG.out
                clear hHeld
                go_wp2_with (fail)
                go_meet
                exact ⟨_, rfl, HGG.out, kb, HB.out⟩
            · have h0 := hHeld
              clear hHeld
              try simp only [List.getElem_toArray, List.getElem_cons_succ, List.getElem_cons_zero]
              obtain ⟨kz, hg⟩ := Fn.fresh h0 39 #[.int .u64 0, .int .u64 0, .int .u64 0, .int .u64 0]
              have KZ := Lib.hid kz
              have HG := Lib.hid hg
              have H0 := Lib.hid h0
              clear kz hg h0
              go_simp
              refine hK.out _ _ (Fn.pass H0.out _) (fun hHeld => ?_)
              clear hK K H0
              try simp only [Act.put, List.getElem_toArray, List.getElem_cons_succ, List.getElem_cons_zero, List.setIfInBounds_toArray, List.set_cons_zero, List.set_cons_succ]
              refine wpAnyH_ready (rs := [5]) (by kernel_rfl) (by simp) (AllReadyH.cons rfl (fun K hK => ?_) AllReadyH.nil)
              have h0 := hHeld
              clear hHeld
              try simp only [List.getElem_toArray, List.getElem_cons_succ, List.getElem_cons_zero]
              have H0 := Lib.hid h0
              clear h0
              go_simp
              go_at_call 42
              refine (mulF u (v * v * v * (v * v * v) * v) _ (HPG.out.ext H0.out.below)).mono ?_
              rintro e vv ⟨rfl, hb⟩
              have kz := KZ.out.below hb KZ.out.lt
              clear KZ
              have KZ := Lib.hid kz
              clear kz
              have h1 := H0.out.ext hb
              clear hb H0
              go_wp2_with (fail)
              refine hK.out _ _ h1 (fun hHeld => ?_)
              clear hK K h1
              try simp only [Act.put, List.getElem_toArray, List.getElem_cons_succ, List.getElem_cons_zero, List.setIfInBounds_toArray, List.set_cons_zero, List.set_cons_succ]
              refine wpAnyH_ready (rs := [6]) (by kernel_rfl) (by simp) (AllReadyH.cons rfl (fun K hK => ?_) AllReadyH.nil)
              have h0 := hHeld
              clear hHeld
              try simp only [List.getElem_toArray, List.getElem_cons_succ, List.getElem_cons_zero]
              have H0 := Lib.hid h0
              clear h0
              go_simp
              go_at_call 74
              refine (rootPower_any _).mono ?_
              rintro e vv ⟨rfl, hb⟩
              have kz := KZ.out.below hb KZ.out.lt
              clear KZ
              have KZ := Lib.hid kz
              clear kz
              have h1 := H0.out.ext hb
              clear hb H0
              go_wp2_with (fail)
              refine hK.out _ _ h1 (fun hHeld => ?_)
              clear hK K h1
              try simp only [Act.put, List.getElem_toArray, List.getElem_cons_succ, List.getElem_cons_zero, List.setIfInBounds_toArray, List.set_cons_zero, List.set_cons_succ]
              refine wpAnyH_ready (rs := [7]) (by kernel_rfl) (by simp) (AllReadyH.cons rfl (fun K hK => ?_) AllReadyH.nil)
              have h0 := hHeld
              clear hHeld
              try simp only [List.getElem_toArray, List.getElem_cons_succ, List.getElem_cons_zero]
              have H0 := Lib.hid h0
              clear h0
              go_simp
              go_at_call 72
              refine (powR HP0.out _ (HPG.out.ext H0.out.below)).mono ?_
              rintro e vv ⟨rfl, hb⟩
              have kz := KZ.out.below hb KZ.out.lt
              clear KZ
              have KZ := Lib.hid kz
              clear kz
              have h1 := H0.out.ext hb
              clear hb H0
              go_wp2_with (fail)
              refine hK.out _ _ h1 (fun hHeld => ?_)
              clear hK K h1
              try simp only [Act.put, List.getElem_toArray, List.getElem_cons_succ, List.getElem_cons_zero, List.setIfInBounds_toArray, List.set_cons_zero, List.set_cons_succ]
              refine wpAnyH_ready (rs := [8]) (by kernel_rfl) (by simp) (AllReadyH.cons rfl (fun K hK => ?_) AllReadyH.nil)
              have h0 := hHeld
              clear hHeld
              try simp only [List.getElem_toArray, List.getElem_cons_succ, List.getElem_cons_zero]
              have H0 := Lib.hid h0
              clear h0
              go_simp
              go_at_call 42
              refine (mulF (u * (v * v * v)) p0 _ (HPG.out.ext H0.out.below)).mono ?_
              rintro e vv ⟨rfl, hb⟩
              have kz := KZ.out.below hb KZ.out.lt
              clear KZ
              have KZ := Lib.hid kz
              clear kz
              have h1 := H0.out.ext hb
              clear hb H0
              go_wp2_with (fail)
              refine hK.out _ _ h1 (fun hHeld => ?_)
              clear hK K h1
              try simp only [Act.put, List.getElem_toArray, List.getElem_cons_succ, List.getElem_cons_zero, List.setIfInBounds_toArray, List.set_cons_zero, List.set_cons_succ]
              refine wpAnyH_ready (rs := [10]) (by kernel_rfl) (by simp) (AllReadyH.cons rfl (fun K hK => ?_) AllReadyH.nil)
              have h0 := hHeld
              clear hHeld
              try simp only [List.getElem_toArray, List.getElem_cons_succ, List.getElem_cons_zero]
              rw [if_pos (by rfl)]
              refine wp_store_row 39 (.tmp 8) (.tmp 25) rfl _ (ev (u * (v * v * v) * p0)) rfl rfl 39 _ KZ.out (info_ev _) rfl (ev_one _) ?_
              refine hK.out _ _ (Fn.setFresh h0 HG.out _) (fun hHeld => ?_)
              have kb := KZ.out.setRow_same (ev (u * (v * v * v) * p0))
              clear hK K h0
              try simp only [Act.put, List.getElem_toArray, List.getElem_cons_succ, List.getElem_cons_zero, List.setIfInBounds_toArray, List.set_cons_zero, List.set_cons_succ]
              refine wpAnyH_done (by kernel_rfl) ?_ _
              have HB := Lib.hid hHeld.below
              have HGG := Lib.hid HG.out
              clear hHeld
              go_wp2_with (fail)
              go_meet
              exact ⟨_, rfl, HGG.out, kb, HB.out⟩
          · have h0 := hHeld
            clear hHeld
            try simp only [List.getElem_toArray, List.getElem_cons_succ, List.getElem_cons_zero]
            obtain ⟨kz, hg⟩ := Fn.fresh h0 39 #[.int .u64 0, .int .u64 0, .int .u64 0, .int .u64 0]
            have KZ := Lib.hid kz
            have HG := Lib.hid hg
            have H0 := Lib.hid h0
            clear kz hg h0
            go_simp
            refine hK.out _ _ (Fn.pass H0.out _) (fun hHeld => ?_)
            clear hK K H0
            try simp only [Act.put, List.getElem_toArray, List.getElem_cons_succ, List.getElem_cons_zero, List.setIfInBounds_toArray, List.set_cons_zero, List.set_cons_succ]
            refine wpAnyH_ready (rs := [2]) (by kernel_rfl) (by simp) (AllReadyH.cons rfl (fun K hK => ?_) AllReadyH.nil)
            have h0 := hHeld
            clear hHeld
            try simp only [List.getElem_toArray, List.getElem_cons_succ, List.getElem_cons_zero]
            have H0 := Lib.hid h0
            clear h0
            go_simp
            go_at_call 42
            refine (mulF u (v * v * v) _ (HPG.out.ext H0.out.below)).mono ?_
            rintro e vv ⟨rfl, hb⟩
            have kz := KZ.out.below hb KZ.out.lt
            clear KZ
            have KZ := Lib.hid kz
            clear kz
            have h1 := H0.out.ext hb
            clear hb H0
            go_wp2_with (fail)
            refine hK.out _ _ h1 (fun hHeld => ?_)
            clear hK K h1
            try simp only [Act.put, List.getElem_toArray, List.getElem_cons_succ, List.getElem_cons_zero, List.setIfInBounds_toArray, List.set_cons_zero, List.set_cons_succ]
            refine wpAnyH_ready (rs := [5]) (by kernel_rfl) (by simp) (AllReadyH.cons rfl (fun K hK => ?_) AllReadyH.nil)
            have h0 := hHeld
            clear hHeld
            try simp only [List.getElem_toArray, List.getElem_cons_succ, List.getElem_cons_zero]
            have H0 := Lib.hid h0
            clear h0
            go_simp
            go_at_call 42
            refine (mulF u (v * v * v * (v * v * v) * v) _ (HPG.out.ext H0.out.below)).mono ?_
            rintro e vv ⟨rfl, hb⟩
            have kz := KZ.out.below hb KZ.out.lt
            clear KZ
            have KZ := Lib.hid kz
            clear kz
            have h1 := H0.out.ext hb
            clear hb H0
            go_wp2_with (fail)
            refine hK.out _ _ h1 (fun hHeld => ?_)
            clear hK K h1
            try simp only [Act.put, List.getElem_toArray, List.getElem_cons_succ, List.getElem_cons_zero, List.setIfInBounds_toArray, List.set_cons_zero, List.set_cons_succ]
            refine wpAnyH_ready (rs := [6]) (by kernel_rfl) (by simp) (AllReadyH.cons rfl (fun K hK => ?_) AllReadyH.nil)
            have h0 := hHeld
            clear hHeld
            try simp only [List.getElem_toArray, List.getElem_cons_succ, List.getElem_cons_zero]
            have H0 := Lib.hid h0
            clear h0
            go_simp
            go_at_call 74
            refine (rootPower_any _).mono ?_
            rintro e vv ⟨rfl, hb⟩
            have kz := KZ.out.below hb KZ.out.lt
            clear KZ
            have KZ := Lib.hid kz
            clear kz
            have h1 := H0.out.ext hb
            clear hb H0
            go_wp2_with (fail)
            refine hK.out _ _ h1 (fun hHeld => ?_)
            clear hK K h1
            try simp only [Act.put, List.getElem_toArray, List.getElem_cons_succ, List.getElem_cons_zero, List.setIfInBounds_toArray, List.set_cons_zero, List.set_cons_succ]
            refine wpAnyH_ready (rs := [7]) (by kernel_rfl) (by simp) (AllReadyH.cons rfl (fun K hK => ?_) AllReadyH.nil)
            have h0 := hHeld
            clear hHeld
            try simp only [List.getElem_toArray, List.getElem_cons_succ, List.getElem_cons_zero]
            have H0 := Lib.hid h0
            clear h0
            go_simp
            go_at_call 72
            refine (powR HP0.out _ (HPG.out.ext H0.out.below)).mono ?_
            rintro e vv ⟨rfl, hb⟩
            have kz := KZ.out.below hb KZ.out.lt
            clear KZ
            have KZ := Lib.hid kz
            clear kz
            have h1 := H0.out.ext hb
            clear hb H0
            go_wp2_with (fail)
            refine hK.out _ _ h1 (fun hHeld => ?_)
            clear hK K h1
            try simp only [Act.put, List.getElem_toArray, List.getElem_cons_succ, List.getElem_cons_zero, List.setIfInBounds_toArray, List.set_cons_zero, List.set_cons_succ]
            refine wpAnyH_ready (rs := [8]) (by kernel_rfl) (by simp) (AllReadyH.cons rfl (fun K hK => ?_) AllReadyH.nil)
            have h0 := hHeld
            clear hHeld
            try simp only [List.getElem_toArray, List.getElem_cons_succ, List.getElem_cons_zero]
            have H0 := Lib.hid h0
            clear h0
            go_simp
            go_at_call 42
            refine (mulF (u * (v * v * v)) p0 _ (HPG.out.ext H0.out.below)).mono ?_
            rintro e vv ⟨rfl, hb⟩
            have kz := KZ.out.below hb KZ.out.lt
            clear KZ
            have KZ := Lib.hid kz
            clear kz
            have h1 := H0.out.ext hb
            clear hb H0
            go_wp2_with (fail)
            refine hK.out _ _ h1 (fun hHeld => ?_)
            clear hK K h1
            try simp only [Act.put, List.getElem_toArray, List.getElem_cons_succ, List.getElem_cons_zero, List.setIfInBounds_toArray, List.set_cons_zero, List.set_cons_succ]
            refine wpAnyH_ready (rs := [10]) (by kernel_rfl) (by simp) (AllReadyH.cons rfl (fun K hK => ?_) AllReadyH.nil)
            have h0 := hHeld
            clear hHeld
            try simp only [List.getElem_toArray, List.getElem_cons_succ, List.getElem_cons_zero]
            rw [if_pos (by rfl)]
            refine wp_store_row 39 (.tmp 8) (.tmp 25) rfl _ (ev (u * (v * v * v) * p0)) rfl rfl 39 _ KZ.out (info_ev _) rfl (ev_one _) ?_
            refine hK.out _ _ (Fn.setFresh h0 HG.out _) (fun hHeld => ?_)
            have kb := KZ.out.setRow_same (ev (u * (v * v * v) * p0))
            clear hK K h0
            try simp only [Act.put, List.getElem_toArray, List.getElem_cons_succ, List.getElem_cons_zero, List.setIfInBounds_toArray, List.set_cons_zero, List.set_cons_succ]
            refine wpAnyH_done (by kernel_rfl) ?_ _
            have HB := Lib.hid hHeld.below
            have HGG := Lib.hid HG.out
            clear hHeld
            go_wp2_with (fail)
            go_meet
            exact ⟨_, rfl, HGG.out, kb, HB.out⟩
      case rest =>
        obtain ⟨g8, rfl, hg, hk, hb⟩ := hcut
        have hf2 := (HF.out.ext hb).more hk
        have hpg2 := HPG.out.ext hb
        have hz8 : wz.heap.size ≤ g8 := hg
        have hz8l := hk.lt
        clear HF HPG hb hk hg
        have HF := Lib.hid hf2
        have HPG := Lib.hid hpg2
        clear hf2 hpg2
        go_wp2_with (fail)
        by_cases ht1 : v * ((u * (v * v * v) * p0) * (u * (v * v * v) * p0)) = -u
        · have HT1 := Lib.hid ht1
          clear ht1
          refine wp_region_held_drew (S := fun W => Fr w W [(g8, 39, ev (u * (v * v * v) * p0)), (w.heap.size + 1, 39, ev v), (w.heap.size, 39, ev u)] [(w.heap.size + 1 + 1, 39, 4)]) (by kernel_rfl) ?_ (fun hHeld => ?_)
          · exact (HF.out.sub (by simp) (by simp)).drew
          refine wpAnyH_take (i := 0) (v := .agg (ev v)) rfl (by kernel_rfl) (by kernel_rfl) (by kernel_rfl) (fun _ _ _ h => h) (yields_row (by rfl) 39 (.tmp 3) rfl (w.heap.size + 1) rfl 39 (ev v) _ (fun W (h : Fr _ W _ _) => h.get (by simp)) Tryd.underlying39 rfl (info_ev _)) hHeld ?_
          try simp only [Act.put, List.getElem_toArray, List.getElem_cons_succ, List.getElem_cons_zero, List.setIfInBounds_toArray, List.set_cons_zero, List.set_cons_succ]
          refine wpAnyH_take (i := 1) (v := .agg (ev (u * (v * v * v) * p0))) rfl (by kernel_rfl) (by kernel_rfl) (by kernel_rfl) (fun _ _ _ h => h) (yields_row (by rfl) 39 (.tmp 8) rfl (g8) rfl 39 (ev (u * (v * v * v) * p0)) _ (fun W (h : Fr _ W _ _) => h.get (by simp)) Tryd.underlying39 rfl (info_ev _)) hHeld ?_
          try simp only [Act.put, List.getElem_toArray, List.getElem_cons_succ, List.getElem_cons_zero, List.setIfInBounds_toArray, List.set_cons_zero, List.set_cons_succ]
          refine wpAnyH_take (i := 4) (v := .agg (ev u)) rfl (by kernel_rfl) (by kernel_rfl) (by kernel_rfl) (fun _ _ _ h => h) (yields_row (by rfl) 39 (.tmp 2) rfl (w.heap.size) rfl 39 (ev u) _ (fun W (h : Fr _ W _ _) => h.get (by simp)) Tryd.underlying39 rfl (info_ev _)) hHeld ?_
          try simp only [Act.put, List.getElem_toArray, List.getElem_cons_succ, List.getElem_cons_zero, List.setIfInBounds_toArray, List.set_cons_zero, List.set_cons_succ]
          refine wpAnyH_ready (rs := [2]) (by kernel_rfl) (by simp) (AllReadyH.cons rfl (fun K hK => ?_) AllReadyH.nil)
          have h0 := hHeld
          clear hHeld
          try simp only [List.getElem_toArray, List.getElem_cons_succ, List.getElem_cons_zero]
          have H0 := Lib.hid h0
          clear h0
          go_simp
          go_at_call 61
          refine (squareF (u * (v * v * v) * p0) _ (Fr.pg H0.out HP.out)).mono ?_
          rintro e vv ⟨rfl, hb⟩
          have h1 := H0.out.ext hb
          clear hb H0
          go_wp2_with (fail)
          refine hK.out _ _ h1 (fun hHeld => ?_)
          clear hK K h1
          try simp only [Act.put, List.getElem_toArray, List.getElem_cons_succ, List.getElem_cons_zero, List.setIfInBounds_toArray, List.set_cons_zero, List.set_cons_succ]
          refine wpAnyH_ready (rs := [3]) (by kernel_rfl) (by simp) (AllReadyH.cons rfl (fun K hK => ?_) AllReadyH.nil)
          have h0 := hHeld
          clear hHeld
          try simp only [List.getElem_toArray, List.getElem_cons_succ, List.getElem_cons_zero]
          have H0 := Lib.hid h0
          clear h0
          go_simp
          go_at_call 42
          refine (mulF v ((u * (v * v * v) * p0) * (u * (v * v * v) * p0)) _ (Fr.pg H0.out HP.out)).mono ?_
          rintro e vv ⟨rfl, hb⟩
          have h1 := H0.out.ext hb
          clear hb H0
          go_wp2_with (fail)
          refine hK.out _ _ h1 (fun hHeld => ?_)
          clear hK K h1
          try simp only [Act.put, List.getElem_toArray, List.getElem_cons_succ, List.getElem_cons_zero, List.setIfInBounds_toArray, List.set_cons_zero, List.set_cons_succ]
          refine wpAnyH_ready (rs := [5]) (by kernel_rfl) (by simp) (AllReadyH.cons rfl (fun K hK => ?_) AllReadyH.nil)
          have h0 := hHeld
          clear hHeld
          try simp only [List.getElem_toArray, List.getElem_cons_succ, List.getElem_cons_zero]
          have H0 := Lib.hid h0
          clear h0
          go_simp
          go_at_call 38
          refine (negF u _ (Fr.pg H0.out HP.out)).mono ?_
          rintro e vv ⟨rfl, hb⟩
          have h1 := H0.out.ext hb
          clear hb H0
          go_wp2_with (fail)
          refine hK.out _ _ h1 (fun hHeld => ?_)
          clear hK K h1
          try simp only [Act.put, List.getElem_toArray, List.getElem_cons_succ, List.getElem_cons_zero, List.setIfInBounds_toArray, List.set_cons_zero, List.set_cons_succ]
          refine wpAnyH_ready (rs := [6]) (by kernel_rfl) (by simp) (AllReadyH.cons rfl (fun K hK => ?_) AllReadyH.nil)
          have h0 := hHeld
          clear hHeld
          try simp only [List.getElem_toArray, List.getElem_cons_succ, List.getElem_cons_zero]
          have H0 := Lib.hid h0
          clear h0
          go_simp
          go_at_call 63
          refine (equal_yes HT1.out _).mono ?_
          rintro e vv ⟨rfl, hb⟩
          have h1 := H0.out.ext hb
          clear hb H0
          go_wp2_with (fail)
          refine hK.out _ _ h1 (fun hHeld => ?_)
          clear hK K h1
          try simp only [Act.put, List.getElem_toArray, List.getElem_cons_succ, List.getElem_cons_zero, List.setIfInBounds_toArray, List.set_cons_zero, List.set_cons_succ]
          refine wpAnyH_done (by kernel_rfl) ?_ _
          have HF := Lib.hid hHeld
          clear hHeld
          go_wp2_with (fail)
          have kz := HF.out.get (g := g8) (t := 39) (cs := ev (u * (v * v * v) * p0)) (by simp)
          have KZ := Lib.hid kz.drew
          clear kz
          refine wp_region_held_drew (S := fun W => Fr w W [(w.heap.size + 1, 39, ev v), (w.heap.size, 39, ev u)] [(w.heap.size + 1 + 1, 39, 4)]) (by kernel_rfl) ?_ (fun hHeld => ?_)
          · exact (HF.out.sub (by simp) (by simp)).drew
          refine wpAnyH_ready (rs := [0, 1]) (by kernel_rfl) (by simp) (AllReadyH.cons rfl (fun K hK => ?_) (AllReadyH.cons rfl (fun K hK => ?_) AllReadyH.nil))
          · have h0 := hHeld
            clear hHeld
            try simp only [List.getElem_toArray, List.getElem_cons_succ, List.getElem_cons_zero]
            rw [if_pos (by rfl)]
            refine wp_load_row 39 (.tmp 8) rfl (g8) rfl 39 (ev (u * (v * v * v) * p0)) (0, 0) _ KZ.out Tryd.underlying39 rfl (info_ev _) ?_
            refine hK.out _ _ h0 (fun hHeld => ?_)
            clear hK K h0
            try simp only [Act.put, List.getElem_toArray, List.getElem_cons_succ, List.getElem_cons_zero, List.setIfInBounds_toArray, List.set_cons_zero, List.set_cons_succ]
            refine wpAnyH_ready (rs := [1]) (by kernel_rfl) (by simp) (AllReadyH.cons rfl (fun K hK => ?_) AllReadyH.nil)
            have h0 := hHeld
            clear hHeld
            try simp only [List.getElem_toArray, List.getElem_cons_succ, List.getElem_cons_zero]
            have H0 := Lib.hid h0
            clear h0
            go_simp
            go_at_call 75
            refine (rootI_of HI0.out _ (Fr.pg H0.out HP.out)).mono ?_
            rintro e vv ⟨rfl, hb⟩
            have kz := KZ.out.below hb KZ.out.lt
            clear KZ
            have KZ := Lib.hid kz
            clear kz
            have h1 := H0.out.ext hb
            clear hb H0
            go_wp2_with (fail)
            refine hK.out _ _ h1 (fun hHeld => ?_)
            clear hK K h1
            try simp only [Act.put, List.getElem_toArray, List.getElem_cons_succ, List.getElem_cons_zero, List.setIfInBounds_toArray, List.set_cons_zero, List.set_cons_succ]
            refine wpAnyH_ready (rs := [2]) (by kernel_rfl) (by simp) (AllReadyH.cons rfl (fun K hK => ?_) AllReadyH.nil)
            have h0 := hHeld
            clear hHeld
            try simp only [List.getElem_toArray, List.getElem_cons_succ, List.getElem_cons_zero]
            have H0 := Lib.hid h0
            clear h0
            go_simp
            go_at_call 42
            refine (mulF (u * (v * v * v) * p0) i0 _ (Fr.pg H0.out HP.out)).mono ?_
            rintro e vv ⟨rfl, hb⟩
            have kz := KZ.out.below hb KZ.out.lt
            clear KZ
            have KZ := Lib.hid kz
            clear kz
            have h1 := H0.out.ext hb
            clear hb H0
            go_wp2_with (fail)
            refine hK.out _ _ h1 (fun hHeld => ?_)
            clear hK K h1
            try simp only [Act.put, List.getElem_toArray, List.getElem_cons_succ, List.getElem_cons_zero, List.setIfInBounds_toArray, List.set_cons_zero, List.set_cons_succ]
            refine wpAnyH_ready (rs := [3]) (by kernel_rfl) (by simp) (AllReadyH.cons rfl (fun K hK => ?_) AllReadyH.nil)
            have h0 := hHeld
            clear hHeld
            try simp only [List.getElem_toArray, List.getElem_cons_succ, List.getElem_cons_zero]
            rw [if_pos (by rfl)]
            refine wp_store_row 39 (.tmp 8) (.tmp 35) rfl (g8) (ev ((u * (v * v * v) * p0) * i0)) rfl rfl 39 _ KZ.out (info_ev _) ((ev_size _).trans (ev_size _).symm) (ev_one _) ?_
            refine hK.out _ _ (Fr.setOut h0 (g := g8) (by omega) (by simp <;> omega) (by simp <;> omega) _) (fun hHeld => ?_)
            have kb := KZ.out.setRow_same (ev ((u * (v * v * v) * p0) * i0))
            clear hK K h0
            try simp only [Act.put, List.getElem_toArray, List.getElem_cons_succ, List.getElem_cons_zero, List.setIfInBounds_toArray, List.set_cons_zero, List.set_cons_succ]
            refine wpAnyH_done (by kernel_rfl) ?_ _
            have hf9 := hHeld.more kb
            have HF := Lib.hid hf9
            clear hHeld hf9 kb KZ
            go_wp2_with (fail)
            by_cases ht2 : v * (((u * (v * v * v) * p0) * i0) * ((u * (v * v * v) * p0) * i0)) = u
            · as_aux_lemma =>
                have HT2 := Lib.hid ht2
                clear ht2
                refine wp_region_held_drew (S := fun W => Fr w W [(g8, 39, ev ((u * (v * v * v) * p0) * i0)), (w.heap.size + 1, 39, ev v), (w.heap.size, 39, ev u)] [(w.heap.size + 1 + 1, 39, 4)]) (by kernel_rfl) ?_ (fun hHeld => ?_)
                · exact (HF.out.sub (by simp) (by simp)).drew
                refine wpAnyH_take (i := 0) (v := .agg (ev v)) rfl (by kernel_rfl) (by kernel_rfl) (by kernel_rfl) (fun _ _ _ h => h) (yields_row (by rfl) 39 (.tmp 3) rfl (w.heap.size + 1) rfl 39 (ev v) _ (fun W (h : Fr _ W _ _) => h.get (by simp)) Tryd.underlying39 rfl (info_ev _)) hHeld ?_
                try simp only [Act.put, List.getElem_toArray, List.getElem_cons_succ, List.getElem_cons_zero, List.setIfInBounds_toArray, List.set_cons_zero, List.set_cons_succ]
                refine wpAnyH_take (i := 1) (v := .agg (ev ((u * (v * v * v) * p0) * i0))) rfl (by kernel_rfl) (by kernel_rfl) (by kernel_rfl) (fun _ _ _ h => h) (yields_row (by rfl) 39 (.tmp 8) rfl (g8) rfl 39 (ev ((u * (v * v * v) * p0) * i0)) _ (fun W (h : Fr _ W _ _) => h.get (by simp)) Tryd.underlying39 rfl (info_ev _)) hHeld ?_
                try simp only [Act.put, List.getElem_toArray, List.getElem_cons_succ, List.getElem_cons_zero, List.setIfInBounds_toArray, List.set_cons_zero, List.set_cons_succ]
                refine wpAnyH_take (i := 4) (v := .agg (ev u)) rfl (by kernel_rfl) (by kernel_rfl) (by kernel_rfl) (fun _ _ _ h => h) (yields_row (by rfl) 39 (.tmp 2) rfl (w.heap.size) rfl 39 (ev u) _ (fun W (h : Fr _ W _ _) => h.get (by simp)) Tryd.underlying39 rfl (info_ev _)) hHeld ?_
                try simp only [Act.put, List.getElem_toArray, List.getElem_cons_succ, List.getElem_cons_zero, List.setIfInBounds_toArray, List.set_cons_zero, List.set_cons_succ]
                refine wpAnyH_ready (rs := [2]) (by kernel_rfl) (by simp) (AllReadyH.cons rfl (fun K hK => ?_) AllReadyH.nil)
                have h0 := hHeld
                clear hHeld
                try simp only [List.getElem_toArray, List.getElem_cons_succ, List.getElem_cons_zero]
                have H0 := Lib.hid h0
                clear h0
                go_simp
                go_at_call 61
                refine (squareF ((u * (v * v * v) * p0) * i0) _ (Fr.pg H0.out HP.out)).mono ?_
                rintro e vv ⟨rfl, hb⟩
                have h1 := H0.out.ext hb
                clear hb H0
                go_wp2_with (fail)
                refine hK.out _ _ h1 (fun hHeld => ?_)
                clear hK K h1
                try simp only [Act.put, List.getElem_toArray, List.getElem_cons_succ, List.getElem_cons_zero, List.setIfInBounds_toArray, List.set_cons_zero, List.set_cons_succ]
                refine wpAnyH_ready (rs := [3]) (by kernel_rfl) (by simp) (AllReadyH.cons rfl (fun K hK => ?_) AllReadyH.nil)
                have h0 := hHeld
                clear hHeld
                try simp only [List.getElem_toArray, List.getElem_cons_succ, List.getElem_cons_zero]
                have H0 := Lib.hid h0
                clear h0
                go_simp
                go_at_call 42
                refine (mulF v (((u * (v * v * v) * p0) * i0) * ((u * (v * v * v) * p0) * i0)) _ (Fr.pg H0.out HP.out)).mono ?_
                rintro e vv ⟨rfl, hb⟩
                have h1 := H0.out.ext hb
                clear hb H0
                go_wp2_with (fail)
                refine hK.out _ _ h1 (fun hHeld => ?_)
                clear hK K h1
                try simp only [Act.put, List.getElem_toArray, List.getElem_cons_succ, List.getElem_cons_zero, List.setIfInBounds_toArray, List.set_cons_zero, List.set_cons_succ]
                refine wpAnyH_ready (rs := [5]) (by kernel_rfl) (by simp) (AllReadyH.cons rfl (fun K hK => ?_) AllReadyH.nil)
                have h0 := hHeld
                clear hHeld
                try simp only [List.getElem_toArray, List.getElem_cons_succ, List.getElem_cons_zero]
                have H0 := Lib.hid h0
                clear h0
                go_simp
                go_at_call 63
                refine (equal_yes HT2.out _).mono ?_
                rintro e vv ⟨rfl, hb⟩
                have h1 := H0.out.ext hb
                clear hb H0
                go_wp2_with (fail)
                refine hK.out _ _ h1 (fun hHeld => ?_)
                clear hK K h1
                try simp only [Act.put, List.getElem_toArray, List.getElem_cons_succ, List.getElem_cons_zero, List.setIfInBounds_toArray, List.set_cons_zero, List.set_cons_succ]
                refine wpAnyH_take (i := 6) (v := ?_) rfl (by kernel_rfl) (by kernel_rfl) (by kernel_rfl) (fun _ _ _ h => h) (Or.inl ⟨by rfl, ?_⟩) hHeld ?_
                rotate_left
                · (intro W hSw; (try dsimp only at hSw); (try simp only [List.getElem_toArray, List.getElem_cons_succ, List.getElem_cons_zero]); go_simp; try with_reducible rfl)
                try simp only [Act.put, List.getElem_toArray, List.getElem_cons_succ, List.getElem_cons_zero, List.setIfInBounds_toArray, List.set_cons_zero, List.set_cons_succ]
                refine wpAnyH_done (by kernel_rfl) ?_ _
                have HF := Lib.hid hHeld
                clear hHeld
                go_wp2_with (fail)
                by_cases ht3 : (((u * (v * v * v) * p0) * i0)).val % 2 = 1
                · as_aux_lemma =>
                    have HT3 := Lib.hid ht3
                    clear ht3
                    refine wp_region_held_drew (S := fun W => Fr w W [(g8, 39, ev ((u * (v * v * v) * p0) * i0)), (w.heap.size + 1, 39, ev v), (w.heap.size, 39, ev u)] [(w.heap.size + 1 + 1, 39, 4)]) (by kernel_rfl) ?_ (fun hHeld => ?_)
                    · exact (HF.out.sub (by simp) (by simp)).drew
                    refine wpAnyH_take (i := 0) (v := .agg (ev ((u * (v * v * v) * p0) * i0))) rfl (by kernel_rfl) (by kernel_rfl) (by kernel_rfl) (fun _ _ _ h => h) (yields_row (by rfl) 39 (.tmp 8) rfl (g8) rfl 39 (ev ((u * (v * v * v) * p0) * i0)) _ (fun W (h : Fr _ W _ _) => h.get (by simp)) Tryd.underlying39 rfl (info_ev _)) hHeld ?_
                    try simp only [Act.put, List.getElem_toArray, List.getElem_cons_succ, List.getElem_cons_zero, List.setIfInBounds_toArray, List.set_cons_zero, List.set_cons_succ]
                    refine wpAnyH_take (i := 1) (v := .agg (ev ((u * (v * v * v) * p0) * i0))) rfl (by kernel_rfl) (by kernel_rfl) (by kernel_rfl) (fun _ _ _ h => h) (yields_row (by rfl) 39 (.tmp 8) rfl (g8) rfl 39 (ev ((u * (v * v * v) * p0) * i0)) _ (fun W (h : Fr _ W _ _) => h.get (by simp)) Tryd.underlying39 rfl (info_ev _)) hHeld ?_
                    try simp only [Act.put, List.getElem_toArray, List.getElem_cons_succ, List.getElem_cons_zero, List.setIfInBounds_toArray, List.set_cons_zero, List.set_cons_succ]
                    refine wpAnyH_take (i := 3) (v := .agg (ev ((u * (v * v * v) * p0) * i0))) rfl (by kernel_rfl) (by kernel_rfl) (by kernel_rfl) (fun _ _ _ h => h) (yields_row (by rfl) 39 (.tmp 8) rfl (g8) rfl 39 (ev ((u * (v * v * v) * p0) * i0)) _ (fun W (h : Fr _ W _ _) => h.get (by simp)) Tryd.underlying39 rfl (info_ev _)) hHeld ?_
                    try simp only [Act.put, List.getElem_toArray, List.getElem_cons_succ, List.getElem_cons_zero, List.setIfInBounds_toArray, List.set_cons_zero, List.set_cons_succ]
                    refine wpAnyH_ready (rs := [2]) (by kernel_rfl) (by simp) (AllReadyH.cons rfl (fun K hK => ?_) AllReadyH.nil)
                    have h0 := hHeld
                    clear hHeld
                    try simp only [List.getElem_toArray, List.getElem_cons_succ, List.getElem_cons_zero]
                    have H0 := Lib.hid h0
                    clear h0
                    go_simp
                    go_at_call 38
                    refine (negF ((u * (v * v * v) * p0) * i0) _ (Fr.pg H0.out HP.out)).mono ?_
                    rintro e vv ⟨rfl, hb⟩
                    have h1 := H0.out.ext hb
                    clear hb H0
                    go_wp2_with (fail)
                    refine hK.out _ _ h1 (fun hHeld => ?_)
                    clear hK K h1
                    try simp only [Act.put, List.getElem_toArray, List.getElem_cons_succ, List.getElem_cons_zero, List.setIfInBounds_toArray, List.set_cons_zero, List.set_cons_succ]
                    refine wpAnyH_ready (rs := [4]) (by kernel_rfl) (by simp) (AllReadyH.cons rfl (fun K hK => ?_) AllReadyH.nil)
                    have h0 := hHeld
                    clear hHeld
                    try simp only [List.getElem_toArray, List.getElem_cons_succ, List.getElem_cons_zero]
                    have H0 := Lib.hid h0
                    clear h0
                    go_simp
                    go_at_call 26
                    refine (odd_yes HT3.out _).mono ?_
                    rintro e vv ⟨rfl, hb⟩
                    have h1 := H0.out.ext hb
                    clear hb H0
                    go_wp2_with (fail)
                    refine hK.out _ _ h1 (fun hHeld => ?_)
                    clear hK K h1
                    try simp only [Act.put, List.getElem_toArray, List.getElem_cons_succ, List.getElem_cons_zero, List.setIfInBounds_toArray, List.set_cons_zero, List.set_cons_succ]
                    refine wpAnyH_ready (rs := [5]) (by kernel_rfl) (by simp) (AllReadyH.cons rfl (fun K hK => ?_) AllReadyH.nil)
                    have h0 := hHeld
                    clear hHeld
                    try simp only [List.getElem_toArray, List.getElem_cons_succ, List.getElem_cons_zero]
                    have H0 := Lib.hid h0
                    clear h0
                    go_simp
                    go_at_call 37
                    refine (selF_yes ((u * (v * v * v) * p0) * i0) (-((u * (v * v * v) * p0) * i0)) _).mono ?_
                    rintro e vv ⟨rfl, hb⟩
                    have h1 := H0.out.ext hb
                    clear hb H0
                    go_wp2_with (fail)
                    refine hK.out _ _ h1 (fun hHeld => ?_)
                    clear hK K h1
                    try simp only [Act.put, List.getElem_toArray, List.getElem_cons_succ, List.getElem_cons_zero, List.setIfInBounds_toArray, List.set_cons_zero, List.set_cons_succ]
                    refine wpAnyH_ready (rs := [6]) (by kernel_rfl) (by simp) (AllReadyH.cons rfl (fun K hK => ?_) AllReadyH.nil)
                    have h0 := hHeld
                    clear hHeld
                    try simp only [List.getElem_toArray, List.getElem_cons_succ, List.getElem_cons_zero]
                    rw [if_pos (by rfl)]
                    obtain ⟨old, hold, kold⟩ := Fr.old h0 (g := w.heap.size + 1 + 1) (t := 39) (n := 4) (by simp)
                    refine wp_store_row 39 (.tmp 4) (.tmp 49) rfl (w.heap.size + 1 + 1) (ev (-((u * (v * v * v) * p0) * i0))) rfl rfl 39 old kold (info_ev _) hold (ev_one _) ?_
                    refine hK.out _ _ (Fr.setAny h0 (g := w.heap.size + 1 + 1) (t := 39) (ev_size _) (by simp) (by simp <;> omega)) (fun hHeld => ?_)
                    have kb := kold.setRow_same (ev (-((u * (v * v * v) * p0) * i0)))
                    clear hK K h0 hold
                    try simp only [Act.put, List.getElem_toArray, List.getElem_cons_succ, List.getElem_cons_zero, List.setIfInBounds_toArray, List.set_cons_zero, List.set_cons_succ]
                    refine wpAnyH_take (i := 7) (v := ?_) rfl (by kernel_rfl) (by kernel_rfl) (by kernel_rfl) (fun _ _ _ h => h) (Or.inl ⟨by rfl, ?_⟩) hHeld ?_
                    rotate_left
                    · (intro W hSw; (try dsimp only at hSw); (try simp only [List.getElem_toArray, List.getElem_cons_succ, List.getElem_cons_zero]); go_simp; try with_reducible rfl)
                    try simp only [Act.put, List.getElem_toArray, List.getElem_cons_succ, List.getElem_cons_zero, List.setIfInBounds_toArray, List.set_cons_zero, List.set_cons_succ]
                    refine wpAnyH_done (by kernel_rfl) ?_ _
                    have HG := Lib.hid hHeld
                    clear hHeld
                    go_wp2_with (fail)
                    have hres : X = ((-((u * (v * v * v) * p0) * i0)), true) := by
                      rw [HX.out, ← HI0.out]
                      rw [rootC_a HP0.out HT1.out HT2.out, evenOf_yes HT3.out]
                    rw [hres]
                    exact bodyPost_ret (results_row_tmp rfl rfl rfl kb Tryd.underlying39 rfl (info_ev _)) rfl ⟨rfl, HG.out.below⟩
                · as_aux_lemma =>
                    have HT3 := Lib.hid ht3
                    clear ht3
                    refine wp_region_held_drew (S := fun W => Fr w W [(g8, 39, ev ((u * (v * v * v) * p0) * i0)), (w.heap.size + 1, 39, ev v), (w.heap.size, 39, ev u)] [(w.heap.size + 1 + 1, 39, 4)]) (by kernel_rfl) ?_ (fun hHeld => ?_)
                    · exact (HF.out.sub (by simp) (by simp)).drew
                    refine wpAnyH_take (i := 0) (v := .agg (ev ((u * (v * v * v) * p0) * i0))) rfl (by kernel_rfl) (by kernel_rfl) (by kernel_rfl) (fun _ _ _ h => h) (yields_row (by rfl) 39 (.tmp 8) rfl (g8) rfl 39 (ev ((u * (v * v * v) * p0) * i0)) _ (fun W (h : Fr _ W _ _) => h.get (by simp)) Tryd.underlying39 rfl (info_ev _)) hHeld ?_
                    try simp only [Act.put, List.getElem_toArray, List.getElem_cons_succ, List.getElem_cons_zero, List.setIfInBounds_toArray, List.set_cons_zero, List.set_cons_succ]
                    refine wpAnyH_take (i := 1) (v := .agg (ev ((u * (v * v * v) * p0) * i0))) rfl (by kernel_rfl) (by kernel_rfl) (by kernel_rfl) (fun _ _ _ h => h) (yields_row (by rfl) 39 (.tmp 8) rfl (g8) rfl 39 (ev ((u * (v * v * v) * p0) * i0)) _ (fun W (h : Fr _ W _ _) => h.get (by simp)) Tryd.underlying39 rfl (info_ev _)) hHeld ?_
                    try simp only [Act.put, List.getElem_toArray, List.getElem_cons_succ, List.getElem_cons_zero, List.setIfInBounds_toArray, List.set_cons_zero, List.set_cons_succ]
                    refine wpAnyH_take (i := 3) (v := .agg (ev ((u * (v * v * v) * p0) * i0))) rfl (by kernel_rfl) (by kernel_rfl) (by kernel_rfl) (fun _ _ _ h => h) (yields_row (by rfl) 39 (.tmp 8) rfl (g8) rfl 39 (ev ((u * (v * v * v) * p0) * i0)) _ (fun W (h : Fr _ W _ _) => h.get (by simp)) Tryd.underlying39 rfl (info_ev _)) hHeld ?_
                    try simp only [Act.put, List.getElem_toArray, List.getElem_cons_succ, List.getElem_cons_zero, List.setIfInBounds_toArray, List.set_cons_zero, List.set_cons_succ]
                    refine wpAnyH_ready (rs := [2]) (by kernel_rfl) (by simp) (AllReadyH.cons rfl (fun K hK => ?_) AllReadyH.nil)
                    have h0 := hHeld
                    clear hHeld
                    try simp only [List.getElem_toArray, List.getElem_cons_succ, List.getElem_cons_zero]
                    have H0 := Lib.hid h0
                    clear h0
                    go_simp
                    go_at_call 38
                    refine (negF ((u * (v * v * v) * p0) * i0) _ (Fr.pg H0.out HP.out)).mono ?_
                    rintro e vv ⟨rfl, hb⟩
                    have h1 := H0.out.ext hb
                    clear hb H0
                    go_wp2_with (fail)
                    refine hK.out _ _ h1 (fun hHeld => ?_)
                    clear hK K h1
                    try simp only [Act.put, List.getElem_toArray, List.getElem_cons_succ, List.getElem_cons_zero, List.setIfInBounds_toArray, List.set_cons_zero, List.set_cons_succ]
                    refine wpAnyH_ready (rs := [4]) (by kernel_rfl) (by simp) (AllReadyH.cons rfl (fun K hK => ?_) AllReadyH.nil)
                    have h0 := hHeld
                    clear hHeld
                    try simp only [List.getElem_toArray, List.getElem_cons_succ, List.getElem_cons_zero]
                    have H0 := Lib.hid h0
                    clear h0
                    go_simp
                    go_at_call 26
                    refine (odd_no HT3.out _).mono ?_
                    rintro e vv ⟨rfl, hb⟩
                    have h1 := H0.out.ext hb
                    clear hb H0
                    go_wp2_with (fail)
                    refine hK.out _ _ h1 (fun hHeld => ?_)
                    clear hK K h1
                    try simp only [Act.put, List.getElem_toArray, List.getElem_cons_succ, List.getElem_cons_zero, List.setIfInBounds_toArray, List.set_cons_zero, List.set_cons_succ]
                    refine wpAnyH_ready (rs := [5]) (by kernel_rfl) (by simp) (AllReadyH.cons rfl (fun K hK => ?_) AllReadyH.nil)
                    have h0 := hHeld
                    clear hHeld
                    try simp only [List.getElem_toArray, List.getElem_cons_succ, List.getElem_cons_zero]
                    have H0 := Lib.hid h0
                    clear h0
                    go_simp
                    go_at_call 37
                    refine (selF_no ((u * (v * v * v) * p0) * i0) (-((u * (v * v * v) * p0) * i0)) _).mono ?_
                    rintro e vv ⟨rfl, hb⟩
                    have h1 := H0.out.ext hb
                    clear hb H0
                    go_wp2_with (fail)
                    refine hK.out _ _ h1 (fun hHeld => ?_)
                    clear hK K h1
                    try simp only [Act.put, List.getElem_toArray, List.getElem_cons_succ, List.getElem_cons_zero, List.setIfInBounds_toArray, List.set_cons_zero, List.set_cons_succ]
                    refine wpAnyH_ready (rs := [6]) (by kernel_rfl) (by simp) (AllReadyH.cons rfl (fun K hK => ?_) AllReadyH.nil)
                    have h0 := hHeld
                    clear hHeld
                    try simp only [List.getElem_toArray, List.getElem_cons_succ, List.getElem_cons_zero]
                    rw [if_pos (by rfl)]
                    obtain ⟨old, hold, kold⟩ := Fr.old h0 (g := w.heap.size + 1 + 1) (t := 39) (n := 4) (by simp)
                    refine wp_store_row 39 (.tmp 4) (.tmp 49) rfl (w.heap.size + 1 + 1) (ev ((u * (v * v * v) * p0) * i0)) rfl rfl 39 old kold (info_ev _) hold (ev_one _) ?_
                    refine hK.out _ _ (Fr.setAny h0 (g := w.heap.size + 1 + 1) (t := 39) (ev_size _) (by simp) (by simp <;> omega)) (fun hHeld => ?_)
                    have kb := kold.setRow_same (ev ((u * (v * v * v) * p0) * i0))
                    clear hK K h0 hold
                    try simp only [Act.put, List.getElem_toArray, List.getElem_cons_succ, List.getElem_cons_zero, List.setIfInBounds_toArray, List.set_cons_zero, List.set_cons_succ]
                    refine wpAnyH_take (i := 7) (v := ?_) rfl (by kernel_rfl) (by kernel_rfl) (by kernel_rfl) (fun _ _ _ h => h) (Or.inl ⟨by rfl, ?_⟩) hHeld ?_
                    rotate_left
                    · (intro W hSw; (try dsimp only at hSw); (try simp only [List.getElem_toArray, List.getElem_cons_succ, List.getElem_cons_zero]); go_simp; try with_reducible rfl)
                    try simp only [Act.put, List.getElem_toArray, List.getElem_cons_succ, List.getElem_cons_zero, List.setIfInBounds_toArray, List.set_cons_zero, List.set_cons_succ]
                    refine wpAnyH_done (by kernel_rfl) ?_ _
                    have HG := Lib.hid hHeld
                    clear hHeld
                    go_wp2_with (fail)
                    have hres : X = (((u * (v * v * v) * p0) * i0), true) := by
                      rw [HX.out, ← HI0.out]
                      rw [rootC_a HP0.out HT1.out HT2.out, evenOf_no HT3.out]
                    rw [hres]
                    exact bodyPost_ret (results_row_tmp rfl rfl rfl kb Tryd.underlying39 rfl (info_ev _)) rfl ⟨rfl, HG.out.below⟩
            · as_aux_lemma =>
                have HT2 := Lib.hid ht2
                clear ht2
                refine wp_region_held_drew (S := fun W => Fr w W [(g8, 39, ev ((u * (v * v * v) * p0) * i0)), (w.heap.size + 1, 39, ev v), (w.heap.size, 39, ev u)] [(w.heap.size + 1 + 1, 39, 4)]) (by kernel_rfl) ?_ (fun hHeld => ?_)
                · exact (HF.out.sub (by simp) (by simp)).drew
                refine wpAnyH_take (i := 0) (v := .agg (ev v)) rfl (by kernel_rfl) (by kernel_rfl) (by kernel_rfl) (fun _ _ _ h => h) (yields_row (by rfl) 39 (.tmp 3) rfl (w.heap.size + 1) rfl 39 (ev v) _ (fun W (h : Fr _ W _ _) => h.get (by simp)) Tryd.underlying39 rfl (info_ev _)) hHeld ?_
                try simp only [Act.put, List.getElem_toArray, List.getElem_cons_succ, List.getElem_cons_zero, List.setIfInBounds_toArray, List.set_cons_zero, List.set_cons_succ]
                refine wpAnyH_take (i := 1) (v := .agg (ev ((u * (v * v * v) * p0) * i0))) rfl (by kernel_rfl) (by kernel_rfl) (by kernel_rfl) (fun _ _ _ h => h) (yields_row (by rfl) 39 (.tmp 8) rfl (g8) rfl 39 (ev ((u * (v * v * v) * p0) * i0)) _ (fun W (h : Fr _ W _ _) => h.get (by simp)) Tryd.underlying39 rfl (info_ev _)) hHeld ?_
                try simp only [Act.put, List.getElem_toArray, List.getElem_cons_succ, List.getElem_cons_zero, List.setIfInBounds_toArray, List.set_cons_zero, List.set_cons_succ]
                refine wpAnyH_take (i := 4) (v := .agg (ev u)) rfl (by kernel_rfl) (by kernel_rfl) (by kernel_rfl) (fun _ _ _ h => h) (yields_row (by rfl) 39 (.tmp 2) rfl (w.heap.size) rfl 39 (ev u) _ (fun W (h : Fr _ W _ _) => h.get (by simp)) Tryd.underlying39 rfl (info_ev _)) hHeld ?_
                try simp only [Act.put, List.getElem_toArray, List.getElem_cons_succ, List.getElem_cons_zero, List.setIfInBounds_toArray, List.set_cons_zero, List.set_cons_succ]
                refine wpAnyH_ready (rs := [2]) (by kernel_rfl) (by simp) (AllReadyH.cons rfl (fun K hK => ?_) AllReadyH.nil)
                have h0 := hHeld
                clear hHeld
                try simp only [List.getElem_toArray, List.getElem_cons_succ, List.getElem_cons_zero]
                have H0 := Lib.hid h0
                clear h0
                go_simp
                go_at_call 61
                refine (squareF ((u * (v * v * v) * p0) * i0) _ (Fr.pg H0.out HP.out)).mono ?_
                rintro e vv ⟨rfl, hb⟩
                have h1 := H0.out.ext hb
                clear hb H0
                go_wp2_with (fail)
                refine hK.out _ _ h1 (fun hHeld => ?_)
                clear hK K h1
                try simp only [Act.put, List.getElem_toArray, List.getElem_cons_succ, List.getElem_cons_zero, List.setIfInBounds_toArray, List.set_cons_zero, List.set_cons_succ]
                refine wpAnyH_ready (rs := [3]) (by kernel_rfl) (by simp) (AllReadyH.cons rfl (fun K hK => ?_) AllReadyH.nil)
                have h0 := hHeld
                clear hHeld
                try simp only [List.getElem_toArray, List.getElem_cons_succ, List.getElem_cons_zero]
                have H0 := Lib.hid h0
                clear h0
                go_simp
                go_at_call 42
                refine (mulF v (((u * (v * v * v) * p0) * i0) * ((u * (v * v * v) * p0) * i0)) _ (Fr.pg H0.out HP.out)).mono ?_
                rintro e vv ⟨rfl, hb⟩
                have h1 := H0.out.ext hb
                clear hb H0
                go_wp2_with (fail)
                refine hK.out _ _ h1 (fun hHeld => ?_)
                clear hK K h1
                try simp only [Act.put, List.getElem_toArray, List.getElem_cons_succ, List.getElem_cons_zero, List.setIfInBounds_toArray, List.set_cons_zero, List.set_cons_succ]
                refine wpAnyH_ready (rs := [5]) (by kernel_rfl) (by simp) (AllReadyH.cons rfl (fun K hK => ?_) AllReadyH.nil)
                have h0 := hHeld
                clear hHeld
                try simp only [List.getElem_toArray, List.getElem_cons_succ, List.getElem_cons_zero]
                have H0 := Lib.hid h0
                clear h0
                go_simp
                go_at_call 63
                refine (equal_no HT2.out _).mono ?_
                rintro e vv ⟨rfl, hb⟩
                have h1 := H0.out.ext hb
                clear hb H0
                go_wp2_with (fail)
                refine hK.out _ _ h1 (fun hHeld => ?_)
                clear hK K h1
                try simp only [Act.put, List.getElem_toArray, List.getElem_cons_succ, List.getElem_cons_zero, List.setIfInBounds_toArray, List.set_cons_zero, List.set_cons_succ]
                refine wpAnyH_take (i := 6) (v := ?_) rfl (by kernel_rfl) (by kernel_rfl) (by kernel_rfl) (fun _ _ _ h => h) (Or.inl ⟨by rfl, ?_⟩) hHeld ?_
                rotate_left
                · (intro W hSw; (try dsimp only at hSw); (try simp only [List.getElem_toArray, List.getElem_cons_succ, List.getElem_cons_zero]); go_simp; try with_reducible rfl)
                try simp only [Act.put, List.getElem_toArray, List.getElem_cons_succ, List.getElem_cons_zero, List.setIfInBounds_toArray, List.set_cons_zero, List.set_cons_succ]
                refine wpAnyH_done (by kernel_rfl) ?_ _
                have HF := Lib.hid hHeld
                clear hHeld
                obtain ⟨old, hold, kR⟩ := HF.out.old (g := w.heap.size + 1 + 1) (t := 39) (n := 4) (by simp)
                have kS := kR.setRow_same #[.int .u64 0, .int .u64 0, .int .u64 0, .int .u64 0]
                have hB := below_setRow HF.out.below (show w.heap.size ≤ w.heap.size + 1 + 1 by omega) #[.int .u64 0, .int .u64 0, .int .u64 0, .int .u64 0]
                have HS := Lib.hid kS
                have HB := Lib.hid hB
                have HO := Lib.hid hold
                clear kS hB hold
                go_wp2_with (first | (refine wpList_store_row rfl 39 (.tmp 4) (.tmp 43) rfl (w.heap.size + 1 + 1) #[.int .u64 0, .int .u64 0, .int .u64 0, .int .u64 0] rfl rfl 39 old kR info_elem HO.out (es_one 0) ?_))
                have hres : X = (0, false) := by
                  rw [HX.out, ← HI0.out]
                  rw [rootC_b HP0.out HT1.out HT2.out]
                rw [hres]
                exact bodyPost_ret (results_row_tmp rfl rfl rfl (show Blk _ _ _ (ev 0) from HS.out) Tryd.underlying39 rfl (info_ev _)) rfl ⟨rfl, HB.out⟩
          · have h0 := hHeld
            clear hHeld
            try simp only [List.getElem_toArray, List.getElem_cons_succ, List.getElem_cons_zero]
            have H0 := Lib.hid h0
            clear h0
            go_simp
            go_at_call 75
            refine (rootI_of HI0.out _ (Fr.pg H0.out HP.out)).mono ?_
            rintro e vv ⟨rfl, hb⟩
            have kz := KZ.out.below hb KZ.out.lt
            clear KZ
            have KZ := Lib.hid kz
            clear kz
            have h1 := H0.out.ext hb
            clear hb H0
            go_wp2_with (fail)
            refine hK.out _ _ h1 (fun hHeld => ?_)
            clear hK K h1
            try simp only [Act.put, List.getElem_toArray, List.getElem_cons_succ, List.getElem_cons_zero, List.setIfInBounds_toArray, List.set_cons_zero, List.set_cons_succ]
            refine wpAnyH_ready (rs := [0]) (by kernel_rfl) (by simp) (AllReadyH.cons rfl (fun K hK => ?_) AllReadyH.nil)
            have h0 := hHeld
            clear hHeld
            try simp only [List.getElem_toArray, List.getElem_cons_succ, List.getElem_cons_zero]
            rw [if_pos (by rfl)]
            refine wp_load_row 39 (.tmp 8) rfl (g8) rfl 39 (ev (u * (v * v * v) * p0)) (0, 0) _ KZ.out Tryd.underlying39 rfl (info_ev _) ?_
            refine hK.out _ _ h0 (fun hHeld => ?_)
            clear hK K h0
            try simp only [Act.put, List.getElem_toArray, List.getElem_cons_succ, List.getElem_cons_zero, List.setIfInBounds_toArray, List.set_cons_zero, List.set_cons_succ]
            refine wpAnyH_ready (rs := [2]) (by kernel_rfl) (by simp) (AllReadyH.cons rfl (fun K hK => ?_) AllReadyH.nil)
            have h0 := hHeld
            clear hHeld
            try simp only [List.getElem_toArray, List.getElem_cons_succ, List.getElem_cons_zero]
            have H0 := Lib.hid h0
            clear h0
            go_simp
            go_at_call 42
            refine (mulF (u * (v * v * v) * p0) i0 _ (Fr.pg H0.out HP.out)).mono ?_
            rintro e vv ⟨rfl, hb⟩
            have kz := KZ.out.below hb KZ.out.lt
            clear KZ
            have KZ := Lib.hid kz
            clear kz
            have h1 := H0.out.ext hb
            clear hb H0
            go_wp2_with (fail)
            refine hK.out _ _ h1 (fun hHeld => ?_)
            clear hK K h1
            try simp only [Act.put, List.getElem_toArray, List.getElem_cons_succ, List.getElem_cons_zero, List.setIfInBounds_toArray, List.set_cons_zero, List.set_cons_succ]
            refine wpAnyH_ready (rs := [3]) (by kernel_rfl) (by simp) (AllReadyH.cons rfl (fun K hK => ?_) AllReadyH.nil)
            have h0 := hHeld
            clear hHeld
            try simp only [List.getElem_toArray, List.getElem_cons_succ, List.getElem_cons_zero]
            rw [if_pos (by rfl)]
            refine wp_store_row 39 (.tmp 8) (.tmp 35) rfl (g8) (ev ((u * (v * v * v) * p0) * i0)) rfl rfl 39 _ KZ.out (info_ev _) ((ev_size _).trans (ev_size _).symm) (ev_one _) ?_
            refine hK.out _ _ (Fr.setOut h0 (g := g8) (by omega) (by simp <;> omega) (by simp <;> omega) _) (fun hHeld => ?_)
            have kb := KZ.out.setRow_same (ev ((u * (v * v * v) * p0) * i0))
            clear hK K h0
            try simp only [Act.put, List.getElem_toArray, List.getElem_cons_succ, List.getElem_cons_zero, List.setIfInBounds_toArray, List.set_cons_zero, List.set_cons_succ]
            refine wpAnyH_done (by kernel_rfl) ?_ _
            have hf9 := hHeld.more kb
            have HF := Lib.hid hf9
            clear hHeld hf9 kb KZ
            go_wp2_with (fail)
            by_cases ht2 : v * (((u * (v * v * v) * p0) * i0) * ((u * (v * v * v) * p0) * i0)) = u
            · as_aux_lemma =>
                have HT2 := Lib.hid ht2
                clear ht2
                refine wp_region_held_drew (S := fun W => Fr w W [(g8, 39, ev ((u * (v * v * v) * p0) * i0)), (w.heap.size + 1, 39, ev v), (w.heap.size, 39, ev u)] [(w.heap.size + 1 + 1, 39, 4)]) (by kernel_rfl) ?_ (fun hHeld => ?_)
                · exact (HF.out.sub (by simp) (by simp)).drew
                refine wpAnyH_take (i := 0) (v := .agg (ev v)) rfl (by kernel_rfl) (by kernel_rfl) (by kernel_rfl) (fun _ _ _ h => h) (yields_row (by rfl) 39 (.tmp 3) rfl (w.heap.size + 1) rfl 39 (ev v) _ (fun W (h : Fr _ W _ _) => h.get (by simp)) Tryd.underlying39 rfl (info_ev _)) hHeld ?_
                try simp only [Act.put, List.getElem_toArray, List.getElem_cons_succ, List.getElem_cons_zero, List.setIfInBounds_toArray, List.set_cons_zero, List.set_cons_succ]
                refine wpAnyH_take (i := 1) (v := .agg (ev ((u * (v * v * v) * p0) * i0))) rfl (by kernel_rfl) (by kernel_rfl) (by kernel_rfl) (fun _ _ _ h => h) (yields_row (by rfl) 39 (.tmp 8) rfl (g8) rfl 39 (ev ((u * (v * v * v) * p0) * i0)) _ (fun W (h : Fr _ W _ _) => h.get (by simp)) Tryd.underlying39 rfl (info_ev _)) hHeld ?_
                try simp only [Act.put, List.getElem_toArray, List.getElem_cons_succ, List.getElem_cons_zero, List.setIfInBounds_toArray, List.set_cons_zero, List.set_cons_succ]
                refine wpAnyH_take (i := 4) (v := .agg (ev u)) rfl (by kernel_rfl) (by kernel_rfl) (by kernel_rfl) (fun _ _ _ h => h) (yields_row (by rfl) 39 (.tmp 2) rfl (w.heap.size) rfl 39 (ev u) _ (fun W (h : Fr _ W _ _) => h.get (by simp)) Tryd.underlying39 rfl (info_ev _)) hHeld ?_
                try simp only [Act.put, List.getElem_toArray, List.getElem_cons_succ, List.getElem_cons_zero, List.setIfInBounds_toArray, List.set_cons_zero, List.set_cons_succ]
                refine wpAnyH_ready (rs := [2]) (by kernel_rfl) (by simp) (AllReadyH.cons rfl (fun K hK => ?_) AllReadyH.nil)
                have h0 := hHeld
                clear hHeld
                try simp only [List.getElem_toArray, List.getElem_cons_succ, List.getElem_cons_zero]
                have H0 := Lib.hid h0
                clear h0
                go_simp
                go_at_call 61
                refine (squareF ((u * (v * v * v) * p0) * i0) _ (Fr.pg H0.out HP.out)).mono ?_
                rintro e vv ⟨rfl, hb⟩
                have h1 := H0.out.ext hb
                clear hb H0
                go_wp2_with (fail)
                refine hK.out _ _ h1 (fun hHeld => ?_)
                clear hK K h1
                try simp only [Act.put, List.getElem_toArray, List.getElem_cons_succ, List.getElem_cons_zero, List.setIfInBounds_toArray, List.set_cons_zero, List.set_cons_succ]
                refine wpAnyH_ready (rs := [3]) (by kernel_rfl) (by simp) (AllReadyH.cons rfl (fun K hK => ?_) AllReadyH.nil)
                have h0 := hHeld
                clear hHeld
                try simp only [List.getElem_toArray, List.getElem_cons_succ, List.getElem_cons_zero]
                have H0 := Lib.hid h0
                clear h0
                go_simp
                go_at_call 42
                refine (mulF v (((u * (v * v * v) * p0) * i0) * ((u * (v * v * v) * p0) * i0)) _ (Fr.pg H0.out HP.out)).mono ?_
                rintro e vv ⟨rfl, hb⟩
                have h1 := H0.out.ext hb
                clear hb H0
                go_wp2_with (fail)
                refine hK.out _ _ h1 (fun hHeld => ?_)
                clear hK K h1
                try simp only [Act.put, List.getElem_toArray, List.getElem_cons_succ, List.getElem_cons_zero, List.setIfInBounds_toArray, List.set_cons_zero, List.set_cons_succ]
                refine wpAnyH_ready (rs := [5]) (by kernel_rfl) (by simp) (AllReadyH.cons rfl (fun K hK => ?_) AllReadyH.nil)
                have h0 := hHeld
                clear hHeld
                try simp only [List.getElem_toArray, List.getElem_cons_succ, List.getElem_cons_zero]
                have H0 := Lib.hid h0
                clear h0
                go_simp
                go_at_call 63
                refine (equal_yes HT2.out _).mono ?_
                rintro e vv ⟨rfl, hb⟩
                have h1 := H0.out.ext hb
                clear hb H0
                go_wp2_with (fail)
                refine hK.out _ _ h1 (fun hHeld => ?_)
                clear hK K h1
                try simp only [Act.put, List.getElem_toArray, List.getElem_cons_succ, List.getElem_cons_zero, List.setIfInBounds_toArray, List.set_cons_zero, List.set_cons_succ]
                refine wpAnyH_take (i := 6) (v := ?_) rfl (by kernel_rfl) (by kernel_rfl) (by kernel_rfl) (fun _ _ _ h => h) (Or.inl ⟨by rfl, ?_⟩) hHeld ?_
                rotate_left
                · (intro W hSw; (try dsimp only at hSw); (try simp only [List.getElem_toArray, List.getElem_cons_succ, List.getElem_cons_zero]); go_simp; try with_reducible rfl)
                try simp only [Act.put, List.getElem_toArray, List.getElem_cons_succ, List.getElem_cons_zero, List.setIfInBounds_toArray, List.set_cons_zero, List.set_cons_succ]
                refine wpAnyH_done (by kernel_rfl) ?_ _
                have HF := Lib.hid hHeld
                clear hHeld
                go_wp2_with (fail)
                by_cases ht3 : (((u * (v * v * v) * p0) * i0)).val % 2 = 1
                · as_aux_lemma =>
                    have HT3 := Lib.hid ht3
                    clear ht3
                    refine wp_region_held_drew (S := fun W => Fr w W [(g8, 39, ev ((u * (v * v * v) * p0) * i0)), (w.heap.size + 1, 39, ev v), (w.heap.size, 39, ev u)] [(w.heap.size + 1 + 1, 39, 4)]) (by kernel_rfl) ?_ (fun hHeld => ?_)
                    · exact (HF.out.sub (by simp) (by simp)).drew
                    refine wpAnyH_take (i := 0) (v := .agg (ev ((u * (v * v * v) * p0) * i0))) rfl (by kernel_rfl) (by kernel_rfl) (by kernel_rfl) (fun _ _ _ h => h) (yields_row (by rfl) 39 (.tmp 8) rfl (g8) rfl 39 (ev ((u * (v * v * v) * p0) * i0)) _ (fun W (h : Fr _ W _ _) => h.get (by simp)) Tryd.underlying39 rfl (info_ev _)) hHeld ?_
                    try simp only [Act.put, List.getElem_toArray, List.getElem_cons_succ, List.getElem_cons_zero, List.setIfInBounds_toArray, List.set_cons_zero, List.set_cons_succ]
                    refine wpAnyH_take (i := 1) (v := .agg (ev ((u * (v * v * v) * p0) * i0))) rfl (by kernel_rfl) (by kernel_rfl) (by kernel_rfl) (fun _ _ _ h => h) (yields_row (by rfl) 39 (.tmp 8) rfl (g8) rfl 39 (ev ((u * (v * v * v) * p0) * i0)) _ (fun W (h : Fr _ W _ _) => h.get (by simp)) Tryd.underlying39 rfl (info_ev _)) hHeld ?_
                    try simp only [Act.put, List.getElem_toArray, List.getElem_cons_succ, List.getElem_cons_zero, List.setIfInBounds_toArray, List.set_cons_zero, List.set_cons_succ]
                    refine wpAnyH_take (i := 3) (v := .agg (ev ((u * (v * v * v) * p0) * i0))) rfl (by kernel_rfl) (by kernel_rfl) (by kernel_rfl) (fun _ _ _ h => h) (yields_row (by rfl) 39 (.tmp 8) rfl (g8) rfl 39 (ev ((u * (v * v * v) * p0) * i0)) _ (fun W (h : Fr _ W _ _) => h.get (by simp)) Tryd.underlying39 rfl (info_ev _)) hHeld ?_
                    try simp only [Act.put, List.getElem_toArray, List.getElem_cons_succ, List.getElem_cons_zero, List.setIfInBounds_toArray, List.set_cons_zero, List.set_cons_succ]
                    refine wpAnyH_ready (rs := [2]) (by kernel_rfl) (by simp) (AllReadyH.cons rfl (fun K hK => ?_) AllReadyH.nil)
                    have h0 := hHeld
                    clear hHeld
                    try simp only [List.getElem_toArray, List.getElem_cons_succ, List.getElem_cons_zero]
                    have H0 := Lib.hid h0
                    clear h0
                    go_simp
                    go_at_call 38
                    refine (negF ((u * (v * v * v) * p0) * i0) _ (Fr.pg H0.out HP.out)).mono ?_
                    rintro e vv ⟨rfl, hb⟩
                    have h1 := H0.out.ext hb
                    clear hb H0
                    go_wp2_with (fail)
                    refine hK.out _ _ h1 (fun hHeld => ?_)
                    clear hK K h1
                    try simp only [Act.put, List.getElem_toArray, List.getElem_cons_succ, List.getElem_cons_zero, List.setIfInBounds_toArray, List.set_cons_zero, List.set_cons_succ]
                    refine wpAnyH_ready (rs := [4]) (by kernel_rfl) (by simp) (AllReadyH.cons rfl (fun K hK => ?_) AllReadyH.nil)
                    have h0 := hHeld
                    clear hHeld
                    try simp only [List.getElem_toArray, List.getElem_cons_succ, List.getElem_cons_zero]
                    have H0 := Lib.hid h0
                    clear h0
                    go_simp
                    go_at_call 26
                    refine (odd_yes HT3.out _).mono ?_
                    rintro e vv ⟨rfl, hb⟩
                    have h1 := H0.out.ext hb
                    clear hb H0
                    go_wp2_with (fail)
                    refine hK.out _ _ h1 (fun hHeld => ?_)
                    clear hK K h1
                    try simp only [Act.put, List.getElem_toArray, List.getElem_cons_succ, List.getElem_cons_zero, List.setIfInBounds_toArray, List.set_cons_zero, List.set_cons_succ]
                    refine wpAnyH_ready (rs := [5]) (by kernel_rfl) (by simp) (AllReadyH.cons rfl (fun K hK => ?_) AllReadyH.nil)
                    have h0 := hHeld
                    clear hHeld
                    try simp only [List.getElem_toArray, List.getElem_cons_succ, List.getElem_cons_zero]
                    have H0 := Lib.hid h0
                    clear h0
                    go_simp
                    go_at_call 37
                    refine (selF_yes ((u * (v * v * v) * p0) * i0) (-((u * (v * v * v) * p0) * i0)) _).mono ?_
                    rintro e vv ⟨rfl, hb⟩
                    have h1 := H0.out.ext hb
                    clear hb H0
                    go_wp2_with (fail)
                    refine hK.out _ _ h1 (fun hHeld => ?_)
                    clear hK K h1
                    try simp only [Act.put, List.getElem_toArray, List.getElem_cons_succ, List.getElem_cons_zero, List.setIfInBounds_toArray, List.set_cons_zero, List.set_cons_succ]
                    refine wpAnyH_ready (rs := [6]) (by kernel_rfl) (by simp) (AllReadyH.cons rfl (fun K hK => ?_) AllReadyH.nil)
                    have h0 := hHeld
                    clear hHeld
                    try simp only [List.getElem_toArray, List.getElem_cons_succ, List.getElem_cons_zero]
                    rw [if_pos (by rfl)]
                    obtain ⟨old, hold, kold⟩ := Fr.old h0 (g := w.heap.size + 1 + 1) (t := 39) (n := 4) (by simp)
                    refine wp_store_row 39 (.tmp 4) (.tmp 49) rfl (w.heap.size + 1 + 1) (ev (-((u * (v * v * v) * p0) * i0))) rfl rfl 39 old kold (info_ev _) hold (ev_one _) ?_
                    refine hK.out _ _ (Fr.setAny h0 (g := w.heap.size + 1 + 1) (t := 39) (ev_size _) (by simp) (by simp <;> omega)) (fun hHeld => ?_)
                    have kb := kold.setRow_same (ev (-((u * (v * v * v) * p0) * i0)))
                    clear hK K h0 hold
                    try simp only [Act.put, List.getElem_toArray, List.getElem_cons_succ, List.getElem_cons_zero, List.setIfInBounds_toArray, List.set_cons_zero, List.set_cons_succ]
                    refine wpAnyH_take (i := 7) (v := ?_) rfl (by kernel_rfl) (by kernel_rfl) (by kernel_rfl) (fun _ _ _ h => h) (Or.inl ⟨by rfl, ?_⟩) hHeld ?_
                    rotate_left
                    · (intro W hSw; (try dsimp only at hSw); (try simp only [List.getElem_toArray, List.getElem_cons_succ, List.getElem_cons_zero]); go_simp; try with_reducible rfl)
                    try simp only [Act.put, List.getElem_toArray, List.getElem_cons_succ, List.getElem_cons_zero, List.setIfInBounds_toArray, List.set_cons_zero, List.set_cons_succ]
                    refine wpAnyH_done (by kernel_rfl) ?_ _
                    have HG := Lib.hid hHeld
                    clear hHeld
                    go_wp2_with (fail)
                    have hres : X = ((-((u * (v * v * v) * p0) * i0)), true) := by
                      rw [HX.out, ← HI0.out]
                      rw [rootC_a HP0.out HT1.out HT2.out, evenOf_yes HT3.out]
                    rw [hres]
                    exact bodyPost_ret (results_row_tmp rfl rfl rfl kb Tryd.underlying39 rfl (info_ev _)) rfl ⟨rfl, HG.out.below⟩
                · as_aux_lemma =>
                    have HT3 := Lib.hid ht3
                    clear ht3
                    refine wp_region_held_drew (S := fun W => Fr w W [(g8, 39, ev ((u * (v * v * v) * p0) * i0)), (w.heap.size + 1, 39, ev v), (w.heap.size, 39, ev u)] [(w.heap.size + 1 + 1, 39, 4)]) (by kernel_rfl) ?_ (fun hHeld => ?_)
                    · exact (HF.out.sub (by simp) (by simp)).drew
                    refine wpAnyH_take (i := 0) (v := .agg (ev ((u * (v * v * v) * p0) * i0))) rfl (by kernel_rfl) (by kernel_rfl) (by kernel_rfl) (fun _ _ _ h => h) (yields_row (by rfl) 39 (.tmp 8) rfl (g8) rfl 39 (ev ((u * (v * v * v) * p0) * i0)) _ (fun W (h : Fr _ W _ _) => h.get (by simp)) Tryd.underlying39 rfl (info_ev _)) hHeld ?_
                    try simp only [Act.put, List.getElem_toArray, List.getElem_cons_succ, List.getElem_cons_zero, List.setIfInBounds_toArray, List.set_cons_zero, List.set_cons_succ]
                    refine wpAnyH_take (i := 1) (v := .agg (ev ((u * (v * v * v) * p0) * i0))) rfl (by kernel_rfl) (by kernel_rfl) (by kernel_rfl) (fun _ _ _ h => h) (yields_row (by rfl) 39 (.tmp 8) rfl (g8) rfl 39 (ev ((u * (v * v * v) * p0) * i0)) _ (fun W (h : Fr _ W _ _) => h.get (by simp)) Tryd.underlying39 rfl (info_ev _)) hHeld ?_
                    try simp only [Act.put, List.getElem_toArray, List.getElem_cons_succ, List.getElem_cons_zero, List.setIfInBounds_toArray, List.set_cons_zero, List.set_cons_succ]
                    refine wpAnyH_take (i := 3) (v := .agg (ev ((u * (v * v * v) * p0) * i0))) rfl (by kernel_rfl) (by kernel_rfl) (by kernel_rfl) (fun _ _ _ h => h) (yields_row (by rfl) 39 (.tmp 8) rfl (g8) rfl 39 (ev ((u * (v * v * v) * p0) * i0)) _ (fun W (h : Fr _ W _ _) => h.get (by simp)) Tryd.underlying39 rfl (info_ev _)) hHeld ?_
                    try simp only [Act.put, List.getElem_toArray, List.getElem_cons_succ, List.getElem_cons_zero, List.setIfInBounds_toArray, List.set_cons_zero, List.set_cons_succ]
                    refine wpAnyH_ready (rs := [2]) (by kernel_rfl) (by simp) (AllReadyH.cons rfl (fun K hK => ?_) AllReadyH.nil)
                    have h0 := hHeld
                    clear hHeld
                    try simp only [List.getElem_toArray, List.getElem_cons_succ, List.getElem_cons_zero]
                    have H0 := Lib.hid h0
                    clear h0
                    go_simp
                    go_at_call 38
                    refine (negF ((u * (v * v * v) * p0) * i0) _ (Fr.pg H0.out HP.out)).mono ?_
                    rintro e vv ⟨rfl, hb⟩
                    have h1 := H0.out.ext hb
                    clear hb H0
                    go_wp2_with (fail)
                    refine hK.out _ _ h1 (fun hHeld => ?_)
                    clear hK K h1
                    try simp only [Act.put, List.getElem_toArray, List.getElem_cons_succ, List.getElem_cons_zero, List.setIfInBounds_toArray, List.set_cons_zero, List.set_cons_succ]
                    refine wpAnyH_ready (rs := [4]) (by kernel_rfl) (by simp) (AllReadyH.cons rfl (fun K hK => ?_) AllReadyH.nil)
                    have h0 := hHeld
                    clear hHeld
                    try simp only [List.getElem_toArray, List.getElem_cons_succ, List.getElem_cons_zero]
                    have H0 := Lib.hid h0
                    clear h0
                    go_simp
                    go_at_call 26
                    refine (odd_no HT3.out _).mono ?_
                    rintro e vv ⟨rfl, hb⟩
                    have h1 := H0.out.ext hb
                    clear hb H0
                    go_wp2_with (fail)
                    refine hK.out _ _ h1 (fun hHeld => ?_)
                    clear hK K h1
                    try simp only [Act.put, List.getElem_toArray, List.getElem_cons_succ, List.getElem_cons_zero, List.setIfInBounds_toArray, List.set_cons_zero, List.set_cons_succ]
                    refine wpAnyH_ready (rs := [5]) (by kernel_rfl) (by simp) (AllReadyH.cons rfl (fun K hK => ?_) AllReadyH.nil)
                    have h0 := hHeld
                    clear hHeld
                    try simp only [List.getElem_toArray, List.getElem_cons_succ, List.getElem_cons_zero]
                    have H0 := Lib.hid h0
                    clear h0
                    go_simp
                    go_at_call 37
                    refine (selF_no ((u * (v * v * v) * p0) * i0) (-((u * (v * v * v) * p0) * i0)) _).mono ?_
                    rintro e vv ⟨rfl, hb⟩
                    have h1 := H0.out.ext hb
                    clear hb H0
                    go_wp2_with (fail)
                    refine hK.out _ _ h1 (fun hHeld => ?_)
                    clear hK K h1
                    try simp only [Act.put, List.getElem_toArray, List.getElem_cons_succ, List.getElem_cons_zero, List.setIfInBounds_toArray, List.set_cons_zero, List.set_cons_succ]
                    refine wpAnyH_ready (rs := [6]) (by kernel_rfl) (by simp) (AllReadyH.cons rfl (fun K hK => ?_) AllReadyH.nil)
                    have h0 := hHeld
                    clear hHeld
                    try simp only [List.getElem_toArray, List.getElem_cons_succ, List.getElem_cons_zero]
                    rw [if_pos (by rfl)]
                    obtain ⟨old, hold, kold⟩ := Fr.old h0 (g := w.heap.size + 1 + 1) (t := 39) (n := 4) (by simp)
                    refine wp_store_row 39 (.tmp 4) (.tmp 49) rfl (w.heap.size + 1 + 1) (ev ((u * (v * v * v) * p0) * i0)) rfl rfl 39 old kold (info_ev _) hold (ev_one _) ?_
                    refine hK.out _ _ (Fr.setAny h0 (g := w.heap.size + 1 + 1) (t := 39) (ev_size _) (by simp) (by simp <;> omega)) (fun hHeld => ?_)
                    have kb := kold.setRow_same (ev ((u * (v * v * v) * p0) * i0))
                    clear hK K h0 hold
                    try simp only [Act.put, List.getElem_toArray, List.getElem_cons_succ, List.getElem_cons_zero, List.setIfInBounds_toArray, List.set_cons_zero, List.set_cons_succ]
                    refine wpAnyH_take (i := 7) (v := ?_) rfl (by kernel_rfl) (by kernel_rfl) (by kernel_rfl) (fun _ _ _ h => h) (Or.inl ⟨by rfl, ?_⟩) hHeld ?_
                    rotate_left
                    · (intro W hSw; (try dsimp only at hSw); (try simp only [List.getElem_toArray, List.getElem_cons_succ, List.getElem_cons_zero]); go_simp; try with_reducible rfl)
                    try simp only [Act.put, List.getElem_toArray, List.getElem_cons_succ, List.getElem_cons_zero, List.setIfInBounds_toArray, List.set_cons_zero, List.set_cons_succ]
                    refine wpAnyH_done (by kernel_rfl) ?_ _
                    have HG := Lib.hid hHeld
                    clear hHeld
                    go_wp2_with (fail)
                    have hres : X = (((u * (v * v * v) * p0) * i0), true) := by
                      rw [HX.out, ← HI0.out]
                      rw [rootC_a HP0.out HT1.out HT2.out, evenOf_no HT3.out]
                    rw [hres]
                    exact bodyPost_ret (results_row_tmp rfl rfl rfl kb Tryd.underlying39 rfl (info_ev _)) rfl ⟨rfl, HG.out.below⟩
            · as_aux_lemma =>
                have HT2 := Lib.hid ht2
                clear ht2
                refine wp_region_held_drew (S := fun W => Fr w W [(g8, 39, ev ((u * (v * v * v) * p0) * i0)), (w.heap.size + 1, 39, ev v), (w.heap.size, 39, ev u)] [(w.heap.size + 1 + 1, 39, 4)]) (by kernel_rfl) ?_ (fun hHeld => ?_)
                · exact (HF.out.sub (by simp) (by simp)).drew
                refine wpAnyH_take (i := 0) (v := .agg (ev v)) rfl (by kernel_rfl) (by kernel_rfl) (by kernel_rfl) (fun _ _ _ h => h) (yields_row (by rfl) 39 (.tmp 3) rfl (w.heap.size + 1) rfl 39 (ev v) _ (fun W (h : Fr _ W _ _) => h.get (by simp)) Tryd.underlying39 rfl (info_ev _)) hHeld ?_
                try simp only [Act.put, List.getElem_toArray, List.getElem_cons_succ, List.getElem_cons_zero, List.setIfInBounds_toArray, List.set_cons_zero, List.set_cons_succ]
                refine wpAnyH_take (i := 1) (v := .agg (ev ((u * (v * v * v) * p0) * i0))) rfl (by kernel_rfl) (by kernel_rfl) (by kernel_rfl) (fun _ _ _ h => h) (yields_row (by rfl) 39 (.tmp 8) rfl (g8) rfl 39 (ev ((u * (v * v * v) * p0) * i0)) _ (fun W (h : Fr _ W _ _) => h.get (by simp)) Tryd.underlying39 rfl (info_ev _)) hHeld ?_
                try simp only [Act.put, List.getElem_toArray, List.getElem_cons_succ, List.getElem_cons_zero, List.setIfInBounds_toArray, List.set_cons_zero, List.set_cons_succ]
                refine wpAnyH_take (i := 4) (v := .agg (ev u)) rfl (by kernel_rfl) (by kernel_rfl) (by kernel_rfl) (fun _ _ _ h => h) (yields_row (by rfl) 39 (.tmp 2) rfl (w.heap.size) rfl 39 (ev u) _ (fun W (h : Fr _ W _ _) => h.get (by simp)) Tryd.underlying39 rfl (info_ev _)) hHeld ?_
                try simp only [Act.put, List.getElem_toArray, List.getElem_cons_succ, List.getElem_cons_zero, List.setIfInBounds_toArray, List.set_cons_zero, List.set_cons_succ]
                refine wpAnyH_ready (rs := [2]) (by kernel_rfl) (by simp) (AllReadyH.cons rfl (fun K hK => ?_) AllReadyH.nil)
                have h0 := hHeld
                clear hHeld
                try simp only [List.getElem_toArray, List.getElem_cons_succ, List.getElem_cons_zero]
                have H0 := Lib.hid h0
                clear h0
                go_simp
                go_at_call 61
                refine (squareF ((u * (v * v * v) * p0) * i0) _ (Fr.pg H0.out HP.out)).mono ?_
                rintro e vv ⟨rfl, hb⟩
                have h1 := H0.out.ext hb
                clear hb H0
                go_wp2_with (fail)
                refine hK.out _ _ h1 (fun hHeld => ?_)
                clear hK K h1
                try simp only [Act.put, List.getElem_toArray, List.getElem_cons_succ, List.getElem_cons_zero, List.setIfInBounds_toArray, List.set_cons_zero, List.set_cons_succ]
                refine wpAnyH_ready (rs := [3]) (by kernel_rfl) (by simp) (AllReadyH.cons rfl (fun K hK => ?_) AllReadyH.nil)
                have h0 := hHeld
                clear hHeld
                try simp only [List.getElem_toArray, List.getElem_cons_succ, List.getElem_cons_zero]
                have H0 := Lib.hid h0
                clear h0
                go_simp
                go_at_call 42
                refine (mulF v (((u * (v * v * v) * p0) * i0) * ((u * (v * v * v) * p0) * i0)) _ (Fr.pg H0.out HP.out)).mono ?_
                rintro e vv ⟨rfl, hb⟩
                have h1 := H0.out.ext hb
                clear hb H0
                go_wp2_with (fail)
                refine hK.out _ _ h1 (fun hHeld => ?_)
                clear hK K h1
                try simp only [Act.put, List.getElem_toArray, List.getElem_cons_succ, List.getElem_cons_zero, List.setIfInBounds_toArray, List.set_cons_zero, List.set_cons_succ]
                refine wpAnyH_ready (rs := [5]) (by kernel_rfl) (by simp) (AllReadyH.cons rfl (fun K hK => ?_) AllReadyH.nil)
                have h0 := hHeld
                clear hHeld
                try simp only [List.getElem_toArray, List.getElem_cons_succ, List.getElem_cons_zero]
                have H0 := Lib.hid h0
                clear h0
                go_simp
                go_at_call 63
                refine (equal_no HT2.out _).mono ?_
                rintro e vv ⟨rfl, hb⟩
                have h1 := H0.out.ext hb
                clear hb H0
                go_wp2_with (fail)
                refine hK.out _ _ h1 (fun hHeld => ?_)
                clear hK K h1
                try simp only [Act.put, List.getElem_toArray, List.getElem_cons_succ, List.getElem_cons_zero, List.setIfInBounds_toArray, List.set_cons_zero, List.set_cons_succ]
                refine wpAnyH_take (i := 6) (v := ?_) rfl (by kernel_rfl) (by kernel_rfl) (by kernel_rfl) (fun _ _ _ h => h) (Or.inl ⟨by rfl, ?_⟩) hHeld ?_
                rotate_left
                · (intro W hSw; (try dsimp only at hSw); (try simp only [List.getElem_toArray, List.getElem_cons_succ, List.getElem_cons_zero]); go_simp; try with_reducible rfl)
                try simp only [Act.put, List.getElem_toArray, List.getElem_cons_succ, List.getElem_cons_zero, List.setIfInBounds_toArray, List.set_cons_zero, List.set_cons_succ]
                refine wpAnyH_done (by kernel_rfl) ?_ _
                have HF := Lib.hid hHeld
                clear hHeld
                obtain ⟨old, hold, kR⟩ := HF.out.old (g := w.heap.size + 1 + 1) (t := 39) (n := 4) (by simp)
                have kS := kR.setRow_same #[.int .u64 0, .int .u64 0, .int .u64 0, .int .u64 0]
                have hB := below_setRow HF.out.below (show w.heap.size ≤ w.heap.size + 1 + 1 by omega) #[.int .u64 0, .int .u64 0, .int .u64 0, .int .u64 0]
                have HS := Lib.hid kS
                have HB := Lib.hid hB
                have HO := Lib.hid hold
                clear kS hB hold
                go_wp2_with (first | (refine wpList_store_row rfl 39 (.tmp 4) (.tmp 43) rfl (w.heap.size + 1 + 1) #[.int .u64 0, .int .u64 0, .int .u64 0, .int .u64 0] rfl rfl 39 old kR info_elem HO.out (es_one 0) ?_))
                have hres : X = (0, false) := by
                  rw [HX.out, ← HI0.out]
                  rw [rootC_b HP0.out HT1.out HT2.out]
                rw [hres]
                exact bodyPost_ret (results_row_tmp rfl rfl rfl (show Blk _ _ _ (ev 0) from HS.out) Tryd.underlying39 rfl (info_ev _)) rfl ⟨rfl, HB.out⟩
        · have HT1 := Lib.hid ht1
          clear ht1
          refine wp_region_held_drew (S := fun W => Fr w W [(g8, 39, ev (u * (v * v * v) * p0)), (w.heap.size + 1, 39, ev v), (w.heap.size, 39, ev u)] [(w.heap.size + 1 + 1, 39, 4)]) (by kernel_rfl) ?_ (fun hHeld => ?_)
          · exact (HF.out.sub (by simp) (by simp)).drew
          refine wpAnyH_take (i := 0) (v := .agg (ev v)) rfl (by kernel_rfl) (by kernel_rfl) (by kernel_rfl) (fun _ _ _ h => h) (yields_row (by rfl) 39 (.tmp 3) rfl (w.heap.size + 1) rfl 39 (ev v) _ (fun W (h : Fr _ W _ _) => h.get (by simp)) Tryd.underlying39 rfl (info_ev _)) hHeld ?_
          try simp only [Act.put, List.getElem_toArray, List.getElem_cons_succ, List.getElem_cons_zero, List.setIfInBounds_toArray, List.set_cons_zero, List.set_cons_succ]
          refine wpAnyH_take (i := 1) (v := .agg (ev (u * (v * v * v) * p0))) rfl (by kernel_rfl) (by kernel_rfl) (by kernel_rfl) (fun _ _ _ h => h) (yields_row (by rfl) 39 (.tmp 8) rfl (g8) rfl 39 (ev (u * (v * v * v) * p0)) _ (fun W (h : Fr _ W _ _) => h.get (by simp)) Tryd.underlying39 rfl (info_ev _)) hHeld ?_
          try simp only [Act.put, List.getElem_toArray, List.getElem_cons_succ, List.getElem_cons_zero, List.setIfInBounds_toArray, List.set_cons_zero, List.set_cons_succ]
          refine wpAnyH_take (i := 4) (v := .agg (ev u)) rfl (by kernel_rfl) (by kernel_rfl) (by kernel_rfl) (fun _ _ _ h => h) (yields_row (by rfl) 39 (.tmp 2) rfl (w.heap.size) rfl 39 (ev u) _ (fun W (h : Fr _ W _ _) => h.get (by simp)) Tryd.underlying39 rfl (info_ev _)) hHeld ?_
          try simp only [Act.put, List.getElem_toArray, List.getElem_cons_succ, List.getElem_cons_zero, List.setIfInBounds_toArray, List.set_cons_zero, List.set_cons_succ]
          refine wpAnyH_ready (rs := [2]) (by kernel_rfl) (by simp) (AllReadyH.cons rfl (fun K hK => ?_) AllReadyH.nil)
          have h0 := hHeld
          clear hHeld
          try simp only [List.getElem_toArray, List.getElem_cons_succ, List.getElem_cons_zero]
          have H0 := Lib.hid h0
          clear h0
          go_simp
          go_at_call 61
          refine (squareF (u * (v * v * v) * p0) _ (Fr.pg H0.out HP.out)).mono ?_
          rintro e vv ⟨rfl, hb⟩
          have h1 := H0.out.ext hb
          clear hb H0
          go_wp2_with (fail)
          refine hK.out _ _ h1 (fun hHeld => ?_)
          clear hK K h1
          try simp only [Act.put, List.getElem_toArray, List.getElem_cons_succ, List.getElem_cons_zero, List.setIfInBounds_toArray, List.set_cons_zero, List.set_cons_succ]
          refine wpAnyH_ready (rs := [3]) (by kernel_rfl) (by simp) (AllReadyH.cons rfl (fun K hK => ?_) AllReadyH.nil)
          have h0 := hHeld
          clear hHeld
          try simp only [List.getElem_toArray, List.getElem_cons_succ, List.getElem_cons_zero]
          have H0 := Lib.hid h0
          clear h0
          go_simp
          go_at_call 42
          refine (mulF v ((u * (v * v * v) * p0) * (u * (v * v * v) * p0)) _ (Fr.pg H0.out HP.out)).mono ?_
          rintro e vv ⟨rfl, hb⟩
          have h1 := H0.out.ext hb
          clear hb H0
          go_wp2_with (fail)
          refine hK.out _ _ h1 (fun hHeld => ?_)
          clear hK K h1
          try simp only [Act.put, List.getElem_toArray, List.getElem_cons_succ, List.getElem_cons_zero, List.setIfInBounds_toArray, List.set_cons_zero, List.set_cons_succ]
          refine wpAnyH_ready (rs := [5]) (by kernel_rfl) (by simp) (AllReadyH.cons rfl (fun K hK => ?_) AllReadyH.nil)
          have h0 := hHeld
          clear hHeld
          try simp only [List.getElem_toArray, List.getElem_cons_succ, List.getElem_cons_zero]
          have H0 := Lib.hid h0
          clear h0
          go_simp
          go_at_call 38
          refine (negF u _ (Fr.pg H0.out HP.out)).mono ?_
          rintro e vv ⟨rfl, hb⟩
          have h1 := H0.out.ext hb
          clear hb H0
          go_wp2_with (fail)
          refine hK.out _ _ h1 (fun hHeld => ?_)
          clear hK K h1
          try simp only [Act.put, List.getElem_toArray, List.getElem_cons_succ, List.getElem_cons_zero, List.setIfInBounds_toArray, List.set_cons_zero, List.set_cons_succ]
          refine wpAnyH_ready (rs := [6]) (by kernel_rfl) (by simp) (AllReadyH.cons rfl (fun K hK => ?_) AllReadyH.nil)
          have h0 := hHeld
          clear hHeld
          try simp only [List.getElem_toArray, List.getElem_cons_succ, List.getElem_cons_zero]
          have H0 := Lib.hid h0
          clear h0
          go_simp
          go_at_call 63
          refine (equal_no HT1.out _).mono ?_
          rintro e vv ⟨rfl, hb⟩
          have h1 := H0.out.ext hb
          clear hb H0
          go_wp2_with (fail)
          refine hK.out _ _ h1 (fun hHeld => ?_)
          clear hK K h1
          try simp only [Act.put, List.getElem_toArray, List.getElem_cons_succ, List.getElem_cons_zero, List.setIfInBounds_toArray, List.set_cons_zero, List.set_cons_succ]
          refine wpAnyH_done (by kernel_rfl) ?_ _
          have HF := Lib.hid hHeld
          clear hHeld
          go_wp2_with (fail)
          by_cases ht2 : v * ((u * (v * v * v) * p0) * (u * (v * v * v) * p0)) = u
          · as_aux_lemma =>
              have HT2 := Lib.hid ht2
              clear ht2
              refine wp_region_held_drew (S := fun W => Fr w W [(g8, 39, ev (u * (v * v * v) * p0)), (w.heap.size + 1, 39, ev v), (w.heap.size, 39, ev u)] [(w.heap.size + 1 + 1, 39, 4)]) (by kernel_rfl) ?_ (fun hHeld => ?_)
              · exact (HF.out.sub (by simp) (by simp)).drew
              refine wpAnyH_take (i := 0) (v := .agg (ev v)) rfl (by kernel_rfl) (by kernel_rfl) (by kernel_rfl) (fun _ _ _ h => h) (yields_row (by rfl) 39 (.tmp 3) rfl (w.heap.size + 1) rfl 39 (ev v) _ (fun W (h : Fr _ W _ _) => h.get (by simp)) Tryd.underlying39 rfl (info_ev _)) hHeld ?_
              try simp only [Act.put, List.getElem_toArray, List.getElem_cons_succ, List.getElem_cons_zero, List.setIfInBounds_toArray, List.set_cons_zero, List.set_cons_succ]
              refine wpAnyH_take (i := 1) (v := .agg (ev (u * (v * v * v) * p0))) rfl (by kernel_rfl) (by kernel_rfl) (by kernel_rfl) (fun _ _ _ h => h) (yields_row (by rfl) 39 (.tmp 8) rfl (g8) rfl 39 (ev (u * (v * v * v) * p0)) _ (fun W (h : Fr _ W _ _) => h.get (by simp)) Tryd.underlying39 rfl (info_ev _)) hHeld ?_
              try simp only [Act.put, List.getElem_toArray, List.getElem_cons_succ, List.getElem_cons_zero, List.setIfInBounds_toArray, List.set_cons_zero, List.set_cons_succ]
              refine wpAnyH_take (i := 4) (v := .agg (ev u)) rfl (by kernel_rfl) (by kernel_rfl) (by kernel_rfl) (fun _ _ _ h => h) (yields_row (by rfl) 39 (.tmp 2) rfl (w.heap.size) rfl 39 (ev u) _ (fun W (h : Fr _ W _ _) => h.get (by simp)) Tryd.underlying39 rfl (info_ev _)) hHeld ?_
              try simp only [Act.put, List.getElem_toArray, List.getElem_cons_succ, List.getElem_cons_zero, List.setIfInBounds_toArray, List.set_cons_zero, List.set_cons_succ]
              refine wpAnyH_ready (rs := [2]) (by kernel_rfl) (by simp) (AllReadyH.cons rfl (fun K hK => ?_) AllReadyH.nil)
              have h0 := hHeld
              clear hHeld
              try simp only [List.getElem_toArray, List.getElem_cons_succ, List.getElem_cons_zero]
              have H0 := Lib.hid h0
              clear h0
              go_simp
              go_at_call 61
              refine (squareF (u * (v * v * v) * p0) _ (Fr.pg H0.out HP.out)).mono ?_
              rintro e vv ⟨rfl, hb⟩
              have h1 := H0.out.ext hb
              clear hb H0
              go_wp2_with (fail)
              refine hK.out _ _ h1 (fun hHeld => ?_)
              clear hK K h1
              try simp only [Act.put, List.getElem_toArray, List.getElem_cons_succ, List.getElem_cons_zero, List.setIfInBounds_toArray, List.set_cons_zero, List.set_cons_succ]
              refine wpAnyH_ready (rs := [3]) (by kernel_rfl) (by simp) (AllReadyH.cons rfl (fun K hK => ?_) AllReadyH.nil)
              have h0 := hHeld
              clear hHeld
              try simp only [List.getElem_toArray, List.getElem_cons_succ, List.getElem_cons_zero]
              have H0 := Lib.hid h0
              clear h0
              go_simp
              go_at_call 42
              refine (mulF v ((u * (v * v * v) * p0) * (u * (v * v * v) * p0)) _ (Fr.pg H0.out HP.out)).mono ?_
              rintro e vv ⟨rfl, hb⟩
              have h1 := H0.out.ext hb
              clear hb H0
              go_wp2_with (fail)
              refine hK.out _ _ h1 (fun hHeld => ?_)
              clear hK K h1
              try simp only [Act.put, List.getElem_toArray, List.getElem_cons_succ, List.getElem_cons_zero, List.setIfInBounds_toArray, List.set_cons_zero, List.set_cons_succ]
              refine wpAnyH_ready (rs := [5]) (by kernel_rfl) (by simp) (AllReadyH.cons rfl (fun K hK => ?_) AllReadyH.nil)
              have h0 := hHeld
              clear hHeld
              try simp only [List.getElem_toArray, List.getElem_cons_succ, List.getElem_cons_zero]
              have H0 := Lib.hid h0
              clear h0
              go_simp
              go_at_call 63
              refine (equal_yes HT2.out _).mono ?_
              rintro e vv ⟨rfl, hb⟩
              have h1 := H0.out.ext hb
              clear hb H0
              go_wp2_with (fail)
              refine hK.out _ _ h1 (fun hHeld => ?_)
              clear hK K h1
              try simp only [Act.put, List.getElem_toArray, List.getElem_cons_succ, List.getElem_cons_zero, List.setIfInBounds_toArray, List.set_cons_zero, List.set_cons_succ]
              refine wpAnyH_take (i := 6) (v := ?_) rfl (by kernel_rfl) (by kernel_rfl) (by kernel_rfl) (fun _ _ _ h => h) (Or.inl ⟨by rfl, ?_⟩) hHeld ?_
              rotate_left
              · (intro W hSw; (try dsimp only at hSw); (try simp only [List.getElem_toArray, List.getElem_cons_succ, List.getElem_cons_zero]); go_simp; try with_reducible rfl)
              try simp only [Act.put, List.getElem_toArray, List.getElem_cons_succ, List.getElem_cons_zero, List.setIfInBounds_toArray, List.set_cons_zero, List.set_cons_succ]
              refine wpAnyH_done (by kernel_rfl) ?_ _
              have HF := Lib.hid hHeld
              clear hHeld
              go_wp2_with (fail)
              by_cases ht3 : ((u * (v * v * v) * p0)).val % 2 = 1
              · as_aux_lemma =>
                  have HT3 := Lib.hid ht3
                  clear ht3
                  refine wp_region_held_drew (S := fun W => Fr w W [(g8, 39, ev (u * (v * v * v) * p0)), (w.heap.size + 1, 39, ev v), (w.heap.size, 39, ev u)] [(w.heap.size + 1 + 1, 39, 4)]) (by kernel_rfl) ?_ (fun hHeld => ?_)
                  · exact (HF.out.sub (by simp) (by simp)).drew
                  refine wpAnyH_take (i := 0) (v := .agg (ev (u * (v * v * v) * p0))) rfl (by kernel_rfl) (by kernel_rfl) (by kernel_rfl) (fun _ _ _ h => h) (yields_row (by rfl) 39 (.tmp 8) rfl (g8) rfl 39 (ev (u * (v * v * v) * p0)) _ (fun W (h : Fr _ W _ _) => h.get (by simp)) Tryd.underlying39 rfl (info_ev _)) hHeld ?_
                  try simp only [Act.put, List.getElem_toArray, List.getElem_cons_succ, List.getElem_cons_zero, List.setIfInBounds_toArray, List.set_cons_zero, List.set_cons_succ]
                  refine wpAnyH_take (i := 1) (v := .agg (ev (u * (v * v * v) * p0))) rfl (by kernel_rfl) (by kernel_rfl) (by kernel_rfl) (fun _ _ _ h => h) (yields_row (by rfl) 39 (.tmp 8) rfl (g8) rfl 39 (ev (u * (v * v * v) * p0)) _ (fun W (h : Fr _ W _ _) => h.get (by simp)) Tryd.underlying39 rfl (info_ev _)) hHeld ?_
                  try simp only [Act.put, List.getElem_toArray, List.getElem_cons_succ, List.getElem_cons_zero, List.setIfInBounds_toArray, List.set_cons_zero, List.set_cons_succ]
                  refine wpAnyH_take (i := 3) (v := .agg (ev (u * (v * v * v) * p0))) rfl (by kernel_rfl) (by kernel_rfl) (by kernel_rfl) (fun _ _ _ h => h) (yields_row (by rfl) 39 (.tmp 8) rfl (g8) rfl 39 (ev (u * (v * v * v) * p0)) _ (fun W (h : Fr _ W _ _) => h.get (by simp)) Tryd.underlying39 rfl (info_ev _)) hHeld ?_
                  try simp only [Act.put, List.getElem_toArray, List.getElem_cons_succ, List.getElem_cons_zero, List.setIfInBounds_toArray, List.set_cons_zero, List.set_cons_succ]
                  refine wpAnyH_ready (rs := [2]) (by kernel_rfl) (by simp) (AllReadyH.cons rfl (fun K hK => ?_) AllReadyH.nil)
                  have h0 := hHeld
                  clear hHeld
                  try simp only [List.getElem_toArray, List.getElem_cons_succ, List.getElem_cons_zero]
                  have H0 := Lib.hid h0
                  clear h0
                  go_simp
                  go_at_call 38
                  refine (negF (u * (v * v * v) * p0) _ (Fr.pg H0.out HP.out)).mono ?_
                  rintro e vv ⟨rfl, hb⟩
                  have h1 := H0.out.ext hb
                  clear hb H0
                  go_wp2_with (fail)
                  refine hK.out _ _ h1 (fun hHeld => ?_)
                  clear hK K h1
                  try simp only [Act.put, List.getElem_toArray, List.getElem_cons_succ, List.getElem_cons_zero, List.setIfInBounds_toArray, List.set_cons_zero, List.set_cons_succ]
                  refine wpAnyH_ready (rs := [4]) (by kernel_rfl) (by simp) (AllReadyH.cons rfl (fun K hK => ?_) AllReadyH.nil)
                  have h0 := hHeld
                  clear hHeld
                  try simp only [List.getElem_toArray, List.getElem_cons_succ, List.getElem_cons_zero]
                  have H0 := Lib.hid h0
                  clear h0
                  go_simp
                  go_at_call 26
                  refine (odd_yes HT3.out _).mono ?_
                  rintro e vv ⟨rfl, hb⟩
                  have h1 := H0.out.ext hb
                  clear hb H0
                  go_wp2_with (fail)
                  refine hK.out _ _ h1 (fun hHeld => ?_)
                  clear hK K h1
                  try simp only [Act.put, List.getElem_toArray, List.getElem_cons_succ, List.getElem_cons_zero, List.setIfInBounds_toArray, List.set_cons_zero, List.set_cons_succ]
                  refine wpAnyH_ready (rs := [5]) (by kernel_rfl) (by simp) (AllReadyH.cons rfl (fun K hK => ?_) AllReadyH.nil)
                  have h0 := hHeld
                  clear hHeld
                  try simp only [List.getElem_toArray, List.getElem_cons_succ, List.getElem_cons_zero]
                  have H0 := Lib.hid h0
                  clear h0
                  go_simp
                  go_at_call 37
                  refine (selF_yes (u * (v * v * v) * p0) (-(u * (v * v * v) * p0)) _).mono ?_
                  rintro e vv ⟨rfl, hb⟩
                  have h1 := H0.out.ext hb
                  clear hb H0
                  go_wp2_with (fail)
                  refine hK.out _ _ h1 (fun hHeld => ?_)
                  clear hK K h1
                  try simp only [Act.put, List.getElem_toArray, List.getElem_cons_succ, List.getElem_cons_zero, List.setIfInBounds_toArray, List.set_cons_zero, List.set_cons_succ]
                  refine wpAnyH_ready (rs := [6]) (by kernel_rfl) (by simp) (AllReadyH.cons rfl (fun K hK => ?_) AllReadyH.nil)
                  have h0 := hHeld
                  clear hHeld
                  try simp only [List.getElem_toArray, List.getElem_cons_succ, List.getElem_cons_zero]
                  rw [if_pos (by rfl)]
                  obtain ⟨old, hold, kold⟩ := Fr.old h0 (g := w.heap.size + 1 + 1) (t := 39) (n := 4) (by simp)
                  refine wp_store_row 39 (.tmp 4) (.tmp 49) rfl (w.heap.size + 1 + 1) (ev (-(u * (v * v * v) * p0))) rfl rfl 39 old kold (info_ev _) hold (ev_one _) ?_
                  refine hK.out _ _ (Fr.setAny h0 (g := w.heap.size + 1 + 1) (t := 39) (ev_size _) (by simp) (by simp <;> omega)) (fun hHeld => ?_)
                  have kb := kold.setRow_same (ev (-(u * (v * v * v) * p0)))
                  clear hK K h0 hold
                  try simp only [Act.put, List.getElem_toArray, List.getElem_cons_succ, List.getElem_cons_zero, List.setIfInBounds_toArray, List.set_cons_zero, List.set_cons_succ]
                  refine wpAnyH_take (i := 7) (v := ?_) rfl (by kernel_rfl) (by kernel_rfl) (by kernel_rfl) (fun _ _ _ h => h) (Or.inl ⟨by rfl, ?_⟩) hHeld ?_
                  rotate_left
                  · (intro W hSw; (try dsimp only at hSw); (try simp only [List.getElem_toArray, List.getElem_cons_succ, List.getElem_cons_zero]); go_simp; try with_reducible rfl)
                  try simp only [Act.put, List.getElem_toArray, List.getElem_cons_succ, List.getElem_cons_zero, List.setIfInBounds_toArray, List.set_cons_zero, List.set_cons_succ]
                  refine wpAnyH_done (by kernel_rfl) ?_ _
                  have HG := Lib.hid hHeld
                  clear hHeld
                  go_wp2_with (fail)
                  have hres : X = ((-(u * (v * v * v) * p0)), true) := by
                    rw [HX.out, ← HI0.out]
                    rw [rootC_c HP0.out HT1.out HT2.out, evenOf_yes HT3.out]
                  rw [hres]
                  exact bodyPost_ret (results_row_tmp rfl rfl rfl kb Tryd.underlying39 rfl (info_ev _)) rfl ⟨rfl, HG.out.below⟩
              · as_aux_lemma =>
                  have HT3 := Lib.hid ht3
                  clear ht3
                  refine wp_region_held_drew (S := fun W => Fr w W [(g8, 39, ev (u * (v * v * v) * p0)), (w.heap.size + 1, 39, ev v), (w.heap.size, 39, ev u)] [(w.heap.size + 1 + 1, 39, 4)]) (by kernel_rfl) ?_ (fun hHeld => ?_)
                  · exact (HF.out.sub (by simp) (by simp)).drew
                  refine wpAnyH_take (i := 0) (v := .agg (ev (u * (v * v * v) * p0))) rfl (by kernel_rfl) (by kernel_rfl) (by kernel_rfl) (fun _ _ _ h => h) (yields_row (by rfl) 39 (.tmp 8) rfl (g8) rfl 39 (ev (u * (v * v * v) * p0)) _ (fun W (h : Fr _ W _ _) => h.get (by simp)) Tryd.underlying39 rfl (info_ev _)) hHeld ?_
                  try simp only [Act.put, List.getElem_toArray, List.getElem_cons_succ, List.getElem_cons_zero, List.setIfInBounds_toArray, List.set_cons_zero, List.set_cons_succ]
                  refine wpAnyH_take (i := 1) (v := .agg (ev (u * (v * v * v) * p0))) rfl (by kernel_rfl) (by kernel_rfl) (by kernel_rfl) (fun _ _ _ h => h) (yields_row (by rfl) 39 (.tmp 8) rfl (g8) rfl 39 (ev (u * (v * v * v) * p0)) _ (fun W (h : Fr _ W _ _) => h.get (by simp)) Tryd.underlying39 rfl (info_ev _)) hHeld ?_
                  try simp only [Act.put, List.getElem_toArray, List.getElem_cons_succ, List.getElem_cons_zero, List.setIfInBounds_toArray, List.set_cons_zero, List.set_cons_succ]
                  refine wpAnyH_take (i := 3) (v := .agg (ev (u * (v * v * v) * p0))) rfl (by kernel_rfl) (by kernel_rfl) (by kernel_rfl) (fun _ _ _ h => h) (yields_row (by rfl) 39 (.tmp 8) rfl (g8) rfl 39 (ev (u * (v * v * v) * p0)) _ (fun W (h : Fr _ W _ _) => h.get (by simp)) Tryd.underlying39 rfl (info_ev _)) hHeld ?_
                  try simp only [Act.put, List.getElem_toArray, List.getElem_cons_succ, List.getElem_cons_zero, List.setIfInBounds_toArray, List.set_cons_zero, List.set_cons_succ]
                  refine wpAnyH_ready (rs := [2]) (by kernel_rfl) (by simp) (AllReadyH.cons rfl (fun K hK => ?_) AllReadyH.nil)
                  have h0 := hHeld
                  clear hHeld
                  try simp only [List.getElem_toArray, List.getElem_cons_succ, List.getElem_cons_zero]
                  have H0 := Lib.hid h0
                  clear h0
                  go_simp
                  go_at_call 38
                  refine (negF (u * (v * v * v) * p0) _ (Fr.pg H0.out HP.out)).mono ?_
                  rintro e vv ⟨rfl, hb⟩
                  have h1 := H0.out.ext hb
                  clear hb H0
                  go_wp2_with (fail)
                  refine hK.out _ _ h1 (fun hHeld => ?_)
                  clear hK K h1
                  try simp only [Act.put, List.getElem_toArray, List.getElem_cons_succ, List.getElem_cons_zero, List.setIfInBounds_toArray, List.set_cons_zero, List.set_cons_succ]
                  refine wpAnyH_ready (rs := [4]) (by kernel_rfl) (by simp) (AllReadyH.cons rfl (fun K hK => ?_) AllReadyH.nil)
                  have h0 := hHeld
                  clear hHeld
                  try simp only [List.getElem_toArray, List.getElem_cons_succ, List.getElem_cons_zero]
                  have H0 := Lib.hid h0
                  clear h0
                  go_simp
                  go_at_call 26
                  refine (odd_no HT3.out _).mono ?_
                  rintro e vv ⟨rfl, hb⟩
                  have h1 := H0.out.ext hb
                  clear hb H0
                  go_wp2_with (fail)
                  refine hK.out _ _ h1 (fun hHeld => ?_)
                  clear hK K h1
                  try simp only [Act.put, List.getElem_toArray, List.getElem_cons_succ, List.getElem_cons_zero, List.setIfInBounds_toArray, List.set_cons_zero, List.set_cons_succ]
                  refine wpAnyH_ready (rs := [5]) (by kernel_rfl) (by simp) (AllReadyH.cons rfl (fun K hK => ?_) AllReadyH.nil)
                  have h0 := hHeld
                  clear hHeld
                  try simp only [List.getElem_toArray, List.getElem_cons_succ, List.getElem_cons_zero]
                  have H0 := Lib.hid h0
                  clear h0
                  go_simp
                  go_at_call 37
                  refine (selF_no (u * (v * v * v) * p0) (-(u * (v * v * v) * p0)) _).mono ?_
                  rintro e vv ⟨rfl, hb⟩
                  have h1 := H0.out.ext hb
                  clear hb H0
                  go_wp2_with (fail)
                  refine hK.out _ _ h1 (fun hHeld => ?_)
                  clear hK K h1
                  try simp only [Act.put, List.getElem_toArray, List.getElem_cons_succ, List.getElem_cons_zero, List.setIfInBounds_toArray, List.set_cons_zero, List.set_cons_succ]
                  refine wpAnyH_ready (rs := [6]) (by kernel_rfl) (by simp) (AllReadyH.cons rfl (fun K hK => ?_) AllReadyH.nil)
                  have h0 := hHeld
                  clear hHeld
                  try simp only [List.getElem_toArray, List.getElem_cons_succ, List.getElem_cons_zero]
                  rw [if_pos (by rfl)]
                  obtain ⟨old, hold, kold⟩ := Fr.old h0 (g := w.heap.size + 1 + 1) (t := 39) (n := 4) (by simp)
                  refine wp_store_row 39 (.tmp 4) (.tmp 49) rfl (w.heap.size + 1 + 1) (ev (u * (v * v * v) * p0)) rfl rfl 39 old kold (info_ev _) hold (ev_one _) ?_
                  refine hK.out _ _ (Fr.setAny h0 (g := w.heap.size + 1 + 1) (t := 39) (ev_size _) (by simp) (by simp <;> omega)) (fun hHeld => ?_)
                  have kb := kold.setRow_same (ev (u * (v * v * v) * p0))
                  clear hK K h0 hold
                  try simp only [Act.put, List.getElem_toArray, List.getElem_cons_succ, List.getElem_cons_zero, List.setIfInBounds_toArray, List.set_cons_zero, List.set_cons_succ]
                  refine wpAnyH_take (i := 7) (v := ?_) rfl (by kernel_rfl) (by kernel_rfl) (by kernel_rfl) (fun _ _ _ h => h) (Or.inl ⟨by rfl, ?_⟩) hHeld ?_
                  rotate_left
                  · (intro W hSw; (try dsimp only at hSw); (try simp only [List.getElem_toArray, List.getElem_cons_succ, List.getElem_cons_zero]); go_simp; try with_reducible rfl)
                  try simp only [Act.put, List.getElem_toArray, List.getElem_cons_succ, List.getElem_cons_zero, List.setIfInBounds_toArray, List.set_cons_zero, List.set_cons_succ]
                  refine wpAnyH_done (by kernel_rfl) ?_ _
                  have HG := Lib.hid hHeld
                  clear hHeld
                  go_wp2_with (fail)
                  have hres : X = ((u * (v * v * v) * p0), true) := by
                    rw [HX.out, ← HI0.out]
                    rw [rootC_c HP0.out HT1.out HT2.out, evenOf_no HT3.out]
                  rw [hres]
                  exact bodyPost_ret (results_row_tmp rfl rfl rfl kb Tryd.underlying39 rfl (info_ev _)) rfl ⟨rfl, HG.out.below⟩
          · as_aux_lemma =>
              have HT2 := Lib.hid ht2
              clear ht2
              refine wp_region_held_drew (S := fun W => Fr w W [(g8, 39, ev (u * (v * v * v) * p0)), (w.heap.size + 1, 39, ev v), (w.heap.size, 39, ev u)] [(w.heap.size + 1 + 1, 39, 4)]) (by kernel_rfl) ?_ (fun hHeld => ?_)
              · exact (HF.out.sub (by simp) (by simp)).drew
              refine wpAnyH_take (i := 0) (v := .agg (ev v)) rfl (by kernel_rfl) (by kernel_rfl) (by kernel_rfl) (fun _ _ _ h => h) (yields_row (by rfl) 39 (.tmp 3) rfl (w.heap.size + 1) rfl 39 (ev v) _ (fun W (h : Fr _ W _ _) => h.get (by simp)) Tryd.underlying39 rfl (info_ev _)) hHeld ?_
              try simp only [Act.put, List.getElem_toArray, List.getElem_cons_succ, List.getElem_cons_zero, List.setIfInBounds_toArray, List.set_cons_zero, List.set_cons_succ]
              refine wpAnyH_take (i := 1) (v := .agg (ev (u * (v * v * v) * p0))) rfl (by kernel_rfl) (by kernel_rfl) (by kernel_rfl) (fun _ _ _ h => h) (yields_row (by rfl) 39 (.tmp 8) rfl (g8) rfl 39 (ev (u * (v * v * v) * p0)) _ (fun W (h : Fr _ W _ _) => h.get (by simp)) Tryd.underlying39 rfl (info_ev _)) hHeld ?_
              try simp only [Act.put, List.getElem_toArray, List.getElem_cons_succ, List.getElem_cons_zero, List.setIfInBounds_toArray, List.set_cons_zero, List.set_cons_succ]
              refine wpAnyH_take (i := 4) (v := .agg (ev u)) rfl (by kernel_rfl) (by kernel_rfl) (by kernel_rfl) (fun _ _ _ h => h) (yields_row (by rfl) 39 (.tmp 2) rfl (w.heap.size) rfl 39 (ev u) _ (fun W (h : Fr _ W _ _) => h.get (by simp)) Tryd.underlying39 rfl (info_ev _)) hHeld ?_
              try simp only [Act.put, List.getElem_toArray, List.getElem_cons_succ, List.getElem_cons_zero, List.setIfInBounds_toArray, List.set_cons_zero, List.set_cons_succ]
              refine wpAnyH_ready (rs := [2]) (by kernel_rfl) (by simp) (AllReadyH.cons rfl (fun K hK => ?_) AllReadyH.nil)
              have h0 := hHeld
              clear hHeld
              try simp only [List.getElem_toArray, List.getElem_cons_succ, List.getElem_cons_zero]
              have H0 := Lib.hid h0
              clear h0
              go_simp
              go_at_call 61
              refine (squareF (u * (v * v * v) * p0) _ (Fr.pg H0.out HP.out)).mono ?_
              rintro e vv ⟨rfl, hb⟩
              have h1 := H0.out.ext hb
              clear hb H0
              go_wp2_with (fail)
              refine hK.out _ _ h1 (fun hHeld => ?_)
              clear hK K h1
              try simp only [Act.put, List.getElem_toArray, List.getElem_cons_succ, List.getElem_cons_zero, List.setIfInBounds_toArray, List.set_cons_zero, List.set_cons_succ]
              refine wpAnyH_ready (rs := [3]) (by kernel_rfl) (by simp) (AllReadyH.cons rfl (fun K hK => ?_) AllReadyH.nil)
              have h0 := hHeld
              clear hHeld
              try simp only [List.getElem_toArray, List.getElem_cons_succ, List.getElem_cons_zero]
              have H0 := Lib.hid h0
              clear h0
              go_simp
              go_at_call 42
              refine (mulF v ((u * (v * v * v) * p0) * (u * (v * v * v) * p0)) _ (Fr.pg H0.out HP.out)).mono ?_
              rintro e vv ⟨rfl, hb⟩
              have h1 := H0.out.ext hb
              clear hb H0
              go_wp2_with (fail)
              refine hK.out _ _ h1 (fun hHeld => ?_)
              clear hK K h1
              try simp only [Act.put, List.getElem_toArray, List.getElem_cons_succ, List.getElem_cons_zero, List.setIfInBounds_toArray, List.set_cons_zero, List.set_cons_succ]
              refine wpAnyH_ready (rs := [5]) (by kernel_rfl) (by simp) (AllReadyH.cons rfl (fun K hK => ?_) AllReadyH.nil)
              have h0 := hHeld
              clear hHeld
              try simp only [List.getElem_toArray, List.getElem_cons_succ, List.getElem_cons_zero]
              have H0 := Lib.hid h0
              clear h0
              go_simp
              go_at_call 63
              refine (equal_no HT2.out _).mono ?_
              rintro e vv ⟨rfl, hb⟩
              have h1 := H0.out.ext hb
              clear hb H0
              go_wp2_with (fail)
              refine hK.out _ _ h1 (fun hHeld => ?_)
              clear hK K h1
              try simp only [Act.put, List.getElem_toArray, List.getElem_cons_succ, List.getElem_cons_zero, List.setIfInBounds_toArray, List.set_cons_zero, List.set_cons_succ]
              refine wpAnyH_take (i := 6) (v := ?_) rfl (by kernel_rfl) (by kernel_rfl) (by kernel_rfl) (fun _ _ _ h => h) (Or.inl ⟨by rfl, ?_⟩) hHeld ?_
              rotate_left
              · (intro W hSw; (try dsimp only at hSw); (try simp only [List.getElem_toArray, List.getElem_cons_succ, List.getElem_cons_zero]); go_simp; try with_reducible rfl)
              try simp only [Act.put, List.getElem_toArray, List.getElem_cons_succ, List.getElem_cons_zero, List.setIfInBounds_toArray, List.set_cons_zero, List.set_cons_succ]
              refine wpAnyH_done (by kernel_rfl) ?_ _
              have HF := Lib.hid hHeld
              clear hHeld
              obtain ⟨old, hold, kR⟩ := HF.out.old (g := w.heap.size + 1 + 1) (t := 39) (n := 4) (by simp)
              have kS := kR.setRow_same #[.int .u64 0, .int .u64 0, .int .u64 0, .int .u64 0]
              have hB := below_setRow HF.out.below (show w.heap.size ≤ w.heap.size + 1 + 1 by omega) #[.int .u64 0, .int .u64 0, .int .u64 0, .int .u64 0]
              have HS := Lib.hid kS
              have HB := Lib.hid hB
              have HO := Lib.hid hold
              clear kS hB hold
              go_wp2_with (first | (refine wpList_store_row rfl 39 (.tmp 4) (.tmp 43) rfl (w.heap.size + 1 + 1) #[.int .u64 0, .int .u64 0, .int .u64 0, .int .u64 0] rfl rfl 39 old kR info_elem HO.out (es_one 0) ?_))
              have hres : X = (0, false) := by
                rw [HX.out, ← HI0.out]
                rw [rootC_d HP0.out HT1.out HT2.out]
              rw [hres]
              exact bodyPost_ret (results_row_tmp rfl rfl rfl (show Blk _ _ _ (ev 0) from HS.out) Tryd.underlying39 rfl (info_ev _)) rfl ⟨rfl, HB.out⟩
end Go.Proofs.YtpagiffbjofihaaDoor
namespace Go.Proofs.YtpagiffbjofihaaDoor
set_option linter.unusedVariables false
set_option linter.unusedSimpArgs false
set_option maxRecDepth 100000
open Go.RowKit
theorem rootB {u v r : Fin PP} {b : Bool} (h : (r, b) = rootC EE II u v) (w : World) (hp : PG w) : Calls Tryd.prog 62 #[.agg (ev u), .agg (ev v)] w fun e w' => e = .returned (.tuple #[.agg (ev r), .bool b]) ∧ Below w.heap.size w w' := by
  have h2 := rootX u v w hp
  rw [← h] at h2
  exact h2
end Go.Proofs.YtpagiffbjofihaaDoor
namespace Go.Proofs.YtpagiffbjofihaaDoor
set_option linter.unusedVariables false
set_option linter.unusedSimpArgs false
set_option maxRecDepth 100000
open Go Go.RowKit
theorem al_elem (W : World) : (Instr.alloc 39 true (.tuple #[])).run Tryd.prog W = .ok (.pointer (some ⟨W.heap.size, 0, none⟩)) (W.alloc (.cells #[.int .u64 0, .int .u64 0, .int .u64 0, .int .u64 0] 39)) := by kernel_rfl
theorem bx_elem (x : Fin PP) (W : World) : (Instr.box 39 (.agg (ev x))).run Tryd.prog W = .ok (.pointer (some ⟨W.heap.size, 0, none⟩)) (W.alloc (.cells (ev x) 39)) := by kernel_rfl
theorem al_pt (W : World) : (Instr.alloc 41 true (.tuple #[])).run Tryd.prog W = .ok (.pointer (some ⟨W.heap.size, 0, none⟩)) (W.alloc (.cells #[.int .u64 0, .int .u64 0, .int .u64 0, .int .u64 0, .int .u64 0, .int .u64 0, .int .u64 0, .int .u64 0, .int .u64 0, .int .u64 0, .int .u64 0, .int .u64 0, .int .u64 0, .int .u64 0, .int .u64 0, .int .u64 0] 41)) := by kernel_rfl
theorem bx_pt (s : L4 PP) (W : World) : (Instr.box 41 (.agg (sv s))).run Tryd.prog W = .ok (.pointer (some ⟨W.heap.size, 0, none⟩)) (W.alloc (.cells (sv s) 41)) := by kernel_rfl
theorem info_pt (s : L4 PP) : (Tryd.prog.info? 41).map (·.size) = some (sv s).size := by rw [sv_size]; kernel_rfl
theorem fa_pt (g : Nat) (W : World) : (Instr.fieldAt 41 (.pointer (some ⟨g, 0, none⟩)) 0).run Tryd.prog W = .ok (.pointer (some ⟨g, 4 * 0, none⟩)) W ∧ (Instr.fieldAt 41 (.pointer (some ⟨g, 0, none⟩)) 1).run Tryd.prog W = .ok (.pointer (some ⟨g, 4 * 1, none⟩)) W ∧ (Instr.fieldAt 41 (.pointer (some ⟨g, 0, none⟩)) 2).run Tryd.prog W = .ok (.pointer (some ⟨g, 4 * 2, none⟩)) W ∧ (Instr.fieldAt 41 (.pointer (some ⟨g, 0, none⟩)) 3).run Tryd.prog W = .ok (.pointer (some ⟨g, 4 * 3, none⟩)) W := by
  refine ⟨by kernel_rfl, by kernel_rfl, by kernel_rfl, by kernel_rfl⟩
theorem ld_pt {g : Nat} {t : TypeId} {s : L4 PP} {k : Nat} (hk : k < 4) (W : World) (h : Blk W g t (sv s)) : (Instr.loadAt 39 (.pointer (some ⟨g, 4 * k, none⟩))).run Tryd.prog W = .ok (.agg (ev (s.at4 k))) W :=
  run_loadAt_mid W g (4 * k) 39 (ev (s.at4 k)).toList _ (range_sv h hk) Tryd.underlying39 rfl (info_ev _)
theorem bd_pt (a b c d : Fin PP) (W : World) : (Instr.build 41 [(0, .agg (ev a)), (1, .agg (ev b)), (2, .agg (ev c)), (3, .agg (ev d))].toArray).run Tryd.prog W = .ok (.agg (sv ⟨a, b, c, d⟩)) W :=
  run_build W 41 _ _ (by kernel_rfl)
theorem bd_elem0 (W : World) : (Instr.build 39 ([] : List (Nat × Value)).toArray).run Tryd.prog W = .ok (.agg (ev 0)) W := by kernel_rfl
/-- A zero Point. -/
def PZ : L4 PP := ⟨0, 0, 0, 0⟩
theorem bd_pt0 (W : World) : (Instr.build 41 ([] : List (Nat × Value)).toArray).run Tryd.prog W = .ok (.agg (sv PZ)) W := by kernel_rfl
theorem al_key (W : World) : (Instr.alloc 23 true (.tuple #[])).run Tryd.prog W = .ok (.pointer (some ⟨W.heap.size, 0, none⟩)) (W.alloc (.cells #[.int .u8 0, .int .u8 0, .int .u8 0, .int .u8 0, .int .u8 0, .int .u8 0, .int .u8 0, .int .u8 0, .int .u8 0, .int .u8 0, .int .u8 0, .int .u8 0, .int .u8 0, .int .u8 0, .int .u8 0, .int .u8 0, .int .u8 0, .int .u8 0, .int .u8 0, .int .u8 0, .int .u8 0, .int .u8 0, .int .u8 0, .int .u8 0, .int .u8 0, .int .u8 0, .int .u8 0, .int .u8 0, .int .u8 0, .int .u8 0, .int .u8 0, .int .u8 0] 23)) := by kernel_rfl
theorem bx_key (n : Nat) (W : World) : (Instr.box 23 (.agg (ks n))).run Tryd.prog W = .ok (.pointer (some ⟨W.heap.size, 0, none⟩)) (W.alloc (.cells (ks n) 23)) := by kernel_rfl
theorem addP {x y z : Fin PP} (h : z = x + y) (w : World) (hp : PG w) : Calls Tryd.prog 43 #[.agg (ev x), .agg (ev y)] w (EPost z w) := by rw [h]; exact addF x y w hp
theorem subP {x y z : Fin PP} (h : z = x - y) (w : World) (hp : PG w) : Calls Tryd.prog 41 #[.agg (ev x), .agg (ev y)] w (EPost z w) := by rw [h]; exact subF x y w hp
theorem mulP {x y z : Fin PP} (h : z = x * y) (w : World) (hp : PG w) : Calls Tryd.prog 42 #[.agg (ev x), .agg (ev y)] w (EPost z w) := by rw [h]; exact mulF x y w hp
theorem squareP {x z : Fin PP} (h : z = x * x) (w : World) (hp : PG w) : Calls Tryd.prog 61 #[.agg (ev x)] w (EPost z w) := by rw [h]; exact squareF x w hp
theorem negP {x z : Fin PP} (h : z = -x) (w : World) (hp : PG w) : Calls Tryd.prog 38 #[.agg (ev x)] w (EPost z w) := by rw [h]; exact negF x w hp
theorem smallP {z : Fin PP} (n : Nat) (h : z = sm n) (hn : n < 18446744073709551616) (w : World) : Calls Tryd.prog 60 #[.int .u64 (n : Int)] w (EPost z w) := by rw [h]; exact smallF n w hn
theorem equalB {x y : Fin PP} {b : Bool} (h : decide (x = y) = b) (w : World) : Calls Tryd.prog 63 #[.agg (ev x), .agg (ev y)] w (BPost b w) := by subst h; exact equalF x y w
theorem ia_key31 (g : Nat) (W : World) : (Instr.indexAt 23 (.pointer (some ⟨g, 0, none⟩)) (.int .i64 31)).run Tryd.prog W = .ok (.pointer (some ⟨g, 31, none⟩)) W := by kernel_rfl
theorem ld_key31 {n x : Nat} (hx : n / 256 ^ 31 % 256 = x) {g : Nat} (W : World) (h : Blk W g 23 (ks n)) : (Instr.loadAt 5 (.pointer (some ⟨g, 31, none⟩))).run Tryd.prog W = .ok (.int .u8 (x : Int)) W := by
  have hc := h.cell 31
  rw [ks_get n (by omega), hx] at hc
  go_simp
theorem st_key31 {n : Nat} {v : Int} {g : Nat} (W : World) (h : Blk W g 23 (ks n)) : (Instr.storeAt 5 (.pointer (some ⟨g, 31, none⟩)) (.int .u8 v)).run Tryd.prog W = .ok () (W.setCells g 31 [.int .u8 v]) := by
  have hc := h.cell 31
  have hf := h.frozen 31
  rw [ks_get n (by omega)] at hc
  have hs : (W.cell? ⟨g, 31, none⟩).isSome = true := by rw [hc]; rfl
  show _ = Result.ok () (W.setCell ⟨g, 31, none⟩ (.int .u8 v))
  go_simp
theorem sv_key31 {n m : Nat} {x : Nat} (hx : x < 256) (hm : putd 256 n 31 x = m) : setV (ks n) 31 [.int .u8 (x : Int)] = ks m := by
  show (ks n).setIfInBounds 31 (.int .u8 (x : Int)) = ks m
  rw [ks_put (by omega) hx, hm]
theorem and128 {x : Nat} (hx : x < 256) : bits .and .u8 (x : Int) 128 = if 128 ≤ x then 128 else 0 := by
  have h : ∀ x : Fin 256, bits .and .u8 ((x.val : Nat) : Int) 128 = if 128 ≤ x.val then 128 else 0 := by decide +kernel
  exact h ⟨x, hx⟩
theorem or128 {x : Nat} (hx : x < 128) : bits .or .u8 (x : Int) 128 = ((x + 128 : Nat) : Int) := by
  have h : ∀ x : Fin 128, bits .or .u8 ((x.val : Nat) : Int) 128 = ((x.val + 128 : Nat) : Int) := by decide +kernel
  exact h ⟨x, hx⟩
theorem andNot128 {x : Nat} (hx : x < 256) : bits .andNot .u8 (x : Int) 128 = ((x % 128 : Nat) : Int) := by
  have h : ∀ x : Fin 256, bits .andNot .u8 ((x.val : Nat) : Int) 128 = ((x.val % 128 : Nat) : Int) := by decide +kernel
  exact h ⟨x, hx⟩
theorem b_and128 {x y : Nat} (hx : x < 256) (h : (if 128 ≤ x then 128 else 0) = y) (p q : Operand) (W : World) : (do eqGuard .and 5 p q (.int .u8 (x : Int)) (.int .u8 128); binOp .and 5 (.int .u8 (x : Int)) (.int .u8 128) : Sem Value).run Tryd.prog W = .ok (.int .u8 (y : Int)) W := by
  have := and128 hx
  have e : (if 128 ≤ x then (128 : Int) else 0) = (y : Int) := by
    subst h
    split <;> rfl
  rw [e] at this
  go_simp
theorem b_or128 {x y : Nat} (hx : x < 128) (h : x + 128 = y) (p q : Operand) (W : World) : (do eqGuard .or 5 p q (.int .u8 (x : Int)) (.int .u8 128); binOp .or 5 (.int .u8 (x : Int)) (.int .u8 128) : Sem Value).run Tryd.prog W = .ok (.int .u8 (y : Int)) W := by
  have := or128 hx
  rw [h] at this
  go_simp
theorem b_andNot128 {x y : Nat} (hx : x < 256) (h : x % 128 = y) (p q : Operand) (W : World) : (do eqGuard .andNot 5 p q (.int .u8 (x : Int)) (.int .u8 128); binOp .andNot 5 (.int .u8 (x : Int)) (.int .u8 128) : Sem Value).run Tryd.prog W = .ok (.int .u8 (y : Int)) W := by
  have := andNot128 hx
  rw [h] at this
  go_simp
theorem b_neq0 {y : Nat} {b : Bool} (h : decide (y ≠ 0) = b) (p q : Operand) (W : World) : (do eqGuard .neq 5 p q (.int .u8 (y : Int)) (.int .u8 0); binOp .neq 5 (.int .u8 (y : Int)) (.int .u8 0) : Sem Value).run Tryd.prog W = .ok (.bool b) W := by
  have e : ((y : Int) != 0) = b := by
    rw [← h]
    by_cases hy : y = 0
    · subst hy; rfl
    · have : ¬ (y : Int) = 0 := by omega
      simp [hy, this]
  go_simp
def fx (d : Fin PP) (s : L4 PP) : Array Value := ev d ++ sv s
theorem fx_size (d : Fin PP) (s : L4 PP) : (fx d s).size = 20 := by unfold fx; rw [Array.size_append, ev_size, sv_size]
end Go.Proofs.YtpagiffbjofihaaDoor
namespace Go.Proofs.YtpagiffbjofihaaDoor
set_option linter.unusedVariables false
set_option linter.unusedSimpArgs false
set_option maxRecDepth 100000
open Go Go.RowKit
def BF (l : List UInt8) (v : Value) (w : World) : Prop := ∃ A n c, v = .slice A n c ∧ BS w w.heap.size A n c l
def RF (L : List (List UInt8)) (v : Value) (w : World) : Prop := ∃ A n c, v = .slice A n c ∧ RS w w.heap.size A n c L
/-- Values of slices. -/
structure PV (W : World) (B : Nat) (xs : List Value) (L : List (List UInt8)) : Prop where
  len : xs.length = L.length
  at_ : ∀ (j : Nat) (l : List UInt8), L[j]? = some l → ∃ Aj nj cj, xs[j]? = some (Value.slice Aj nj cj) ∧ BS W B Aj nj cj l
  one : ∀ u ∈ xs, u.oneCell' = true
def LF (L : List (List UInt8)) (v : Value) (w : World) : Prop := ∃ g xs, v = .slice (some ⟨g, 0, none⟩) L.length L.length ∧ g < w.heap.size ∧ (∀ j u, xs[j]? = some u → w.cell? ⟨g, j, none⟩ = some u) ∧ PV w w.heap.size xs L
theorem RS.more {w : World} {B B' n c : Nat} {A : Option Addr} {L : List (List UInt8)} (h : RS w B A n c L) (hB : B ≤ B') : RS w B' A n c L :=
  ⟨h.len, fun hn => by
    obtain ⟨b, o, e, hb, hc⟩ := h.at_ hn
    refine ⟨b, o, e, by omega, fun j l hl => ?_⟩
    obtain ⟨Aj, nj, cj, h1, h2⟩ := hc j l hl
    exact ⟨Aj, nj, cj, h1, h2.more hB⟩⟩
theorem PV.nil (W : World) (B : Nat) : PV W B [] [] := ⟨rfl, (fun j l h => by simp at h), (fun u h => by cases h)⟩
theorem PV.keep {W W' : World} {B : Nat} {xs : List Value} {L : List (List UInt8)} (h : PV W B xs L) (hk : ∀ p : Addr, p.block < B → W'.cell? p = W.cell? p) : PV W' B xs L :=
  ⟨h.len, fun j l hl => by
    obtain ⟨Aj, nj, cj, h1, h2⟩ := h.at_ j l hl
    exact ⟨Aj, nj, cj, h1, h2.keep hk⟩, h.one⟩
theorem PV.below {W W' : World} {B : Nat} {xs : List Value} {L : List (List UInt8)} (h : PV W B xs L) (hb : Below B W W') : PV W' B xs L := h.keep fun _ hp => hb.cell hp
theorem PV.more {W : World} {B B' : Nat} {xs : List Value} {L : List (List UInt8)} (h : PV W B xs L) (hB : B ≤ B') : PV W B' xs L :=
  ⟨h.len, fun j l hl => by
    obtain ⟨Aj, nj, cj, h1, h2⟩ := h.at_ j l hl
    exact ⟨Aj, nj, cj, h1, h2.more hB⟩, h.one⟩
theorem PV.cons {W : World} {B : Nat} {xs : List Value} {L : List (List UInt8)} (h : PV W B xs L) {A : Option Addr} {n c : Nat} {l : List UInt8} (hl : BS W B A n c l) : PV W B (.slice A n c :: xs) (l :: L) := by
  refine ⟨by simp [h.len], fun j l' hj => ?_, fun u hu => ?_⟩
  · cases j with
    | zero =>
      injection hj with hj
      subst hj
      exact ⟨A, n, c, rfl, hl⟩
    | succ j => exact h.at_ j l' hj
  · rcases List.mem_cons.1 hu with rfl | hu
    · rfl
    · exact h.one u hu
theorem PV.app {W : World} {B : Nat} {xs ys : List Value} {L M : List (List UInt8)} (h : PV W B xs L) (h' : PV W B ys M) : PV W B (xs ++ ys) (L ++ M) := by
  refine ⟨by simp [h.len, h'.len], fun j l hj => ?_, fun u hu => ?_⟩
  · by_cases hlt : j < L.length
    · rw [List.getElem?_append_left hlt] at hj
      obtain ⟨Aj, nj, cj, h1, h2⟩ := h.at_ j l hj
      exact ⟨Aj, nj, cj, by rw [List.getElem?_append_left (by rw [h.len]; exact hlt)]; exact h1, h2⟩
    · rw [List.getElem?_append_right (by omega)] at hj
      obtain ⟨Aj, nj, cj, h1, h2⟩ := h'.at_ _ l hj
      exact ⟨Aj, nj, cj, by rw [List.getElem?_append_right (by rw [h.len]; omega), h.len]; exact h1, h2⟩
  · rcases List.mem_append.1 hu with hu | hu
    · exact h.one u hu
    · exact h'.one u hu
section
variable {B : Nat} {h : Hep}
theorem BF.grow {l : List UInt8} : ∀ (v : Value) (w w' : World), BF l v w → Grow B h w w' → BF l v w' := fun v w w' ⟨A, n, c, e, h⟩ hb => ⟨A, n, c, e, (h.keep hb.cells).more hb.below.size⟩
theorem RF.grow {L : List (List UInt8)} : ∀ (v : Value) (w w' : World), RF L v w → Grow B h w w' → RF L v w' := fun v w w' ⟨A, n, c, e, h⟩ hb => ⟨A, n, c, e, (h.keep hb.cells).more hb.below.size⟩
theorem LF.grow {L : List (List UInt8)} : ∀ (v : Value) (w w' : World), LF L v w → Grow B h w w' → LF L v w' := fun v w w' ⟨g, xs, e, h1, h3, h2⟩ hb => ⟨g, xs, e, Nat.lt_of_lt_of_le h1 hb.below.size, fun j u hu => (hb.cells _ h1).trans (h3 j u hu), (h2.keep hb.cells).more hb.below.size⟩
end
theorem BF.below {l : List UInt8} {v : Value} {w w' : World} (hv : BF l v w) (hb : Below w.heap.size w w') : BF l v w' := BF.grow (B := 0) (h := []) _ _ _ hv (gro hb (Nat.zero_le _))
theorem RF.below {L : List (List UInt8)} {v : Value} {w w' : World} (hv : RF L v w) (hb : Below w.heap.size w w') : RF L v w' := RF.grow (B := 0) (h := []) _ _ _ hv (gro hb (Nat.zero_le _))
theorem rs_row {w : World} {g B : Nat} {xs : List Value} {L : List (List UInt8)} (hb : ∀ j u, xs[j]? = some u → w.cell? ⟨g, j, none⟩ = some u) (hg : g < B) (hp : PV w B xs L) {n c : Nat} (hn : L.length = n) : RS w B (some ⟨g, 0, none⟩) n c L :=
  ⟨hn, fun _ => ⟨g, 0, rfl, hg, fun j l hl => by
    obtain ⟨Aj, nj, cj, h1, h2⟩ := hp.at_ j l hl
    exact ⟨Aj, nj, cj, by rw [Nat.zero_add]; exact hb j _ h1, h2⟩⟩⟩
theorem LF.rf {L : List (List UInt8)} {v : Value} {w : World} (h : LF L v w) : RF L v w := by
  obtain ⟨g, xs, e, h1, h3, h2⟩ := h
  exact ⟨_, _, _, e, rs_row h3 h1 h2 rfl⟩
theorem RF.nil (w : World) : RF [] (.slice none 0 0) w := ⟨_, _, _, rfl, ⟨rfl, fun h => absurd h (by omega)⟩⟩
theorem BF.nil (w : World) : BF [] (.slice none 0 0) w := ⟨_, _, _, rfl, BS.nil _ _⟩
theorem RS.pv {w : World} {B b o n c : Nat} {L : List (List UInt8)} (h : RS w B (some ⟨b, o, none⟩) n c L) : ∃ ys, PV w B ys L ∧ ∀ j u, ys[j]? = some u → w.cell? ⟨b, o + j, none⟩ = some u := by
  have key : ∀ (j : Nat) (l : List UInt8), L[j]? = some l → ∃ Aj nj cj, w.cell? ⟨b, o + j, none⟩ = some (.slice Aj nj cj) ∧ BS w B Aj nj cj l := by
    intro j l hl
    have hn : 0 < n := by have := (List.getElem?_eq_some_iff.1 hl).1; have := h.len; omega
    obtain ⟨b', o', e, hb, hc⟩ := h.at_ hn
    injection e with e
    injection e with e1 e2
    subst e1 e2
    exact hc j l hl
  have get : ∀ j, j < L.length → ((List.range L.length).map (fun j => (w.cell? ⟨b, o + j, none⟩).getD undef))[j]? = some ((w.cell? ⟨b, o + j, none⟩).getD undef) := fun j hj => by simp [hj]
  refine ⟨(List.range L.length).map (fun j => (w.cell? ⟨b, o + j, none⟩).getD undef), ⟨by simp, fun j l hl => ?_, fun u hu => ?_⟩, fun j u hu => ?_⟩
  · obtain ⟨Aj, nj, cj, h1, h2⟩ := key j l hl
    refine ⟨Aj, nj, cj, ?_, h2⟩
    rw [get j (List.getElem?_eq_some_iff.1 hl).1, h1]
    rfl
  · obtain ⟨j, hj, rfl⟩ := List.mem_map.1 hu
    have hj := List.mem_range.1 hj
    obtain ⟨Aj, nj, cj, h1, h2⟩ := key j L[j] (List.getElem?_eq_getElem hj)
    rw [h1]
    rfl
  · have hj : j < L.length := by
      have := (List.getElem?_eq_some_iff.1 hu).1
      simpa using this
    obtain ⟨Aj, nj, cj, h1, h2⟩ := key j L[j] (List.getElem?_eq_getElem hj)
    rw [get j hj] at hu
    rw [← hu, h1]
    rfl
theorem info_rows : (Tryd.prog.info? 24).map (fun i => (i.zero, i.size, i.bytes)) = some (some (.slice none 0 0), 1, 24) := by kernel_rfl
theorem Below.none_ {w w' : World} (h : w.grownBy w' none) : Below w.heap.size w w' := (Below.refl _ _).grown h (Nat.le_refl _) (fun g e => by cases e)
/-- 'append(v, u...)' of slices, v a literal. -/
theorem run_app_rows {w : World} (ty : TypeId) {L M : List (List UInt8)} {v u : Value} (hv : LF L v w) (hu : RF M u w) (hs : L.length + M.length ≤ 1000000) :
    ∃ v' w', (Builtin.append_ #[33, 33] ty #[v, u]).run Tryd.prog w = .ok v' w' ∧ Below w.heap.size w w' ∧ RF (L ++ M) v' w' := by
  obtain ⟨i, hi, hz, hsz, hby⟩ := info_parts info_rows
  have hrf := hv.rf
  obtain ⟨g, xs, rfl, hgl, hb, hp⟩ := hv
  obtain ⟨A, n, c, rfl, hr⟩ := hu
  have hxl := hp.len
  by_cases hn : n = 0
  · subst hn
    obtain rfl : M = [] := List.eq_nil_of_length_eq_zero hr.len
    refine ⟨_, w, ?_, Below.refl _ _, by rw [List.append_nil]; exact hrf⟩
    cases A <;> simp [Builtin.append_, run_underlying Tryd.underlying33, sizeOf, typeInfo, hi, Builtin.lenOf, Builtin.firstCells, storeCells, loadCells, loadCellsFrom]
  · obtain ⟨b, o, rfl, hB, _⟩ := hr.at_ (by omega)
    obtain ⟨ys, hys, hyc⟩ := hr.pv
    have hyl := hys.len
    have hml := hr.len
    obtain ⟨v', w', h1, h2, h3⟩ := run_append_arg_grows (P := Tryd.prog) w 33 ty 24 i _ 1 24 Tryd.underlying33 hi hz hsz hby rfl (by omega) ⟨g, 0, none⟩ L.length L.length xs (by omega) (fun j u hu => by
        rw [Addr.add_lit, Nat.zero_add]
        exact hb j u hu) ⟨b, o, none⟩ n c ys (by omega) (fun j u hu => by
        rw [Addr.add_lit]
        exact hyc j u hu) (by omega) (by simp only [maxLen]; omega) (by omega)
    have hbel := Below.none_ h3
    refine ⟨v', w', h1, hbel, ?_⟩
    have hpv : PV w' w'.heap.size (xs ++ ys) (L ++ M) := ((hp.app hys).below hbel).more hbel.size
    have hlt := World.ownsRow.lt h2
    rcases h2.2 with ⟨rfl, h0⟩ | ⟨g', cap, cur, rfl, hbb, hh, hc, hm, hcs, ht⟩
    · omega
    · refine ⟨_, _, _, rfl, rs_row (g := g') (fun j u hu => ?_) (hlt g' rfl).2 hpv (by rw [List.length_append]; omega)⟩
      have := World.ownsRow.cells h2 (g := g') rfl j u hu
      rw [Addr.add_lit, Nat.zero_add] at this
      exact this
section
variable {n : Nat} {w0 w w' : World} {a : Act} {e : Env} {h : Hep} {Q : Exit → Act → World → Prop} {ops : Array Oper} {o : Oper}
theorem ob_append {x y : Operand} {v u : Value} {L M : List (List UInt8)} (H : St n w0 a w e h) (hw : ∀ a w, St n w0 a w e h → Region.wanted o (yielded ops a.tmps) = true) (ho : o.op = .call { callee := .builtin .append, args := #[x, y], argTypes := #[33, 33] })
    (hx : sev e x = some v) (hy : sev e y = some u) (hv : LF L v w) (hu : RF M u w) (hs : L.length + M.length ≤ 1000000) : Ob Tryd.prog ops Q w0.heap.size h o a w (RF (L ++ M)) := by
  refine ob_run H hw ?_
  obtain ⟨v', w', h1, h2, h3⟩ := run_app_rows (w := w) o.type hv hu hs
  refine ⟨v', w', ?_, gro h2 H.below.size, h3⟩
  simp [execOp, ho, resolve, invoke, builtin, H.ev hx, H.ev hy, h1, Result.andThen]
theorem run_rows1 (w : World) (A : Option Addr) (n c : Nat) : (Instr.buildSlice 33 1 #[(0, .slice A n c)]).run Tryd.prog w = .ok (.slice (some ⟨w.heap.size, 0, none⟩) 1 1) (w.alloc (.cells #[.slice A n c] 24)) := by kernel_rfl
theorem run_rows2 (w : World) (A : Option Addr) (n c : Nat) (A2 : Option Addr) (n2 c2 : Nat) : (Instr.buildSlice 33 2 #[(0, .slice A n c), (1, .slice A2 n2 c2)]).run Tryd.prog w = .ok (.slice (some ⟨w.heap.size, 0, none⟩) 2 2) (w.alloc (.cells #[.slice A n c, .slice A2 n2 c2] 24)) := by kernel_rfl
theorem lf_new {w : World} {xs : List Value} {L : List (List UInt8)} (hp : PV w w.heap.size xs L) {k : Nat} (hk : L.length = k) : Below w.heap.size w (w.alloc (.cells xs.toArray 24)) ∧ LF L (.slice (some ⟨w.heap.size, 0, none⟩) k k) (w.alloc (.cells xs.toArray 24)) := by
  subst hk
  have hb : Below w.heap.size w (w.alloc (.cells xs.toArray 24)) := (Below.refl _ _).alloc (Nat.le_refl _) _
  have hn : Blk (w.alloc (.cells xs.toArray 24)) w.heap.size 24 xs.toArray := Blk.new _ _ _
  exact ⟨hb, _, xs, rfl, hn.lt, fun j u hu => by rw [hn.cell]; simpa using hu, (hp.below hb).more hb.size⟩
theorem ob_rows1 {x : Operand} {v : Value} {l : List UInt8} (H : St n w0 a w e h) (hw : ∀ a w, St n w0 a w e h → Region.wanted o (yielded ops a.tmps) = true) (ho : o.op = .buildSlice 33 1 #[(0, x)]) (hx : sev e x = some v) (hv : BF l v w) :
    Ob Tryd.prog ops Q w0.heap.size h o a w (LF [l]) := by
  refine ob_run H hw ?_
  obtain ⟨A, k, c, rfl, hb⟩ := hv
  obtain ⟨h1, h2⟩ := lf_new ((PV.nil w w.heap.size).cons hb) (k := 1) rfl
  refine ⟨_, _, ?_, gro h1 H.below.size, h2⟩
  simp [execOp, ho, H.ev hx, run_rows1, Result.andThen]
theorem ob_rows2 {x y : Operand} {v u : Value} {l m : List UInt8} (H : St n w0 a w e h) (hw : ∀ a w, St n w0 a w e h → Region.wanted o (yielded ops a.tmps) = true) (ho : o.op = .buildSlice 33 2 #[(0, x), (1, y)]) (hx : sev e x = some v) (hy : sev e y = some u) (hv : BF l v w) (hu : BF m u w) :
    Ob Tryd.prog ops Q w0.heap.size h o a w (LF [l, m]) := by
  refine ob_run H hw ?_
  obtain ⟨A, k, c, rfl, hb⟩ := hv
  obtain ⟨A2, k2, c2, rfl, hb2⟩ := hu
  obtain ⟨h1, h2⟩ := lf_new (((PV.nil w w.heap.size).cons hb2).cons hb) (k := 2) rfl
  refine ⟨_, _, ?_, gro h1 H.below.size, h2⟩
  simp [execOp, ho, H.ev hx, H.ev hy, run_rows2, Result.andThen]
def MF (B : Nat) (h : Hep) (l : List UInt8) (v : Value) (w : World) : Prop := ∃ g fr, v = .slice (some ⟨g, 0, none⟩) l.length l.length ∧ B ≤ g ∧ (∀ x ∈ h, x.1 ≠ g) ∧ w.heap[g]? = some (.cells (bvs l) 5 fr)
theorem MF.grow {B B' : Nat} {h : Hep} {l : List UInt8} : ∀ (v : Value) (w w' : World), MF B h l v w → Grow B' h w w' → MF B h l v w' := fun v w w' ⟨g, fr, e, h1, h2, h3⟩ hb => by
  obtain ⟨fr', h4⟩ := hb.objs _ _ _ _ h3
  exact ⟨g, fr', e, h1, h2, h4⟩
theorem run_byte1 (w : World) : (Instr.buildSlice 24 1 #[(0, .int .u8 109)]).run Tryd.prog w = .ok (.slice (some ⟨w.heap.size, 0, none⟩) 1 1) (w.alloc (.cells (bvs [109]) 5)) := by kernel_rfl
theorem ob_byte1 (H : St n w0 a w e h) (hw : ∀ a w, St n w0 a w e h → Region.wanted o (yielded ops a.tmps) = true) (ho : o.op = .buildSlice 24 1 #[(0, .const (.int .u8 109))]) :
    Ob Tryd.prog ops Q w0.heap.size h o a w (MF w0.heap.size h [109]) := by
  refine ob_run H hw ⟨.slice (some ⟨w.heap.size, 0, none⟩) 1 1, w.alloc (.cells (bvs [109]) 5), ?_, gro ((Below.refl _ _).alloc (Nat.le_refl _) _) H.below.size, w.heap.size, (0, 0), rfl, H.below.size, fun p hp => Nat.ne_of_lt (H.heap p hp).lt, Blk.new _ _ _⟩
  simp [execOp, ho, Act.eval, run_byte1, Result.andThen]
theorem freeze_cell (w : World) (a : Addr) (n : Nat) (p : Addr) : (w.freeze a n).cell? p = w.cell? p := by
  unfold World.freeze
  split
  · rfl
  · unfold World.cell?
    dsimp only
    rw [Array.getElem?_modify]
    by_cases hk : a.block = p.block
    · rw [if_pos hk]
      cases hg : w.heap[p.block]? with
      | none => rfl
      | some o => cases o <;> rfl
    · rw [if_neg hk]
theorem freeze_heap (w : World) (a : Addr) (n k : Nat) (hk : a.block ≠ k) : (w.freeze a n).heap[k]? = w.heap[k]? := by
  unfold World.freeze
  split
  · rfl
  · dsimp only
    rw [Array.getElem?_modify, if_neg hk]
theorem freeze_objs (w : World) (a : Addr) (n g : Nat) (C : Array Value) (t : TypeId) (fr : Nat × Nat) (hg : w.heap[g]? = some (.cells C t fr)) : ∃ fr', (w.freeze a n).heap[g]? = some (.cells C t fr') := by
  unfold World.freeze
  split
  · exact ⟨fr, hg⟩
  · dsimp only
    rw [Array.getElem?_modify, hg]
    split
    · obtain ⟨lo, hi⟩ := fr
      exact ⟨_, rfl⟩
    · exact ⟨fr, rfl⟩
theorem freeze_grow {B : Nat} {h : Hep} (w : World) (a : Addr) (n : Nat) (hB : B ≤ a.block) (hh : ∀ x ∈ h, x.1 ≠ a.block) : Grow B h w (w.freeze a n) := by
  have hs : (w.freeze a n).heap.size = w.heap.size := by
    unfold World.freeze
    split
    · rfl
    · simp
  refine ⟨⟨?_, ?_, ?_, by omega, fun k hk => freeze_heap w a n k (by omega)⟩, fun p _ => freeze_cell w a n p, freeze_objs w a n, fun x hx _ => freeze_heap w a n x.1 (Ne.symm (hh x hx))⟩
  all_goals
    unfold World.freeze
    split <;> rfl
theorem run_mark {g k c : Nat} {C : Array Value} {t : TypeId} {fr : Nat × Nat} (hg : w.heap[g]? = some (.cells C t fr)) : (convert 24 24 (.slice (some ⟨g, 0, none⟩) k c)).run Tryd.prog w = .ok (.slice (some ⟨g, 0, none⟩) k c) (w.freeze ⟨g, C.size, none⟩ 1) := by
  have hsh : w.shape? g = some (t, C.size) := by unfold World.shape?; rw [hg]
  simp [convert, run_underlying Tryd.underlying24, run_underlying Tryd.underlying5, markStringish, hsh]
theorem ob_mark {x : Operand} {v : Value} {l : List UInt8} (H : St n w0 a w e h) (hw : ∀ a w, St n w0 a w e h → Region.wanted o (yielded ops a.tmps) = true) (ho : o.op = .convert 24 24 x) (hx : sev e x = some v) (hv : MF w0.heap.size h l v w) :
    Ob Tryd.prog ops Q w0.heap.size h o a w (BF l) := by
  refine ob_run H hw ?_
  obtain ⟨g, fr, rfl, hB, hh, hg⟩ := hv
  have hgr := freeze_grow (h := h) w ⟨g, (bvs l).size, none⟩ 1 hB hh
  obtain ⟨fr', hg'⟩ := hgr.objs _ _ _ _ hg
  refine ⟨.slice (some ⟨g, 0, none⟩) l.length l.length, w.freeze ⟨g, (bvs l).size, none⟩ 1, ?_, hgr, _, _, _, rfl, rfl, Nat.le_refl _, (by intro e; cases e), fun _ => ⟨g, 0, rfl, (Array.getElem?_eq_some_iff.1 hg').1, fun j x hx => ?_⟩⟩
  · simp [execOp, ho, H.ev hx, run_mark hg, Result.andThen]
  · rw [Nat.zero_add, cell_of_row _ g j (bvs l) 5 fr' hg', bvs_get, hx]
    rfl
theorem bf_key {g k : Nat} (hb : Blk w g 23 (ks k)) : BF (kby k) (.slice (some ⟨g, 0, none⟩) 32 32) w := by
  rw [ks_kby] at hb
  exact ⟨_, _, _, rfl, BS.ofBlk hb 32 (kby_len k).symm _ hb.lt⟩
theorem rf_old {L : List (List UInt8)} {v : Value} (hm : RF L v w0) (H : St n w0 a w e h) : RF L v w := RF.grow (B := 0) (h := []) _ _ _ hm (gro H.below (Nat.zero_le _))
theorem bf_old {l : List UInt8} {v : Value} (hm : BF l v w0) (H : St n w0 a w e h) : BF l v w := BF.grow (B := 0) (h := []) _ _ _ hm (gro H.below (Nat.zero_le _))
end
end Go.Proofs.YtpagiffbjofihaaDoor
