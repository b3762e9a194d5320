/- The ladder's Mul. -/
import Derived.Test.YthlnnoajklmeiaaDoorLn
import Derived.Test.YthlnnoajklmeiaaDoorLb
import Derived.Test.YthlnnoajklmeiaaDoorFi
namespace Go.Proofs.YthlnnoajklmeiaaDoor
set_option linter.unusedVariables false
set_option linter.unusedSimpArgs false
open Go Go.RowKit

theorem yields_ev {ops : Array Oper} {S : World → Prop} {op : Oper} {a : Act} (hw : Region.wanted op (yielded ops a.tmps) = true) (x : Operand) (ho : op.op = .load 46 x)
    (g k o : Nat) (hko : o = 4 * k) (hk : k < 4) (hx : a.eval x = .pointer (some ⟨g, o, none⟩)) (t : TypeId) (s : L4 PP) (v : Fin PP) (hv : v = s.at4 k) (hS : ∀ w, S w → Blk w g t (sv s)) : YieldsIf Tryd.prog ops S op (.agg (ev v)) a := by
  subst hko hv
  exact yields_sv hw x ho g k hk hx t s hS
theorem invL {x y : Fin PP} (h : y = x ^ (PP - 2)) (w : World) (hp : PG w) : Calls Tryd.prog 30 #[.agg (ev x)] w (EPost y w) := by
  have h2 := inv_any x w hp
  rw [← h] at h2
  exact h2
theorem lgo_step (x : Fin PP) (K j : Nat) {t : Bool} (h : bitB K (254 - j) = t) : lsw t (lnx Q0 x (lsw t (lgo Q0 x K j))) = lgo Q0 x K (j + 1) := by
  subst h
  rfl
theorem lgo_zero (x : Fin PP) (K : Nat) : (⟨sm 1, 0, x, sm 1⟩ : L4 PP) = lgo Q0 x K 0 := rfl
attribute [local irreducible] lad lgo sv
theorem small_one (w : World) : Calls Tryd.prog 25 #[.int .u64 1] w (EPost (sm 1) w) := smallF 1 w (by omega)
set_option maxRecDepth 100000 in
set_option maxHeartbeats 8000000 in
theorem lmul_any {k n : Nat} {y : Fin PP} (hy0 : y = lad Q0 (clampN k) (ofK n)) (w : World) (hpg : PG w) (hk : k < 115792089237316195423570985008687907853269984665640564039457584007913129639936) (hn : n < 115792089237316195423570985008687907853269984665640564039457584007913129639936) : Calls Tryd.prog 9 #[.agg (ks k), .agg (ks n)] w (KeyPost y.val w) := by
  obtain ⟨K, hK⟩ : ∃ K, K = clampN k := ⟨_, rfl⟩
  obtain ⟨x, hx⟩ : ∃ x, x = ofK n := ⟨_, rfl⟩
  rw [← hK, ← hx] at hy0
  have HY0 := Lib.hid hy0
  have hcl := fun W => lclamp_any k W
  rw [← hK] at hcl
  have hof := fun W hp => ofF n W hp hn
  rw [← hx] at hof
  have HCL := Lib.hid hcl
  have HOF := Lib.hid hof
  clear hcl hof hy0 hK hx hn
  have hfr := (((Fr.start w).row (ks k) 23 (g := w.heap.size) rfl).row (ks n) 23 (g := w.heap.size + 1) (by simp)).any (ks 0) 23 32 (ks_size 0) (g := w.heap.size + 1 + 1) (by simp)
  rw [ks_zero] at hfr
  have k0 := hfr.get (g := w.heap.size) (t := 23) (cs := ks k) (by simp)
  have HP := Lib.hid hpg
  have HF := Lib.hid hfr
  have K0 := Lib.hid k0
  clear hfr hpg k0
  go_enter Tryd.func9, Tryd.ntmps9
  go_wp2_with (first | (refine wpList_load_row rfl 23 (.tmp 2) rfl (w.heap.size) rfl 23 (ks k) (0, 0) _ K0.out Tryd.underlying23 rfl (info_ks _) ?_))
  clear K0
  refine (HCL.out _).mono ?_
  rintro e v1 ⟨rfl, hb⟩
  have hf := HF.out.ext hb
  have k0 := hf.get (g := w.heap.size) (t := 23) (cs := ks k) (by simp)
  have f1 := ((hf.sub (L' := [(w.heap.size + 1, 23, ks n)]) (R' := [(w.heap.size + 1 + 1, 23, 32)]) (by simp) (by simp)).setOut (g := w.heap.size) (Nat.le_refl _) (by simp <;> omega) (by simp <;> omega) (ks K)).more (k0.setRow_same (ks K))
  have k1 := f1.get (g := w.heap.size + 1) (t := 23) (cs := ks n) (by simp)
  have hsz : (ks k).size = (ks K).size := by rw [ks_size, ks_size]
  have K0 := Lib.hid k0
  have K1 := Lib.hid k1
  have HF1 := Lib.hid f1
  have HSZ := Lib.hid hsz
  clear hb hf k0 f1 k1 hsz HF
  go_wp2_with (first | (refine wpList_store_row rfl 23 (.tmp 2) (.tmp 10) rfl (w.heap.size) (ks K) rfl rfl 23 (ks k) K0.out (info_ks _) HSZ.out (ks_one _) ?_) | (refine wpList_load_row rfl 23 (.tmp 3) rfl (w.heap.size + 1) rfl 23 (ks n) (0, 0) _ K1.out Tryd.underlying23 rfl (info_ks _) ?_))
  clear K0 K1 HSZ
  refine (HOF.out _ (Fr.pg HF1.out HP.out)).mono ?_
  rintro e v2 ⟨rfl, hb⟩
  have hf := HF1.out.ext hb
  have hr2 : w.heap.size + 1 + 1 < v2.heap.size := by obtain ⟨cs, _, k⟩ := hf.old (g := w.heap.size + 1 + 1) (t := 23) (n := 32) (by simp); exact k.lt
  have ka : Blk (v2.alloc (.cells #[.int .u64 0, .int .u64 0, .int .u64 0, .int .u64 0] 46)) v2.heap.size 46 #[.int .u64 0, .int .u64 0, .int .u64 0, .int .u64 0] := Blk.new _ _ _
  have kc := ka.setRow_same (ev x)
  have hf3 := ((hf.pass (.cells #[.int .u64 0, .int .u64 0, .int .u64 0, .int .u64 0] 46)).setOut (g := v2.heap.size) (by omega) (by simp <;> omega) (by simp <;> omega) (ev x)).more kc
  have KA := Lib.hid ka
  have HF2 := Lib.hid hf3
  clear hb hf ka kc hf3 HF1
  go_wp2_with (first | (refine wpList_store_row rfl 46 (.tmp 5) (.tmp 12) rfl (v2.heap.size) (ev x) rfl rfl 46 _ KA.out (info_ev _) (ev_size _).symm (ev_one _) ?_))
  clear KA
  obtain ⟨wx, hwx⟩ : ∃ wz : World, wz = (v2.alloc (.cells #[.int .u64 0, .int .u64 0, .int .u64 0, .int .u64 0] 46)).setRow v2.heap.size (ev x) := ⟨_, rfl⟩
  have hsx : wx.heap.size = v2.heap.size + 1 := by rw [hwx]; simp
  rw [← hwx] at HF2 ⊢
  clear hwx
  obtain ⟨g5, hg5⟩ : ∃ g5, g5 = v2.heap.size := ⟨_, rfl⟩
  rw [← hg5] at HF2 hr2 hsx ⊢
  clear hg5
  simp only [Act.put]
  obtain ⟨s0, hs0⟩ : ∃ s0, s0 = lgo Q0 x K 0 := ⟨_, rfl⟩
  have hblt : Tryd.prog.built 50 [(0, .agg (ev (sm 1))), (2, .agg (ev x)), (3, .agg (ev (sm 1)))] = some (sv s0) := by rw [hs0, ← lgo_zero]; exact built_sv3 (sm 1) x (sm 1)
  have HSX := Lib.hid hsx
  clear hsx
  have HBLT := Lib.hid hblt
  have HS0 := Lib.hid hs0
  clear hblt hs0
  go_cut [6] (fun s6 wz => ∃ g6 : Nat, s6 = .pointer (some ⟨g6, 0, none⟩) ∧ wx.heap.size ≤ g6 ∧ Blk wz g6 50 (sv s0) ∧ Below wx.heap.size wx wz)
  case first =>
    as_aux_lemma =>
      have hn := (HF2.out.now.sub (L' := [(g5, 46, ev x), (w.heap.size, 23, ks K), (w.heap.size + 1, 23, ks n)]) (by simp))
      have hpgx := Fr.pg HF2.out HP.out
      have HN := Lib.hid hn
      have HPX := Lib.hid hpgx
      clear hn hpgx
      refine wp_region_held_drew (S := fun W => Fn wx W [(g5, 46, ev x), (w.heap.size, 23, ks K), (w.heap.size + 1, 23, ks n)]) (by kernel_rfl) ?_ (fun hHeld => ?_)
      · exact HN.out.drew
      refine wpAnyH_take (i := 1) (v := .agg (ev x)) rfl (by kernel_rfl) (by kernel_rfl) (by kernel_rfl) (fun _ _ _ h => h) (yields_row (by rfl) 46 (.tmp 5) rfl (g5) rfl 46 (ev x) _ (fun W (h : Fn _ W _) => h.get (by simp)) Tryd.underlying46 rfl (info_ev _)) hHeld ?_
      try simp only [Act.put, List.getElem_toArray, List.getElem_cons_succ, List.getElem_cons_zero, List.setIfInBounds_toArray, List.set_cons_zero, List.set_cons_succ]
      refine wpAnyH_ready (rs := [0, 4]) (by kernel_rfl) (by simp) (AllReadyH.cons rfl (fun K hK => ?_) (AllReadyH.cons rfl (fun K hK => ?_) AllReadyH.nil))
      · have h0 := hHeld
        clear hHeld
        try simp only [List.getElem_toArray, List.getElem_cons_succ, List.getElem_cons_zero]
        have H0 := Lib.hid h0
        clear h0
        go_simp
        go_at_call 25
        refine (small_one _).mono ?_
        rintro e vv ⟨rfl, hb⟩
        have h1 := H0.out.ext hb
        clear hb H0
        go_wp2_with (fail)
        refine hK.out _ _ h1 (fun hHeld => ?_)
        clear hK K h1
        try simp only [Act.put, List.getElem_toArray, List.getElem_cons_succ, List.getElem_cons_zero, List.setIfInBounds_toArray, List.set_cons_zero, List.set_cons_succ]
        refine wpAnyH_ready (rs := [2, 4]) (by kernel_rfl) (by simp) (AllReadyH.cons rfl (fun K hK => ?_) (AllReadyH.cons rfl (fun K hK => ?_) AllReadyH.nil))
        · have h0 := hHeld
          clear hHeld
          try simp only [List.getElem_toArray, List.getElem_cons_succ, List.getElem_cons_zero]
          have H0 := Lib.hid h0
          clear h0
          go_simp
          go_at_call 25
          refine (small_one _).mono ?_
          rintro e vv ⟨rfl, hb⟩
          have h1 := H0.out.ext hb
          clear hb H0
          go_wp2_with (fail)
          refine hK.out _ _ h1 (fun hHeld => ?_)
          clear hK K h1
          try simp only [Act.put, List.getElem_toArray, List.getElem_cons_succ, List.getElem_cons_zero, List.setIfInBounds_toArray, List.set_cons_zero, List.set_cons_succ]
          refine wpAnyH_take (i := 3) (v := .agg (sv s0)) rfl (by kernel_rfl) (by kernel_rfl) (by kernel_rfl) (fun _ _ _ h => h) (yields_build (by rfl) 50 _ rfl [(0, .agg (ev (sm 1))), (2, .agg (ev x)), (3, .agg (ev (sm 1)))] (by kernel_rfl) _ HBLT.out) hHeld ?_
          try simp only [Act.put, List.getElem_toArray, List.getElem_cons_succ, List.getElem_cons_zero, List.setIfInBounds_toArray, List.set_cons_zero, List.set_cons_succ]
          refine wpAnyH_ready (rs := [4]) (by kernel_rfl) (by simp) (AllReadyH.cons rfl (fun K hK => ?_) AllReadyH.nil)
          have h0 := hHeld
          clear hHeld
          try simp only [List.getElem_toArray, List.getElem_cons_succ, List.getElem_cons_zero]
          obtain ⟨kz, hg⟩ := Fn.fresh h0 50 #[.int .u64 0, .int .u64 0, .int .u64 0, .int .u64 0, .int .u64 0, .int .u64 0, .int .u64 0, .int .u64 0, .int .u64 0, .int .u64 0, .int .u64 0, .int .u64 0, .int .u64 0, .int .u64 0, .int .u64 0, .int .u64 0]
          have KZ := Lib.hid kz
          have HG := Lib.hid hg
          have H0 := Lib.hid h0
          clear kz hg h0
          go_simp
          refine hK.out _ _ (Fn.pass H0.out _) (fun hHeld => ?_)
          clear hK K H0
          try simp only [Act.put, List.getElem_toArray, List.getElem_cons_succ, List.getElem_cons_zero, List.setIfInBounds_toArray, List.set_cons_zero, List.set_cons_succ]
          refine wpAnyH_ready (rs := [5]) (by kernel_rfl) (by simp) (AllReadyH.cons rfl (fun K hK => ?_) AllReadyH.nil)
          have h0 := hHeld
          clear hHeld
          try simp only [List.getElem_toArray, List.getElem_cons_succ, List.getElem_cons_zero]
          rw [if_pos (by rfl)]
          refine wp_store_row 50 (.tmp 6) (.tmp 16) rfl _ (sv s0) rfl rfl 50 _ KZ.out (info_sv s0) (sv_size s0).symm (sv_one s0) ?_
          refine hK.out _ _ (Fn.setFresh h0 HG.out _) (fun hHeld => ?_)
          have kb := KZ.out.setRow_same (sv s0)
          clear hK K h0
          try simp only [Act.put, List.getElem_toArray, List.getElem_cons_succ, List.getElem_cons_zero, List.setIfInBounds_toArray, List.set_cons_zero, List.set_cons_succ]
          refine wpAnyH_done (by kernel_rfl) ?_ _
          have HB := Lib.hid hHeld.below
          clear hHeld
          go_wp2_with (fail)
          go_meet
          exact ⟨_, rfl, HG.out, kb, HB.out⟩
        · have h0 := hHeld
          clear hHeld
          try simp only [List.getElem_toArray, List.getElem_cons_succ, List.getElem_cons_zero]
          obtain ⟨kz, hg⟩ := Fn.fresh h0 50 #[.int .u64 0, .int .u64 0, .int .u64 0, .int .u64 0, .int .u64 0, .int .u64 0, .int .u64 0, .int .u64 0, .int .u64 0, .int .u64 0, .int .u64 0, .int .u64 0, .int .u64 0, .int .u64 0, .int .u64 0, .int .u64 0]
          have KZ := Lib.hid kz
          have HG := Lib.hid hg
          have H0 := Lib.hid h0
          clear kz hg h0
          go_simp
          refine hK.out _ _ (Fn.pass H0.out _) (fun hHeld => ?_)
          clear hK K H0
          try simp only [Act.put, List.getElem_toArray, List.getElem_cons_succ, List.getElem_cons_zero, List.setIfInBounds_toArray, List.set_cons_zero, List.set_cons_succ]
          refine wpAnyH_ready (rs := [2]) (by kernel_rfl) (by simp) (AllReadyH.cons rfl (fun K hK => ?_) AllReadyH.nil)
          have h0 := hHeld
          clear hHeld
          try simp only [List.getElem_toArray, List.getElem_cons_succ, List.getElem_cons_zero]
          have H0 := Lib.hid h0
          clear h0
          go_simp
          go_at_call 25
          refine (small_one _).mono ?_
          rintro e vv ⟨rfl, hb⟩
          have kz := KZ.out.below hb KZ.out.lt
          clear KZ
          have KZ := Lib.hid kz
          clear kz
          have h1 := H0.out.ext hb
          clear hb H0
          go_wp2_with (fail)
          refine hK.out _ _ h1 (fun hHeld => ?_)
          clear hK K h1
          try simp only [Act.put, List.getElem_toArray, List.getElem_cons_succ, List.getElem_cons_zero, List.setIfInBounds_toArray, List.set_cons_zero, List.set_cons_succ]
          refine wpAnyH_take (i := 3) (v := .agg (sv s0)) rfl (by kernel_rfl) (by kernel_rfl) (by kernel_rfl) (fun _ _ _ h => h) (yields_build (by rfl) 50 _ rfl [(0, .agg (ev (sm 1))), (2, .agg (ev x)), (3, .agg (ev (sm 1)))] (by kernel_rfl) _ HBLT.out) hHeld ?_
          try simp only [Act.put, List.getElem_toArray, List.getElem_cons_succ, List.getElem_cons_zero, List.setIfInBounds_toArray, List.set_cons_zero, List.set_cons_succ]
          refine wpAnyH_ready (rs := [5]) (by kernel_rfl) (by simp) (AllReadyH.cons rfl (fun K hK => ?_) AllReadyH.nil)
          have h0 := hHeld
          clear hHeld
          try simp only [List.getElem_toArray, List.getElem_cons_succ, List.getElem_cons_zero]
          rw [if_pos (by rfl)]
          refine wp_store_row 50 (.tmp 6) (.tmp 16) rfl _ (sv s0) rfl rfl 50 _ KZ.out (info_sv s0) (sv_size s0).symm (sv_one s0) ?_
          refine hK.out _ _ (Fn.setFresh h0 HG.out _) (fun hHeld => ?_)
          have kb := KZ.out.setRow_same (sv s0)
          clear hK K h0
          try simp only [Act.put, List.getElem_toArray, List.getElem_cons_succ, List.getElem_cons_zero, List.setIfInBounds_toArray, List.set_cons_zero, List.set_cons_succ]
          refine wpAnyH_done (by kernel_rfl) ?_ _
          have HB := Lib.hid hHeld.below
          clear hHeld
          go_wp2_with (fail)
          go_meet
          exact ⟨_, rfl, HG.out, kb, HB.out⟩
      · have h0 := hHeld
        clear hHeld
        try simp only [List.getElem_toArray, List.getElem_cons_succ, List.getElem_cons_zero]
        obtain ⟨kz, hg⟩ := Fn.fresh h0 50 #[.int .u64 0, .int .u64 0, .int .u64 0, .int .u64 0, .int .u64 0, .int .u64 0, .int .u64 0, .int .u64 0, .int .u64 0, .int .u64 0, .int .u64 0, .int .u64 0, .int .u64 0, .int .u64 0, .int .u64 0, .int .u64 0]
        have KZ := Lib.hid kz
        have HG := Lib.hid hg
        have H0 := Lib.hid h0
        clear kz hg h0
        go_simp
        refine hK.out _ _ (Fn.pass H0.out _) (fun hHeld => ?_)
        clear hK K H0
        try simp only [Act.put, List.getElem_toArray, List.getElem_cons_succ, List.getElem_cons_zero, List.setIfInBounds_toArray, List.set_cons_zero, List.set_cons_succ]
        refine wpAnyH_ready (rs := [0]) (by kernel_rfl) (by simp) (AllReadyH.cons rfl (fun K hK => ?_) AllReadyH.nil)
        have h0 := hHeld
        clear hHeld
        try simp only [List.getElem_toArray, List.getElem_cons_succ, List.getElem_cons_zero]
        have H0 := Lib.hid h0
        clear h0
        go_simp
        go_at_call 25
        refine (small_one _).mono ?_
        rintro e vv ⟨rfl, hb⟩
        have kz := KZ.out.below hb KZ.out.lt
        clear KZ
        have KZ := Lib.hid kz
        clear kz
        have h1 := H0.out.ext hb
        clear hb H0
        go_wp2_with (fail)
        refine hK.out _ _ h1 (fun hHeld => ?_)
        clear hK K h1
        try simp only [Act.put, List.getElem_toArray, List.getElem_cons_succ, List.getElem_cons_zero, List.setIfInBounds_toArray, List.set_cons_zero, List.set_cons_succ]
        refine wpAnyH_ready (rs := [2]) (by kernel_rfl) (by simp) (AllReadyH.cons rfl (fun K hK => ?_) AllReadyH.nil)
        have h0 := hHeld
        clear hHeld
        try simp only [List.getElem_toArray, List.getElem_cons_succ, List.getElem_cons_zero]
        have H0 := Lib.hid h0
        clear h0
        go_simp
        go_at_call 25
        refine (small_one _).mono ?_
        rintro e vv ⟨rfl, hb⟩
        have kz := KZ.out.below hb KZ.out.lt
        clear KZ
        have KZ := Lib.hid kz
        clear kz
        have h1 := H0.out.ext hb
        clear hb H0
        go_wp2_with (fail)
        refine hK.out _ _ h1 (fun hHeld => ?_)
        clear hK K h1
        try simp only [Act.put, List.getElem_toArray, List.getElem_cons_succ, List.getElem_cons_zero, List.setIfInBounds_toArray, List.set_cons_zero, List.set_cons_succ]
        refine wpAnyH_take (i := 3) (v := .agg (sv s0)) rfl (by kernel_rfl) (by kernel_rfl) (by kernel_rfl) (fun _ _ _ h => h) (yields_build (by rfl) 50 _ rfl [(0, .agg (ev (sm 1))), (2, .agg (ev x)), (3, .agg (ev (sm 1)))] (by kernel_rfl) _ HBLT.out) hHeld ?_
        try simp only [Act.put, List.getElem_toArray, List.getElem_cons_succ, List.getElem_cons_zero, List.setIfInBounds_toArray, List.set_cons_zero, List.set_cons_succ]
        refine wpAnyH_ready (rs := [5]) (by kernel_rfl) (by simp) (AllReadyH.cons rfl (fun K hK => ?_) AllReadyH.nil)
        have h0 := hHeld
        clear hHeld
        try simp only [List.getElem_toArray, List.getElem_cons_succ, List.getElem_cons_zero]
        rw [if_pos (by rfl)]
        refine wp_store_row 50 (.tmp 6) (.tmp 16) rfl _ (sv s0) rfl rfl 50 _ KZ.out (info_sv s0) (sv_size s0).symm (sv_one s0) ?_
        refine hK.out _ _ (Fn.setFresh h0 HG.out _) (fun hHeld => ?_)
        have kb := KZ.out.setRow_same (sv s0)
        clear hK K h0
        try simp only [Act.put, List.getElem_toArray, List.getElem_cons_succ, List.getElem_cons_zero, List.setIfInBounds_toArray, List.set_cons_zero, List.set_cons_succ]
        refine wpAnyH_done (by kernel_rfl) ?_ _
        have HB := Lib.hid hHeld.below
        clear hHeld
        go_wp2_with (fail)
        go_meet
        exact ⟨_, rfl, HG.out, kb, HB.out⟩
  case rest =>
    as_aux_lemma =>
      obtain ⟨g6, rfl, hg6, k6, hb⟩ := hcut
      have hf := ((HF2.out.ext hb).more k6).sub (L' := [(g6, 50, sv s0), (g5, 46, ev x), (w.heap.size, 23, ks K)]) (R' := [(w.heap.size + 1 + 1, 23, 32)]) (by simp) (by simp)
      rw [HS0.out] at hf
      have HF := Lib.hid hf
      clear hf hb k6 HF2 HBLT HS0
      have hg65 : g5 < g6 := by have := HSX.out; omega
      go_wp2_with (fail)
      go_loopw [17] (fun i wr => ∃ j : Nat, j ≤ 255 ∧ i = .int .i64 j ∧ Fr w wr [(g6, 50, sv (lgo Q0 x K j)), (g5, 46, ev x), (w.heap.size, 23, ks K)] [(w.heap.size + 1 + 1, 23, 32)]) (fun i _ => 255 - (intOf i).toNat)
      case atStart => exact ⟨0, by omega, rfl, HF.out⟩
      case round =>
        obtain ⟨j, hj, rfl, hF⟩ := hrel
        clear HF
        by_cases hlt : j < 255
        · obtain ⟨t, ht⟩ : ∃ t, t = bitB K (254 - j) := ⟨_, rfl⟩
          have hbit := fun W => lbit_any K (254 - j) W (by omega)
          rw [← ht, show ((254 - j : Nat) : Int) = 254 - (j : Int) by omega] at hbit
          have hstep := lgo_step x K j ht.symm
          obtain ⟨s1, hs1⟩ : ∃ s1, s1 = lgo Q0 x K j := ⟨_, rfl⟩
          rw [← hs1] at hF hstep
          obtain ⟨s2, hs2⟩ : ∃ s2, s2 = lsw t s1 := ⟨_, rfl⟩
          rw [← hs2] at hstep
          obtain ⟨s3, hs3⟩ : ∃ s3, s3 = lnx Q0 x s2 := ⟨_, rfl⟩
          rw [← hs3] at hstep
          obtain ⟨s4, hs4⟩ : ∃ s4, s4 = lsw t s3 := ⟨_, rfl⟩
          rw [← hs4] at hstep
          have hsw1 := fun W => swapped_any t s1 W
          rw [← hs2] at hsw1
          have hnx := fun W hp => next_any s2 x W hp
          rw [← hs3] at hnx
          have hsw2 := fun W => swapped_any t s3 W
          rw [← hs4] at hsw2
          have kk := hF.get (g := w.heap.size) (t := 23) (cs := ks K) (by simp)
          have HB := Lib.hid hbit
          have HST := Lib.hid hstep
          have HW1 := Lib.hid hsw1
          have HNX := Lib.hid hnx
          have HW2 := Lib.hid hsw2
          have HF := Lib.hid hF
          clear hbit hstep hsw1 hnx hsw2 hF hs1 hs2 hs3 hs4 ht
          have hdt : decide ((j : Int) < 255) = true := decide_eq_true (by omega)
          have hwr : IntKind.i64.wrap (254 - (j : Int)) = 254 - (j : Int) := by rw [IntKind.wrap_i64]; omega
          go_wp2_with (first | (refine wpList_load_row rfl 23 (.tmp 2) rfl (w.heap.size) rfl 23 (ks K) (0, 0) _ kk Tryd.underlying23 rfl (info_ks _) ?_))
          clear kk
          refine (HB.out _).mono ?_
          rintro e v3 ⟨rfl, hb⟩
          have hf := HF.out.ext hb
          have kz := hf.get (g := g6) (t := 50) (cs := sv s1) (by simp)
          have hf2 := hf.sub (L' := [(g5, 46, ev x), (w.heap.size, 23, ks K)]) (R' := [(w.heap.size + 1 + 1, 23, 32)]) (by simp) (by simp)
          have HF3 := Lib.hid hf2
          have KZ := Lib.hid kz.drew
          clear hb hf kz hf2 HF
          go_wp2_with (fail)
          refine wp_region_held_drew (S := fun W => Fr w W [(g5, 46, ev x), (w.heap.size, 23, ks K)] [(w.heap.size + 1 + 1, 23, 32)]) (by kernel_rfl) ?_ (fun hHeld => ?_)
          · exact HF3.out.drew
          refine wpAnyH_take (i := 1) (v := ?_) rfl (by kernel_rfl) (by kernel_rfl) (by kernel_rfl) (fun _ _ _ h => h) (Or.inl ⟨by rfl, ?_⟩) hHeld ?_
          rotate_left
          · (intro W hSw; (try dsimp only at hSw); (try simp only [List.getElem_toArray, List.getElem_cons_succ, List.getElem_cons_zero]); go_simp; try with_reducible rfl)
          try simp only [Act.put, List.getElem_toArray, List.getElem_cons_succ, List.getElem_cons_zero, List.setIfInBounds_toArray, List.set_cons_zero, List.set_cons_succ]
          refine wpAnyH_take (i := 5) (v := ?_) rfl (by kernel_rfl) (by kernel_rfl) (by kernel_rfl) (fun _ _ _ h => h) (Or.inl ⟨by rfl, ?_⟩) hHeld ?_
          rotate_left
          · (intro W hSw; (try dsimp only at hSw); (try simp only [List.getElem_toArray, List.getElem_cons_succ, List.getElem_cons_zero]); go_simp; try with_reducible rfl)
          try simp only [Act.put, List.getElem_toArray, List.getElem_cons_succ, List.getElem_cons_zero, List.setIfInBounds_toArray, List.set_cons_zero, List.set_cons_succ]
          refine wpAnyH_take (i := 3) (v := .agg (ev x)) rfl (by kernel_rfl) (by kernel_rfl) (by kernel_rfl) (fun _ _ _ h => h) (yields_row (by rfl) 46 (.tmp 5) rfl (g5) rfl 46 (ev x) _ (fun W (h : Fr _ W _ _) => h.get (by simp)) Tryd.underlying46 rfl (info_ev _)) hHeld ?_
          try simp only [Act.put, List.getElem_toArray, List.getElem_cons_succ, List.getElem_cons_zero, List.setIfInBounds_toArray, List.set_cons_zero, List.set_cons_succ]
          refine wpAnyH_ready (rs := [0]) (by kernel_rfl) (by simp) (AllReadyH.cons rfl (fun K hK => ?_) AllReadyH.nil)
          have h0 := hHeld
          clear hHeld
          try simp only [List.getElem_toArray, List.getElem_cons_succ, List.getElem_cons_zero]
          rw [if_pos (by rfl)]
          refine wp_load_row 50 (.tmp 6) rfl (g6) rfl 50 (sv s1) (0, 0) _ KZ.out Tryd.underlying50 rfl (info_sv _) ?_
          refine hK.out _ _ h0 (fun hHeld => ?_)
          clear hK K h0
          try simp only [Act.put, List.getElem_toArray, List.getElem_cons_succ, List.getElem_cons_zero, List.setIfInBounds_toArray, List.set_cons_zero, List.set_cons_succ]
          refine wpAnyH_ready (rs := [2]) (by kernel_rfl) (by simp) (AllReadyH.cons rfl (fun K hK => ?_) AllReadyH.nil)
          have h0 := hHeld
          clear hHeld
          try simp only [List.getElem_toArray, List.getElem_cons_succ, List.getElem_cons_zero]
          have H0 := Lib.hid h0
          clear h0
          go_simp
          go_at_call 27
          refine (HW1.out _).mono ?_
          rintro e vv ⟨rfl, hb⟩
          have kz := KZ.out.below hb KZ.out.lt
          clear KZ
          have KZ := Lib.hid kz
          clear kz
          have h1 := H0.out.ext hb
          clear hb H0
          go_wp2_with (fail)
          refine hK.out _ _ h1 (fun hHeld => ?_)
          clear hK K h1
          try simp only [Act.put, List.getElem_toArray, List.getElem_cons_succ, List.getElem_cons_zero, List.setIfInBounds_toArray, List.set_cons_zero, List.set_cons_succ]
          refine wpAnyH_ready (rs := [4]) (by kernel_rfl) (by simp) (AllReadyH.cons rfl (fun K hK => ?_) AllReadyH.nil)
          have h0 := hHeld
          clear hHeld
          try simp only [List.getElem_toArray, List.getElem_cons_succ, List.getElem_cons_zero]
          have H0 := Lib.hid h0
          clear h0
          go_simp
          go_at_call 28
          refine (HNX.out _ (Fr.pg H0.out HP.out)).mono ?_
          rintro e vv ⟨rfl, hb⟩
          have kz := KZ.out.below hb KZ.out.lt
          clear KZ
          have KZ := Lib.hid kz
          clear kz
          have h1 := H0.out.ext hb
          clear hb H0
          go_wp2_with (fail)
          refine hK.out _ _ h1 (fun hHeld => ?_)
          clear hK K h1
          try simp only [Act.put, List.getElem_toArray, List.getElem_cons_succ, List.getElem_cons_zero, List.setIfInBounds_toArray, List.set_cons_zero, List.set_cons_succ]
          refine wpAnyH_ready (rs := [6]) (by kernel_rfl) (by simp) (AllReadyH.cons rfl (fun K hK => ?_) AllReadyH.nil)
          have h0 := hHeld
          clear hHeld
          try simp only [List.getElem_toArray, List.getElem_cons_succ, List.getElem_cons_zero]
          have H0 := Lib.hid h0
          clear h0
          go_simp
          go_at_call 27
          refine (HW2.out _).mono ?_
          rintro e vv ⟨rfl, hb⟩
          have kz := KZ.out.below hb KZ.out.lt
          clear KZ
          have KZ := Lib.hid kz
          clear kz
          have h1 := H0.out.ext hb
          clear hb H0
          go_wp2_with (fail)
          refine hK.out _ _ h1 (fun hHeld => ?_)
          clear hK K h1
          try simp only [Act.put, List.getElem_toArray, List.getElem_cons_succ, List.getElem_cons_zero, List.setIfInBounds_toArray, List.set_cons_zero, List.set_cons_succ]
          refine wpAnyH_ready (rs := [7]) (by kernel_rfl) (by simp) (AllReadyH.cons rfl (fun K hK => ?_) AllReadyH.nil)
          have h0 := hHeld
          clear hHeld
          try simp only [List.getElem_toArray, List.getElem_cons_succ, List.getElem_cons_zero]
          rw [if_pos (by rfl)]
          refine wp_store_row 50 (.tmp 6) (.tmp 30) rfl (g6) (sv s4) rfl rfl 50 _ KZ.out (info_sv _) (by rw [sv_size, sv_size]) (sv_one _) ?_
          refine hK.out _ _ (Fr.setOut h0 (g := g6) (by omega) (by simp <;> omega) (by simp <;> omega) _) (fun hHeld => ?_)
          have kb := KZ.out.setRow_same (sv s4)
          clear hK K h0
          try simp only [Act.put, List.getElem_toArray, List.getElem_cons_succ, List.getElem_cons_zero, List.setIfInBounds_toArray, List.set_cons_zero, List.set_cons_succ]
          refine wpAnyH_done (by kernel_rfl) ?_ _
          have hff := hHeld.more kb
          have HFF := Lib.hid hff
          clear hHeld hff kb
          go_wp2_with (fail)
          go_roundw
          case rel => exact ⟨j + 1, by omega, by go_num, by rw [← HST.out]; exact HFF.out⟩
          case measure => simp [intOf] <;> omega
        · obtain rfl : j = 255 := by omega
          simp only [show ((255 : Nat) : Int) = 255 from rfl]
          obtain ⟨sf, hsf⟩ : ∃ sf, sf = lgo Q0 x K 255 := ⟨_, rfl⟩
          rw [← hsf] at hF
          obtain ⟨ib, hib⟩ : ∃ ib, ib = sf.b ^ (PP - 2) := ⟨_, rfl⟩
          have hy : y = sf.a * ib := by rw [HY0.out, lad_eq hsf, hib]
          have HIB := Lib.hid hib
          have HY := Lib.hid hy
          have HF := Lib.hid hF
          clear hsf hib hy hF HY0
          obtain ⟨m, hm⟩ : ∃ m, m = y.val := ⟨_, rfl⟩
          have hby := fun W => bytesF y W
          rw [← hm] at hby
          have HBY := Lib.hid hby
          have HM := Lib.hid hm
          clear hby hm
          have hdf : decide ((255 : Int) < 255) = false := by decide
          go_wp2_with (fail)
          refine wp_region_held_drew (S := fun W => Fr w W [(g6, 50, sv sf), (g5, 46, ev x), (w.heap.size, 23, ks K)] [(w.heap.size + 1 + 1, 23, 32)]) (by kernel_rfl) ?_ (fun hHeld => ?_)
          · exact HF.out.drew
          refine wpAnyH_take (i := 0) (v := ?_) rfl (by kernel_rfl) (by kernel_rfl) (by kernel_rfl) (fun _ _ _ h => h) (Or.inl ⟨by rfl, ?_⟩) hHeld ?_
          rotate_left
          · (intro W hSw; (try dsimp only at hSw); (try simp only [List.getElem_toArray, List.getElem_cons_succ, List.getElem_cons_zero]); go_simp; try with_reducible rfl)
          try simp only [Act.put, List.getElem_toArray, List.getElem_cons_succ, List.getElem_cons_zero, List.setIfInBounds_toArray, List.set_cons_zero, List.set_cons_succ]
          refine wpAnyH_take (i := 1) (v := .agg (ev sf.a)) rfl (by kernel_rfl) (by kernel_rfl) (by kernel_rfl) (fun _ _ _ h => h) (yields_ev (by rfl) (.tmp 32) rfl g6 0 0 rfl (by omega) rfl 50 sf sf.a rfl (fun W (h : Fr _ W _ _) => h.get (by simp))) hHeld ?_
          try simp only [Act.put, List.getElem_toArray, List.getElem_cons_succ, List.getElem_cons_zero, List.setIfInBounds_toArray, List.set_cons_zero, List.set_cons_succ]
          refine wpAnyH_take (i := 2) (v := ?_) rfl (by kernel_rfl) (by kernel_rfl) (by kernel_rfl) (fun _ _ _ h => h) (Or.inl ⟨by rfl, ?_⟩) hHeld ?_
          rotate_left
          · (intro W hSw; (try dsimp only at hSw); (try simp only [List.getElem_toArray, List.getElem_cons_succ, List.getElem_cons_zero]); go_simp; try with_reducible rfl)
          try simp only [Act.put, List.getElem_toArray, List.getElem_cons_succ, List.getElem_cons_zero, List.setIfInBounds_toArray, List.set_cons_zero, List.set_cons_succ]
          refine wpAnyH_take (i := 3) (v := .agg (ev sf.b)) rfl (by kernel_rfl) (by kernel_rfl) (by kernel_rfl) (fun _ _ _ h => h) (yields_ev (by rfl) (.tmp 34) rfl g6 1 4 rfl (by omega) rfl 50 sf sf.b rfl (fun W (h : Fr _ W _ _) => h.get (by simp))) hHeld ?_
          try simp only [Act.put, List.getElem_toArray, List.getElem_cons_succ, List.getElem_cons_zero, List.setIfInBounds_toArray, List.set_cons_zero, List.set_cons_succ]
          refine wpAnyH_ready (rs := [4]) (by kernel_rfl) (by simp) (AllReadyH.cons rfl (fun K hK => ?_) AllReadyH.nil)
          have h0 := hHeld
          clear hHeld
          try simp only [List.getElem_toArray, List.getElem_cons_succ, List.getElem_cons_zero]
          have H0 := Lib.hid h0
          clear h0
          go_simp
          go_at_call 30
          refine (invL HIB.out _ (Fr.pg H0.out HP.out)).mono ?_
          rintro e vv ⟨rfl, hb⟩
          have h1 := H0.out.ext hb
          clear hb H0
          go_wp2_with (fail)
          refine hK.out _ _ h1 (fun hHeld => ?_)
          clear hK K h1
          try simp only [Act.put, List.getElem_toArray, List.getElem_cons_succ, List.getElem_cons_zero, List.setIfInBounds_toArray, List.set_cons_zero, List.set_cons_succ]
          refine wpAnyH_ready (rs := [5]) (by kernel_rfl) (by simp) (AllReadyH.cons rfl (fun K hK => ?_) AllReadyH.nil)
          have h0 := hHeld
          clear hHeld
          try simp only [List.getElem_toArray, List.getElem_cons_succ, List.getElem_cons_zero]
          have H0 := Lib.hid h0
          clear h0
          go_simp
          go_at_call 29
          refine (mulR HY.out _ (Fr.pg H0.out HP.out)).mono ?_
          rintro e vv ⟨rfl, hb⟩
          have h1 := H0.out.ext hb
          clear hb H0
          go_wp2_with (fail)
          refine hK.out _ _ h1 (fun hHeld => ?_)
          clear hK K h1
          try simp only [Act.put, List.getElem_toArray, List.getElem_cons_succ, List.getElem_cons_zero, List.setIfInBounds_toArray, List.set_cons_zero, List.set_cons_succ]
          refine wpAnyH_ready (rs := [6]) (by kernel_rfl) (by simp) (AllReadyH.cons rfl (fun K hK => ?_) AllReadyH.nil)
          have h0 := hHeld
          clear hHeld
          try simp only [List.getElem_toArray, List.getElem_cons_succ, List.getElem_cons_zero]
          have H0 := Lib.hid h0
          clear h0
          go_simp
          go_at_call 31
          refine (HBY.out _).mono ?_
          rintro e vv ⟨rfl, hb⟩
          have h1 := H0.out.ext hb
          clear hb H0
          go_wp2_with (fail)
          refine hK.out _ _ h1 (fun hHeld => ?_)
          clear hK K h1
          try simp only [Act.put, List.getElem_toArray, List.getElem_cons_succ, List.getElem_cons_zero, List.setIfInBounds_toArray, List.set_cons_zero, List.set_cons_succ]
          refine wpAnyH_ready (rs := [7]) (by kernel_rfl) (by simp) (AllReadyH.cons rfl (fun K hK => ?_) AllReadyH.nil)
          have h0 := hHeld
          clear hHeld
          try simp only [List.getElem_toArray, List.getElem_cons_succ, List.getElem_cons_zero]
          rw [if_pos (by rfl)]
          obtain ⟨old, hold, kold⟩ := Fr.old h0 (g := w.heap.size + 1 + 1) (t := 23) (n := 32) (by simp)
          refine wp_store_row 23 (.tmp 4) (.tmp 38) rfl (w.heap.size + 1 + 1) (ks m) rfl rfl 23 old kold (info_ks _) hold (ks_one _) ?_
          refine hK.out _ _ (Fr.setAny h0 (g := w.heap.size + 1 + 1) (t := 23) (ks_size _) (by simp) (by simp <;> omega)) (fun hHeld => ?_)
          have kb := kold.setRow_same (ks m)
          clear hK K h0 hold
          try simp only [Act.put, List.getElem_toArray, List.getElem_cons_succ, List.getElem_cons_zero, List.setIfInBounds_toArray, List.set_cons_zero, List.set_cons_succ]
          refine wpAnyH_done (by kernel_rfl) ?_ _
          have HK := Lib.hid kb
          have HBL := Lib.hid hHeld.below
          clear kb hHeld
          go_wp2_with (fail)
          rw [← HM.out]
          exact key_end (g := w.heap.size + 1 + 1) rfl rfl rfl HK.out HBL.out
end Go.Proofs.YthlnnoajklmeiaaDoor
