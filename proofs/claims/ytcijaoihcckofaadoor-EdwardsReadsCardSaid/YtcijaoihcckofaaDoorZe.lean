/- Words, contracts and walks (Rro, Rv, Rw, Rx, Sl, Sr, La), laid together. No condition. -/
import Derived.Test.YtcijaoihcckofaaDoorZd
namespace Go.Proofs.YtcijaoihcckofaaDoor
set_option linter.unusedVariables false
set_option linter.unusedSimpArgs false
set_option maxRecDepth 100000
open Go Go.RowKit
theorem dg_inj {n m : Nat} (hn : n < 115792089237316195423570985008687907853269984665640564039457584007913129639936) (hm : m < 115792089237316195423570985008687907853269984665640564039457584007913129639936) (h : dg n = dg m) : n = m := by
  have e1 := dval_dgl n 16
  have e2 := dval_dgl m 16
  have h2 : dgl n 16 = dgl m 16 := h
  rw [h2, e2, d16] at e1
  omega
theorem size_u64w (W : World) : (sizeOf 24).run Tryd.prog W = .ok 1 W := by kernel_rfl
/-- '==' of two numbers. -/
theorem nums_eq {x y : Fin PP} {b : Bool} (h : decide (x = y) = b) (W : World) : (Op.equalIn 10000 33 (.agg (dv x)) (.agg (dv y))).run Tryd.prog W = .ok b W := by
  have h2 := run_equalIn_nats (P := Tryd.prog) W 9998 33 24 16 .u64 Tryd.underlying33 Tryd.underlying24 size_u64w (dg x.val) (dg y.val) (dg_len _) (dg_len _)
  have e : (dg x.val == dg y.val) = b := by
    rw [← h, Bool.eq_iff_iff]
    simp
    exact ⟨fun h => Fin.ext (dg_inj lim lim h), fun h => by rw [h]⟩
  rw [e] at h2
  exact h2
theorem dv_z : dv 0 = #[.int .u64 0, .int .u64 0, .int .u64 0, .int .u64 0, .int .u64 0, .int .u64 0, .int .u64 0, .int .u64 0, .int .u64 0, .int .u64 0, .int .u64 0, .int .u64 0, .int .u64 0, .int .u64 0, .int .u64 0, .int .u64 0] := by rw [dv_zero, ds_zero]
theorem dv_zsize (x : Fin PP) : (#[.int .u64 0, .int .u64 0, .int .u64 0, .int .u64 0, .int .u64 0, .int .u64 0, .int .u64 0, .int .u64 0, .int .u64 0, .int .u64 0, .int .u64 0, .int .u64 0, .int .u64 0, .int .u64 0, .int .u64 0, .int .u64 0] : Array Value).size = (dv x).size := by rw [dv_size]; rfl
theorem dv_at0 (x : Fin PP) : (dv x)[0]? = some (.int .u64 ((x.val % 65536 : Nat) : Int)) := by
  unfold dv ds
  rw [ncs_get]
  simp [dg]
  rfl
theorem dv_ss (x y : Fin PP) : (dv x).size = (dv y).size := by rw [dv_size, dv_size]
theorem minor_half : (PP - 1) / 2 ^ 1 = 4 * EE + 2 := by decide +kernel
theorem minor_e : (PP - 5) / 2 ^ 3 = EE := by decide +kernel
theorem minor_q : (PP - 1) / 2 ^ 2 = 2 * EE + 1 := by decide +kernel
theorem half_lt : 4 * EE + 2 < 115792089237316195423570985008687907853269984665640564039457584007913129639936 := by decide +kernel
theorem quarter_lt : 2 * EE + 1 < 115792089237316195423570985008687907853269984665640564039457584007913129639936 := by decide +kernel
section
variable {p : Nat} [NeZero p] {e : Nat} {i u v : Fin p}
theorem rootR_0 (h : v = 0) : rootR e i u v = (0, decide (u = 0)) := by unfold rootR; rw [if_pos h]
theorem rootR_q {q : Fin p} (h : ¬ v = 0) (hq : q = u * v ^ (p - 2)) (h0 : q = 0) : rootR e i u v = (q, true) := by
  unfold rootR
  rw [if_neg h]
  dsimp only
  rw [← hq, if_pos h0]
theorem rootR_n {q : Fin p} (h : ¬ v = 0) (hq : q = u * v ^ (p - 2)) (h0 : ¬ q = 0) (h1 : ¬ q ^ (4 * e + 2) = 1) : rootR e i u v = (0, false) := by
  unfold rootR
  rw [if_neg h]
  dsimp only
  rw [← hq, if_neg h0, if_neg h1]
theorem rootR_y {q x y : Fin p} (h : ¬ v = 0) (hq : q = u * v ^ (p - 2)) (h0 : ¬ q = 0) (h1 : q ^ (4 * e + 2) = 1) (hx : x = q * q ^ e) (hy : y = if x * x = q then x else x * i) : rootR e i u v = (evenOf y, true) := by
  unfold rootR
  rw [if_neg h]
  dsimp only
  rw [← hq, if_neg h0, if_pos h1, ← hx, ← hy]
end
attribute [local irreducible] dv ds EE II rootR evenOf
set_option maxRecDepth 100000 in
set_option maxHeartbeats 16000000 in
theorem rrootD {u v r : Fin PP} {b : Bool} (h : (r, b) = rootR EE II u v) (w : World) : Calls Tryd.prog 83 #[.agg (dv u), .agg (dv v)] w fun e w' => e = .returned (.tuple #[.agg (dv r), .bool b]) ∧ Below w.heap.size w w' := by
  have f0 := (((Fr.start w).row (dv u) 33 (g := w.heap.size) rfl).row (dv v) 33 (g := w.heap.size + 1) (by simp)).any #[.int .u64 0, .int .u64 0, .int .u64 0, .int .u64 0, .int .u64 0, .int .u64 0, .int .u64 0, .int .u64 0, .int .u64 0, .int .u64 0, .int .u64 0, .int .u64 0, .int .u64 0, .int .u64 0, .int .u64 0, .int .u64 0] 33 16 rfl (g := w.heap.size + 1 + 1) (by simp)
  have k0 := f0.get (g := w.heap.size) (t := 33) (cs := dv u) (by simp)
  have k1 := f0.get (g := w.heap.size + 1) (t := 33) (cs := dv v) (by simp)
  have F0 := Lib.hid f0
  have he0 := fun W => nums_eq (x := v) (y := 0) rfl W
  rw [dv_z] at he0
  clear f0
  go_enter Tryd.func83, Tryd.ntmps83
  rcases Classical.em (v = 0) with hv | hv
  · rw [decide_eq_true hv] at he0
    rw [rootR_0 hv] at h
    injection h with hr hb
    have he1 := fun W => nums_eq (x := u) (y := 0) hb.symm W
    rw [dv_z] at he1
    have HRR := Lib.hid hr
    clear hv hr hb
    go_wp2_with (first | (refine wpList_load_row rfl 33 (.tmp 3) rfl (w.heap.size + 1) rfl 33 (dv v) (0, 0) _ k1 Tryd.underlying33 rfl (info_dv _) ?_))
    refine wp_region_held_drew (S := fun W => Fr w W [(w.heap.size + 1, 33, dv v), (w.heap.size, 33, dv u)] [(w.heap.size + 1 + 1, 33, 16)]) (by kernel_rfl) ?_ (fun hHeld => ?_)
    · exact F0.out.drew
    refine wpAnyH_take (i := 0) (v := ?_) rfl (by kernel_rfl) (by kernel_rfl) (by kernel_rfl) (fun _ _ _ h => h) (Or.inl ⟨by rfl, ?_⟩) hHeld ?_
    rotate_left
    · (intro W hSw; (try dsimp only at hSw); (try simp only [List.getElem_toArray, List.getElem_cons_succ, List.getElem_cons_zero]); go_simp; try with_reducible rfl)
    try simp only [Act.put, List.getElem_toArray, List.getElem_cons_succ, List.getElem_cons_zero, List.setIfInBounds_toArray, List.set_cons_zero, List.set_cons_succ]
    refine wpAnyH_take (i := 1) (v := .agg (dv u)) rfl (by kernel_rfl) (by kernel_rfl) (by kernel_rfl) (fun _ _ _ h => h) (yields_row (by rfl) 33 (.tmp 2) rfl (w.heap.size) rfl 33 (dv u) _ (fun W (h : Fr _ W _ _) => h.get (by simp)) Tryd.underlying33 rfl (info_dv _)) hHeld ?_
    try simp only [Act.put, List.getElem_toArray, List.getElem_cons_succ, List.getElem_cons_zero, List.setIfInBounds_toArray, List.set_cons_zero, List.set_cons_succ]
    refine wpAnyH_take (i := 2) (v := ?_) rfl (by kernel_rfl) (by kernel_rfl) (by kernel_rfl) (fun _ _ _ h => h) (Or.inl ⟨by rfl, ?_⟩) hHeld ?_
    rotate_left
    · (intro W hSw; (try dsimp only at hSw); (try simp only [List.getElem_toArray, List.getElem_cons_succ, List.getElem_cons_zero]); go_simp; try with_reducible rfl)
    try simp only [Act.put, List.getElem_toArray, List.getElem_cons_succ, List.getElem_cons_zero, List.setIfInBounds_toArray, List.set_cons_zero, List.set_cons_succ]
    refine wpAnyH_take (i := 3) (v := ?_) rfl (by kernel_rfl) (by kernel_rfl) (by kernel_rfl) (fun _ _ _ h => h) (Or.inl ⟨by rfl, ?_⟩) hHeld ?_
    rotate_left
    · (intro W hSw; (try dsimp only at hSw); (try simp only [List.getElem_toArray, List.getElem_cons_succ, List.getElem_cons_zero]); go_simp; try with_reducible rfl)
    try simp only [Act.put, List.getElem_toArray, List.getElem_cons_succ, List.getElem_cons_zero, List.setIfInBounds_toArray, List.set_cons_zero, List.set_cons_succ]
    refine wpAnyH_ready (rs := [4]) (by kernel_rfl) (by simp) (AllReadyH.cons rfl (fun K hK => ?_) AllReadyH.nil)
    have h0 := hHeld
    clear hHeld
    try simp only [List.getElem_toArray, List.getElem_cons_succ, List.getElem_cons_zero]
    rw [if_pos (by rfl)]
    obtain ⟨old, hold, kold⟩ := Fr.old h0 (g := w.heap.size + 1 + 1) (t := 33) (n := 16) (by simp)
    refine wp_store_row 33 (.tmp 4) (.tmp 12) rfl (w.heap.size + 1 + 1) (#[.int .u64 0, .int .u64 0, .int .u64 0, .int .u64 0, .int .u64 0, .int .u64 0, .int .u64 0, .int .u64 0, .int .u64 0, .int .u64 0, .int .u64 0, .int .u64 0, .int .u64 0, .int .u64 0, .int .u64 0, .int .u64 0]) rfl rfl 33 old kold (by rw [← dv_z]; exact info_dv 0) hold (by rw [← dv_z]; exact dv_one 0) ?_
    refine hK.out _ _ (Fr.setAny h0 (g := w.heap.size + 1 + 1) (t := 33) (rfl) (by simp) (by simp <;> omega)) (fun hHeld => ?_)
    have kb := kold.setRow_same (#[.int .u64 0, .int .u64 0, .int .u64 0, .int .u64 0, .int .u64 0, .int .u64 0, .int .u64 0, .int .u64 0, .int .u64 0, .int .u64 0, .int .u64 0, .int .u64 0, .int .u64 0, .int .u64 0, .int .u64 0, .int .u64 0])
    clear hK K h0 hold
    try simp only [Act.put, List.getElem_toArray, List.getElem_cons_succ, List.getElem_cons_zero, List.setIfInBounds_toArray, List.set_cons_zero, List.set_cons_succ]
    refine wpAnyH_take (i := 5) (v := ?_) rfl (by kernel_rfl) (by kernel_rfl) (by kernel_rfl) (fun _ _ _ h => h) (Or.inl ⟨by rfl, ?_⟩) hHeld ?_
    rotate_left
    · (intro W hSw; (try dsimp only at hSw); (try simp only [List.getElem_toArray, List.getElem_cons_succ, List.getElem_cons_zero]); go_simp; try with_reducible rfl)
    try simp only [Act.put, List.getElem_toArray, List.getElem_cons_succ, List.getElem_cons_zero, List.setIfInBounds_toArray, List.set_cons_zero, List.set_cons_succ]
    have KB := Lib.hid kb
    have HB := Lib.hid hHeld.below
    clear hHeld kb kold
    refine wpAnyH_done (by kernel_rfl) ?_ _
    go_wp2_with (fail)
    exact bodyPost_ret (results_row_tmp rfl rfl rfl KB.out Tryd.underlying33 rfl (by rw [← dv_z]; exact info_dv 0)) rfl ⟨by rw [HRR.out, dv_z]; rfl, HB.out⟩
  · rw [decide_eq_false hv] at he0
    have HV := Lib.hid hv
    have HR := Lib.hid h
    clear hv h
    go_wp2_with (first | (refine wpList_load_row rfl 33 (.tmp 3) rfl (w.heap.size + 1) rfl 33 (dv v) (0, 0) _ k1 Tryd.underlying33 rfl (info_dv _) ?_))
    obtain ⟨iv, hiv⟩ : ∃ x, x = v ^ (PP - 2) := ⟨_, rfl⟩
    obtain ⟨q, hq⟩ : ∃ x, x = u * iv := ⟨_, rfl⟩
    have HIV := Lib.hid hiv
    have HQ := Lib.hid hq
    clear hiv hq he0
    obtain ⟨wx, hwx⟩ : ∃ wx : World, wx = (((w.alloc (.cells (dv u) 33)).alloc (.cells (dv v) 33)).alloc (.cells #[.int .u64 0, .int .u64 0, .int .u64 0, .int .u64 0, .int .u64 0, .int .u64 0, .int .u64 0, .int .u64 0, .int .u64 0, .int .u64 0, .int .u64 0, .int .u64 0, .int .u64 0, .int .u64 0, .int .u64 0, .int .u64 0] 33)) := ⟨_, rfl⟩
    rw [← hwx] at F0 k0 k1 ⊢
    have hsx : w.heap.size + 1 + 1 < wx.heap.size := by rw [hwx]; simp
    clear hwx
    go_cut [6] (fun s6 wz => ∃ g : Nat, s6 = .pointer (some ⟨g, 0, none⟩) ∧ wx.heap.size ≤ g ∧ Blk wz g 33 (dv q) ∧ Below wx.heap.size wx wz)
    case first =>
      as_aux_lemma =>
        have hn := (F0.out.now.sub (L' := [(w.heap.size + 1, 33, dv v), (w.heap.size, 33, dv u)]) (by simp))
        have HN := Lib.hid hn
        clear hn
        refine wp_region_held_drew (S := fun W => Fn wx W [(w.heap.size + 1, 33, dv v), (w.heap.size, 33, dv u)]) (by kernel_rfl) ?_ (fun hHeld => ?_)
        · exact HN.out.drew
        refine wpAnyH_take (i := 0) (v := .agg (dv u)) rfl (by kernel_rfl) (by kernel_rfl) (by kernel_rfl) (fun _ _ _ h => h) (yields_row (by rfl) 33 (.tmp 2) rfl (w.heap.size) rfl 33 (dv u) _ (fun W (h : Fn _ W _) => h.get (by simp)) Tryd.underlying33 rfl (info_dv _)) hHeld ?_
        try simp only [Act.put, List.getElem_toArray, List.getElem_cons_succ, List.getElem_cons_zero, List.setIfInBounds_toArray, List.set_cons_zero, List.set_cons_succ]
        refine wpAnyH_take (i := 1) (v := .agg (dv v)) rfl (by kernel_rfl) (by kernel_rfl) (by kernel_rfl) (fun _ _ _ h => h) (yields_row (by rfl) 33 (.tmp 3) rfl (w.heap.size + 1) rfl 33 (dv v) _ (fun W (h : Fn _ W _) => h.get (by simp)) Tryd.underlying33 rfl (info_dv _)) hHeld ?_
        try simp only [Act.put, List.getElem_toArray, List.getElem_cons_succ, List.getElem_cons_zero, List.setIfInBounds_toArray, List.set_cons_zero, List.set_cons_succ]
        refine wpAnyH_ready (rs := [2, 4]) (by kernel_rfl) (by simp) (AllReadyH.cons rfl (fun K hK => ?_) (AllReadyH.cons rfl (fun K hK => ?_) AllReadyH.nil))
        · have h0 := hHeld
          clear hHeld
          try simp only [List.getElem_toArray, List.getElem_cons_succ, List.getElem_cons_zero]
          have H0 := Lib.hid h0
          clear h0
          go_simp
          go_at_call 51
          refine (invD HIV.out _).mono ?_
          rintro e vv ⟨rfl, hb⟩
          have h1 := H0.out.ext hb
          clear hb H0
          go_wp2_with (fail)
          refine hK.out _ _ h1 (fun hHeld => ?_)
          clear hK K h1
          try simp only [Act.put, List.getElem_toArray, List.getElem_cons_succ, List.getElem_cons_zero, List.setIfInBounds_toArray, List.set_cons_zero, List.set_cons_succ]
          refine wpAnyH_ready (rs := [3, 4]) (by kernel_rfl) (by simp) (AllReadyH.cons rfl (fun K hK => ?_) (AllReadyH.cons rfl (fun K hK => ?_) AllReadyH.nil))
          · have h0 := hHeld
            clear hHeld
            try simp only [List.getElem_toArray, List.getElem_cons_succ, List.getElem_cons_zero]
            have H0 := Lib.hid h0
            clear h0
            go_simp
            go_at_call 49
            refine (mulD HQ.out _).mono ?_
            rintro e vv ⟨rfl, hb⟩
            have h1 := H0.out.ext hb
            clear hb H0
            go_wp2_with (fail)
            refine hK.out _ _ h1 (fun hHeld => ?_)
            clear hK K h1
            try simp only [Act.put, List.getElem_toArray, List.getElem_cons_succ, List.getElem_cons_zero, List.setIfInBounds_toArray, List.set_cons_zero, List.set_cons_succ]
            refine wpAnyH_ready (rs := [4]) (by kernel_rfl) (by simp) (AllReadyH.cons rfl (fun K hK => ?_) AllReadyH.nil)
            have h0 := hHeld
            clear hHeld
            try simp only [List.getElem_toArray, List.getElem_cons_succ, List.getElem_cons_zero]
            obtain ⟨kz, hg⟩ := Fn.fresh h0 33 #[.int .u64 0, .int .u64 0, .int .u64 0, .int .u64 0, .int .u64 0, .int .u64 0, .int .u64 0, .int .u64 0, .int .u64 0, .int .u64 0, .int .u64 0, .int .u64 0, .int .u64 0, .int .u64 0, .int .u64 0, .int .u64 0]
            have KZ := Lib.hid kz
            have HG := Lib.hid hg
            have H0 := Lib.hid h0
            clear kz hg h0
            go_simp
            refine hK.out _ _ (Fn.pass H0.out _) (fun hHeld => ?_)
            clear hK K H0
            try simp only [Act.put, List.getElem_toArray, List.getElem_cons_succ, List.getElem_cons_zero, List.setIfInBounds_toArray, List.set_cons_zero, List.set_cons_succ]
            refine wpAnyH_ready (rs := [5]) (by kernel_rfl) (by simp) (AllReadyH.cons rfl (fun K hK => ?_) AllReadyH.nil)
            have h0 := hHeld
            clear hHeld
            try simp only [List.getElem_toArray, List.getElem_cons_succ, List.getElem_cons_zero]
            rw [if_pos (by rfl)]
            refine wp_store_row 33 (.tmp 6) (.tmp 19) rfl _ (dv q) rfl rfl 33 _ KZ.out (info_dv _) (dv_zsize _) (dv_one _) ?_
            refine hK.out _ _ (Fn.setFresh h0 HG.out _) (fun hHeld => ?_)
            have kb := KZ.out.setRow_same (dv q)
            clear hK K h0
            try simp only [Act.put, List.getElem_toArray, List.getElem_cons_succ, List.getElem_cons_zero, List.setIfInBounds_toArray, List.set_cons_zero, List.set_cons_succ]
            refine wpAnyH_done (by kernel_rfl) ?_ _
            have HB := Lib.hid hHeld.below
            have HGG := Lib.hid HG.out
            clear hHeld
            go_wp2_with (fail)
            go_meet
            exact ⟨_, rfl, HGG.out, kb, HB.out⟩
          · have h0 := hHeld
            clear hHeld
            try simp only [List.getElem_toArray, List.getElem_cons_succ, List.getElem_cons_zero]
            obtain ⟨kz, hg⟩ := Fn.fresh h0 33 #[.int .u64 0, .int .u64 0, .int .u64 0, .int .u64 0, .int .u64 0, .int .u64 0, .int .u64 0, .int .u64 0, .int .u64 0, .int .u64 0, .int .u64 0, .int .u64 0, .int .u64 0, .int .u64 0, .int .u64 0, .int .u64 0]
            have KZ := Lib.hid kz
            have HG := Lib.hid hg
            have H0 := Lib.hid h0
            clear kz hg h0
            go_simp
            refine hK.out _ _ (Fn.pass H0.out _) (fun hHeld => ?_)
            clear hK K H0
            try simp only [Act.put, List.getElem_toArray, List.getElem_cons_succ, List.getElem_cons_zero, List.setIfInBounds_toArray, List.set_cons_zero, List.set_cons_succ]
            refine wpAnyH_ready (rs := [3]) (by kernel_rfl) (by simp) (AllReadyH.cons rfl (fun K hK => ?_) AllReadyH.nil)
            have h0 := hHeld
            clear hHeld
            try simp only [List.getElem_toArray, List.getElem_cons_succ, List.getElem_cons_zero]
            have H0 := Lib.hid h0
            clear h0
            go_simp
            go_at_call 49
            refine (mulD HQ.out _).mono ?_
            rintro e vv ⟨rfl, hb⟩
            have kz := KZ.out.below hb KZ.out.lt
            clear KZ
            have KZ := Lib.hid kz
            clear kz
            have h1 := H0.out.ext hb
            clear hb H0
            go_wp2_with (fail)
            refine hK.out _ _ h1 (fun hHeld => ?_)
            clear hK K h1
            try simp only [Act.put, List.getElem_toArray, List.getElem_cons_succ, List.getElem_cons_zero, List.setIfInBounds_toArray, List.set_cons_zero, List.set_cons_succ]
            refine wpAnyH_ready (rs := [5]) (by kernel_rfl) (by simp) (AllReadyH.cons rfl (fun K hK => ?_) AllReadyH.nil)
            have h0 := hHeld
            clear hHeld
            try simp only [List.getElem_toArray, List.getElem_cons_succ, List.getElem_cons_zero]
            rw [if_pos (by rfl)]
            refine wp_store_row 33 (.tmp 6) (.tmp 19) rfl _ (dv q) rfl rfl 33 _ KZ.out (info_dv _) (dv_zsize _) (dv_one _) ?_
            refine hK.out _ _ (Fn.setFresh h0 HG.out _) (fun hHeld => ?_)
            have kb := KZ.out.setRow_same (dv q)
            clear hK K h0
            try simp only [Act.put, List.getElem_toArray, List.getElem_cons_succ, List.getElem_cons_zero, List.setIfInBounds_toArray, List.set_cons_zero, List.set_cons_succ]
            refine wpAnyH_done (by kernel_rfl) ?_ _
            have HB := Lib.hid hHeld.below
            have HGG := Lib.hid HG.out
            clear hHeld
            go_wp2_with (fail)
            go_meet
            exact ⟨_, rfl, HGG.out, kb, HB.out⟩
        · have h0 := hHeld
          clear hHeld
          try simp only [List.getElem_toArray, List.getElem_cons_succ, List.getElem_cons_zero]
          obtain ⟨kz, hg⟩ := Fn.fresh h0 33 #[.int .u64 0, .int .u64 0, .int .u64 0, .int .u64 0, .int .u64 0, .int .u64 0, .int .u64 0, .int .u64 0, .int .u64 0, .int .u64 0, .int .u64 0, .int .u64 0, .int .u64 0, .int .u64 0, .int .u64 0, .int .u64 0]
          have KZ := Lib.hid kz
          have HG := Lib.hid hg
          have H0 := Lib.hid h0
          clear kz hg h0
          go_simp
          refine hK.out _ _ (Fn.pass H0.out _) (fun hHeld => ?_)
          clear hK K H0
          try simp only [Act.put, List.getElem_toArray, List.getElem_cons_succ, List.getElem_cons_zero, List.setIfInBounds_toArray, List.set_cons_zero, List.set_cons_succ]
          refine wpAnyH_ready (rs := [2]) (by kernel_rfl) (by simp) (AllReadyH.cons rfl (fun K hK => ?_) AllReadyH.nil)
          have h0 := hHeld
          clear hHeld
          try simp only [List.getElem_toArray, List.getElem_cons_succ, List.getElem_cons_zero]
          have H0 := Lib.hid h0
          clear h0
          go_simp
          go_at_call 51
          refine (invD HIV.out _).mono ?_
          rintro e vv ⟨rfl, hb⟩
          have kz := KZ.out.below hb KZ.out.lt
          clear KZ
          have KZ := Lib.hid kz
          clear kz
          have h1 := H0.out.ext hb
          clear hb H0
          go_wp2_with (fail)
          refine hK.out _ _ h1 (fun hHeld => ?_)
          clear hK K h1
          try simp only [Act.put, List.getElem_toArray, List.getElem_cons_succ, List.getElem_cons_zero, List.setIfInBounds_toArray, List.set_cons_zero, List.set_cons_succ]
          refine wpAnyH_ready (rs := [3]) (by kernel_rfl) (by simp) (AllReadyH.cons rfl (fun K hK => ?_) AllReadyH.nil)
          have h0 := hHeld
          clear hHeld
          try simp only [List.getElem_toArray, List.getElem_cons_succ, List.getElem_cons_zero]
          have H0 := Lib.hid h0
          clear h0
          go_simp
          go_at_call 49
          refine (mulD HQ.out _).mono ?_
          rintro e vv ⟨rfl, hb⟩
          have kz := KZ.out.below hb KZ.out.lt
          clear KZ
          have KZ := Lib.hid kz
          clear kz
          have h1 := H0.out.ext hb
          clear hb H0
          go_wp2_with (fail)
          refine hK.out _ _ h1 (fun hHeld => ?_)
          clear hK K h1
          try simp only [Act.put, List.getElem_toArray, List.getElem_cons_succ, List.getElem_cons_zero, List.setIfInBounds_toArray, List.set_cons_zero, List.set_cons_succ]
          refine wpAnyH_ready (rs := [5]) (by kernel_rfl) (by simp) (AllReadyH.cons rfl (fun K hK => ?_) AllReadyH.nil)
          have h0 := hHeld
          clear hHeld
          try simp only [List.getElem_toArray, List.getElem_cons_succ, List.getElem_cons_zero]
          rw [if_pos (by rfl)]
          refine wp_store_row 33 (.tmp 6) (.tmp 19) rfl _ (dv q) rfl rfl 33 _ KZ.out (info_dv _) (dv_zsize _) (dv_one _) ?_
          refine hK.out _ _ (Fn.setFresh h0 HG.out _) (fun hHeld => ?_)
          have kb := KZ.out.setRow_same (dv q)
          clear hK K h0
          try simp only [Act.put, List.getElem_toArray, List.getElem_cons_succ, List.getElem_cons_zero, List.setIfInBounds_toArray, List.set_cons_zero, List.set_cons_succ]
          refine wpAnyH_done (by kernel_rfl) ?_ _
          have HB := Lib.hid hHeld.below
          have HGG := Lib.hid HG.out
          clear hHeld
          go_wp2_with (fail)
          go_meet
          exact ⟨_, rfl, HGG.out, kb, HB.out⟩
    case rest =>
      obtain ⟨g6, rfl, hg, hk, hb⟩ := hcut
      have hf2 := (F0.out.ext hb).more hk
      have hz6 : wx.heap.size ≤ g6 := hg
      have HF := Lib.hid hf2
      have k6 := hk
      clear F0 hb hk hg hf2 k0 k1
      have he1 := fun W => nums_eq (x := q) (y := 0) rfl W
      rw [dv_z] at he1
      rcases Classical.em (q = 0) with h0 | h0
      · rw [decide_eq_true h0] at he1
        have hr := HR.out
        rw [rootR_q HV.out (by rw [HQ.out, HIV.out]) h0] at hr
        injection hr with hr hb
        have HRR := Lib.hid hr
        clear hr h0
        obtain ⟨old, ho, k2⟩ := HF.out.old (g := w.heap.size + 1 + 1) (t := 33) (n := 16) (by simp)
        have kS := k2.setRow_same (dv q)
        have hB := below_setRow HF.out.below (show w.heap.size ≤ w.heap.size + 1 + 1 by omega) (dv q)
        have KS := Lib.hid kS
        have HB := Lib.hid hB
        have HO := Lib.hid (show old.size = (dv q).size by rw [ho, dv_size])
        clear kS hB ho
        go_wp2_with (first | (refine wpList_load_row rfl 33 (.tmp 6) rfl g6 rfl 33 (dv q) (0, 0) _ k6 Tryd.underlying33 rfl (info_dv _) ?_) | (refine wpList_store_row rfl 33 (.tmp 4) (.tmp 23) rfl (w.heap.size + 1 + 1) (dv q) rfl rfl 33 old k2 (info_dv _) HO.out (dv_one _) ?_))
        exact bodyPost_ret (results_row_tmp rfl rfl rfl KS.out Tryd.underlying33 rfl (info_dv _)) rfl ⟨by rw [HRR.out, hb]; rfl, HB.out⟩
      · rw [decide_eq_false h0] at he1
        have H0 := Lib.hid h0
        clear h0
        go_wp2_with (first | (refine wpList_load_row rfl 33 (.tmp 6) rfl g6 rfl 33 (dv q) (0, 0) _ k6 Tryd.underlying33 rfl (info_dv _) ?_))
        obtain ⟨e2, he2⟩ : ∃ x, x = 4 * EE + 2 := ⟨_, rfl⟩
        obtain ⟨pw, hpw⟩ : ∃ x, x = q ^ e2 := ⟨_, rfl⟩
        obtain ⟨one, hone⟩ : ∃ x, x = sm 1 := ⟨_, rfl⟩
        have HM1 := Lib.hid (show ∀ W, Calls Tryd.prog 82 #[.int .u64 1, .int .i64 1] W (KeyPost e2 W) from fun W => by
          have h2 := rminor_any 1 1 W (by omega) (by omega)
          rw [minor_half, ← he2] at h2
          exact h2)
        have HE2 := Lib.hid (show e2 < 115792089237316195423570985008687907853269984665640564039457584007913129639936 by rw [he2]; exact half_lt)
        have HPW := Lib.hid hpw
        have HON := Lib.hid hone
        have HE2D := Lib.hid he2
        have HS1 := Lib.hid (show ∀ W, Calls Tryd.prog 50 #[.int .u64 1] W (DPost one W) from fun W => smallD 1 hone (by omega) W)
        have hq1 := fun W => nums_eq (x := pw) (y := one) rfl W
        clear he2 hpw hone he1
        rcases Classical.em (pw = one) with h1 | h1
        · rw [decide_eq_true h1] at hq1
          have H1 := Lib.hid h1
          clear h1
          refine wp_region_held_drew (S := fun W => Fr w W [(g6, 33, dv q), (w.heap.size + 1, 33, dv v), (w.heap.size, 33, dv u)] [(w.heap.size + 1 + 1, 33, 16)]) (by kernel_rfl) ?_ (fun hHeld => ?_)
          · exact HF.out.drew
          refine wpAnyH_take (i := 0) (v := .agg (dv q)) rfl (by kernel_rfl) (by kernel_rfl) (by kernel_rfl) (fun _ _ _ h => h) (yields_row (by rfl) 33 (.tmp 6) rfl (g6) rfl 33 (dv q) _ (fun W (h : Fr _ W _ _) => h.get (by simp)) Tryd.underlying33 rfl (info_dv _)) hHeld ?_
          try simp only [Act.put, List.getElem_toArray, List.getElem_cons_succ, List.getElem_cons_zero, List.setIfInBounds_toArray, List.set_cons_zero, List.set_cons_succ]
          refine wpAnyH_ready (rs := [1]) (by kernel_rfl) (by simp) (AllReadyH.cons rfl (fun K hK => ?_) AllReadyH.nil)
          have h0 := hHeld
          clear hHeld
          try simp only [List.getElem_toArray, List.getElem_cons_succ, List.getElem_cons_zero]
          have H0 := Lib.hid h0
          clear h0
          go_simp
          go_at_call 82
          refine (HM1.out _).mono ?_
          rintro e vv ⟨rfl, hb⟩
          have h1 := H0.out.ext hb
          clear hb H0
          go_wp2_with (fail)
          refine hK.out _ _ h1 (fun hHeld => ?_)
          clear hK K h1
          try simp only [Act.put, List.getElem_toArray, List.getElem_cons_succ, List.getElem_cons_zero, List.setIfInBounds_toArray, List.set_cons_zero, List.set_cons_succ]
          refine wpAnyH_ready (rs := [2]) (by kernel_rfl) (by simp) (AllReadyH.cons rfl (fun K hK => ?_) AllReadyH.nil)
          have h0 := hHeld
          clear hHeld
          try simp only [List.getElem_toArray, List.getElem_cons_succ, List.getElem_cons_zero]
          have H0 := Lib.hid h0
          clear h0
          go_simp
          go_at_call 81
          refine (powerD HPW.out HE2.out _).mono ?_
          rintro e vv ⟨rfl, hb⟩
          have h1 := H0.out.ext hb
          clear hb H0
          go_wp2_with (fail)
          refine hK.out _ _ h1 (fun hHeld => ?_)
          clear hK K h1
          try simp only [Act.put, List.getElem_toArray, List.getElem_cons_succ, List.getElem_cons_zero, List.setIfInBounds_toArray, List.set_cons_zero, List.set_cons_succ]
          refine wpAnyH_ready (rs := [3]) (by kernel_rfl) (by simp) (AllReadyH.cons rfl (fun K hK => ?_) AllReadyH.nil)
          have h0 := hHeld
          clear hHeld
          try simp only [List.getElem_toArray, List.getElem_cons_succ, List.getElem_cons_zero]
          have H0 := Lib.hid h0
          clear h0
          go_simp
          go_at_call 50
          refine (HS1.out _).mono ?_
          rintro e vv ⟨rfl, hb⟩
          have h1 := H0.out.ext hb
          clear hb H0
          go_wp2_with (fail)
          refine hK.out _ _ h1 (fun hHeld => ?_)
          clear hK K h1
          try simp only [Act.put, List.getElem_toArray, List.getElem_cons_succ, List.getElem_cons_zero, List.setIfInBounds_toArray, List.set_cons_zero, List.set_cons_succ]
          refine wpAnyH_take (i := 4) (v := ?_) rfl (by kernel_rfl) (by kernel_rfl) (by kernel_rfl) (fun _ _ _ h => h) (Or.inl ⟨by rfl, ?_⟩) hHeld ?_
          rotate_left
          · (intro W hSw; (try dsimp only at hSw); (try simp only [List.getElem_toArray, List.getElem_cons_succ, List.getElem_cons_zero]); go_simp; try with_reducible rfl)
          try simp only [Act.put, List.getElem_toArray, List.getElem_cons_succ, List.getElem_cons_zero, List.setIfInBounds_toArray, List.set_cons_zero, List.set_cons_succ]
          have HF2 := Lib.hid hHeld
          clear hHeld HF
          have HF := HF2
          clear HF2
          refine wpAnyH_done (by kernel_rfl) ?_ _
          go_wp2_with (fail)
          obtain ⟨e0, he0⟩ : ∃ x, x = EE := ⟨_, rfl⟩
          have HM5 := Lib.hid (show ∀ W, Calls Tryd.prog 82 #[.int .u64 5, .int .i64 3] W (KeyPost e0 W) from fun W => by
            have h2 := rminor_any 5 3 W (by omega) (by omega)
            rw [minor_e, ← he0] at h2
            exact h2)
          have HEL := Lib.hid (show e0 < 115792089237316195423570985008687907853269984665640564039457584007913129639936 by rw [he0]; exact EE_lt)
          obtain ⟨p0, hp0⟩ : ∃ x, x = q ^ e0 := ⟨_, rfl⟩
          obtain ⟨x0, hx0⟩ : ∃ x, x = q * p0 := ⟨_, rfl⟩
          have HP0 := Lib.hid hp0
          have HX0 := Lib.hid hx0
          have HED := Lib.hid he0
          clear he0 hp0 hx0 hq1
          refine (HM5.out _).mono ?_
          rintro e v1 ⟨rfl, hb⟩
          have hv1 : w.heap.size ≤ v1.heap.size := (HF.out.ext hb).size
          have hf := HF.out.ext hb
          have ka : Blk (v1.alloc (.cells #[.int .u8 0, .int .u8 0, .int .u8 0, .int .u8 0, .int .u8 0, .int .u8 0, .int .u8 0, .int .u8 0, .int .u8 0, .int .u8 0, .int .u8 0, .int .u8 0, .int .u8 0, .int .u8 0, .int .u8 0, .int .u8 0, .int .u8 0, .int .u8 0, .int .u8 0, .int .u8 0, .int .u8 0, .int .u8 0, .int .u8 0, .int .u8 0, .int .u8 0, .int .u8 0, .int .u8 0, .int .u8 0, .int .u8 0, .int .u8 0, .int .u8 0, .int .u8 0] 23)) v1.heap.size 23 #[.int .u8 0, .int .u8 0, .int .u8 0, .int .u8 0, .int .u8 0, .int .u8 0, .int .u8 0, .int .u8 0, .int .u8 0, .int .u8 0, .int .u8 0, .int .u8 0, .int .u8 0, .int .u8 0, .int .u8 0, .int .u8 0, .int .u8 0, .int .u8 0, .int .u8 0, .int .u8 0, .int .u8 0, .int .u8 0, .int .u8 0, .int .u8 0, .int .u8 0, .int .u8 0, .int .u8 0, .int .u8 0, .int .u8 0, .int .u8 0, .int .u8 0, .int .u8 0] := Blk.new _ _ _
          have kc := ka.setRow_same (ks e0)
          have hf3 := ((hf.pass (.cells #[.int .u8 0, .int .u8 0, .int .u8 0, .int .u8 0, .int .u8 0, .int .u8 0, .int .u8 0, .int .u8 0, .int .u8 0, .int .u8 0, .int .u8 0, .int .u8 0, .int .u8 0, .int .u8 0, .int .u8 0, .int .u8 0, .int .u8 0, .int .u8 0, .int .u8 0, .int .u8 0, .int .u8 0, .int .u8 0, .int .u8 0, .int .u8 0, .int .u8 0, .int .u8 0, .int .u8 0, .int .u8 0, .int .u8 0, .int .u8 0, .int .u8 0, .int .u8 0] 23)).setOut (g := v1.heap.size) (by have := hf.size; omega) (by intro p hp; exact Nat.ne_of_lt (hf.rows p hp).lt) (by intro p hp; obtain ⟨_, _, k⟩ := hf.some_ p hp; exact Nat.ne_of_lt k.lt) (ks e0)).more kc
          have hsz : (#[.int .u8 0, .int .u8 0, .int .u8 0, .int .u8 0, .int .u8 0, .int .u8 0, .int .u8 0, .int .u8 0, .int .u8 0, .int .u8 0, .int .u8 0, .int .u8 0, .int .u8 0, .int .u8 0, .int .u8 0, .int .u8 0, .int .u8 0, .int .u8 0, .int .u8 0, .int .u8 0, .int .u8 0, .int .u8 0, .int .u8 0, .int .u8 0, .int .u8 0, .int .u8 0, .int .u8 0, .int .u8 0, .int .u8 0, .int .u8 0, .int .u8 0, .int .u8 0] : Array Value).size = (ks e0).size := by rw [ks_size]; rfl
          have KA := Lib.hid ka
          have HSZ := Lib.hid hsz
          have HF4 := Lib.hid hf3
          clear hb hf kc ka hf3 HF hsz
          go_wp2_with (first | (refine wpList_store_row rfl 23 (.tmp 7) (.tmp 30) rfl (v1.heap.size) (ks e0) rfl rfl 23 _ KA.out (info_ks _) HSZ.out (ks_one _) ?_))
          have HF := HF4
          clear HF4 KA HSZ
          obtain ⟨wy, hwy⟩ : ∃ wy : World, wy = (v1.alloc (.cells #[.int .u8 0, .int .u8 0, .int .u8 0, .int .u8 0, .int .u8 0, .int .u8 0, .int .u8 0, .int .u8 0, .int .u8 0, .int .u8 0, .int .u8 0, .int .u8 0, .int .u8 0, .int .u8 0, .int .u8 0, .int .u8 0, .int .u8 0, .int .u8 0, .int .u8 0, .int .u8 0, .int .u8 0, .int .u8 0, .int .u8 0, .int .u8 0, .int .u8 0, .int .u8 0, .int .u8 0, .int .u8 0, .int .u8 0, .int .u8 0, .int .u8 0, .int .u8 0] 23)).setRow v1.heap.size (ks e0) := ⟨_, rfl⟩
          rw [← hwy] at HF ⊢
          try simp only [Act.put]
          clear hwy
          have hy6 : g6 < wy.heap.size := (HF.out.get (g := g6) (t := 33) (cs := dv q) (by simp)).lt
          have hy2 : w.heap.size + 1 + 1 < wy.heap.size := by obtain ⟨_, _, k⟩ := HF.out.old (g := w.heap.size + 1 + 1) (t := 33) (n := 16) (by simp); exact k.lt
          go_cut [8] (fun s6 wz => ∃ g : Nat, s6 = .pointer (some ⟨g, 0, none⟩) ∧ wy.heap.size ≤ g ∧ Blk wz g 33 (dv x0) ∧ Below wy.heap.size wy wz)
          case first =>
            as_aux_lemma =>
              have hn := (HF.out.now.sub (L' := [(v1.heap.size, 23, ks e0), (g6, 33, dv q), (w.heap.size + 1, 33, dv v), (w.heap.size, 33, dv u)]) (by simp))
              have HN := Lib.hid hn
              clear hn
              refine wp_region_held_drew (S := fun W => Fn wy W [(v1.heap.size, 23, ks e0), (g6, 33, dv q), (w.heap.size + 1, 33, dv v), (w.heap.size, 33, dv u)]) (by kernel_rfl) ?_ (fun hHeld => ?_)
              · exact HN.out.drew
              refine wpAnyH_take (i := 0) (v := .agg (dv q)) rfl (by kernel_rfl) (by kernel_rfl) (by kernel_rfl) (fun _ _ _ h => h) (yields_row (by rfl) 33 (.tmp 6) rfl (g6) rfl 33 (dv q) _ (fun W (h : Fn _ W _) => h.get (by simp)) Tryd.underlying33 rfl (info_dv _)) hHeld ?_
              try simp only [Act.put, List.getElem_toArray, List.getElem_cons_succ, List.getElem_cons_zero, List.setIfInBounds_toArray, List.set_cons_zero, List.set_cons_succ]
              refine wpAnyH_take (i := 1) (v := .agg (dv q)) rfl (by kernel_rfl) (by kernel_rfl) (by kernel_rfl) (fun _ _ _ h => h) (yields_row (by rfl) 33 (.tmp 6) rfl (g6) rfl 33 (dv q) _ (fun W (h : Fn _ W _) => h.get (by simp)) Tryd.underlying33 rfl (info_dv _)) hHeld ?_
              try simp only [Act.put, List.getElem_toArray, List.getElem_cons_succ, List.getElem_cons_zero, List.setIfInBounds_toArray, List.set_cons_zero, List.set_cons_succ]
              refine wpAnyH_take (i := 2) (v := .agg (ks e0)) rfl (by kernel_rfl) (by kernel_rfl) (by kernel_rfl) (fun _ _ _ h => h) (yields_row (by rfl) 23 (.tmp 7) rfl (v1.heap.size) rfl 23 (ks e0) _ (fun W (h : Fn _ W _) => h.get (by simp)) Tryd.underlying23 rfl (info_ks _)) hHeld ?_
              try simp only [Act.put, List.getElem_toArray, List.getElem_cons_succ, List.getElem_cons_zero, List.setIfInBounds_toArray, List.set_cons_zero, List.set_cons_succ]
              refine wpAnyH_ready (rs := [3, 5]) (by kernel_rfl) (by simp) (AllReadyH.cons rfl (fun K hK => ?_) (AllReadyH.cons rfl (fun K hK => ?_) AllReadyH.nil))
              · have h0 := hHeld
                clear hHeld
                try simp only [List.getElem_toArray, List.getElem_cons_succ, List.getElem_cons_zero]
                have H0 := Lib.hid h0
                clear h0
                go_simp
                go_at_call 81
                refine (powerD HP0.out HEL.out _).mono ?_
                rintro e vv ⟨rfl, hb⟩
                have h1 := H0.out.ext hb
                clear hb H0
                go_wp2_with (fail)
                refine hK.out _ _ h1 (fun hHeld => ?_)
                clear hK K h1
                try simp only [Act.put, List.getElem_toArray, List.getElem_cons_succ, List.getElem_cons_zero, List.setIfInBounds_toArray, List.set_cons_zero, List.set_cons_succ]
                refine wpAnyH_ready (rs := [4, 5]) (by kernel_rfl) (by simp) (AllReadyH.cons rfl (fun K hK => ?_) (AllReadyH.cons rfl (fun K hK => ?_) AllReadyH.nil))
                · have h0 := hHeld
                  clear hHeld
                  try simp only [List.getElem_toArray, List.getElem_cons_succ, List.getElem_cons_zero]
                  have H0 := Lib.hid h0
                  clear h0
                  go_simp
                  go_at_call 49
                  refine (mulD HX0.out _).mono ?_
                  rintro e vv ⟨rfl, hb⟩
                  have h1 := H0.out.ext hb
                  clear hb H0
                  go_wp2_with (fail)
                  refine hK.out _ _ h1 (fun hHeld => ?_)
                  clear hK K h1
                  try simp only [Act.put, List.getElem_toArray, List.getElem_cons_succ, List.getElem_cons_zero, List.setIfInBounds_toArray, List.set_cons_zero, List.set_cons_succ]
                  refine wpAnyH_ready (rs := [5]) (by kernel_rfl) (by simp) (AllReadyH.cons rfl (fun K hK => ?_) AllReadyH.nil)
                  have h0 := hHeld
                  clear hHeld
                  try simp only [List.getElem_toArray, List.getElem_cons_succ, List.getElem_cons_zero]
                  obtain ⟨kz, hg⟩ := Fn.fresh h0 33 #[.int .u64 0, .int .u64 0, .int .u64 0, .int .u64 0, .int .u64 0, .int .u64 0, .int .u64 0, .int .u64 0, .int .u64 0, .int .u64 0, .int .u64 0, .int .u64 0, .int .u64 0, .int .u64 0, .int .u64 0, .int .u64 0]
                  have KZ := Lib.hid kz
                  have HG := Lib.hid hg
                  have H0 := Lib.hid h0
                  clear kz hg h0
                  go_simp
                  refine hK.out _ _ (Fn.pass H0.out _) (fun hHeld => ?_)
                  clear hK K H0
                  try simp only [Act.put, List.getElem_toArray, List.getElem_cons_succ, List.getElem_cons_zero, List.setIfInBounds_toArray, List.set_cons_zero, List.set_cons_succ]
                  refine wpAnyH_ready (rs := [6]) (by kernel_rfl) (by simp) (AllReadyH.cons rfl (fun K hK => ?_) AllReadyH.nil)
                  have h0 := hHeld
                  clear hHeld
                  try simp only [List.getElem_toArray, List.getElem_cons_succ, List.getElem_cons_zero]
                  rw [if_pos (by rfl)]
                  refine wp_store_row 33 (.tmp 8) (.tmp 35) rfl _ (dv x0) rfl rfl 33 _ KZ.out (info_dv _) (dv_zsize _) (dv_one _) ?_
                  refine hK.out _ _ (Fn.setFresh h0 HG.out _) (fun hHeld => ?_)
                  have kb := KZ.out.setRow_same (dv x0)
                  clear hK K h0
                  try simp only [Act.put, List.getElem_toArray, List.getElem_cons_succ, List.getElem_cons_zero, List.setIfInBounds_toArray, List.set_cons_zero, List.set_cons_succ]
                  refine wpAnyH_done (by kernel_rfl) ?_ _
                  have HB := Lib.hid hHeld.below
                  have HGG := Lib.hid HG.out
                  clear hHeld
                  go_wp2_with (fail)
                  go_meet
                  exact ⟨_, rfl, HGG.out, kb, HB.out⟩
                · have h0 := hHeld
                  clear hHeld
                  try simp only [List.getElem_toArray, List.getElem_cons_succ, List.getElem_cons_zero]
                  obtain ⟨kz, hg⟩ := Fn.fresh h0 33 #[.int .u64 0, .int .u64 0, .int .u64 0, .int .u64 0, .int .u64 0, .int .u64 0, .int .u64 0, .int .u64 0, .int .u64 0, .int .u64 0, .int .u64 0, .int .u64 0, .int .u64 0, .int .u64 0, .int .u64 0, .int .u64 0]
                  have KZ := Lib.hid kz
                  have HG := Lib.hid hg
                  have H0 := Lib.hid h0
                  clear kz hg h0
                  go_simp
                  refine hK.out _ _ (Fn.pass H0.out _) (fun hHeld => ?_)
                  clear hK K H0
                  try simp only [Act.put, List.getElem_toArray, List.getElem_cons_succ, List.getElem_cons_zero, List.setIfInBounds_toArray, List.set_cons_zero, List.set_cons_succ]
                  refine wpAnyH_ready (rs := [4]) (by kernel_rfl) (by simp) (AllReadyH.cons rfl (fun K hK => ?_) AllReadyH.nil)
                  have h0 := hHeld
                  clear hHeld
                  try simp only [List.getElem_toArray, List.getElem_cons_succ, List.getElem_cons_zero]
                  have H0 := Lib.hid h0
                  clear h0
                  go_simp
                  go_at_call 49
                  refine (mulD HX0.out _).mono ?_
                  rintro e vv ⟨rfl, hb⟩
                  have kz := KZ.out.below hb KZ.out.lt
                  clear KZ
                  have KZ := Lib.hid kz
                  clear kz
                  have h1 := H0.out.ext hb
                  clear hb H0
                  go_wp2_with (fail)
                  refine hK.out _ _ h1 (fun hHeld => ?_)
                  clear hK K h1
                  try simp only [Act.put, List.getElem_toArray, List.getElem_cons_succ, List.getElem_cons_zero, List.setIfInBounds_toArray, List.set_cons_zero, List.set_cons_succ]
                  refine wpAnyH_ready (rs := [6]) (by kernel_rfl) (by simp) (AllReadyH.cons rfl (fun K hK => ?_) AllReadyH.nil)
                  have h0 := hHeld
                  clear hHeld
                  try simp only [List.getElem_toArray, List.getElem_cons_succ, List.getElem_cons_zero]
                  rw [if_pos (by rfl)]
                  refine wp_store_row 33 (.tmp 8) (.tmp 35) rfl _ (dv x0) rfl rfl 33 _ KZ.out (info_dv _) (dv_zsize _) (dv_one _) ?_
                  refine hK.out _ _ (Fn.setFresh h0 HG.out _) (fun hHeld => ?_)
                  have kb := KZ.out.setRow_same (dv x0)
                  clear hK K h0
                  try simp only [Act.put, List.getElem_toArray, List.getElem_cons_succ, List.getElem_cons_zero, List.setIfInBounds_toArray, List.set_cons_zero, List.set_cons_succ]
                  refine wpAnyH_done (by kernel_rfl) ?_ _
                  have HB := Lib.hid hHeld.below
                  have HGG := Lib.hid HG.out
                  clear hHeld
                  go_wp2_with (fail)
                  go_meet
                  exact ⟨_, rfl, HGG.out, kb, HB.out⟩
              · have h0 := hHeld
                clear hHeld
                try simp only [List.getElem_toArray, List.getElem_cons_succ, List.getElem_cons_zero]
                obtain ⟨kz, hg⟩ := Fn.fresh h0 33 #[.int .u64 0, .int .u64 0, .int .u64 0, .int .u64 0, .int .u64 0, .int .u64 0, .int .u64 0, .int .u64 0, .int .u64 0, .int .u64 0, .int .u64 0, .int .u64 0, .int .u64 0, .int .u64 0, .int .u64 0, .int .u64 0]
                have KZ := Lib.hid kz
                have HG := Lib.hid hg
                have H0 := Lib.hid h0
                clear kz hg h0
                go_simp
                refine hK.out _ _ (Fn.pass H0.out _) (fun hHeld => ?_)
                clear hK K H0
                try simp only [Act.put, List.getElem_toArray, List.getElem_cons_succ, List.getElem_cons_zero, List.setIfInBounds_toArray, List.set_cons_zero, List.set_cons_succ]
                refine wpAnyH_ready (rs := [3]) (by kernel_rfl) (by simp) (AllReadyH.cons rfl (fun K hK => ?_) AllReadyH.nil)
                have h0 := hHeld
                clear hHeld
                try simp only [List.getElem_toArray, List.getElem_cons_succ, List.getElem_cons_zero]
                have H0 := Lib.hid h0
                clear h0
                go_simp
                go_at_call 81
                refine (powerD HP0.out HEL.out _).mono ?_
                rintro e vv ⟨rfl, hb⟩
                have kz := KZ.out.below hb KZ.out.lt
                clear KZ
                have KZ := Lib.hid kz
                clear kz
                have h1 := H0.out.ext hb
                clear hb H0
                go_wp2_with (fail)
                refine hK.out _ _ h1 (fun hHeld => ?_)
                clear hK K h1
                try simp only [Act.put, List.getElem_toArray, List.getElem_cons_succ, List.getElem_cons_zero, List.setIfInBounds_toArray, List.set_cons_zero, List.set_cons_succ]
                refine wpAnyH_ready (rs := [4]) (by kernel_rfl) (by simp) (AllReadyH.cons rfl (fun K hK => ?_) AllReadyH.nil)
                have h0 := hHeld
                clear hHeld
                try simp only [List.getElem_toArray, List.getElem_cons_succ, List.getElem_cons_zero]
                have H0 := Lib.hid h0
                clear h0
                go_simp
                go_at_call 49
                refine (mulD HX0.out _).mono ?_
                rintro e vv ⟨rfl, hb⟩
                have kz := KZ.out.below hb KZ.out.lt
                clear KZ
                have KZ := Lib.hid kz
                clear kz
                have h1 := H0.out.ext hb
                clear hb H0
                go_wp2_with (fail)
                refine hK.out _ _ h1 (fun hHeld => ?_)
                clear hK K h1
                try simp only [Act.put, List.getElem_toArray, List.getElem_cons_succ, List.getElem_cons_zero, List.setIfInBounds_toArray, List.set_cons_zero, List.set_cons_succ]
                refine wpAnyH_ready (rs := [6]) (by kernel_rfl) (by simp) (AllReadyH.cons rfl (fun K hK => ?_) AllReadyH.nil)
                have h0 := hHeld
                clear hHeld
                try simp only [List.getElem_toArray, List.getElem_cons_succ, List.getElem_cons_zero]
                rw [if_pos (by rfl)]
                refine wp_store_row 33 (.tmp 8) (.tmp 35) rfl _ (dv x0) rfl rfl 33 _ KZ.out (info_dv _) (dv_zsize _) (dv_one _) ?_
                refine hK.out _ _ (Fn.setFresh h0 HG.out _) (fun hHeld => ?_)
                have kb := KZ.out.setRow_same (dv x0)
                clear hK K h0
                try simp only [Act.put, List.getElem_toArray, List.getElem_cons_succ, List.getElem_cons_zero, List.setIfInBounds_toArray, List.set_cons_zero, List.set_cons_succ]
                refine wpAnyH_done (by kernel_rfl) ?_ _
                have HB := Lib.hid hHeld.below
                have HGG := Lib.hid HG.out
                clear hHeld
                go_wp2_with (fail)
                go_meet
                exact ⟨_, rfl, HGG.out, kb, HB.out⟩
          case rest =>
          obtain ⟨g8, rfl, hg, hk, hb⟩ := hcut
          have hf2 := (HF.out.ext hb).more hk
          have hz8 : wy.heap.size ≤ g8 := hg
          clear HF
          have HF := Lib.hid hf2
          have k8 := hk
          clear hb hk hg hf2 k6
          obtain ⟨xx, hxx⟩ : ∃ x, x = x0 * x0 := ⟨_, rfl⟩
          have HXX := Lib.hid hxx
          clear hxx k8
          have hq2 := fun W => nums_eq (x := xx) (y := q) rfl W
          go_wp2_with (fail)
          rcases Classical.em (xx = q) with h2 | h2
          · rw [decide_eq_true h2] at hq2
            have HY := Lib.hid (show x0 = if x0 * x0 = q then x0 else x0 * II by rw [← HXX.out, if_pos h2])
            clear h2
            refine wp_region_held_drew (S := fun W => Fr w W [(g8, 33, dv x0), (g6, 33, dv q), (w.heap.size + 1, 33, dv v), (w.heap.size, 33, dv u)] [(w.heap.size + 1 + 1, 33, 16)]) (by kernel_rfl) ?_ (fun hHeld => ?_)
            · exact (HF.out.sub (by simp) (by simp)).drew
            refine wpAnyH_take (i := 0) (v := .agg (dv x0)) rfl (by kernel_rfl) (by kernel_rfl) (by kernel_rfl) (fun _ _ _ h => h) (yields_row (by rfl) 33 (.tmp 8) rfl (g8) rfl 33 (dv x0) _ (fun W (h : Fr _ W _ _) => h.get (by simp)) Tryd.underlying33 rfl (info_dv _)) hHeld ?_
            try simp only [Act.put, List.getElem_toArray, List.getElem_cons_succ, List.getElem_cons_zero, List.setIfInBounds_toArray, List.set_cons_zero, List.set_cons_succ]
            refine wpAnyH_take (i := 1) (v := .agg (dv x0)) rfl (by kernel_rfl) (by kernel_rfl) (by kernel_rfl) (fun _ _ _ h => h) (yields_row (by rfl) 33 (.tmp 8) rfl (g8) rfl 33 (dv x0) _ (fun W (h : Fr _ W _ _) => h.get (by simp)) Tryd.underlying33 rfl (info_dv _)) hHeld ?_
            try simp only [Act.put, List.getElem_toArray, List.getElem_cons_succ, List.getElem_cons_zero, List.setIfInBounds_toArray, List.set_cons_zero, List.set_cons_succ]
            refine wpAnyH_take (i := 3) (v := .agg (dv q)) rfl (by kernel_rfl) (by kernel_rfl) (by kernel_rfl) (fun _ _ _ h => h) (yields_row (by rfl) 33 (.tmp 6) rfl (g6) rfl 33 (dv q) _ (fun W (h : Fr _ W _ _) => h.get (by simp)) Tryd.underlying33 rfl (info_dv _)) hHeld ?_
            try simp only [Act.put, List.getElem_toArray, List.getElem_cons_succ, List.getElem_cons_zero, List.setIfInBounds_toArray, List.set_cons_zero, List.set_cons_succ]
            refine wpAnyH_ready (rs := [2]) (by kernel_rfl) (by simp) (AllReadyH.cons rfl (fun K hK => ?_) AllReadyH.nil)
            have h0 := hHeld
            clear hHeld
            try simp only [List.getElem_toArray, List.getElem_cons_succ, List.getElem_cons_zero]
            have H0 := Lib.hid h0
            clear h0
            go_simp
            go_at_call 49
            refine (mulD HXX.out _).mono ?_
            rintro e vv ⟨rfl, hb⟩
            have h1 := H0.out.ext hb
            clear hb H0
            go_wp2_with (fail)
            refine hK.out _ _ h1 (fun hHeld => ?_)
            clear hK K h1
            try simp only [Act.put, List.getElem_toArray, List.getElem_cons_succ, List.getElem_cons_zero, List.setIfInBounds_toArray, List.set_cons_zero, List.set_cons_succ]
            refine wpAnyH_take (i := 4) (v := ?_) rfl (by kernel_rfl) (by kernel_rfl) (by kernel_rfl) (fun _ _ _ h => h) (Or.inl ⟨by rfl, ?_⟩) hHeld ?_
            rotate_left
            · (intro W hSw; (try dsimp only at hSw); (try simp only [List.getElem_toArray, List.getElem_cons_succ, List.getElem_cons_zero]); go_simp; try with_reducible rfl)
            try simp only [Act.put, List.getElem_toArray, List.getElem_cons_succ, List.getElem_cons_zero, List.setIfInBounds_toArray, List.set_cons_zero, List.set_cons_succ]
            have HF2 := Lib.hid hHeld
            clear hHeld HF
            have HF := HF2
            clear HF2
            refine wpAnyH_done (by kernel_rfl) ?_ _
            have hf0 := HF.out
            have k8 := hf0.get (g := g8) (t := 33) (cs := dv x0) (by simp)
            have c8 := k8.cell 0
            rw [dv_at0] at c8
            obtain ⟨d, hd⟩ : ∃ t, t = x0.val % 65536 := ⟨_, rfl⟩
            rw [← hd] at c8
            have hry := rootR_y (e := EE) (i := II) (u := u) HV.out (show q = u * v ^ (PP - 2) by rw [HQ.out, HIV.out]) H0.out (by rw [← HE2D.out, ← HPW.out, ← sm_one, ← HON.out]; exact H1.out) (show x0 = q * q ^ EE by rw [HX0.out, HP0.out, HED.out]) HY.out
            have hr := HR.out
            rw [hry] at hr
            injection hr with hr hb2
            clear hry
            rcases Classical.em (x0.val % 2 = 1) with hp | hp
            · obtain ⟨ny, hny⟩ : ∃ t, t = -x0 := ⟨_, rfl⟩
              rw [evenOf_yes hp, ← hny] at hr
              have HRR := Lib.hid hr
              have HNY := Lib.hid hny
              have hm1 : (d : Int) % 2 = 1 := by omega
              clear hr hny hp hd hf0
              go_wp2_with (first | (refine wpList_load_row rfl 33 (.tmp 8) rfl g8 rfl 33 (dv x0) (0, 0) _ k8 Tryd.underlying33 rfl (info_dv _) ?_))
              refine (negD HNY.out _).mono ?_
              rintro e v2 ⟨rfl, hb3⟩
              have hf3 := HF.out.ext hb3
              have k8b := hf3.get (g := g8) (t := 33) (cs := dv x0) (by simp)
              have f4 := hf3.setRowHead (by simp <;> omega) (by simp <;> omega) (dv ny) (by omega)
              have k8c := f4.get (g := g8) (t := 33) (cs := dv ny) (by simp)
              have HG := Lib.hid f4
              clear hb3 hf3 f4 k8
              obtain ⟨old, ho, k2⟩ := HG.out.old (g := w.heap.size + 1 + 1) (t := 33) (n := 16) (by simp)
              have kS := k2.setRow_same (dv ny)
              have hB := below_setRow HG.out.below (show w.heap.size ≤ w.heap.size + 1 + 1 by omega) (dv ny)
              have KS := Lib.hid kS
              have HB := Lib.hid hB
              have HO := Lib.hid (show old.size = (dv ny).size by rw [ho, dv_size])
              clear kS hB ho
              go_wp2_with (first | (refine wpList_store_row rfl 33 (.tmp 8) (.tmp 51) rfl g8 (dv ny) rfl rfl 33 (dv x0) k8b (info_dv _) (dv_ss _ _) (dv_one _) ?_) | (refine wpList_load_row rfl 33 (.tmp 8) rfl g8 rfl 33 (dv ny) (0, 0) _ k8c Tryd.underlying33 rfl (info_dv _) ?_) | (refine wpList_store_row rfl 33 (.tmp 4) (.tmp 52) rfl (w.heap.size + 1 + 1) (dv ny) rfl rfl 33 old k2 (info_dv _) HO.out (dv_one _) ?_))
              exact bodyPost_ret (results_row_tmp rfl rfl rfl KS.out Tryd.underlying33 rfl (info_dv _)) rfl ⟨by rw [HRR.out, hb2]; rfl, HB.out⟩
            · rw [evenOf_no hp] at hr
              have HRR := Lib.hid hr
              have hm1 : (d : Int) % 2 = 0 := by omega
              have HG := Lib.hid hf0
              clear hr hp hd hf0
              obtain ⟨old, ho, k2⟩ := HG.out.old (g := w.heap.size + 1 + 1) (t := 33) (n := 16) (by simp)
              have kS := k2.setRow_same (dv x0)
              have hB := below_setRow HG.out.below (show w.heap.size ≤ w.heap.size + 1 + 1 by omega) (dv x0)
              have KS := Lib.hid kS
              have HB := Lib.hid hB
              have HO := Lib.hid (show old.size = (dv x0).size by rw [ho, dv_size])
              clear kS hB ho
              go_wp2_with (first | (refine wpList_load_row rfl 33 (.tmp 8) rfl g8 rfl 33 (dv x0) (0, 0) _ k8 Tryd.underlying33 rfl (info_dv _) ?_) | (refine wpList_store_row rfl 33 (.tmp 4) (.tmp 52) rfl (w.heap.size + 1 + 1) (dv x0) rfl rfl 33 old k2 (info_dv _) HO.out (dv_one _) ?_))
              exact bodyPost_ret (results_row_tmp rfl rfl rfl KS.out Tryd.underlying33 rfl (info_dv _)) rfl ⟨by rw [HRR.out, hb2]; rfl, HB.out⟩
          · rw [decide_eq_false h2] at hq2
            obtain ⟨i0, hi0⟩ : ∃ x, x = II := ⟨_, rfl⟩
            obtain ⟨y, hy⟩ : ∃ x, x = x0 * i0 := ⟨_, rfl⟩
            have HY0 := Lib.hid hy
            have HY := Lib.hid (show y = if x0 * x0 = q then x0 else x0 * II by rw [← HXX.out, if_neg h2, hy, hi0])
            have HI0 := Lib.hid hi0
            clear h2 hy hi0
            refine wp_region_held_drew (S := fun W => Fr w W [(g8, 33, dv x0), (g6, 33, dv q), (w.heap.size + 1, 33, dv v), (w.heap.size, 33, dv u)] [(w.heap.size + 1 + 1, 33, 16)]) (by kernel_rfl) ?_ (fun hHeld => ?_)
            · exact (HF.out.sub (by simp) (by simp)).drew
            refine wpAnyH_take (i := 0) (v := .agg (dv x0)) rfl (by kernel_rfl) (by kernel_rfl) (by kernel_rfl) (fun _ _ _ h => h) (yields_row (by rfl) 33 (.tmp 8) rfl (g8) rfl 33 (dv x0) _ (fun W (h : Fr _ W _ _) => h.get (by simp)) Tryd.underlying33 rfl (info_dv _)) hHeld ?_
            try simp only [Act.put, List.getElem_toArray, List.getElem_cons_succ, List.getElem_cons_zero, List.setIfInBounds_toArray, List.set_cons_zero, List.set_cons_succ]
            refine wpAnyH_take (i := 1) (v := .agg (dv x0)) rfl (by kernel_rfl) (by kernel_rfl) (by kernel_rfl) (fun _ _ _ h => h) (yields_row (by rfl) 33 (.tmp 8) rfl (g8) rfl 33 (dv x0) _ (fun W (h : Fr _ W _ _) => h.get (by simp)) Tryd.underlying33 rfl (info_dv _)) hHeld ?_
            try simp only [Act.put, List.getElem_toArray, List.getElem_cons_succ, List.getElem_cons_zero, List.setIfInBounds_toArray, List.set_cons_zero, List.set_cons_succ]
            refine wpAnyH_take (i := 3) (v := .agg (dv q)) rfl (by kernel_rfl) (by kernel_rfl) (by kernel_rfl) (fun _ _ _ h => h) (yields_row (by rfl) 33 (.tmp 6) rfl (g6) rfl 33 (dv q) _ (fun W (h : Fr _ W _ _) => h.get (by simp)) Tryd.underlying33 rfl (info_dv _)) hHeld ?_
            try simp only [Act.put, List.getElem_toArray, List.getElem_cons_succ, List.getElem_cons_zero, List.setIfInBounds_toArray, List.set_cons_zero, List.set_cons_succ]
            refine wpAnyH_ready (rs := [2]) (by kernel_rfl) (by simp) (AllReadyH.cons rfl (fun K hK => ?_) AllReadyH.nil)
            have h0 := hHeld
            clear hHeld
            try simp only [List.getElem_toArray, List.getElem_cons_succ, List.getElem_cons_zero]
            have H0 := Lib.hid h0
            clear h0
            go_simp
            go_at_call 49
            refine (mulD HXX.out _).mono ?_
            rintro e vv ⟨rfl, hb⟩
            have h1 := H0.out.ext hb
            clear hb H0
            go_wp2_with (fail)
            refine hK.out _ _ h1 (fun hHeld => ?_)
            clear hK K h1
            try simp only [Act.put, List.getElem_toArray, List.getElem_cons_succ, List.getElem_cons_zero, List.setIfInBounds_toArray, List.set_cons_zero, List.set_cons_succ]
            refine wpAnyH_take (i := 4) (v := ?_) rfl (by kernel_rfl) (by kernel_rfl) (by kernel_rfl) (fun _ _ _ h => h) (Or.inl ⟨by rfl, ?_⟩) hHeld ?_
            rotate_left
            · (intro W hSw; (try dsimp only at hSw); (try simp only [List.getElem_toArray, List.getElem_cons_succ, List.getElem_cons_zero]); go_simp; try with_reducible rfl)
            try simp only [Act.put, List.getElem_toArray, List.getElem_cons_succ, List.getElem_cons_zero, List.setIfInBounds_toArray, List.set_cons_zero, List.set_cons_succ]
            have HF2 := Lib.hid hHeld
            clear hHeld HF
            have HF := HF2
            clear HF2
            refine wpAnyH_done (by kernel_rfl) ?_ _
            obtain ⟨e4, he4⟩ : ∃ x, x = 2 * EE + 1 := ⟨_, rfl⟩
            obtain ⟨two, htwo⟩ : ∃ x, x = sm 2 := ⟨_, rfl⟩
            have HM2 := Lib.hid (show ∀ W, Calls Tryd.prog 82 #[.int .u64 1, .int .i64 2] W (KeyPost e4 W) from fun W => by have h2 := rminor_any 1 2 W (by omega) (by omega); rw [minor_q, ← he4] at h2; exact h2)
            have HS2 := Lib.hid (show ∀ W, Calls Tryd.prog 50 #[.int .u64 2] W (DPost two W) from fun W => smallD 2 htwo (by omega) W)
            have HE4 := Lib.hid (show e4 < 115792089237316195423570985008687907853269984665640564039457584007913129639936 by rw [he4]; exact quarter_lt)
            have HP2 := Lib.hid (show i0 = two ^ e4 by rw [HI0.out, htwo, he4, ← II_eq]; rfl)
            clear he4 htwo
            go_wp2_with (fail)
            go_cut [] (fun wz => Fr w wz [(g8, 33, dv y), (g6, 33, dv q), (w.heap.size + 1, 33, dv v), (w.heap.size, 33, dv u)] [(w.heap.size + 1 + 1, 33, 16)])
            case first =>
              as_aux_lemma =>
                have KZ := Lib.hid (HF.out.get (g := g8) (t := 33) (cs := dv x0) (by simp)).drew
                refine wp_region_held_drew (S := fun W => Fr w W [(g6, 33, dv q), (w.heap.size + 1, 33, dv v), (w.heap.size, 33, dv u)] [(w.heap.size + 1 + 1, 33, 16)]) (by kernel_rfl) ?_ (fun hHeld => ?_)
                · exact (HF.out.sub (by simp) (by simp)).drew
                refine wpAnyH_ready (rs := [0, 1]) (by kernel_rfl) (by simp) (AllReadyH.cons rfl (fun K hK => ?_) (AllReadyH.cons rfl (fun K hK => ?_) AllReadyH.nil))
                · have h0 := hHeld
                  clear hHeld
                  try simp only [List.getElem_toArray, List.getElem_cons_succ, List.getElem_cons_zero]
                  rw [if_pos (by rfl)]
                  refine wp_load_row 33 (.tmp 8) rfl (g8) rfl 33 (dv x0) (0, 0) _ KZ.out Tryd.underlying33 rfl (info_dv _) ?_
                  refine hK.out _ _ h0 (fun hHeld => ?_)
                  clear hK K h0
                  try simp only [Act.put, List.getElem_toArray, List.getElem_cons_succ, List.getElem_cons_zero, List.setIfInBounds_toArray, List.set_cons_zero, List.set_cons_succ]
                  refine wpAnyH_ready (rs := [1]) (by kernel_rfl) (by simp) (AllReadyH.cons rfl (fun K hK => ?_) AllReadyH.nil)
                  have h0 := hHeld
                  clear hHeld
                  try simp only [List.getElem_toArray, List.getElem_cons_succ, List.getElem_cons_zero]
                  have H0 := Lib.hid h0
                  clear h0
                  go_simp
                  go_at_call 50
                  refine (HS2.out _).mono ?_
                  rintro e vv ⟨rfl, hb⟩
                  have kz := KZ.out.below hb KZ.out.lt
                  clear KZ
                  have KZ := Lib.hid kz
                  clear kz
                  have h1 := H0.out.ext hb
                  clear hb H0
                  go_wp2_with (fail)
                  refine hK.out _ _ h1 (fun hHeld => ?_)
                  clear hK K h1
                  try simp only [Act.put, List.getElem_toArray, List.getElem_cons_succ, List.getElem_cons_zero, List.setIfInBounds_toArray, List.set_cons_zero, List.set_cons_succ]
                  refine wpAnyH_ready (rs := [2]) (by kernel_rfl) (by simp) (AllReadyH.cons rfl (fun K hK => ?_) AllReadyH.nil)
                  have h0 := hHeld
                  clear hHeld
                  try simp only [List.getElem_toArray, List.getElem_cons_succ, List.getElem_cons_zero]
                  have H0 := Lib.hid h0
                  clear h0
                  go_simp
                  go_at_call 82
                  refine (HM2.out _).mono ?_
                  rintro e vv ⟨rfl, hb⟩
                  have kz := KZ.out.below hb KZ.out.lt
                  clear KZ
                  have KZ := Lib.hid kz
                  clear kz
                  have h1 := H0.out.ext hb
                  clear hb H0
                  go_wp2_with (fail)
                  refine hK.out _ _ h1 (fun hHeld => ?_)
                  clear hK K h1
                  try simp only [Act.put, List.getElem_toArray, List.getElem_cons_succ, List.getElem_cons_zero, List.setIfInBounds_toArray, List.set_cons_zero, List.set_cons_succ]
                  refine wpAnyH_ready (rs := [3]) (by kernel_rfl) (by simp) (AllReadyH.cons rfl (fun K hK => ?_) AllReadyH.nil)
                  have h0 := hHeld
                  clear hHeld
                  try simp only [List.getElem_toArray, List.getElem_cons_succ, List.getElem_cons_zero]
                  have H0 := Lib.hid h0
                  clear h0
                  go_simp
                  go_at_call 81
                  refine (powerD HP2.out HE4.out _).mono ?_
                  rintro e vv ⟨rfl, hb⟩
                  have kz := KZ.out.below hb KZ.out.lt
                  clear KZ
                  have KZ := Lib.hid kz
                  clear kz
                  have h1 := H0.out.ext hb
                  clear hb H0
                  go_wp2_with (fail)
                  refine hK.out _ _ h1 (fun hHeld => ?_)
                  clear hK K h1
                  try simp only [Act.put, List.getElem_toArray, List.getElem_cons_succ, List.getElem_cons_zero, List.setIfInBounds_toArray, List.set_cons_zero, List.set_cons_succ]
                  refine wpAnyH_ready (rs := [4]) (by kernel_rfl) (by simp) (AllReadyH.cons rfl (fun K hK => ?_) AllReadyH.nil)
                  have h0 := hHeld
                  clear hHeld
                  try simp only [List.getElem_toArray, List.getElem_cons_succ, List.getElem_cons_zero]
                  have H0 := Lib.hid h0
                  clear h0
                  go_simp
                  go_at_call 49
                  refine (mulD HY0.out _).mono ?_
                  rintro e vv ⟨rfl, hb⟩
                  have kz := KZ.out.below hb KZ.out.lt
                  clear KZ
                  have KZ := Lib.hid kz
                  clear kz
                  have h1 := H0.out.ext hb
                  clear hb H0
                  go_wp2_with (fail)
                  refine hK.out _ _ h1 (fun hHeld => ?_)
                  clear hK K h1
                  try simp only [Act.put, List.getElem_toArray, List.getElem_cons_succ, List.getElem_cons_zero, List.setIfInBounds_toArray, List.set_cons_zero, List.set_cons_succ]
                  refine wpAnyH_ready (rs := [5]) (by kernel_rfl) (by simp) (AllReadyH.cons rfl (fun K hK => ?_) AllReadyH.nil)
                  have h0 := hHeld
                  clear hHeld
                  try simp only [List.getElem_toArray, List.getElem_cons_succ, List.getElem_cons_zero]
                  rw [if_pos (by rfl)]
                  refine wp_store_row 33 (.tmp 8) (.tmp 45) rfl (g8) (dv y) rfl rfl 33 _ KZ.out (info_dv _) (dv_ss _ _) (dv_one _) ?_
                  refine hK.out _ _ (Fr.setOut h0 (g := g8) (by omega) (by simp <;> omega) (by simp <;> omega) _) (fun hHeld => ?_)
                  have kb := KZ.out.setRow_same (dv y)
                  clear hK K h0
                  try simp only [Act.put, List.getElem_toArray, List.getElem_cons_succ, List.getElem_cons_zero, List.setIfInBounds_toArray, List.set_cons_zero, List.set_cons_succ]
                  have HE := Lib.hid (hHeld.more kb)
                  clear hHeld kb
                  refine wpAnyH_done (by kernel_rfl) ?_ _
                  go_wp2_with (fail)
                  go_meet
                  exact HE.out
                · have h0 := hHeld
                  clear hHeld
                  try simp only [List.getElem_toArray, List.getElem_cons_succ, List.getElem_cons_zero]
                  have H0 := Lib.hid h0
                  clear h0
                  go_simp
                  go_at_call 50
                  refine (HS2.out _).mono ?_
                  rintro e vv ⟨rfl, hb⟩
                  have kz := KZ.out.below hb KZ.out.lt
                  clear KZ
                  have KZ := Lib.hid kz
                  clear kz
                  have h1 := H0.out.ext hb
                  clear hb H0
                  go_wp2_with (fail)
                  refine hK.out _ _ h1 (fun hHeld => ?_)
                  clear hK K h1
                  try simp only [Act.put, List.getElem_toArray, List.getElem_cons_succ, List.getElem_cons_zero, List.setIfInBounds_toArray, List.set_cons_zero, List.set_cons_succ]
                  refine wpAnyH_ready (rs := [0, 2]) (by kernel_rfl) (by simp) (AllReadyH.cons rfl (fun K hK => ?_) (AllReadyH.cons rfl (fun K hK => ?_) AllReadyH.nil))
                  · have h0 := hHeld
                    clear hHeld
                    try simp only [List.getElem_toArray, List.getElem_cons_succ, List.getElem_cons_zero]
                    rw [if_pos (by rfl)]
                    refine wp_load_row 33 (.tmp 8) rfl (g8) rfl 33 (dv x0) (0, 0) _ KZ.out Tryd.underlying33 rfl (info_dv _) ?_
                    refine hK.out _ _ h0 (fun hHeld => ?_)
                    clear hK K h0
                    try simp only [Act.put, List.getElem_toArray, List.getElem_cons_succ, List.getElem_cons_zero, List.setIfInBounds_toArray, List.set_cons_zero, List.set_cons_succ]
                    refine wpAnyH_ready (rs := [2]) (by kernel_rfl) (by simp) (AllReadyH.cons rfl (fun K hK => ?_) AllReadyH.nil)
                    have h0 := hHeld
                    clear hHeld
                    try simp only [List.getElem_toArray, List.getElem_cons_succ, List.getElem_cons_zero]
                    have H0 := Lib.hid h0
                    clear h0
                    go_simp
                    go_at_call 82
                    refine (HM2.out _).mono ?_
                    rintro e vv ⟨rfl, hb⟩
                    have kz := KZ.out.below hb KZ.out.lt
                    clear KZ
                    have KZ := Lib.hid kz
                    clear kz
                    have h1 := H0.out.ext hb
                    clear hb H0
                    go_wp2_with (fail)
                    refine hK.out _ _ h1 (fun hHeld => ?_)
                    clear hK K h1
                    try simp only [Act.put, List.getElem_toArray, List.getElem_cons_succ, List.getElem_cons_zero, List.setIfInBounds_toArray, List.set_cons_zero, List.set_cons_succ]
                    refine wpAnyH_ready (rs := [3]) (by kernel_rfl) (by simp) (AllReadyH.cons rfl (fun K hK => ?_) AllReadyH.nil)
                    have h0 := hHeld
                    clear hHeld
                    try simp only [List.getElem_toArray, List.getElem_cons_succ, List.getElem_cons_zero]
                    have H0 := Lib.hid h0
                    clear h0
                    go_simp
                    go_at_call 81
                    refine (powerD HP2.out HE4.out _).mono ?_
                    rintro e vv ⟨rfl, hb⟩
                    have kz := KZ.out.below hb KZ.out.lt
                    clear KZ
                    have KZ := Lib.hid kz
                    clear kz
                    have h1 := H0.out.ext hb
                    clear hb H0
                    go_wp2_with (fail)
                    refine hK.out _ _ h1 (fun hHeld => ?_)
                    clear hK K h1
                    try simp only [Act.put, List.getElem_toArray, List.getElem_cons_succ, List.getElem_cons_zero, List.setIfInBounds_toArray, List.set_cons_zero, List.set_cons_succ]
                    refine wpAnyH_ready (rs := [4]) (by kernel_rfl) (by simp) (AllReadyH.cons rfl (fun K hK => ?_) AllReadyH.nil)
                    have h0 := hHeld
                    clear hHeld
                    try simp only [List.getElem_toArray, List.getElem_cons_succ, List.getElem_cons_zero]
                    have H0 := Lib.hid h0
                    clear h0
                    go_simp
                    go_at_call 49
                    refine (mulD HY0.out _).mono ?_
                    rintro e vv ⟨rfl, hb⟩
                    have kz := KZ.out.below hb KZ.out.lt
                    clear KZ
                    have KZ := Lib.hid kz
                    clear kz
                    have h1 := H0.out.ext hb
                    clear hb H0
                    go_wp2_with (fail)
                    refine hK.out _ _ h1 (fun hHeld => ?_)
                    clear hK K h1
                    try simp only [Act.put, List.getElem_toArray, List.getElem_cons_succ, List.getElem_cons_zero, List.setIfInBounds_toArray, List.set_cons_zero, List.set_cons_succ]
                    refine wpAnyH_ready (rs := [5]) (by kernel_rfl) (by simp) (AllReadyH.cons rfl (fun K hK => ?_) AllReadyH.nil)
                    have h0 := hHeld
                    clear hHeld
                    try simp only [List.getElem_toArray, List.getElem_cons_succ, List.getElem_cons_zero]
                    rw [if_pos (by rfl)]
                    refine wp_store_row 33 (.tmp 8) (.tmp 45) rfl (g8) (dv y) rfl rfl 33 _ KZ.out (info_dv _) (dv_ss _ _) (dv_one _) ?_
                    refine hK.out _ _ (Fr.setOut h0 (g := g8) (by omega) (by simp <;> omega) (by simp <;> omega) _) (fun hHeld => ?_)
                    have kb := KZ.out.setRow_same (dv y)
                    clear hK K h0
                    try simp only [Act.put, List.getElem_toArray, List.getElem_cons_succ, List.getElem_cons_zero, List.setIfInBounds_toArray, List.set_cons_zero, List.set_cons_succ]
                    have HE := Lib.hid (hHeld.more kb)
                    clear hHeld kb
                    refine wpAnyH_done (by kernel_rfl) ?_ _
                    go_wp2_with (fail)
                    go_meet
                    exact HE.out
                  · have h0 := hHeld
                    clear hHeld
                    try simp only [List.getElem_toArray, List.getElem_cons_succ, List.getElem_cons_zero]
                    have H0 := Lib.hid h0
                    clear h0
                    go_simp
                    go_at_call 82
                    refine (HM2.out _).mono ?_
                    rintro e vv ⟨rfl, hb⟩
                    have kz := KZ.out.below hb KZ.out.lt
                    clear KZ
                    have KZ := Lib.hid kz
                    clear kz
                    have h1 := H0.out.ext hb
                    clear hb H0
                    go_wp2_with (fail)
                    refine hK.out _ _ h1 (fun hHeld => ?_)
                    clear hK K h1
                    try simp only [Act.put, List.getElem_toArray, List.getElem_cons_succ, List.getElem_cons_zero, List.setIfInBounds_toArray, List.set_cons_zero, List.set_cons_succ]
                    refine wpAnyH_ready (rs := [0, 3]) (by kernel_rfl) (by simp) (AllReadyH.cons rfl (fun K hK => ?_) (AllReadyH.cons rfl (fun K hK => ?_) AllReadyH.nil))
                    · have h0 := hHeld
                      clear hHeld
                      try simp only [List.getElem_toArray, List.getElem_cons_succ, List.getElem_cons_zero]
                      rw [if_pos (by rfl)]
                      refine wp_load_row 33 (.tmp 8) rfl (g8) rfl 33 (dv x0) (0, 0) _ KZ.out Tryd.underlying33 rfl (info_dv _) ?_
                      refine hK.out _ _ h0 (fun hHeld => ?_)
                      clear hK K h0
                      try simp only [Act.put, List.getElem_toArray, List.getElem_cons_succ, List.getElem_cons_zero, List.setIfInBounds_toArray, List.set_cons_zero, List.set_cons_succ]
                      refine wpAnyH_ready (rs := [3]) (by kernel_rfl) (by simp) (AllReadyH.cons rfl (fun K hK => ?_) AllReadyH.nil)
                      have h0 := hHeld
                      clear hHeld
                      try simp only [List.getElem_toArray, List.getElem_cons_succ, List.getElem_cons_zero]
                      have H0 := Lib.hid h0
                      clear h0
                      go_simp
                      go_at_call 81
                      refine (powerD HP2.out HE4.out _).mono ?_
                      rintro e vv ⟨rfl, hb⟩
                      have kz := KZ.out.below hb KZ.out.lt
                      clear KZ
                      have KZ := Lib.hid kz
                      clear kz
                      have h1 := H0.out.ext hb
                      clear hb H0
                      go_wp2_with (fail)
                      refine hK.out _ _ h1 (fun hHeld => ?_)
                      clear hK K h1
                      try simp only [Act.put, List.getElem_toArray, List.getElem_cons_succ, List.getElem_cons_zero, List.setIfInBounds_toArray, List.set_cons_zero, List.set_cons_succ]
                      refine wpAnyH_ready (rs := [4]) (by kernel_rfl) (by simp) (AllReadyH.cons rfl (fun K hK => ?_) AllReadyH.nil)
                      have h0 := hHeld
                      clear hHeld
                      try simp only [List.getElem_toArray, List.getElem_cons_succ, List.getElem_cons_zero]
                      have H0 := Lib.hid h0
                      clear h0
                      go_simp
                      go_at_call 49
                      refine (mulD HY0.out _).mono ?_
                      rintro e vv ⟨rfl, hb⟩
                      have kz := KZ.out.below hb KZ.out.lt
                      clear KZ
                      have KZ := Lib.hid kz
                      clear kz
                      have h1 := H0.out.ext hb
                      clear hb H0
                      go_wp2_with (fail)
                      refine hK.out _ _ h1 (fun hHeld => ?_)
                      clear hK K h1
                      try simp only [Act.put, List.getElem_toArray, List.getElem_cons_succ, List.getElem_cons_zero, List.setIfInBounds_toArray, List.set_cons_zero, List.set_cons_succ]
                      refine wpAnyH_ready (rs := [5]) (by kernel_rfl) (by simp) (AllReadyH.cons rfl (fun K hK => ?_) AllReadyH.nil)
                      have h0 := hHeld
                      clear hHeld
                      try simp only [List.getElem_toArray, List.getElem_cons_succ, List.getElem_cons_zero]
                      rw [if_pos (by rfl)]
                      refine wp_store_row 33 (.tmp 8) (.tmp 45) rfl (g8) (dv y) rfl rfl 33 _ KZ.out (info_dv _) (dv_ss _ _) (dv_one _) ?_
                      refine hK.out _ _ (Fr.setOut h0 (g := g8) (by omega) (by simp <;> omega) (by simp <;> omega) _) (fun hHeld => ?_)
                      have kb := KZ.out.setRow_same (dv y)
                      clear hK K h0
                      try simp only [Act.put, List.getElem_toArray, List.getElem_cons_succ, List.getElem_cons_zero, List.setIfInBounds_toArray, List.set_cons_zero, List.set_cons_succ]
                      have HE := Lib.hid (hHeld.more kb)
                      clear hHeld kb
                      refine wpAnyH_done (by kernel_rfl) ?_ _
                      go_wp2_with (fail)
                      go_meet
                      exact HE.out
                    · have h0 := hHeld
                      clear hHeld
                      try simp only [List.getElem_toArray, List.getElem_cons_succ, List.getElem_cons_zero]
                      have H0 := Lib.hid h0
                      clear h0
                      go_simp
                      go_at_call 81
                      refine (powerD HP2.out HE4.out _).mono ?_
                      rintro e vv ⟨rfl, hb⟩
                      have kz := KZ.out.below hb KZ.out.lt
                      clear KZ
                      have KZ := Lib.hid kz
                      clear kz
                      have h1 := H0.out.ext hb
                      clear hb H0
                      go_wp2_with (fail)
                      refine hK.out _ _ h1 (fun hHeld => ?_)
                      clear hK K h1
                      try simp only [Act.put, List.getElem_toArray, List.getElem_cons_succ, List.getElem_cons_zero, List.setIfInBounds_toArray, List.set_cons_zero, List.set_cons_succ]
                      refine wpAnyH_ready (rs := [0]) (by kernel_rfl) (by simp) (AllReadyH.cons rfl (fun K hK => ?_) AllReadyH.nil)
                      have h0 := hHeld
                      clear hHeld
                      try simp only [List.getElem_toArray, List.getElem_cons_succ, List.getElem_cons_zero]
                      rw [if_pos (by rfl)]
                      refine wp_load_row 33 (.tmp 8) rfl (g8) rfl 33 (dv x0) (0, 0) _ KZ.out Tryd.underlying33 rfl (info_dv _) ?_
                      refine hK.out _ _ h0 (fun hHeld => ?_)
                      clear hK K h0
                      try simp only [Act.put, List.getElem_toArray, List.getElem_cons_succ, List.getElem_cons_zero, List.setIfInBounds_toArray, List.set_cons_zero, List.set_cons_succ]
                      refine wpAnyH_ready (rs := [4]) (by kernel_rfl) (by simp) (AllReadyH.cons rfl (fun K hK => ?_) AllReadyH.nil)
                      have h0 := hHeld
                      clear hHeld
                      try simp only [List.getElem_toArray, List.getElem_cons_succ, List.getElem_cons_zero]
                      have H0 := Lib.hid h0
                      clear h0
                      go_simp
                      go_at_call 49
                      refine (mulD HY0.out _).mono ?_
                      rintro e vv ⟨rfl, hb⟩
                      have kz := KZ.out.below hb KZ.out.lt
                      clear KZ
                      have KZ := Lib.hid kz
                      clear kz
                      have h1 := H0.out.ext hb
                      clear hb H0
                      go_wp2_with (fail)
                      refine hK.out _ _ h1 (fun hHeld => ?_)
                      clear hK K h1
                      try simp only [Act.put, List.getElem_toArray, List.getElem_cons_succ, List.getElem_cons_zero, List.setIfInBounds_toArray, List.set_cons_zero, List.set_cons_succ]
                      refine wpAnyH_ready (rs := [5]) (by kernel_rfl) (by simp) (AllReadyH.cons rfl (fun K hK => ?_) AllReadyH.nil)
                      have h0 := hHeld
                      clear hHeld
                      try simp only [List.getElem_toArray, List.getElem_cons_succ, List.getElem_cons_zero]
                      rw [if_pos (by rfl)]
                      refine wp_store_row 33 (.tmp 8) (.tmp 45) rfl (g8) (dv y) rfl rfl 33 _ KZ.out (info_dv _) (dv_ss _ _) (dv_one _) ?_
                      refine hK.out _ _ (Fr.setOut h0 (g := g8) (by omega) (by simp <;> omega) (by simp <;> omega) _) (fun hHeld => ?_)
                      have kb := KZ.out.setRow_same (dv y)
                      clear hK K h0
                      try simp only [Act.put, List.getElem_toArray, List.getElem_cons_succ, List.getElem_cons_zero, List.setIfInBounds_toArray, List.set_cons_zero, List.set_cons_succ]
                      have HE := Lib.hid (hHeld.more kb)
                      clear hHeld kb
                      refine wpAnyH_done (by kernel_rfl) ?_ _
                      go_wp2_with (fail)
                      go_meet
                      exact HE.out
            case rest =>
              clear HF
              have HF := Lib.hid hcut
              clear hcut
              have hf0 := HF.out
              have k8 := hf0.get (g := g8) (t := 33) (cs := dv y) (by simp)
              have c8 := k8.cell 0
              rw [dv_at0] at c8
              obtain ⟨d, hd⟩ : ∃ t, t = y.val % 65536 := ⟨_, rfl⟩
              rw [← hd] at c8
              have hry := rootR_y (e := EE) (i := II) (u := u) HV.out (show q = u * v ^ (PP - 2) by rw [HQ.out, HIV.out]) H0.out (by rw [← HE2D.out, ← HPW.out, ← sm_one, ← HON.out]; exact H1.out) (show x0 = q * q ^ EE by rw [HX0.out, HP0.out, HED.out]) HY.out
              have hr := HR.out
              rw [hry] at hr
              injection hr with hr hb2
              clear hry
              rcases Classical.em (y.val % 2 = 1) with hp | hp
              · obtain ⟨ny, hny⟩ : ∃ t, t = -y := ⟨_, rfl⟩
                rw [evenOf_yes hp, ← hny] at hr
                have HRR := Lib.hid hr
                have HNY := Lib.hid hny
                have hm1 : (d : Int) % 2 = 1 := by omega
                clear hr hny hp hd hf0
                go_wp2_with (first | (refine wpList_load_row rfl 33 (.tmp 8) rfl g8 rfl 33 (dv y) (0, 0) _ k8 Tryd.underlying33 rfl (info_dv _) ?_))
                refine (negD HNY.out _).mono ?_
                rintro e v2 ⟨rfl, hb3⟩
                have hf3 := HF.out.ext hb3
                have k8b := hf3.get (g := g8) (t := 33) (cs := dv y) (by simp)
                have f4 := hf3.setRowHead (by simp <;> omega) (by simp <;> omega) (dv ny) (by omega)
                have k8c := f4.get (g := g8) (t := 33) (cs := dv ny) (by simp)
                have HG := Lib.hid f4
                clear hb3 hf3 f4 k8
                obtain ⟨old, ho, k2⟩ := HG.out.old (g := w.heap.size + 1 + 1) (t := 33) (n := 16) (by simp)
                have kS := k2.setRow_same (dv ny)
                have hB := below_setRow HG.out.below (show w.heap.size ≤ w.heap.size + 1 + 1 by omega) (dv ny)
                have KS := Lib.hid kS
                have HB := Lib.hid hB
                have HO := Lib.hid (show old.size = (dv ny).size by rw [ho, dv_size])
                clear kS hB ho
                go_wp2_with (first | (refine wpList_store_row rfl 33 (.tmp 8) (.tmp 51) rfl g8 (dv ny) rfl rfl 33 (dv y) k8b (info_dv _) (dv_ss _ _) (dv_one _) ?_) | (refine wpList_load_row rfl 33 (.tmp 8) rfl g8 rfl 33 (dv ny) (0, 0) _ k8c Tryd.underlying33 rfl (info_dv _) ?_) | (refine wpList_store_row rfl 33 (.tmp 4) (.tmp 52) rfl (w.heap.size + 1 + 1) (dv ny) rfl rfl 33 old k2 (info_dv _) HO.out (dv_one _) ?_))
                exact bodyPost_ret (results_row_tmp rfl rfl rfl KS.out Tryd.underlying33 rfl (info_dv _)) rfl ⟨by rw [HRR.out, hb2]; rfl, HB.out⟩
              · rw [evenOf_no hp] at hr
                have HRR := Lib.hid hr
                have hm1 : (d : Int) % 2 = 0 := by omega
                have HG := Lib.hid hf0
                clear hr hp hd hf0
                obtain ⟨old, ho, k2⟩ := HG.out.old (g := w.heap.size + 1 + 1) (t := 33) (n := 16) (by simp)
                have kS := k2.setRow_same (dv y)
                have hB := below_setRow HG.out.below (show w.heap.size ≤ w.heap.size + 1 + 1 by omega) (dv y)
                have KS := Lib.hid kS
                have HB := Lib.hid hB
                have HO := Lib.hid (show old.size = (dv y).size by rw [ho, dv_size])
                clear kS hB ho
                go_wp2_with (first | (refine wpList_load_row rfl 33 (.tmp 8) rfl g8 rfl 33 (dv y) (0, 0) _ k8 Tryd.underlying33 rfl (info_dv _) ?_) | (refine wpList_store_row rfl 33 (.tmp 4) (.tmp 52) rfl (w.heap.size + 1 + 1) (dv y) rfl rfl 33 old k2 (info_dv _) HO.out (dv_one _) ?_))
                exact bodyPost_ret (results_row_tmp rfl rfl rfl KS.out Tryd.underlying33 rfl (info_dv _)) rfl ⟨by rw [HRR.out, hb2]; rfl, HB.out⟩
        · rw [decide_eq_false h1] at hq1
          have hr := HR.out
          rw [rootR_n HV.out (by rw [HQ.out, HIV.out]) H0.out (by rw [← HE2D.out, ← HPW.out, ← sm_one, ← HON.out]; exact h1)] at hr
          injection hr with hr hb
          have HRR := Lib.hid hr
          clear hr h1
          refine wp_region_held_drew (S := fun W => Fr w W [(g6, 33, dv q), (w.heap.size + 1, 33, dv v), (w.heap.size, 33, dv u)] [(w.heap.size + 1 + 1, 33, 16)]) (by kernel_rfl) ?_ (fun hHeld => ?_)
          · exact HF.out.drew
          refine wpAnyH_take (i := 0) (v := .agg (dv q)) rfl (by kernel_rfl) (by kernel_rfl) (by kernel_rfl) (fun _ _ _ h => h) (yields_row (by rfl) 33 (.tmp 6) rfl (g6) rfl 33 (dv q) _ (fun W (h : Fr _ W _ _) => h.get (by simp)) Tryd.underlying33 rfl (info_dv _)) hHeld ?_
          try simp only [Act.put, List.getElem_toArray, List.getElem_cons_succ, List.getElem_cons_zero, List.setIfInBounds_toArray, List.set_cons_zero, List.set_cons_succ]
          refine wpAnyH_ready (rs := [1]) (by kernel_rfl) (by simp) (AllReadyH.cons rfl (fun K hK => ?_) AllReadyH.nil)
          have h0 := hHeld
          clear hHeld
          try simp only [List.getElem_toArray, List.getElem_cons_succ, List.getElem_cons_zero]
          have H0 := Lib.hid h0
          clear h0
          go_simp
          go_at_call 82
          refine (HM1.out _).mono ?_
          rintro e vv ⟨rfl, hb⟩
          have h1 := H0.out.ext hb
          clear hb H0
          go_wp2_with (fail)
          refine hK.out _ _ h1 (fun hHeld => ?_)
          clear hK K h1
          try simp only [Act.put, List.getElem_toArray, List.getElem_cons_succ, List.getElem_cons_zero, List.setIfInBounds_toArray, List.set_cons_zero, List.set_cons_succ]
          refine wpAnyH_ready (rs := [2]) (by kernel_rfl) (by simp) (AllReadyH.cons rfl (fun K hK => ?_) AllReadyH.nil)
          have h0 := hHeld
          clear hHeld
          try simp only [List.getElem_toArray, List.getElem_cons_succ, List.getElem_cons_zero]
          have H0 := Lib.hid h0
          clear h0
          go_simp
          go_at_call 81
          refine (powerD HPW.out HE2.out _).mono ?_
          rintro e vv ⟨rfl, hb⟩
          have h1 := H0.out.ext hb
          clear hb H0
          go_wp2_with (fail)
          refine hK.out _ _ h1 (fun hHeld => ?_)
          clear hK K h1
          try simp only [Act.put, List.getElem_toArray, List.getElem_cons_succ, List.getElem_cons_zero, List.setIfInBounds_toArray, List.set_cons_zero, List.set_cons_succ]
          refine wpAnyH_ready (rs := [3]) (by kernel_rfl) (by simp) (AllReadyH.cons rfl (fun K hK => ?_) AllReadyH.nil)
          have h0 := hHeld
          clear hHeld
          try simp only [List.getElem_toArray, List.getElem_cons_succ, List.getElem_cons_zero]
          have H0 := Lib.hid h0
          clear h0
          go_simp
          go_at_call 50
          refine (HS1.out _).mono ?_
          rintro e vv ⟨rfl, hb⟩
          have h1 := H0.out.ext hb
          clear hb H0
          go_wp2_with (fail)
          refine hK.out _ _ h1 (fun hHeld => ?_)
          clear hK K h1
          try simp only [Act.put, List.getElem_toArray, List.getElem_cons_succ, List.getElem_cons_zero, List.setIfInBounds_toArray, List.set_cons_zero, List.set_cons_succ]
          refine wpAnyH_take (i := 4) (v := ?_) rfl (by kernel_rfl) (by kernel_rfl) (by kernel_rfl) (fun _ _ _ h => h) (Or.inl ⟨by rfl, ?_⟩) hHeld ?_
          rotate_left
          · (intro W hSw; (try dsimp only at hSw); (try simp only [List.getElem_toArray, List.getElem_cons_succ, List.getElem_cons_zero]); go_simp; try with_reducible rfl)
          try simp only [Act.put, List.getElem_toArray, List.getElem_cons_succ, List.getElem_cons_zero, List.setIfInBounds_toArray, List.set_cons_zero, List.set_cons_succ]
          have HF2 := Lib.hid hHeld
          clear hHeld HF
          have HF := HF2
          clear HF2
          refine wpAnyH_done (by kernel_rfl) ?_ _
          obtain ⟨old, ho, k2⟩ := HF.out.old (g := w.heap.size + 1 + 1) (t := 33) (n := 16) (by simp)
          have kS := k2.setRow_same #[.int .u64 0, .int .u64 0, .int .u64 0, .int .u64 0, .int .u64 0, .int .u64 0, .int .u64 0, .int .u64 0, .int .u64 0, .int .u64 0, .int .u64 0, .int .u64 0, .int .u64 0, .int .u64 0, .int .u64 0, .int .u64 0]
          have hB := below_setRow HF.out.below (show w.heap.size ≤ w.heap.size + 1 + 1 by omega) #[.int .u64 0, .int .u64 0, .int .u64 0, .int .u64 0, .int .u64 0, .int .u64 0, .int .u64 0, .int .u64 0, .int .u64 0, .int .u64 0, .int .u64 0, .int .u64 0, .int .u64 0, .int .u64 0, .int .u64 0, .int .u64 0]
          have KS := Lib.hid kS
          have HB := Lib.hid hB
          have HO := Lib.hid (show old.size = (#[.int .u64 0, .int .u64 0, .int .u64 0, .int .u64 0, .int .u64 0, .int .u64 0, .int .u64 0, .int .u64 0, .int .u64 0, .int .u64 0, .int .u64 0, .int .u64 0, .int .u64 0, .int .u64 0, .int .u64 0, .int .u64 0] : Array Value).size by rw [ho]; rfl)
          have HI := Lib.hid (show (Tryd.prog.info? 33).map (·.size) = some (#[.int .u64 0, .int .u64 0, .int .u64 0, .int .u64 0, .int .u64 0, .int .u64 0, .int .u64 0, .int .u64 0, .int .u64 0, .int .u64 0, .int .u64 0, .int .u64 0, .int .u64 0, .int .u64 0, .int .u64 0, .int .u64 0] : Array Value).size by rw [← dv_z]; exact info_dv 0)
          have HN1 := Lib.hid (show (#[.int .u64 0, .int .u64 0, .int .u64 0, .int .u64 0, .int .u64 0, .int .u64 0, .int .u64 0, .int .u64 0, .int .u64 0, .int .u64 0, .int .u64 0, .int .u64 0, .int .u64 0, .int .u64 0, .int .u64 0, .int .u64 0] : Array Value).all (·.oneCell') = true by rw [← dv_z]; exact dv_one 0)
          clear kS hB ho
          go_wp2_with (first | (refine wpList_store_row rfl 33 (.tmp 4) (.tmp 29) rfl (w.heap.size + 1 + 1) #[.int .u64 0, .int .u64 0, .int .u64 0, .int .u64 0, .int .u64 0, .int .u64 0, .int .u64 0, .int .u64 0, .int .u64 0, .int .u64 0, .int .u64 0, .int .u64 0, .int .u64 0, .int .u64 0, .int .u64 0, .int .u64 0] rfl rfl 33 old k2 HI.out HO.out HN1.out ?_))
          exact bodyPost_ret (results_row_tmp rfl rfl rfl KS.out Tryd.underlying33 rfl HI.out) rfl ⟨by rw [HRR.out, hb, dv_z]; rfl, HB.out⟩
end Go.Proofs.YtcijaoihcckofaaDoor
namespace Go.Proofs.YtcijaoihcckofaaDoor
set_option linter.unusedVariables false
set_option linter.unusedSimpArgs false
set_option maxRecDepth 100000
open Go Go.RowKit
section
variable {P : Program} {W : World} {g o : Nat} {t ty : TypeId} {cs pre mid post new : Array Value} {d : TypeDesc}
/-- A load of a row out of the midst of a row. -/
theorem ld_mid (hb : Blk W g t cs) (he : cs = pre ++ mid ++ post) (ho : o = pre.size) (hu : P.underlying ty = some d) (hd : d.isRow = true) (hi : (P.info? ty).map (·.size) = some mid.size) :
    (Instr.loadAt ty (.pointer (some ⟨g, o, none⟩))).run P W = .ok (.agg mid) W := by
  subst ho
  have hr : W.rangeAt g pre.size mid.toList := fun j v hv => by
    have hj : j < mid.size := by
      have := (List.getElem?_eq_some_iff.1 hv).1
      simpa using this
    rw [hb.cell, he, Array.getElem?_append_left (by simp; omega), Array.getElem?_append_right (by omega), show pre.size + j - pre.size = j by omega]
    simpa using hv
  have := run_loadAt_mid W g pre.size ty mid.toList d hr hu hd (by simpa using hi)
  simpa using this
theorem setV_get (vs : List Value) : ∀ (o : Nat) (cs : Array Value) (i : Nat), (setV cs o vs)[i]? = if o ≤ i ∧ i < o + vs.length ∧ i < cs.size then vs[i - o]? else cs[i]? := by
  induction vs with
  | nil =>
    intro o cs i
    have : ¬ (o ≤ i ∧ i < o + ([] : List Value).length ∧ i < cs.size) := by simp; omega
    rw [if_neg this]
    rfl
  | cons v r ih =>
    intro o cs i
    show (setV (cs.setIfInBounds o v) (o + 1) r)[i]? = _
    rw [ih]
    simp only [List.length_cons, Array.size_setIfInBounds]
    by_cases h1 : o + 1 ≤ i ∧ i < o + 1 + r.length ∧ i < cs.size
    · rw [if_pos h1, if_pos (by omega), show i - o = (i - (o + 1)) + 1 by omega]
      rfl
    · rw [if_neg h1]
      by_cases h2 : o = i
      · subst h2
        by_cases h3 : o < cs.size
        · rw [if_pos (by omega), Nat.sub_self]
          simp [h3]
        · rw [if_neg (by omega)]
          simp [h3]
      · rw [if_neg (by omega), Array.getElem?_setIfInBounds_ne h2]
theorem setV_mid (he : cs = pre ++ mid ++ post) (hs : mid.size = new.size) : setV cs pre.size new.toList = pre ++ new ++ post := by
  apply Array.ext_getElem?
  intro i
  rw [setV_get, he]
  by_cases h1 : i < pre.size
  · rw [if_neg (by omega), Array.getElem?_append_left (by simp; omega), Array.getElem?_append_left h1, Array.getElem?_append_left (by simp; omega), Array.getElem?_append_left h1]
  · by_cases h2 : i < pre.size + new.size
    · rw [if_pos (by simp; omega), Array.getElem?_append_left (by simp; omega), Array.getElem?_append_right (by omega)]
      simp
    · rw [if_neg (by simp; omega), Array.getElem?_append_right (by simp; omega), Array.getElem?_append_right (by simp; omega)]
      simp [hs]
/-- A store of a row into the midst of a row. -/
theorem st_mid (hb : Blk W g t cs) (he : cs = pre ++ mid ++ post) (hs : mid.size = new.size) (ho : o = pre.size) (hi : (P.info? ty).map (·.size) = some new.size) (h1 : new.all (·.oneCell') = true) :
    (Instr.storeAt ty (.pointer (some ⟨g, o, none⟩)) (.agg new)).run P W = .ok () (W.setCells g o new.toList) := by
  subst ho
  refine run_storeAt_mid W g pre.size ty new (fun j hj => ⟨?_, hb.frozen _⟩) hi h1
  rw [hb.cell, he]
  have : pre.size + j < (pre ++ mid ++ post).size := by simp; omega
  rw [Array.getElem?_eq_getElem this]
  rfl
end
theorem al_num (W : World) : (Instr.alloc 33 true (.tuple #[])).run Tryd.prog W = .ok (.pointer (some ⟨W.heap.size, 0, none⟩)) (W.alloc (.cells (dv 0) 33)) := by kernel_rfl
theorem bx_num (x : Fin PP) (W : World) : (Instr.box 33 (.agg (dv x))).run Tryd.prog W = .ok (.pointer (some ⟨W.heap.size, 0, none⟩)) (W.alloc (.cells (dv x) 33)) := by kernel_rfl
theorem bd_num0 (W : World) : (Instr.build 33 ([] : List (Nat × Value)).toArray).run Tryd.prog W = .ok (.agg (dv 0)) W := by kernel_rfl
/-- A point's cells. -/
def tv (r : Pj3) : Array Value := dv r.X ++ dv r.Y ++ dv r.Z
theorem tv_size (r : Pj3) : (tv r).size = 48 := by unfold tv; rw [Array.size_append, Array.size_append, dv_size, dv_size, dv_size]
theorem tv_one (r : Pj3) : (tv r).all (·.oneCell') = true := by unfold tv; rw [Array.all_append, Array.all_append, dv_one, dv_one, dv_one]; rfl
def RZ : Pj3 := ⟨0, 0, 0⟩
theorem info_rpt (r : Pj3) : (Tryd.prog.info? 35).map (·.size) = some (tv r).size := by rw [tv_size]; kernel_rfl
theorem al_rpt (W : World) : (Instr.alloc 35 true (.tuple #[])).run Tryd.prog W = .ok (.pointer (some ⟨W.heap.size, 0, none⟩)) (W.alloc (.cells (tv RZ) 35)) := by kernel_rfl
theorem bx_rpt (r : Pj3) (W : World) : (Instr.box 35 (.agg (tv r))).run Tryd.prog W = .ok (.pointer (some ⟨W.heap.size, 0, none⟩)) (W.alloc (.cells (tv r) 35)) := by kernel_rfl
theorem fa_rpt (g : Nat) (W : World) : (Instr.fieldAt 35 (.pointer (some ⟨g, 0, none⟩)) 0).run Tryd.prog W = .ok (.pointer (some ⟨g, 0, none⟩)) W ∧ (Instr.fieldAt 35 (.pointer (some ⟨g, 0, none⟩)) 1).run Tryd.prog W = .ok (.pointer (some ⟨g, 16, none⟩)) W ∧ (Instr.fieldAt 35 (.pointer (some ⟨g, 0, none⟩)) 2).run Tryd.prog W = .ok (.pointer (some ⟨g, 32, none⟩)) W := by
  refine ⟨by kernel_rfl, by kernel_rfl, by kernel_rfl⟩
theorem tv_0 (r : Pj3) : tv r = #[] ++ dv r.X ++ (dv r.Y ++ dv r.Z) := by unfold tv; simp
theorem tv_1 (r : Pj3) : tv r = dv r.X ++ dv r.Y ++ dv r.Z := rfl
theorem tv_2 (r : Pj3) : tv r = (dv r.X ++ dv r.Y) ++ dv r.Z ++ #[] := by unfold tv; simp
theorem ld_rpt0 {g : Nat} {t : TypeId} {r : Pj3} (W : World) (h : Blk W g t (tv r)) : (Instr.loadAt 33 (.pointer (some ⟨g, 0, none⟩))).run Tryd.prog W = .ok (.agg (dv r.X)) W := ld_mid h (tv_0 r) rfl Tryd.underlying33 rfl (info_dv _)
theorem ld_rpt1 {g : Nat} {t : TypeId} {r : Pj3} (W : World) (h : Blk W g t (tv r)) : (Instr.loadAt 33 (.pointer (some ⟨g, 16, none⟩))).run Tryd.prog W = .ok (.agg (dv r.Y)) W := ld_mid h (tv_1 r) (dv_size _).symm Tryd.underlying33 rfl (info_dv _)
theorem ld_rpt2 {g : Nat} {t : TypeId} {r : Pj3} (W : World) (h : Blk W g t (tv r)) : (Instr.loadAt 33 (.pointer (some ⟨g, 32, none⟩))).run Tryd.prog W = .ok (.agg (dv r.Z)) W := ld_mid h (tv_2 r) (by rw [Array.size_append, dv_size, dv_size]) Tryd.underlying33 rfl (info_dv _)
theorem bd_rpt (x y z : Fin PP) (W : World) : (Instr.build 35 [(0, .agg (dv x)), (1, .agg (dv y)), (2, .agg (dv z))].toArray).run Tryd.prog W = .ok (.agg (tv ⟨x, y, z⟩)) W := run_build W 35 _ _ (by kernel_rfl)
theorem bd_rpt12 (y z : Fin PP) (W : World) : (Instr.build 35 [(1, .agg (dv y)), (2, .agg (dv z))].toArray).run Tryd.prog W = .ok (.agg (tv ⟨0, y, z⟩)) W := run_build W 35 _ _ (by kernel_rfl)
/-- A curve's cells. -/
def cv (d : Fin PP) (r : Pj3) : Array Value := dv d ++ tv r
theorem cv_size (d : Fin PP) (r : Pj3) : (cv d r).size = 64 := by unfold cv; rw [Array.size_append, dv_size, tv_size]
theorem cv_one (d : Fin PP) (r : Pj3) : (cv d r).all (·.oneCell') = true := by unfold cv; rw [Array.all_append, dv_one, tv_one]; rfl
theorem info_cv (d : Fin PP) (r : Pj3) : (Tryd.prog.info? 38).map (·.size) = some (cv d r).size := by rw [cv_size]; kernel_rfl
theorem al_cv (W : World) : (Instr.alloc 38 true (.tuple #[])).run Tryd.prog W = .ok (.pointer (some ⟨W.heap.size, 0, none⟩)) (W.alloc (.cells (cv 0 RZ) 38)) := by kernel_rfl
theorem bx_cv (d : Fin PP) (r : Pj3) (W : World) : (Instr.box 38 (.agg (cv d r))).run Tryd.prog W = .ok (.pointer (some ⟨W.heap.size, 0, none⟩)) (W.alloc (.cells (cv d r) 38)) := by kernel_rfl
theorem fa_cv (g : Nat) (W : World) : (Instr.fieldAt 38 (.pointer (some ⟨g, 0, none⟩)) 0).run Tryd.prog W = .ok (.pointer (some ⟨g, 0, none⟩)) W ∧ (Instr.fieldAt 38 (.pointer (some ⟨g, 0, none⟩)) 1).run Tryd.prog W = .ok (.pointer (some ⟨g, 16, none⟩)) W := by
  refine ⟨by kernel_rfl, by kernel_rfl⟩
theorem cv_0 (d : Fin PP) (r : Pj3) : cv d r = #[] ++ dv d ++ tv r := by unfold cv; simp
theorem cv_1 (d : Fin PP) (r : Pj3) : cv d r = dv d ++ tv r ++ #[] := by unfold cv; simp
theorem ld_cv0 {g : Nat} {t : TypeId} {d : Fin PP} {r : Pj3} (W : World) (h : Blk W g t (cv d r)) : (Instr.loadAt 33 (.pointer (some ⟨g, 0, none⟩))).run Tryd.prog W = .ok (.agg (dv d)) W := ld_mid h (cv_0 d r) rfl Tryd.underlying33 rfl (info_dv _)
theorem ld_cv1 {g : Nat} {t : TypeId} {d : Fin PP} {r : Pj3} (W : World) (h : Blk W g t (cv d r)) : (Instr.loadAt 35 (.pointer (some ⟨g, 16, none⟩))).run Tryd.prog W = .ok (.agg (tv r)) W := ld_mid h (cv_1 d r) (dv_size _).symm Tryd.underlying35 rfl (info_rpt _)
attribute [local irreducible] dv tv cv
theorem st_cv0 {g : Nat} {t : TypeId} {d d' : Fin PP} {r : Pj3} (W : World) (h : Blk W g t (cv d r)) : (Instr.storeAt 33 (.pointer (some ⟨g, 0, none⟩)) (.agg (dv d'))).run Tryd.prog W = .ok () (W.setCells g 0 (dv d').toList) := st_mid h (cv_0 d r) (by rw [dv_size, dv_size]) rfl (info_dv _) (dv_one _)
theorem sv_cv0 {d d' : Fin PP} {r : Pj3} : setV (cv d r) 0 (dv d').toList = cv d' r := by
  rw [cv_0 d' r]
  exact setV_mid (cv_0 d r) (by rw [dv_size, dv_size])
theorem st_cv1 {g : Nat} {t : TypeId} {d : Fin PP} {r r' : Pj3} (W : World) (h : Blk W g t (cv d r)) : (Instr.storeAt 35 (.pointer (some ⟨g, 16, none⟩)) (.agg (tv r'))).run Tryd.prog W = .ok () (W.setCells g 16 (tv r').toList) := st_mid h (cv_1 d r) (by rw [tv_size, tv_size]) (dv_size _).symm (info_rpt _) (tv_one _)
theorem sv_cv1 {d : Fin PP} {r r' : Pj3} : setV (cv d r) 16 (tv r').toList = cv d r' := by
  have h := setV_mid (pre := dv d) (mid := tv r) (post := #[]) (new := tv r') (cv_1 d r) (by rw [tv_size, tv_size])
  rw [dv_size, ← cv_1 d r'] at h
  exact h
theorem eq_num {x y : Fin PP} {b : Bool} (h : decide (x = y) = b) (p q : Operand) (W : World) : (do eqGuard .eql 33 p q (.agg (dv x)) (.agg (dv y)); binOp .eql 33 (.agg (dv x)) (.agg (dv y)) : Sem Value).run Tryd.prog W = .ok (.bool b) W := by
  have hq := nums_eq h W
  go_simp
theorem rrootC {u v r : Fin PP} {b : Bool} (h : (r, b) = rootC EE II u v) (w : World) : Calls Tryd.prog 83 #[.agg (dv u), .agg (dv v)] w fun e w' => e = .returned (.tuple #[.agg (dv r), .bool b]) ∧ Below w.heap.size w w' := rrootD (by rw [h, rootC_eq PP_prime PP_EE II_sq]) w
theorem fq_add_comm {p : Nat} [NeZero p] (a b : Fin p) : a + b = b + a := by grind
theorem al_key0 (W : World) : (Instr.alloc 23 true (.tuple #[])).run Tryd.prog W = .ok (.pointer (some ⟨W.heap.size, 0, none⟩)) (W.alloc (.cells (ks 0) 23)) := by kernel_rfl
theorem bx_keyr (n : Nat) (W : World) : (Instr.box 23 (.agg (ks n))).run Tryd.prog W = .ok (.pointer (some ⟨W.heap.size, 0, none⟩)) (W.alloc (.cells (ks n) 23)) := by kernel_rfl
theorem ia_key31r (g : Nat) (W : World) : (Instr.indexAt 23 (.pointer (some ⟨g, 0, none⟩)) (.int .i64 31)).run Tryd.prog W = .ok (.pointer (some ⟨g, 31, none⟩)) W := by kernel_rfl
theorem ld_key31r {n x : Nat} (hx : n / 256 ^ 31 % 256 = x) {g : Nat} (W : World) (h : Blk W g 23 (ks n)) : (Instr.loadAt 5 (.pointer (some ⟨g, 31, none⟩))).run Tryd.prog W = .ok (.int .u8 (x : Int)) W := by
  have hc := h.cell 31
  rw [ks_get n (by omega), hx] at hc
  go_simp
theorem st_key31r {n : Nat} {v : Int} {g : Nat} (W : World) (h : Blk W g 23 (ks n)) : (Instr.storeAt 5 (.pointer (some ⟨g, 31, none⟩)) (.int .u8 v)).run Tryd.prog W = .ok () (W.setCells g 31 [.int .u8 v]) := by
  have hc := h.cell 31
  have hf := h.frozen 31
  rw [ks_get n (by omega)] at hc
  have hs : (W.cell? ⟨g, 31, none⟩).isSome = true := by rw [hc]; rfl
  show _ = Result.ok () (W.setCell ⟨g, 31, none⟩ (.int .u8 v))
  go_simp
theorem sv_key31r {n m : Nat} {x : Nat} (hx : x < 256) (hm : putd 256 n 31 x = m) : setV (ks n) 31 [.int .u8 (x : Int)] = ks m := by
  show (ks n).setIfInBounds 31 (.int .u8 (x : Int)) = ks m
  rw [ks_put (by omega) hx, hm]
section
variable {P : Program} {t : TypeId}
theorem b_quo128 {x y : Nat} (hx : x < 256) (h : x / 128 = y) (p q : Operand) (W : World) : (do eqGuard .quo t p q (.int .u8 (x : Int)) (.int .u8 128); binOp .quo t (.int .u8 (x : Int)) (.int .u8 128) : Sem Value).run P W = .ok (.int .u8 (y : Int)) W := by
  have e : IntKind.u8.wrap ((x : Int) / 128) = (y : Int) := by rw [IntWalk.u8_in _ (by omega)]; omega
  go_simp
theorem b_rem128 {x y : Nat} (hx : x < 256) (h : x % 128 = y) (p q : Operand) (W : World) : (do eqGuard .rem t p q (.int .u8 (x : Int)) (.int .u8 128); binOp .rem t (.int .u8 (x : Int)) (.int .u8 128) : Sem Value).run P W = .ok (.int .u8 (y : Int)) W := by
  have e : (x : Int).tmod 128 = (y : Int) := by rw [Int.tmod_eq_emod_of_nonneg (by omega)]; omega
  go_simp
theorem b_eql1 {y : Nat} {b : Bool} (h : decide (y = 1) = b) (p q : Operand) (W : World) : (do eqGuard .eql t p q (.int .u8 (y : Int)) (.int .u8 1); binOp .eql t (.int .u8 (y : Int)) (.int .u8 1) : Sem Value).run P W = .ok (.bool b) W := by
  have e : ((y : Int) == 1) = b := by
    rw [← h]
    by_cases hy : y = 1
    · subst hy; rfl
    · have : ¬ (y : Int) = 1 := by omega
      simp [hy, this]
  go_simp
theorem b_rem2 {x y : Nat} (h : x % 2 = y) (p q : Operand) (W : World) : (do eqGuard .rem t p q (.int .u8 (x : Int)) (.int .u8 2); binOp .rem t (.int .u8 (x : Int)) (.int .u8 2) : Sem Value).run P W = .ok (.int .u8 (y : Int)) W := by
  have e : (x : Int).tmod 2 = (y : Int) := by rw [Int.tmod_eq_emod_of_nonneg (by omega)]; omega
  go_simp
theorem q_rem2 {x y : Nat} (h : x % 2 = y) (p q : Operand) (W : World) : (do eqGuard .rem t p q (.int .u64 (x : Int)) (.int .u64 2); binOp .rem t (.int .u64 (x : Int)) (.int .u64 2) : Sem Value).run P W = .ok (.int .u64 (y : Int)) W := by
  have e : (x : Int).tmod 2 = (y : Int) := by rw [Int.tmod_eq_emod_of_nonneg (by omega)]; omega
  go_simp
theorem b_mul128 {x y : Nat} (hx : x < 2) (h : x * 128 = y) (p q : Operand) (W : World) : (do eqGuard .mul t p q (.int .u8 (x : Int)) (.int .u8 128); binOp .mul t (.int .u8 (x : Int)) (.int .u8 128) : Sem Value).run P W = .ok (.int .u8 (y : Int)) W := by
  have e : IntKind.u8.wrap ((x : Int) * 128) = (y : Int) := by rw [IntWalk.u8_in _ (by omega)]; omega
  go_simp
theorem b_add {x y z : Nat} (h : x + y = z) (hz : z < 256) (p q : Operand) (W : World) : (do eqGuard .add t p q (.int .u8 (x : Int)) (.int .u8 (y : Int)); binOp .add t (.int .u8 (x : Int)) (.int .u8 (y : Int)) : Sem Value).run P W = .ok (.int .u8 (z : Int)) W := by
  have e : IntKind.u8.wrap ((x : Int) + (y : Int)) = (z : Int) := by rw [IntWalk.u8_in _ (by omega)]; omega
  go_simp
end
theorem cv_u64_u8 {x : Nat} (hx : x < 256) (W : World) : (convert 24 5 (.int .u64 (x : Int))).run Tryd.prog W = .ok (.int .u8 (x : Int)) W := by
  have e : IntKind.u8.wrap (x : Int) = (x : Int) := IntWalk.u8_in _ (by omega)
  go_simp
theorem ia_num0 (g : Nat) (W : World) : (Instr.indexAt 33 (.pointer (some ⟨g, 0, none⟩)) (.int .i64 0)).run Tryd.prog W = .ok (.pointer (some ⟨g, 0, none⟩)) W := by kernel_rfl
theorem ld_num0 {x : Fin PP} {y : Nat} (hy : x.val % 65536 = y) {g : Nat} {t : TypeId} (W : World) (h : Blk W g t (dv x)) : (Instr.loadAt 24 (.pointer (some ⟨g, 0, none⟩))).run Tryd.prog W = .ok (.int .u64 (y : Int)) W := by
  have hc := h.cell 0
  rw [dv_at0, hy] at hc
  go_simp
theorem i_quo8n {P : Program} {t : TypeId} {i j : Nat} (hi : i < 256) (h : i / 8 = j) (x y : Operand) (W : World) : (do eqGuard .quo t x y (.int .i64 (i : Int)) (.int .i64 8); binOp .quo t (.int .i64 (i : Int)) (.int .i64 8) : Sem Value).run P W = .ok (.int .i64 (j : Int)) W := by
  rw [i_quo8 _ (by omega), show (i : Int) / 8 = (j : Int) by omega]
theorem i_rem8n {P : Program} {t : TypeId} {i j : Nat} (hi : i < 256) (h : i % 8 = j) (x y : Operand) (W : World) : (do eqGuard .rem t x y (.int .i64 (i : Int)) (.int .i64 8); binOp .rem t (.int .i64 (i : Int)) (.int .i64 8) : Sem Value).run P W = .ok (.int .i64 (j : Int)) W := by
  rw [i_rem8 _ (by omega), show (i : Int) % 8 = (j : Int) by omega]
theorem i_geq_yes {P : Program} {t : TypeId} {k : Int} (h : k ≥ 0) (x y : Operand) (W : World) : (do eqGuard .geq t x y (.int .i64 k) (.int .i64 0); binOp .geq t (.int .i64 k) (.int .i64 0) : Sem Value).run P W = .ok (.bool true) W := by
  rw [i_geq, decide_eq_true h]
theorem i_geq_no {P : Program} {t : TypeId} {k : Int} (h : ¬ k ≥ 0) (x y : Operand) (W : World) : (do eqGuard .geq t x y (.int .i64 k) (.int .i64 0); binOp .geq t (.int .i64 k) (.int .i64 0) : Sem Value).run P W = .ok (.bool false) W := by
  rw [i_geq, decide_eq_false h]
theorem ia_keyn {j : Nat} (hj : j < 32) {g : Nat} (W : World) : (Instr.indexAt 23 (.pointer (some ⟨g, 0, none⟩)) (.int .i64 (j : Int))).run Tryd.prog W = .ok (.pointer (some ⟨g, j, none⟩)) W := by
  have h1 : (0 : Int) ≤ (j : Int) := by omega
  have h2 : (j : Int) < 32 := by omega
  go_simp
theorem ld_keyn {n j x : Nat} (hj : j < 32) (hx : n / 256 ^ j % 256 = x) {g : Nat} (W : World) (h : Blk W g 23 (ks n)) : (Instr.loadAt 5 (.pointer (some ⟨g, j, none⟩))).run Tryd.prog W = .ok (.int .u8 (x : Int)) W := by
  have hc := h.cell j
  rw [ks_get n hj, hx] at hc
  go_simp
theorem cv_int_uint {x : Nat} (hx : x < 9223372036854775808) (W : World) : (convert 3 83 (.int .i64 (x : Int))).run Tryd.prog W = .ok (.int .u64 (x : Int)) W := by
  have e : IntKind.u64.wrap (x : Int) = (x : Int) := IntWalk.u64_in _ (by omega)
  go_simp
theorem b_shr {x r y : Nat} (hr : r < 8) (h : x / 2 ^ r = y) (p q : Operand) (W : World) : (do eqGuard .shr 5 p q (.int .u8 (x : Int)) (.int .u64 (r : Int)); binOp .shr 5 (.int .u8 (x : Int)) (.int .u64 (r : Int)) : Sem Value).run Tryd.prog W = .ok (.int .u8 (y : Int)) W := by
  have e : (x : Int) / 2 ^ r = (y : Int) := by rw [← h]; simp
  go_simp
end Go.Proofs.YtcijaoihcckofaaDoor
namespace Go.Proofs.YtcijaoihcckofaaDoor
set_option linter.unusedVariables false
set_option linter.unusedSimpArgs false
set_option maxRecDepth 100000
open Go Go.RowKit
attribute [local irreducible] dv tv cv ks rpMul rootC EE II TD BX BY
set_option maxHeartbeats 4000000 in
theorem rnought {r : Pj3} (h : r = rpNil) (w : World) : Calls Tryd.prog 56 #[] w (fun rr w' => rr = .returned (.agg (tv r)) ∧ Below w.heap.size w w') := by
  obtain ⟨z1, hz1⟩ : ∃ z : Fin PP, z = sm 1 := ⟨_, rfl⟩
  obtain ⟨z2, hz2⟩ : ∃ z : Fin PP, z = sm 1 := ⟨_, rfl⟩
  refine calls_st (vs := []) 4 Tryd.func56 rfl Tryd.ntmps56 rfl (fun a W H => ?_)
  replace H : St 4 w a W [] [] := H
  refine wp_seq_k (fun K1 hK1 => ?_)
  refine rg_plain ?_
  refine pl_new (news_of rfl al_rpt) rfl rfl rfl rfl H ?_
  clear H a W
  intro g1 a W H
  refine pl_end ?_
  refine hK1 _ _ ?_
  clear hK1
  refine wp_seq_k (fun K2 hK2 => ?_)
  refine rg_plain ?_
  refine pl_does (does_call rfl ⟨_, Tryd.func50, by kernel_rfl⟩ rfl (fun W hb => smallD 1 hz1 (by omega) W)) rfl rfl rfl rfl H ?_
  clear H a W
  intro a W H
  refine pl_does (does_call rfl ⟨_, Tryd.func50, by kernel_rfl⟩ rfl (fun W hb => smallD 1 hz2 (by omega) W)) rfl rfl rfl rfl H ?_
  clear H a W
  intro a W H
  refine pl_does (does_build rfl rfl (bd_rpt12 z1 z2)) rfl rfl rfl rfl H ?_
  clear H a W
  intro a W H
  refine pl_store rfl rfl rfl (k := 0) rfl (info_rpt _) (by simp only [dv_size, ds_size, tv_size, cv_size, ks_size]) (tv_one _) rfl rfl H ?_
  clear H a W
  intro a W H
  refine pl_end ?_
  replace H : St 4 w a W [(0, .pointer (some ⟨g1, 0, none⟩))] [(g1, 35, tv ⟨0, z1, z2⟩)] := H.pick [3] [0] rfl
  refine hK2 _ _ ?_
  clear hK2
  refine wp_ret ?_
  repeat (first | (with_reducible refine then_ret ?_) | (with_reducible refine blk_ret ?_))
  refine end_cell (p := 0) rfl rfl (k := 0) rfl Tryd.underlying35 rfl (info_rpt _) H (fun hb => ?_)
  refine ⟨?_, hb⟩
  rw [h, hz1, hz2]
  rfl
set_option maxHeartbeats 4000000 in
theorem rneg_pt {p r : Pj3} (h : r = rpNeg p) (w : World) : Calls Tryd.prog 24 #[.agg (tv p)] w (fun rr w' => rr = .returned (.agg (tv r)) ∧ Below w.heap.size w w') := by
  obtain ⟨z1, hz1⟩ : ∃ z : Fin PP, z = -p.X := ⟨_, rfl⟩
  refine calls_st (vs := [.agg (tv p)]) 11 Tryd.func24 rfl Tryd.ntmps24 rfl (fun a W H => ?_)
  replace H : St 11 w a W [(0, .agg (tv p))] [] := H
  refine wp_seq_k (fun K1 hK1 => ?_)
  refine rg_plain ?_
  refine pl_box rfl rfl (bx_rpt p) rfl rfl rfl rfl H ?_
  clear H a W
  intro g1 a W H
  refine pl_new (news_of rfl al_rpt) rfl rfl rfl rfl H ?_
  clear H a W
  intro g2 a W H
  refine pl_end ?_
  replace H : St 11 w a W [(2, .pointer (some ⟨g2, 0, none⟩)), (1, .pointer (some ⟨g1, 0, none⟩))] [(g2, 35, tv RZ), (g1, 35, tv p)] := H.pick [0, 1] [0, 1] rfl
  refine hK1 _ _ ?_
  clear hK1
  refine wp_seq_k (fun K2 hK2 => ?_)
  refine drawnS [.val 3 (.pointer (some ⟨g1, 0, none⟩)) [] [], .val 4 (.agg (dv p.X)) [0] [1], .val 5 (.agg (dv z1)) [1] [], .val 6 (.pointer (some ⟨g1, 16, none⟩)) [] [], .val 7 (.agg (dv p.Y)) [3] [1], .val 8 (.pointer (some ⟨g1, 32, none⟩)) [] [], .val 9 (.agg (dv p.Z)) [5] [1], .val 10 (.agg (tv ⟨z1, p.Y, p.Z⟩)) [2, 4, 6] [], .sto 0 g2 35 (tv RZ) (tv ⟨z1, p.Y, p.Z⟩) [7]] [0, 1, 2, 0, 8, 0, 32, 84, 255] (by kernel_rfl) (by kernel_rfl) (by kernel_rfl) H ⟨⟨does_fieldAddr rfl rfl (fun W => (fa_rpt _ W).1), wanted_none rfl⟩, ⟨does_loadAt (v := .agg (dv p.X)) rfl rfl (k := 0) rfl ld_rpt0, wanted_none rfl⟩, ⟨does_call rfl ⟨_, Tryd.func48, by kernel_rfl⟩ rfl (fun W hb => negD hz1 W), wanted_none rfl⟩, ⟨does_fieldAddr rfl rfl (fun W => (fa_rpt _ W).2.1), wanted_none rfl⟩, ⟨does_loadAt (v := .agg (dv p.Y)) rfl rfl (k := 0) rfl ld_rpt1, wanted_none rfl⟩, ⟨does_fieldAddr rfl rfl (fun W => (fa_rpt _ W).2.2), wanted_none rfl⟩, ⟨does_loadAt (v := .agg (dv p.Z)) rfl rfl (k := 0) rfl ld_rpt2, wanted_none rfl⟩, ⟨does_build rfl rfl (bd_rpt z1 p.Y p.Z), wanted_none rfl⟩, ⟨rfl, rfl, sto_row rfl rfl rfl (info_rpt _) (by simp only [dv_size, ds_size, tv_size, cv_size, ks_size]) (tv_one _)⟩, trivial⟩ ?_
  clear H a W
  intro G3 a W H
  replace H : St 11 w a W [(3, .pointer (some ⟨g1, 0, none⟩)), (4, .agg (dv p.X)), (5, .agg (dv z1)), (6, .pointer (some ⟨g1, 16, none⟩)), (7, .agg (dv p.Y)), (8, .pointer (some ⟨g1, 32, none⟩)), (9, .agg (dv p.Z)), (10, .agg (tv ⟨z1, p.Y, p.Z⟩)), (2, .pointer (some ⟨g2, 0, none⟩)), (1, .pointer (some ⟨g1, 0, none⟩))] [(g2, 35, tv ⟨z1, p.Y, p.Z⟩), (g1, 35, tv p)] := H
  replace H : St 11 w a W [(2, .pointer (some ⟨g2, 0, none⟩))] [(g2, 35, tv ⟨z1, p.Y, p.Z⟩)] := H.pick [8] [0] rfl
  refine hK2 _ _ ?_
  clear hK2
  refine wp_ret ?_
  repeat (first | (with_reducible refine then_ret ?_) | (with_reducible refine blk_ret ?_))
  refine end_cell (p := 2) rfl rfl (k := 0) rfl Tryd.underlying35 rfl (info_rpt _) H (fun hb => ?_)
  refine ⟨?_, hb⟩
  rw [h, hz1]
  rfl
set_option maxHeartbeats 4000000 in
theorem rx_any {d y r : Fin PP} {q : Pj3} {b : Bool} (h : (r, b) = rootC EE II (y * y - 1) (1 + d * (y * y))) (w : World) : Calls Tryd.prog 52 #[.agg (cv d q), .agg (dv y)] w (fun rr w' => rr = .returned (.tuple #[.agg (dv r), .bool b]) ∧ Below w.heap.size w w') := by
  obtain ⟨z1, hz1⟩ : ∃ z : Fin PP, z = y * y := ⟨_, rfl⟩
  obtain ⟨z2, hz2⟩ : ∃ z : Fin PP, z = sm 1 := ⟨_, rfl⟩
  obtain ⟨z3, hz3⟩ : ∃ z : Fin PP, z = z1 - z2 := ⟨_, rfl⟩
  obtain ⟨z4, hz4⟩ : ∃ z : Fin PP, z = d * z1 := ⟨_, rfl⟩
  obtain ⟨z5, hz5⟩ : ∃ z : Fin PP, z = z4 + z2 := ⟨_, rfl⟩
  have hroot : (r, b) = rootC EE II z3 z5 := by rw [h, hz3, hz5, hz4, hz1, hz2, sm_one, fq_add_comm 1]
  refine calls_st (vs := [.agg (cv d q), .agg (dv y)]) 24 Tryd.func52 rfl Tryd.ntmps52 rfl (fun a W H => ?_)
  replace H : St 24 w a W [(0, .agg (cv d q)), (1, .agg (dv y))] [] := H
  refine wp_seq_k (fun K1 hK1 => ?_)
  refine rg_plain ?_
  refine pl_box rfl rfl (bx_cv d q) rfl rfl rfl rfl H ?_
  clear H a W
  intro g1 a W H
  refine pl_box rfl rfl (bx_num y) rfl rfl rfl rfl H ?_
  clear H a W
  intro g2 a W H
  refine pl_new (news_of rfl al_num) rfl rfl rfl rfl H ?_
  clear H a W
  intro g3 a W H
  refine pl_does (does_assign rfl rfl) rfl rfl rfl rfl H ?_
  clear H a W
  intro a W H
  refine pl_end ?_
  replace H : St 24 w a W [(5, .bool false), (4, .pointer (some ⟨g3, 0, none⟩)), (3, .pointer (some ⟨g2, 0, none⟩)), (2, .pointer (some ⟨g1, 0, none⟩))] [(g3, 33, dv 0), (g2, 33, dv y), (g1, 38, cv d q)] := H.pick [0, 1, 2, 3] [0, 1, 2] rfl
  refine hK1 _ _ ?_
  clear hK1
  refine wp_seq_k (fun K2 hK2 => ?_)
  refine rg_plain ?_
  refine pl_does (does_load rfl rfl (k := 1) rfl Tryd.underlying33 rfl (info_dv _)) rfl rfl rfl rfl H ?_
  clear H a W
  intro a W H
  refine pl_does (does_load rfl rfl (k := 1) rfl Tryd.underlying33 rfl (info_dv _)) rfl rfl rfl rfl H ?_
  clear H a W
  intro a W H
  refine pl_does (does_call rfl ⟨_, Tryd.func49, by kernel_rfl⟩ rfl (fun W hb => mulD hz1 W)) rfl rfl rfl rfl H ?_
  clear H a W
  intro a W H
  refine pl_new (news_of rfl al_num) rfl rfl rfl rfl H ?_
  clear H a W
  intro g4 a W H
  refine pl_store rfl rfl rfl (k := 0) rfl (info_dv _) (by simp only [dv_size, ds_size, tv_size, cv_size, ks_size]) (dv_one _) rfl rfl H ?_
  clear H a W
  intro a W H
  refine pl_end ?_
  replace H : St 24 w a W [(6, .pointer (some ⟨g4, 0, none⟩)), (5, .bool false), (4, .pointer (some ⟨g3, 0, none⟩)), (2, .pointer (some ⟨g1, 0, none⟩))] [(g4, 33, dv z1), (g3, 33, dv 0), (g1, 38, cv d q)] := H.pick [0, 4, 5, 7] [0, 1, 3] rfl
  refine hK2 _ _ ?_
  clear hK2
  refine wp_seq_k (fun K3 hK3 => ?_)
  refine rg_plain ?_
  refine pl_does (does_call rfl ⟨_, Tryd.func50, by kernel_rfl⟩ rfl (fun W hb => smallD 1 hz2 (by omega) W)) rfl rfl rfl rfl H ?_
  clear H a W
  intro a W H
  refine pl_new (news_of rfl al_num) rfl rfl rfl rfl H ?_
  clear H a W
  intro g5 a W H
  refine pl_store rfl rfl rfl (k := 0) rfl (info_dv _) (by simp only [dv_size, ds_size, tv_size, cv_size, ks_size]) (dv_one _) rfl rfl H ?_
  clear H a W
  intro a W H
  refine pl_end ?_
  replace H : St 24 w a W [(7, .pointer (some ⟨g5, 0, none⟩)), (6, .pointer (some ⟨g4, 0, none⟩)), (5, .bool false), (4, .pointer (some ⟨g3, 0, none⟩)), (2, .pointer (some ⟨g1, 0, none⟩))] [(g5, 33, dv z2), (g4, 33, dv z1), (g3, 33, dv 0), (g1, 38, cv d q)] := H.pick [0, 2, 3, 4, 5] [0, 1, 2, 3] rfl
  refine hK3 _ _ ?_
  clear hK3
  refine wp_seq_k (fun K4 hK4 => ?_)
  replace H : St 24 w a W [(7, .pointer (some ⟨g5, 0, none⟩)), (6, .pointer (some ⟨g4, 0, none⟩)), (4, .pointer (some ⟨g3, 0, none⟩)), (2, .pointer (some ⟨g1, 0, none⟩))] [(g5, 33, dv z2), (g4, 33, dv z1), (g3, 33, dv 0), (g1, 38, cv d q)] := H.pick [0, 1, 3, 4] [0, 1, 2, 3] rfl
  refine drawnS [.val 12 (.agg (dv z1)) [] [1], .val 13 (.agg (dv z2)) [] [0], .val 14 (.agg (dv z3)) [0, 1] [], .val 15 (.pointer (some ⟨g1, 0, none⟩)) [] [], .val 16 (.agg (dv d)) [3] [3], .val 17 (.agg (dv z1)) [] [1], .val 18 (.agg (dv z4)) [4, 5] [], .val 19 (.agg (dv z2)) [] [0], .val 20 (.agg (dv z5)) [6, 7] [], .val 21 (.tuple #[.agg (dv r), .bool b]) [2, 8] [], .val 22 (.agg (dv r)) [9] [], .val 23 (.bool b) [9] [], .sto 2 g3 33 (dv 0) (dv r) [10], .val 5 (.bool b) [11] []] [0, 0, 3, 0, 8, 0, 52, 0, 192, 260, 512, 512, 4095, 8191] (by kernel_rfl) (by kernel_rfl) (by kernel_rfl) H ⟨⟨does_load rfl rfl (k := 0) rfl Tryd.underlying33 rfl (info_dv _), wanted_none rfl⟩, ⟨does_load rfl rfl (k := 0) rfl Tryd.underlying33 rfl (info_dv _), wanted_none rfl⟩, ⟨does_call rfl ⟨_, Tryd.func62, by kernel_rfl⟩ rfl (fun W hb => subD hz3 W), wanted_none rfl⟩, ⟨does_fieldAddr rfl rfl (fun W => (fa_cv _ W).1), wanted_none rfl⟩, ⟨does_loadAt (v := .agg (dv d)) rfl rfl (k := 0) rfl ld_cv0, wanted_none rfl⟩, ⟨does_load rfl rfl (k := 0) rfl Tryd.underlying33 rfl (info_dv _), wanted_none rfl⟩, ⟨does_call rfl ⟨_, Tryd.func49, by kernel_rfl⟩ rfl (fun W hb => mulD hz4 W), wanted_none rfl⟩, ⟨does_load rfl rfl (k := 0) rfl Tryd.underlying33 rfl (info_dv _), wanted_none rfl⟩, ⟨does_call rfl ⟨_, Tryd.func61, by kernel_rfl⟩ rfl (fun W hb => addD' hz5 W), wanted_none rfl⟩, ⟨does_call rfl ⟨_, Tryd.func83, by kernel_rfl⟩ rfl (fun W hb => rrootC hroot W), wanted_none rfl⟩, ⟨does_extract rfl rfl (fun _ => rfl), wanted_none rfl⟩, ⟨does_extract rfl rfl (fun _ => rfl), wanted_none rfl⟩, ⟨rfl, rfl, sto_row rfl rfl rfl (info_dv _) (by simp only [dv_size, ds_size, tv_size, cv_size, ks_size]) (dv_one _)⟩, ⟨does_assign rfl rfl, wanted_none rfl⟩, trivial⟩ ?_
  clear H a W
  intro G6 a W H
  replace H : St 24 w a W [(12, .agg (dv z1)), (13, .agg (dv z2)), (14, .agg (dv z3)), (15, .pointer (some ⟨g1, 0, none⟩)), (16, .agg (dv d)), (17, .agg (dv z1)), (18, .agg (dv z4)), (19, .agg (dv z2)), (20, .agg (dv z5)), (21, .tuple #[.agg (dv r), .bool b]), (22, .agg (dv r)), (23, .bool b), (5, .bool b), (7, .pointer (some ⟨g5, 0, none⟩)), (6, .pointer (some ⟨g4, 0, none⟩)), (4, .pointer (some ⟨g3, 0, none⟩)), (2, .pointer (some ⟨g1, 0, none⟩))] [(g5, 33, dv z2), (g4, 33, dv z1), (g3, 33, dv r), (g1, 38, cv d q)] := H
  replace H : St 24 w a W [(5, .bool b), (4, .pointer (some ⟨g3, 0, none⟩))] [(g3, 33, dv r)] := H.pick [12, 15] [2] rfl
  refine hK4 _ _ ?_
  clear hK4
  refine wp_ret ?_
  repeat (first | (with_reducible refine then_ret ?_) | (with_reducible refine blk_ret ?_))
  refine end_cell_tmp (p := 4) (q := 5) rfl rfl rfl (k := 0) rfl Tryd.underlying33 rfl (info_dv _) H (fun hb => ?_)
  exact ⟨rfl, hb⟩
set_option maxHeartbeats 4000000 in
theorem rbegin  (w : World) : Calls Tryd.prog 11 #[] w (fun rr w' => rr = .returned (.agg (cv TD BR)) ∧ Below w.heap.size w w') := by
  obtain ⟨z1, hz1⟩ : ∃ z : Fin PP, z = sm 121665 := ⟨_, rfl⟩
  obtain ⟨z2, hz2⟩ : ∃ z : Fin PP, z = sm 121666 := ⟨_, rfl⟩
  obtain ⟨z3, hz3⟩ : ∃ z : Fin PP, z = z2 ^ (PP - 2) := ⟨_, rfl⟩
  obtain ⟨z4, hz4⟩ : ∃ z : Fin PP, z = z1 * z3 := ⟨_, rfl⟩
  obtain ⟨z5, hz5⟩ : ∃ z : Fin PP, z = sm 4 := ⟨_, rfl⟩
  obtain ⟨z6, hz6⟩ : ∃ z : Fin PP, z = sm 5 := ⟨_, rfl⟩
  obtain ⟨z7, hz7⟩ : ∃ z : Fin PP, z = z6 ^ (PP - 2) := ⟨_, rfl⟩
  obtain ⟨z8, hz8⟩ : ∃ z : Fin PP, z = sm 1 := ⟨_, rfl⟩
  have htd : TD = -z4 := by rw [hz4, hz1, hz3, hz2, td_sm.2]
  have hby : BY = z5 * z7 := by rw [hz5, hz7, hz6, by_sm]
  refine calls_st (vs := []) 27 Tryd.func11 rfl Tryd.ntmps11 rfl (fun a W H => ?_)
  replace H : St 27 w a W [] [] := H
  refine wp_seq_k (fun K1 hK1 => ?_)
  refine rg_plain ?_
  refine pl_new (news_of rfl al_cv) rfl rfl rfl rfl H ?_
  clear H a W
  intro g1 a W H
  refine pl_end ?_
  refine hK1 _ _ ?_
  clear hK1
  refine wp_seq_k (fun K2 hK2 => ?_)
  refine rg_plain ?_
  refine pl_new (news_of rfl al_cv) rfl rfl rfl rfl H ?_
  clear H a W
  intro g2 a W H
  refine pl_end ?_
  refine hK2 _ _ ?_
  clear hK2
  refine wp_seq_k (fun K3 hK3 => ?_)
  refine rg_plain ?_
  refine pl_does (does_call rfl ⟨_, Tryd.func50, by kernel_rfl⟩ rfl (fun W hb => smallD 121665 hz1 (by omega) W)) rfl rfl rfl rfl H ?_
  clear H a W
  intro a W H
  refine pl_does (does_call rfl ⟨_, Tryd.func50, by kernel_rfl⟩ rfl (fun W hb => smallD 121666 hz2 (by omega) W)) rfl rfl rfl rfl H ?_
  clear H a W
  intro a W H
  refine pl_does (does_call rfl ⟨_, Tryd.func51, by kernel_rfl⟩ rfl (fun W hb => invD hz3 W)) rfl rfl rfl rfl H ?_
  clear H a W
  intro a W H
  refine pl_does (does_call rfl ⟨_, Tryd.func49, by kernel_rfl⟩ rfl (fun W hb => mulD hz4 W)) rfl rfl rfl rfl H ?_
  clear H a W
  intro a W H
  refine pl_does (does_call rfl ⟨_, Tryd.func48, by kernel_rfl⟩ rfl (fun W hb => negD htd W)) rfl rfl rfl rfl H ?_
  clear H a W
  intro a W H
  refine pl_does (does_fieldAddr rfl rfl (fun W => (fa_cv _ W).1)) rfl rfl rfl rfl H ?_
  clear H a W
  intro a W H
  refine pl_storeAt rfl rfl rfl (k := 0) rfl st_cv0 sv_cv0 rfl rfl H ?_
  clear H a W
  intro a W H
  refine pl_end ?_
  replace H : St 27 w a W [(1, .pointer (some ⟨g2, 0, none⟩)), (0, .pointer (some ⟨g1, 0, none⟩))] [(g2, 38, cv TD RZ), (g1, 38, cv 0 RZ)] := H.pick [6, 7] [0, 1] rfl
  refine hK3 _ _ ?_
  clear hK3
  refine wp_seq_k (fun K4 hK4 => ?_)
  refine rg_plain ?_
  refine pl_does (does_call rfl ⟨_, Tryd.func50, by kernel_rfl⟩ rfl (fun W hb => smallD 4 hz5 (by omega) W)) rfl rfl rfl rfl H ?_
  clear H a W
  intro a W H
  refine pl_does (does_call rfl ⟨_, Tryd.func50, by kernel_rfl⟩ rfl (fun W hb => smallD 5 hz6 (by omega) W)) rfl rfl rfl rfl H ?_
  clear H a W
  intro a W H
  refine pl_does (does_call rfl ⟨_, Tryd.func51, by kernel_rfl⟩ rfl (fun W hb => invD hz7 W)) rfl rfl rfl rfl H ?_
  clear H a W
  intro a W H
  refine pl_does (does_call rfl ⟨_, Tryd.func49, by kernel_rfl⟩ rfl (fun W hb => mulD hby W)) rfl rfl rfl rfl H ?_
  clear H a W
  intro a W H
  refine pl_new (news_of rfl al_num) rfl rfl rfl rfl H ?_
  clear H a W
  intro g3 a W H
  refine pl_store rfl rfl rfl (k := 0) rfl (info_dv _) (by simp only [dv_size, ds_size, tv_size, cv_size, ks_size]) (dv_one _) rfl rfl H ?_
  clear H a W
  intro a W H
  refine pl_end ?_
  replace H : St 27 w a W [(2, .pointer (some ⟨g3, 0, none⟩)), (1, .pointer (some ⟨g2, 0, none⟩)), (0, .pointer (some ⟨g1, 0, none⟩))] [(g3, 33, dv BY), (g2, 38, cv TD RZ), (g1, 38, cv 0 RZ)] := H.pick [0, 5, 6] [0, 1, 2] rfl
  refine hK4 _ _ ?_
  clear hK4
  refine wp_seq_k (fun K5 hK5 => ?_)
  refine rg_plain ?_
  refine pl_does (does_load rfl rfl (k := 1) rfl Tryd.underlying38 rfl (info_cv _ _)) rfl rfl rfl rfl H ?_
  clear H a W
  intro a W H
  refine pl_does (does_load rfl rfl (k := 0) rfl Tryd.underlying33 rfl (info_dv _)) rfl rfl rfl rfl H ?_
  clear H a W
  intro a W H
  refine pl_does (does_call rfl ⟨_, Tryd.func52, by kernel_rfl⟩ rfl (fun W hb => rx_any bx_root.symm W)) rfl rfl rfl rfl H ?_
  clear H a W
  intro a W H
  refine pl_does (does_move rfl rfl) rfl rfl rfl rfl H ?_
  clear H a W
  intro a W H
  refine pl_does (does_extract rfl rfl (fun _ => rfl)) rfl rfl rfl rfl H ?_
  clear H a W
  intro a W H
  refine pl_does (does_extract rfl rfl (fun _ => rfl)) rfl rfl rfl rfl H ?_
  clear H a W
  intro a W H
  refine pl_new (news_of rfl al_num) rfl rfl rfl rfl H ?_
  clear H a W
  intro g4 a W H
  refine pl_store rfl rfl rfl (k := 0) rfl (info_dv _) (by simp only [dv_size, ds_size, tv_size, cv_size, ks_size]) (dv_one _) rfl rfl H ?_
  clear H a W
  intro a W H
  refine pl_does (does_assign rfl rfl) rfl rfl rfl rfl H ?_
  clear H a W
  intro a W H
  refine pl_end ?_
  replace H : St 27 w a W [(3, .pointer (some ⟨g4, 0, none⟩)), (2, .pointer (some ⟨g3, 0, none⟩)), (1, .pointer (some ⟨g2, 0, none⟩)), (0, .pointer (some ⟨g1, 0, none⟩))] [(g4, 33, dv BX), (g3, 33, dv BY), (g2, 38, cv TD RZ), (g1, 38, cv 0 RZ)] := H.pick [1, 8, 9, 10] [0, 1, 2, 3] rfl
  refine hK5 _ _ ?_
  clear hK5
  refine wp_seq_k (fun K6 hK6 => ?_)
  refine drawnS [.val 21 (.agg (dv BX)) [] [0], .val 22 (.agg (dv BY)) [] [1], .val 23 (.agg (dv z8)) [] [], .val 24 (.agg (tv ⟨BX, BY, z8⟩)) [0, 1, 2] [], .val 25 (.pointer (some ⟨g2, 16, none⟩)) [] [], .sto 2 g2 38 (cv TD RZ) (cv TD ⟨BX, BY, z8⟩) [4, 3]] [0, 0, 0, 7, 15, 31] (by kernel_rfl) (by kernel_rfl) (by kernel_rfl) H ⟨⟨does_load rfl rfl (k := 0) rfl Tryd.underlying33 rfl (info_dv _), wanted_none rfl⟩, ⟨does_load rfl rfl (k := 0) rfl Tryd.underlying33 rfl (info_dv _), wanted_none rfl⟩, ⟨does_call rfl ⟨_, Tryd.func50, by kernel_rfl⟩ rfl (fun W hb => smallD 1 hz8 (by omega) W), wanted_none rfl⟩, ⟨does_build rfl rfl (bd_rpt BX BY z8), wanted_none rfl⟩, ⟨does_fieldAddr rfl rfl (fun W => (fa_cv _ W).2), wanted_none rfl⟩, ⟨rfl, rfl, sto_at rfl rfl rfl st_cv1 sv_cv1⟩, trivial⟩ ?_
  clear H a W
  intro G5 a W H
  replace H : St 27 w a W [(21, .agg (dv BX)), (22, .agg (dv BY)), (23, .agg (dv z8)), (24, .agg (tv ⟨BX, BY, z8⟩)), (25, .pointer (some ⟨g2, 16, none⟩)), (3, .pointer (some ⟨g4, 0, none⟩)), (2, .pointer (some ⟨g3, 0, none⟩)), (1, .pointer (some ⟨g2, 0, none⟩)), (0, .pointer (some ⟨g1, 0, none⟩))] [(g4, 33, dv BX), (g3, 33, dv BY), (g2, 38, cv TD ⟨BX, BY, z8⟩), (g1, 38, cv 0 RZ)] := H
  replace H : St 27 w a W [(1, .pointer (some ⟨g2, 0, none⟩)), (0, .pointer (some ⟨g1, 0, none⟩))] [(g2, 38, cv TD ⟨BX, BY, z8⟩), (g1, 38, cv 0 RZ)] := H.pick [7, 8] [2, 3] rfl
  refine hK6 _ _ ?_
  clear hK6
  refine wp_seq_k (fun K7 hK7 => ?_)
  refine rg_plain ?_
  refine pl_does (does_load rfl rfl (k := 0) rfl Tryd.underlying38 rfl (info_cv _ _)) rfl rfl rfl rfl H ?_
  clear H a W
  intro a W H
  refine pl_store rfl rfl rfl (k := 1) rfl (info_cv _ _) (by simp only [dv_size, ds_size, tv_size, cv_size, ks_size]) (cv_one _ _) rfl rfl H ?_
  clear H a W
  intro a W H
  refine pl_end ?_
  replace H : St 27 w a W [(0, .pointer (some ⟨g1, 0, none⟩))] [(g1, 38, cv TD ⟨BX, BY, z8⟩)] := H.pick [2] [1] rfl
  refine hK7 _ _ ?_
  clear hK7
  refine wp_ret ?_
  repeat (first | (with_reducible refine then_ret ?_) | (with_reducible refine blk_ret ?_))
  refine end_cell (p := 0) rfl rfl (k := 0) rfl Tryd.underlying38 rfl (info_cv _ _) H (fun hb => ?_)
  exact ⟨by rw [hz8]; rfl, hb⟩
set_option maxHeartbeats 4000000 in
theorem radd_pt {q s t r : Pj3} (h : r = rpAdd s t) (w : World) : Calls Tryd.prog 22 #[.agg (cv TD q), .agg (tv s), .agg (tv t)] w (fun rr w' => rr = .returned (.agg (tv r)) ∧ Below w.heap.size w w') := by
  obtain ⟨z1, hz1⟩ : ∃ z : Fin PP, z = s.Z * t.Z := ⟨_, rfl⟩
  obtain ⟨z2, hz2⟩ : ∃ z : Fin PP, z = s.X * t.Y := ⟨_, rfl⟩
  obtain ⟨z3, hz3⟩ : ∃ z : Fin PP, z = t.X * s.Y := ⟨_, rfl⟩
  obtain ⟨z4, hz4⟩ : ∃ z : Fin PP, z = s.Y * t.Y := ⟨_, rfl⟩
  obtain ⟨z5, hz5⟩ : ∃ z : Fin PP, z = s.X * t.X := ⟨_, rfl⟩
  obtain ⟨z6, hz6⟩ : ∃ z : Fin PP, z = z1 * z1 := ⟨_, rfl⟩
  obtain ⟨z7, hz7⟩ : ∃ z : Fin PP, z = z2 * z3 := ⟨_, rfl⟩
  obtain ⟨z8, hz8⟩ : ∃ z : Fin PP, z = TD * z7 := ⟨_, rfl⟩
  obtain ⟨z9, hz9⟩ : ∃ z : Fin PP, z = z6 + z8 := ⟨_, rfl⟩
  obtain ⟨z10, hz10⟩ : ∃ z : Fin PP, z = z6 - z8 := ⟨_, rfl⟩
  obtain ⟨z11, hz11⟩ : ∃ z : Fin PP, z = z2 + z3 := ⟨_, rfl⟩
  obtain ⟨z12, hz12⟩ : ∃ z : Fin PP, z = z11 * z1 := ⟨_, rfl⟩
  obtain ⟨z13, hz13⟩ : ∃ z : Fin PP, z = z12 * z10 := ⟨_, rfl⟩
  obtain ⟨z14, hz14⟩ : ∃ z : Fin PP, z = z4 + z5 := ⟨_, rfl⟩
  obtain ⟨z15, hz15⟩ : ∃ z : Fin PP, z = z14 * z1 := ⟨_, rfl⟩
  obtain ⟨z16, hz16⟩ : ∃ z : Fin PP, z = z15 * z9 := ⟨_, rfl⟩
  obtain ⟨z17, hz17⟩ : ∃ z : Fin PP, z = z9 * z10 := ⟨_, rfl⟩
  refine calls_st (vs := [.agg (cv TD q), .agg (tv s), .agg (tv t)]) 78 Tryd.func22 rfl Tryd.ntmps22 rfl (fun a W H => ?_)
  replace H : St 78 w a W [(0, .agg (cv TD q)), (1, .agg (tv s)), (2, .agg (tv t))] [] := H
  refine wp_seq_k (fun K1 hK1 => ?_)
  refine rg_plain ?_
  refine pl_box rfl rfl (bx_cv TD q) rfl rfl rfl rfl H ?_
  clear H a W
  intro g1 a W H
  refine pl_box rfl rfl (bx_rpt s) rfl rfl rfl rfl H ?_
  clear H a W
  intro g2 a W H
  refine pl_box rfl rfl (bx_rpt t) rfl rfl rfl rfl H ?_
  clear H a W
  intro g3 a W H
  refine pl_new (news_of rfl al_rpt) rfl rfl rfl rfl H ?_
  clear H a W
  intro g4 a W H
  refine pl_end ?_
  replace H : St 78 w a W [(6, .pointer (some ⟨g4, 0, none⟩)), (5, .pointer (some ⟨g3, 0, none⟩)), (4, .pointer (some ⟨g2, 0, none⟩)), (3, .pointer (some ⟨g1, 0, none⟩))] [(g4, 35, tv RZ), (g3, 35, tv t), (g2, 35, tv s), (g1, 38, cv TD q)] := H.pick [0, 1, 2, 3] [0, 1, 2, 3] rfl
  refine hK1 _ _ ?_
  clear hK1
  refine wp_seq_k (fun K2 hK2 => ?_)
  refine rg_plain ?_
  refine pl_does (does_fieldAddr rfl rfl (fun W => (fa_rpt _ W).2.2)) rfl rfl rfl rfl H ?_
  clear H a W
  intro a W H
  refine pl_does (does_loadAt (v := .agg (dv s.Z)) rfl rfl (k := 2) rfl ld_rpt2) rfl rfl rfl rfl H ?_
  clear H a W
  intro a W H
  refine pl_does (does_fieldAddr rfl rfl (fun W => (fa_rpt _ W).2.2)) rfl rfl rfl rfl H ?_
  clear H a W
  intro a W H
  refine pl_does (does_loadAt (v := .agg (dv t.Z)) rfl rfl (k := 1) rfl ld_rpt2) rfl rfl rfl rfl H ?_
  clear H a W
  intro a W H
  refine pl_does (does_call rfl ⟨_, Tryd.func49, by kernel_rfl⟩ rfl (fun W hb => mulD hz1 W)) rfl rfl rfl rfl H ?_
  clear H a W
  intro a W H
  refine pl_new (news_of rfl al_num) rfl rfl rfl rfl H ?_
  clear H a W
  intro g5 a W H
  refine pl_store rfl rfl rfl (k := 0) rfl (info_dv _) (by simp only [dv_size, ds_size, tv_size, cv_size, ks_size]) (dv_one _) rfl rfl H ?_
  clear H a W
  intro a W H
  refine pl_end ?_
  replace H : St 78 w a W [(7, .pointer (some ⟨g5, 0, none⟩)), (6, .pointer (some ⟨g4, 0, none⟩)), (5, .pointer (some ⟨g3, 0, none⟩)), (4, .pointer (some ⟨g2, 0, none⟩)), (3, .pointer (some ⟨g1, 0, none⟩))] [(g5, 33, dv z1), (g4, 35, tv RZ), (g3, 35, tv t), (g2, 35, tv s), (g1, 38, cv TD q)] := H.pick [0, 6, 7, 8, 9] [0, 1, 2, 3, 4] rfl
  refine hK2 _ _ ?_
  clear hK2
  refine wp_seq_k (fun K3 hK3 => ?_)
  refine drawnS [.val 23 (.pointer (some ⟨g2, 0, none⟩)) [] [], .val 24 (.agg (dv s.X)) [0] [3], .val 25 (.pointer (some ⟨g3, 16, none⟩)) [] [], .val 26 (.agg (dv t.Y)) [2] [2], .val 27 (.agg (dv z2)) [1, 3] [], .val 28 (.pointer (some ⟨g3, 0, none⟩)) [] [], .val 29 (.agg (dv t.X)) [5] [2], .val 30 (.pointer (some ⟨g2, 16, none⟩)) [] [], .val 31 (.agg (dv s.Y)) [7] [3], .val 32 (.agg (dv z3)) [6, 8] [], .new 8 33 (dv 0), .new 9 33 (dv 0), .ston 10 8 33 (dv 0) (dv z2) [4], .ston 11 9 33 (dv 0) (dv z3) [9]] [0, 1, 0, 4, 10, 0, 32, 0, 128, 336, 0, 0, 3615, 8191] (by kernel_rfl) (by kernel_rfl) (by kernel_rfl) H ⟨⟨does_fieldAddr rfl rfl (fun W => (fa_rpt _ W).1), wanted_none rfl⟩, ⟨does_loadAt (v := .agg (dv s.X)) rfl rfl (k := 0) rfl ld_rpt0, wanted_none rfl⟩, ⟨does_fieldAddr rfl rfl (fun W => (fa_rpt _ W).2.1), wanted_none rfl⟩, ⟨does_loadAt (v := .agg (dv t.Y)) rfl rfl (k := 0) rfl ld_rpt1, wanted_none rfl⟩, ⟨does_call rfl ⟨_, Tryd.func49, by kernel_rfl⟩ rfl (fun W hb => mulD hz2 W), wanted_none rfl⟩, ⟨does_fieldAddr rfl rfl (fun W => (fa_rpt _ W).1), wanted_none rfl⟩, ⟨does_loadAt (v := .agg (dv t.X)) rfl rfl (k := 0) rfl ld_rpt0, wanted_none rfl⟩, ⟨does_fieldAddr rfl rfl (fun W => (fa_rpt _ W).2.1), wanted_none rfl⟩, ⟨does_loadAt (v := .agg (dv s.Y)) rfl rfl (k := 0) rfl ld_rpt1, wanted_none rfl⟩, ⟨does_call rfl ⟨_, Tryd.func49, by kernel_rfl⟩ rfl (fun W hb => mulD hz3 W), wanted_none rfl⟩, ⟨news_of rfl al_num, rfl⟩, ⟨news_of rfl al_num, rfl⟩, ⟨rfl, rfl, fun g => sto_row rfl rfl rfl (info_dv _) (by simp only [dv_size, ds_size, tv_size, cv_size, ks_size]) (dv_one _)⟩, ⟨rfl, rfl, fun g => sto_row rfl rfl rfl (info_dv _) (by simp only [dv_size, ds_size, tv_size, cv_size, ks_size]) (dv_one _)⟩, trivial⟩ ?_
  clear H a W
  intro G6 a W H
  replace H : St 78 w a W [(23, .pointer (some ⟨g2, 0, none⟩)), (24, .agg (dv s.X)), (25, .pointer (some ⟨g3, 16, none⟩)), (26, .agg (dv t.Y)), (27, .agg (dv z2)), (28, .pointer (some ⟨g3, 0, none⟩)), (29, .agg (dv t.X)), (30, .pointer (some ⟨g2, 16, none⟩)), (31, .agg (dv s.Y)), (32, .agg (dv z3)), (8, .pointer (some ⟨(G6 10), 0, none⟩)), (9, .pointer (some ⟨(G6 11), 0, none⟩)), (7, .pointer (some ⟨g5, 0, none⟩)), (6, .pointer (some ⟨g4, 0, none⟩)), (5, .pointer (some ⟨g3, 0, none⟩)), (4, .pointer (some ⟨g2, 0, none⟩)), (3, .pointer (some ⟨g1, 0, none⟩))] [((G6 10), 33, dv z2), ((G6 11), 33, dv z3), (g5, 33, dv z1), (g4, 35, tv RZ), (g3, 35, tv t), (g2, 35, tv s), (g1, 38, cv TD q)] := H
  replace H : St 78 w a W [(8, .pointer (some ⟨(G6 10), 0, none⟩)), (9, .pointer (some ⟨(G6 11), 0, none⟩)), (7, .pointer (some ⟨g5, 0, none⟩)), (6, .pointer (some ⟨g4, 0, none⟩)), (5, .pointer (some ⟨g3, 0, none⟩)), (4, .pointer (some ⟨g2, 0, none⟩)), (3, .pointer (some ⟨g1, 0, none⟩))] [((G6 10), 33, dv z2), ((G6 11), 33, dv z3), (g5, 33, dv z1), (g4, 35, tv RZ), (g3, 35, tv t), (g2, 35, tv s), (g1, 38, cv TD q)] := H.pick [10, 11, 12, 13, 14, 15, 16] [0, 1, 2, 3, 4, 5, 6] rfl
  refine hK3 _ _ ?_
  clear hK3
  refine wp_seq_k (fun K4 hK4 => ?_)
  refine drawnS [.val 33 (.pointer (some ⟨g2, 16, none⟩)) [] [], .val 34 (.agg (dv s.Y)) [0] [5], .val 35 (.pointer (some ⟨g3, 16, none⟩)) [] [], .val 36 (.agg (dv t.Y)) [2] [4], .val 37 (.agg (dv z4)) [1, 3] [], .val 38 (.pointer (some ⟨g2, 0, none⟩)) [] [], .val 39 (.agg (dv s.X)) [5] [5], .val 40 (.pointer (some ⟨g3, 0, none⟩)) [] [], .val 41 (.agg (dv t.X)) [7] [4], .val 42 (.agg (dv z5)) [6, 8] [], .new 10 33 (dv 0), .new 11 33 (dv 0), .ston 10 10 33 (dv 0) (dv z4) [4], .ston 11 11 33 (dv 0) (dv z5) [9]] [0, 1, 0, 4, 10, 0, 32, 0, 128, 336, 0, 0, 3615, 8191] (by kernel_rfl) (by kernel_rfl) (by kernel_rfl) H ⟨⟨does_fieldAddr rfl rfl (fun W => (fa_rpt _ W).2.1), wanted_none rfl⟩, ⟨does_loadAt (v := .agg (dv s.Y)) rfl rfl (k := 0) rfl ld_rpt1, wanted_none rfl⟩, ⟨does_fieldAddr rfl rfl (fun W => (fa_rpt _ W).2.1), wanted_none rfl⟩, ⟨does_loadAt (v := .agg (dv t.Y)) rfl rfl (k := 0) rfl ld_rpt1, wanted_none rfl⟩, ⟨does_call rfl ⟨_, Tryd.func49, by kernel_rfl⟩ rfl (fun W hb => mulD hz4 W), wanted_none rfl⟩, ⟨does_fieldAddr rfl rfl (fun W => (fa_rpt _ W).1), wanted_none rfl⟩, ⟨does_loadAt (v := .agg (dv s.X)) rfl rfl (k := 0) rfl ld_rpt0, wanted_none rfl⟩, ⟨does_fieldAddr rfl rfl (fun W => (fa_rpt _ W).1), wanted_none rfl⟩, ⟨does_loadAt (v := .agg (dv t.X)) rfl rfl (k := 0) rfl ld_rpt0, wanted_none rfl⟩, ⟨does_call rfl ⟨_, Tryd.func49, by kernel_rfl⟩ rfl (fun W hb => mulD hz5 W), wanted_none rfl⟩, ⟨news_of rfl al_num, rfl⟩, ⟨news_of rfl al_num, rfl⟩, ⟨rfl, rfl, fun g => sto_row rfl rfl rfl (info_dv _) (by simp only [dv_size, ds_size, tv_size, cv_size, ks_size]) (dv_one _)⟩, ⟨rfl, rfl, fun g => sto_row rfl rfl rfl (info_dv _) (by simp only [dv_size, ds_size, tv_size, cv_size, ks_size]) (dv_one _)⟩, trivial⟩ ?_
  clear H a W
  intro G7 a W H
  replace H : St 78 w a W [(33, .pointer (some ⟨g2, 16, none⟩)), (34, .agg (dv s.Y)), (35, .pointer (some ⟨g3, 16, none⟩)), (36, .agg (dv t.Y)), (37, .agg (dv z4)), (38, .pointer (some ⟨g2, 0, none⟩)), (39, .agg (dv s.X)), (40, .pointer (some ⟨g3, 0, none⟩)), (41, .agg (dv t.X)), (42, .agg (dv z5)), (10, .pointer (some ⟨(G7 10), 0, none⟩)), (11, .pointer (some ⟨(G7 11), 0, none⟩)), (8, .pointer (some ⟨(G6 10), 0, none⟩)), (9, .pointer (some ⟨(G6 11), 0, none⟩)), (7, .pointer (some ⟨g5, 0, none⟩)), (6, .pointer (some ⟨g4, 0, none⟩)), (5, .pointer (some ⟨g3, 0, none⟩)), (4, .pointer (some ⟨g2, 0, none⟩)), (3, .pointer (some ⟨g1, 0, none⟩))] [((G7 10), 33, dv z4), ((G7 11), 33, dv z5), ((G6 10), 33, dv z2), ((G6 11), 33, dv z3), (g5, 33, dv z1), (g4, 35, tv RZ), (g3, 35, tv t), (g2, 35, tv s), (g1, 38, cv TD q)] := H
  replace H : St 78 w a W [(10, .pointer (some ⟨(G7 10), 0, none⟩)), (11, .pointer (some ⟨(G7 11), 0, none⟩)), (8, .pointer (some ⟨(G6 10), 0, none⟩)), (9, .pointer (some ⟨(G6 11), 0, none⟩)), (7, .pointer (some ⟨g5, 0, none⟩)), (6, .pointer (some ⟨g4, 0, none⟩)), (3, .pointer (some ⟨g1, 0, none⟩))] [((G7 10), 33, dv z4), ((G7 11), 33, dv z5), ((G6 10), 33, dv z2), ((G6 11), 33, dv z3), (g5, 33, dv z1), (g4, 35, tv RZ), (g1, 38, cv TD q)] := H.pick [10, 11, 12, 13, 14, 15, 18] [0, 1, 2, 3, 4, 5, 8] rfl
  refine hK4 _ _ ?_
  clear hK4
  refine wp_seq_k (fun K5 hK5 => ?_)
  refine rg_plain ?_
  refine pl_does (does_load rfl rfl (k := 4) rfl Tryd.underlying33 rfl (info_dv _)) rfl rfl rfl rfl H ?_
  clear H a W
  intro a W H
  refine pl_does (does_load rfl rfl (k := 4) rfl Tryd.underlying33 rfl (info_dv _)) rfl rfl rfl rfl H ?_
  clear H a W
  intro a W H
  refine pl_does (does_call rfl ⟨_, Tryd.func49, by kernel_rfl⟩ rfl (fun W hb => mulD hz6 W)) rfl rfl rfl rfl H ?_
  clear H a W
  intro a W H
  refine pl_new (news_of rfl al_num) rfl rfl rfl rfl H ?_
  clear H a W
  intro g8 a W H
  refine pl_store rfl rfl rfl (k := 0) rfl (info_dv _) (by simp only [dv_size, ds_size, tv_size, cv_size, ks_size]) (dv_one _) rfl rfl H ?_
  clear H a W
  intro a W H
  refine pl_end ?_
  replace H : St 78 w a W [(12, .pointer (some ⟨g8, 0, none⟩)), (10, .pointer (some ⟨(G7 10), 0, none⟩)), (11, .pointer (some ⟨(G7 11), 0, none⟩)), (8, .pointer (some ⟨(G6 10), 0, none⟩)), (9, .pointer (some ⟨(G6 11), 0, none⟩)), (7, .pointer (some ⟨g5, 0, none⟩)), (6, .pointer (some ⟨g4, 0, none⟩)), (3, .pointer (some ⟨g1, 0, none⟩))] [(g8, 33, dv z6), ((G7 10), 33, dv z4), ((G7 11), 33, dv z5), ((G6 10), 33, dv z2), ((G6 11), 33, dv z3), (g5, 33, dv z1), (g4, 35, tv RZ), (g1, 38, cv TD q)] := H.pick [0, 4, 5, 6, 7, 8, 9, 10] [0, 1, 2, 3, 4, 5, 6, 7] rfl
  refine hK5 _ _ ?_
  clear hK5
  refine wp_seq_k (fun K6 hK6 => ?_)
  refine drawnS [.val 46 (.pointer (some ⟨g1, 0, none⟩)) [] [], .val 47 (.agg (dv TD)) [0] [7], .val 48 (.agg (dv z2)) [] [3], .val 49 (.agg (dv z3)) [] [4], .val 50 (.agg (dv z7)) [2, 3] [], .val 51 (.agg (dv z8)) [1, 4] [], .new 13 33 (dv 0), .ston 6 13 33 (dv 0) (dv z8) [5]] [0, 1, 0, 0, 12, 18, 0, 127] (by kernel_rfl) (by kernel_rfl) (by kernel_rfl) H ⟨⟨does_fieldAddr rfl rfl (fun W => (fa_cv _ W).1), wanted_none rfl⟩, ⟨does_loadAt (v := .agg (dv TD)) rfl rfl (k := 0) rfl ld_cv0, wanted_none rfl⟩, ⟨does_load rfl rfl (k := 0) rfl Tryd.underlying33 rfl (info_dv _), wanted_none rfl⟩, ⟨does_load rfl rfl (k := 0) rfl Tryd.underlying33 rfl (info_dv _), wanted_none rfl⟩, ⟨does_call rfl ⟨_, Tryd.func49, by kernel_rfl⟩ rfl (fun W hb => mulD hz7 W), wanted_none rfl⟩, ⟨does_call rfl ⟨_, Tryd.func49, by kernel_rfl⟩ rfl (fun W hb => mulD hz8 W), wanted_none rfl⟩, ⟨news_of rfl al_num, rfl⟩, ⟨rfl, rfl, fun g => sto_row rfl rfl rfl (info_dv _) (by simp only [dv_size, ds_size, tv_size, cv_size, ks_size]) (dv_one _)⟩, trivial⟩ ?_
  clear H a W
  intro G9 a W H
  replace H : St 78 w a W [(46, .pointer (some ⟨g1, 0, none⟩)), (47, .agg (dv TD)), (48, .agg (dv z2)), (49, .agg (dv z3)), (50, .agg (dv z7)), (51, .agg (dv z8)), (13, .pointer (some ⟨(G9 6), 0, none⟩)), (12, .pointer (some ⟨g8, 0, none⟩)), (10, .pointer (some ⟨(G7 10), 0, none⟩)), (11, .pointer (some ⟨(G7 11), 0, none⟩)), (8, .pointer (some ⟨(G6 10), 0, none⟩)), (9, .pointer (some ⟨(G6 11), 0, none⟩)), (7, .pointer (some ⟨g5, 0, none⟩)), (6, .pointer (some ⟨g4, 0, none⟩)), (3, .pointer (some ⟨g1, 0, none⟩))] [((G9 6), 33, dv z8), (g8, 33, dv z6), ((G7 10), 33, dv z4), ((G7 11), 33, dv z5), ((G6 10), 33, dv z2), ((G6 11), 33, dv z3), (g5, 33, dv z1), (g4, 35, tv RZ), (g1, 38, cv TD q)] := H
  replace H : St 78 w a W [(13, .pointer (some ⟨(G9 6), 0, none⟩)), (12, .pointer (some ⟨g8, 0, none⟩)), (10, .pointer (some ⟨(G7 10), 0, none⟩)), (11, .pointer (some ⟨(G7 11), 0, none⟩)), (8, .pointer (some ⟨(G6 10), 0, none⟩)), (9, .pointer (some ⟨(G6 11), 0, none⟩)), (7, .pointer (some ⟨g5, 0, none⟩)), (6, .pointer (some ⟨g4, 0, none⟩))] [((G9 6), 33, dv z8), (g8, 33, dv z6), ((G7 10), 33, dv z4), ((G7 11), 33, dv z5), ((G6 10), 33, dv z2), ((G6 11), 33, dv z3), (g5, 33, dv z1), (g4, 35, tv RZ)] := H.pick [6, 7, 8, 9, 10, 11, 12, 13] [0, 1, 2, 3, 4, 5, 6, 7] rfl
  refine hK6 _ _ ?_
  clear hK6
  refine wp_seq_k (fun K7 hK7 => ?_)
  refine drawnS [.val 52 (.agg (dv z6)) [] [1], .val 53 (.agg (dv z8)) [] [0], .val 54 (.agg (dv z9)) [0, 1] [], .val 55 (.agg (dv z6)) [] [1], .val 56 (.agg (dv z8)) [] [0], .val 57 (.agg (dv z10)) [3, 4] [], .new 14 33 (dv 0), .new 15 33 (dv 0), .ston 6 14 33 (dv 0) (dv z9) [2], .ston 7 15 33 (dv 0) (dv z10) [5]] [0, 0, 3, 0, 0, 28, 0, 0, 231, 511] (by kernel_rfl) (by kernel_rfl) (by kernel_rfl) H ⟨⟨does_load rfl rfl (k := 0) rfl Tryd.underlying33 rfl (info_dv _), wanted_none rfl⟩, ⟨does_load rfl rfl (k := 0) rfl Tryd.underlying33 rfl (info_dv _), wanted_none rfl⟩, ⟨does_call rfl ⟨_, Tryd.func61, by kernel_rfl⟩ rfl (fun W hb => addD' hz9 W), wanted_none rfl⟩, ⟨does_load rfl rfl (k := 0) rfl Tryd.underlying33 rfl (info_dv _), wanted_none rfl⟩, ⟨does_load rfl rfl (k := 0) rfl Tryd.underlying33 rfl (info_dv _), wanted_none rfl⟩, ⟨does_call rfl ⟨_, Tryd.func62, by kernel_rfl⟩ rfl (fun W hb => subD hz10 W), wanted_none rfl⟩, ⟨news_of rfl al_num, rfl⟩, ⟨news_of rfl al_num, rfl⟩, ⟨rfl, rfl, fun g => sto_row rfl rfl rfl (info_dv _) (by simp only [dv_size, ds_size, tv_size, cv_size, ks_size]) (dv_one _)⟩, ⟨rfl, rfl, fun g => sto_row rfl rfl rfl (info_dv _) (by simp only [dv_size, ds_size, tv_size, cv_size, ks_size]) (dv_one _)⟩, trivial⟩ ?_
  clear H a W
  intro G10 a W H
  replace H : St 78 w a W [(52, .agg (dv z6)), (53, .agg (dv z8)), (54, .agg (dv z9)), (55, .agg (dv z6)), (56, .agg (dv z8)), (57, .agg (dv z10)), (14, .pointer (some ⟨(G10 6), 0, none⟩)), (15, .pointer (some ⟨(G10 7), 0, none⟩)), (13, .pointer (some ⟨(G9 6), 0, none⟩)), (12, .pointer (some ⟨g8, 0, none⟩)), (10, .pointer (some ⟨(G7 10), 0, none⟩)), (11, .pointer (some ⟨(G7 11), 0, none⟩)), (8, .pointer (some ⟨(G6 10), 0, none⟩)), (9, .pointer (some ⟨(G6 11), 0, none⟩)), (7, .pointer (some ⟨g5, 0, none⟩)), (6, .pointer (some ⟨g4, 0, none⟩))] [((G10 6), 33, dv z9), ((G10 7), 33, dv z10), ((G9 6), 33, dv z8), (g8, 33, dv z6), ((G7 10), 33, dv z4), ((G7 11), 33, dv z5), ((G6 10), 33, dv z2), ((G6 11), 33, dv z3), (g5, 33, dv z1), (g4, 35, tv RZ)] := H
  replace H : St 78 w a W [(14, .pointer (some ⟨(G10 6), 0, none⟩)), (15, .pointer (some ⟨(G10 7), 0, none⟩)), (10, .pointer (some ⟨(G7 10), 0, none⟩)), (11, .pointer (some ⟨(G7 11), 0, none⟩)), (8, .pointer (some ⟨(G6 10), 0, none⟩)), (9, .pointer (some ⟨(G6 11), 0, none⟩)), (7, .pointer (some ⟨g5, 0, none⟩)), (6, .pointer (some ⟨g4, 0, none⟩))] [((G10 6), 33, dv z9), ((G10 7), 33, dv z10), ((G7 10), 33, dv z4), ((G7 11), 33, dv z5), ((G6 10), 33, dv z2), ((G6 11), 33, dv z3), (g5, 33, dv z1), (g4, 35, tv RZ)] := H.pick [6, 7, 10, 11, 12, 13, 14, 15] [0, 1, 4, 5, 6, 7, 8, 9] rfl
  refine hK7 _ _ ?_
  clear hK7
  refine wp_seq_k (fun K8 hK8 => ?_)
  refine drawnS [.val 58 (.agg (dv z2)) [] [4], .val 59 (.agg (dv z3)) [] [5], .val 60 (.agg (dv z11)) [0, 1] [], .val 61 (.agg (dv z1)) [] [6], .val 62 (.agg (dv z12)) [2, 3] [], .val 63 (.agg (dv z10)) [] [1], .val 64 (.agg (dv z13)) [4, 5] [], .new 16 33 (dv 0), .ston 7 16 33 (dv 0) (dv z13) [6]] [0, 0, 3, 0, 12, 0, 48, 0, 255] (by kernel_rfl) (by kernel_rfl) (by kernel_rfl) H ⟨⟨does_load rfl rfl (k := 0) rfl Tryd.underlying33 rfl (info_dv _), wanted_none rfl⟩, ⟨does_load rfl rfl (k := 0) rfl Tryd.underlying33 rfl (info_dv _), wanted_none rfl⟩, ⟨does_call rfl ⟨_, Tryd.func61, by kernel_rfl⟩ rfl (fun W hb => addD' hz11 W), wanted_none rfl⟩, ⟨does_load rfl rfl (k := 0) rfl Tryd.underlying33 rfl (info_dv _), wanted_none rfl⟩, ⟨does_call rfl ⟨_, Tryd.func49, by kernel_rfl⟩ rfl (fun W hb => mulD hz12 W), wanted_none rfl⟩, ⟨does_load rfl rfl (k := 0) rfl Tryd.underlying33 rfl (info_dv _), wanted_none rfl⟩, ⟨does_call rfl ⟨_, Tryd.func49, by kernel_rfl⟩ rfl (fun W hb => mulD hz13 W), wanted_none rfl⟩, ⟨news_of rfl al_num, rfl⟩, ⟨rfl, rfl, fun g => sto_row rfl rfl rfl (info_dv _) (by simp only [dv_size, ds_size, tv_size, cv_size, ks_size]) (dv_one _)⟩, trivial⟩ ?_
  clear H a W
  intro G11 a W H
  replace H : St 78 w a W [(58, .agg (dv z2)), (59, .agg (dv z3)), (60, .agg (dv z11)), (61, .agg (dv z1)), (62, .agg (dv z12)), (63, .agg (dv z10)), (64, .agg (dv z13)), (16, .pointer (some ⟨(G11 7), 0, none⟩)), (14, .pointer (some ⟨(G10 6), 0, none⟩)), (15, .pointer (some ⟨(G10 7), 0, none⟩)), (10, .pointer (some ⟨(G7 10), 0, none⟩)), (11, .pointer (some ⟨(G7 11), 0, none⟩)), (8, .pointer (some ⟨(G6 10), 0, none⟩)), (9, .pointer (some ⟨(G6 11), 0, none⟩)), (7, .pointer (some ⟨g5, 0, none⟩)), (6, .pointer (some ⟨g4, 0, none⟩))] [((G11 7), 33, dv z13), ((G10 6), 33, dv z9), ((G10 7), 33, dv z10), ((G7 10), 33, dv z4), ((G7 11), 33, dv z5), ((G6 10), 33, dv z2), ((G6 11), 33, dv z3), (g5, 33, dv z1), (g4, 35, tv RZ)] := H
  replace H : St 78 w a W [(16, .pointer (some ⟨(G11 7), 0, none⟩)), (14, .pointer (some ⟨(G10 6), 0, none⟩)), (15, .pointer (some ⟨(G10 7), 0, none⟩)), (10, .pointer (some ⟨(G7 10), 0, none⟩)), (11, .pointer (some ⟨(G7 11), 0, none⟩)), (7, .pointer (some ⟨g5, 0, none⟩)), (6, .pointer (some ⟨g4, 0, none⟩))] [((G11 7), 33, dv z13), ((G10 6), 33, dv z9), ((G10 7), 33, dv z10), ((G7 10), 33, dv z4), ((G7 11), 33, dv z5), (g5, 33, dv z1), (g4, 35, tv RZ)] := H.pick [7, 8, 9, 10, 11, 14, 15] [0, 1, 2, 3, 4, 7, 8] rfl
  refine hK8 _ _ ?_
  clear hK8
  refine wp_seq_k (fun K9 hK9 => ?_)
  refine drawnS [.val 65 (.agg (dv z4)) [] [3], .val 66 (.agg (dv z5)) [] [4], .val 67 (.agg (dv z14)) [0, 1] [], .val 68 (.agg (dv z1)) [] [5], .val 69 (.agg (dv z15)) [2, 3] [], .val 70 (.agg (dv z9)) [] [1], .val 71 (.agg (dv z16)) [4, 5] [], .new 17 33 (dv 0), .ston 7 17 33 (dv 0) (dv z16) [6]] [0, 0, 3, 0, 12, 0, 48, 0, 255] (by kernel_rfl) (by kernel_rfl) (by kernel_rfl) H ⟨⟨does_load rfl rfl (k := 0) rfl Tryd.underlying33 rfl (info_dv _), wanted_none rfl⟩, ⟨does_load rfl rfl (k := 0) rfl Tryd.underlying33 rfl (info_dv _), wanted_none rfl⟩, ⟨does_call rfl ⟨_, Tryd.func61, by kernel_rfl⟩ rfl (fun W hb => addD' hz14 W), wanted_none rfl⟩, ⟨does_load rfl rfl (k := 0) rfl Tryd.underlying33 rfl (info_dv _), wanted_none rfl⟩, ⟨does_call rfl ⟨_, Tryd.func49, by kernel_rfl⟩ rfl (fun W hb => mulD hz15 W), wanted_none rfl⟩, ⟨does_load rfl rfl (k := 0) rfl Tryd.underlying33 rfl (info_dv _), wanted_none rfl⟩, ⟨does_call rfl ⟨_, Tryd.func49, by kernel_rfl⟩ rfl (fun W hb => mulD hz16 W), wanted_none rfl⟩, ⟨news_of rfl al_num, rfl⟩, ⟨rfl, rfl, fun g => sto_row rfl rfl rfl (info_dv _) (by simp only [dv_size, ds_size, tv_size, cv_size, ks_size]) (dv_one _)⟩, trivial⟩ ?_
  clear H a W
  intro G12 a W H
  replace H : St 78 w a W [(65, .agg (dv z4)), (66, .agg (dv z5)), (67, .agg (dv z14)), (68, .agg (dv z1)), (69, .agg (dv z15)), (70, .agg (dv z9)), (71, .agg (dv z16)), (17, .pointer (some ⟨(G12 7), 0, none⟩)), (16, .pointer (some ⟨(G11 7), 0, none⟩)), (14, .pointer (some ⟨(G10 6), 0, none⟩)), (15, .pointer (some ⟨(G10 7), 0, none⟩)), (10, .pointer (some ⟨(G7 10), 0, none⟩)), (11, .pointer (some ⟨(G7 11), 0, none⟩)), (7, .pointer (some ⟨g5, 0, none⟩)), (6, .pointer (some ⟨g4, 0, none⟩))] [((G12 7), 33, dv z16), ((G11 7), 33, dv z13), ((G10 6), 33, dv z9), ((G10 7), 33, dv z10), ((G7 10), 33, dv z4), ((G7 11), 33, dv z5), (g5, 33, dv z1), (g4, 35, tv RZ)] := H
  replace H : St 78 w a W [(17, .pointer (some ⟨(G12 7), 0, none⟩)), (16, .pointer (some ⟨(G11 7), 0, none⟩)), (14, .pointer (some ⟨(G10 6), 0, none⟩)), (15, .pointer (some ⟨(G10 7), 0, none⟩)), (6, .pointer (some ⟨g4, 0, none⟩))] [((G12 7), 33, dv z16), ((G11 7), 33, dv z13), ((G10 6), 33, dv z9), ((G10 7), 33, dv z10), (g4, 35, tv RZ)] := H.pick [7, 8, 9, 10, 14] [0, 1, 2, 3, 7] rfl
  refine hK9 _ _ ?_
  clear hK9
  refine wp_seq_k (fun K10 hK10 => ?_)
  refine drawnS [.val 72 (.agg (dv z13)) [] [1], .val 73 (.agg (dv z16)) [] [0], .val 74 (.agg (dv z9)) [] [2], .val 75 (.agg (dv z10)) [] [3], .val 76 (.agg (dv z17)) [2, 3] [], .val 77 (.agg (tv ⟨z13, z16, z17⟩)) [0, 1, 4] [], .sto 4 g4 35 (tv RZ) (tv ⟨z13, z16, z17⟩) [5]] [0, 0, 0, 0, 12, 19, 63] (by kernel_rfl) (by kernel_rfl) (by kernel_rfl) H ⟨⟨does_load rfl rfl (k := 0) rfl Tryd.underlying33 rfl (info_dv _), wanted_none rfl⟩, ⟨does_load rfl rfl (k := 0) rfl Tryd.underlying33 rfl (info_dv _), wanted_none rfl⟩, ⟨does_load rfl rfl (k := 0) rfl Tryd.underlying33 rfl (info_dv _), wanted_none rfl⟩, ⟨does_load rfl rfl (k := 0) rfl Tryd.underlying33 rfl (info_dv _), wanted_none rfl⟩, ⟨does_call rfl ⟨_, Tryd.func49, by kernel_rfl⟩ rfl (fun W hb => mulD hz17 W), wanted_none rfl⟩, ⟨does_build rfl rfl (bd_rpt z13 z16 z17), wanted_none rfl⟩, ⟨rfl, rfl, sto_row rfl rfl rfl (info_rpt _) (by simp only [dv_size, ds_size, tv_size, cv_size, ks_size]) (tv_one _)⟩, trivial⟩ ?_
  clear H a W
  intro G13 a W H
  replace H : St 78 w a W [(72, .agg (dv z13)), (73, .agg (dv z16)), (74, .agg (dv z9)), (75, .agg (dv z10)), (76, .agg (dv z17)), (77, .agg (tv ⟨z13, z16, z17⟩)), (17, .pointer (some ⟨(G12 7), 0, none⟩)), (16, .pointer (some ⟨(G11 7), 0, none⟩)), (14, .pointer (some ⟨(G10 6), 0, none⟩)), (15, .pointer (some ⟨(G10 7), 0, none⟩)), (6, .pointer (some ⟨g4, 0, none⟩))] [((G12 7), 33, dv z16), ((G11 7), 33, dv z13), ((G10 6), 33, dv z9), ((G10 7), 33, dv z10), (g4, 35, tv ⟨z13, z16, z17⟩)] := H
  replace H : St 78 w a W [(6, .pointer (some ⟨g4, 0, none⟩))] [(g4, 35, tv ⟨z13, z16, z17⟩)] := H.pick [10] [4] rfl
  refine hK10 _ _ ?_
  clear hK10
  refine wp_ret ?_
  repeat (first | (with_reducible refine then_ret ?_) | (with_reducible refine blk_ret ?_))
  refine end_cell (p := 6) rfl rfl (k := 0) rfl Tryd.underlying35 rfl (info_rpt _) H (fun hb => ?_)
  refine ⟨?_, hb⟩
  rw [h]
  unfold rpAdd
  subst hz1 hz2 hz3 hz4 hz5 hz6 hz7 hz8 hz9 hz10 hz11 hz12 hz13 hz14 hz15 hz16 hz17
  rfl
set_option maxHeartbeats 4000000 in
theorem rflat {P : Pt} {r : Pj3} (h : RepR P r) (w : World) : Calls Tryd.prog 15 #[.agg (tv r)] w (fun rr w' => rr = .returned (.tuple #[.agg (dv P.x), .agg (dv P.y)]) ∧ Below w.heap.size w w') := by
  obtain ⟨z1, hz1⟩ : ∃ z : Fin PP, z = r.Z ^ (PP - 2) := ⟨_, rfl⟩
  obtain ⟨z2, hz2⟩ : ∃ z : Fin PP, z = r.X * z1 := ⟨_, rfl⟩
  obtain ⟨z3, hz3⟩ : ∃ z : Fin PP, z = r.Y * z1 := ⟨_, rfl⟩
  refine calls_st (vs := [.agg (tv r)]) 16 Tryd.func15 rfl Tryd.ntmps15 rfl (fun a W H => ?_)
  replace H : St 16 w a W [(0, .agg (tv r))] [] := H
  refine wp_seq_k (fun K1 hK1 => ?_)
  refine rg_plain ?_
  refine pl_box rfl rfl (bx_rpt r) rfl rfl rfl rfl H ?_
  clear H a W
  intro g1 a W H
  refine pl_new (news_of rfl al_num) rfl rfl rfl rfl H ?_
  clear H a W
  intro g2 a W H
  refine pl_new (news_of rfl al_num) rfl rfl rfl rfl H ?_
  clear H a W
  intro g3 a W H
  refine pl_end ?_
  replace H : St 16 w a W [(3, .pointer (some ⟨g3, 0, none⟩)), (2, .pointer (some ⟨g2, 0, none⟩)), (1, .pointer (some ⟨g1, 0, none⟩))] [(g3, 33, dv 0), (g2, 33, dv 0), (g1, 35, tv r)] := H.pick [0, 1, 2] [0, 1, 2] rfl
  refine hK1 _ _ ?_
  clear hK1
  refine wp_seq_k (fun K2 hK2 => ?_)
  refine rg_plain ?_
  refine pl_does (does_fieldAddr rfl rfl (fun W => (fa_rpt _ W).2.2)) rfl rfl rfl rfl H ?_
  clear H a W
  intro a W H
  refine pl_does (does_loadAt (v := .agg (dv r.Z)) rfl rfl (k := 2) rfl ld_rpt2) rfl rfl rfl rfl H ?_
  clear H a W
  intro a W H
  refine pl_does (does_call rfl ⟨_, Tryd.func51, by kernel_rfl⟩ rfl (fun W hb => invD hz1 W)) rfl rfl rfl rfl H ?_
  clear H a W
  intro a W H
  refine pl_new (news_of rfl al_num) rfl rfl rfl rfl H ?_
  clear H a W
  intro g4 a W H
  refine pl_store rfl rfl rfl (k := 0) rfl (info_dv _) (by simp only [dv_size, ds_size, tv_size, cv_size, ks_size]) (dv_one _) rfl rfl H ?_
  clear H a W
  intro a W H
  refine pl_end ?_
  replace H : St 16 w a W [(4, .pointer (some ⟨g4, 0, none⟩)), (3, .pointer (some ⟨g3, 0, none⟩)), (2, .pointer (some ⟨g2, 0, none⟩)), (1, .pointer (some ⟨g1, 0, none⟩))] [(g4, 33, dv z1), (g3, 33, dv 0), (g2, 33, dv 0), (g1, 35, tv r)] := H.pick [0, 4, 5, 6] [0, 1, 2, 3] rfl
  refine hK2 _ _ ?_
  clear hK2
  refine wp_seq_k (fun K3 hK3 => ?_)
  refine drawnS [.val 8 (.pointer (some ⟨g1, 0, none⟩)) [] [], .val 9 (.agg (dv r.X)) [0] [3], .val 10 (.agg (dv z1)) [] [0], .val 11 (.agg (dv z2)) [1, 2] [], .val 12 (.pointer (some ⟨g1, 16, none⟩)) [] [], .val 13 (.agg (dv r.Y)) [4] [3], .val 14 (.agg (dv z1)) [] [0], .val 15 (.agg (dv z3)) [5, 6] [], .sto 2 g2 33 (dv 0) (dv z2) [3], .sto 1 g3 33 (dv 0) (dv z3) [7]] [0, 1, 0, 6, 0, 16, 0, 104, 143, 511] (by kernel_rfl) (by kernel_rfl) (by kernel_rfl) H ⟨⟨does_fieldAddr rfl rfl (fun W => (fa_rpt _ W).1), wanted_none rfl⟩, ⟨does_loadAt (v := .agg (dv r.X)) rfl rfl (k := 0) rfl ld_rpt0, wanted_none rfl⟩, ⟨does_load rfl rfl (k := 0) rfl Tryd.underlying33 rfl (info_dv _), wanted_none rfl⟩, ⟨does_call rfl ⟨_, Tryd.func49, by kernel_rfl⟩ rfl (fun W hb => mulD hz2 W), wanted_none rfl⟩, ⟨does_fieldAddr rfl rfl (fun W => (fa_rpt _ W).2.1), wanted_none rfl⟩, ⟨does_loadAt (v := .agg (dv r.Y)) rfl rfl (k := 0) rfl ld_rpt1, wanted_none rfl⟩, ⟨does_load rfl rfl (k := 0) rfl Tryd.underlying33 rfl (info_dv _), wanted_none rfl⟩, ⟨does_call rfl ⟨_, Tryd.func49, by kernel_rfl⟩ rfl (fun W hb => mulD hz3 W), wanted_none rfl⟩, ⟨rfl, rfl, sto_row rfl rfl rfl (info_dv _) (by simp only [dv_size, ds_size, tv_size, cv_size, ks_size]) (dv_one _)⟩, ⟨rfl, rfl, sto_row rfl rfl rfl (info_dv _) (by simp only [dv_size, ds_size, tv_size, cv_size, ks_size]) (dv_one _)⟩, trivial⟩ ?_
  clear H a W
  intro G5 a W H
  replace H : St 16 w a W [(8, .pointer (some ⟨g1, 0, none⟩)), (9, .agg (dv r.X)), (10, .agg (dv z1)), (11, .agg (dv z2)), (12, .pointer (some ⟨g1, 16, none⟩)), (13, .agg (dv r.Y)), (14, .agg (dv z1)), (15, .agg (dv z3)), (4, .pointer (some ⟨g4, 0, none⟩)), (3, .pointer (some ⟨g3, 0, none⟩)), (2, .pointer (some ⟨g2, 0, none⟩)), (1, .pointer (some ⟨g1, 0, none⟩))] [(g4, 33, dv z1), (g3, 33, dv z3), (g2, 33, dv z2), (g1, 35, tv r)] := H
  replace H : St 16 w a W [(3, .pointer (some ⟨g3, 0, none⟩)), (2, .pointer (some ⟨g2, 0, none⟩))] [(g3, 33, dv z3), (g2, 33, dv z2)] := H.pick [9, 10] [1, 2] rfl
  refine hK3 _ _ ?_
  clear hK3
  refine wp_ret ?_
  repeat (first | (with_reducible refine then_ret ?_) | (with_reducible refine blk_ret ?_))
  refine end_cells (p := 2) (q := 3) rfl rfl (k := 1) rfl Tryd.underlying33 rfl (info_dv _) rfl (k2 := 0) rfl Tryd.underlying33 rfl (info_dv _) H (fun hb => ?_)
  refine ⟨?_, hb⟩
  obtain ⟨e1, e2⟩ := h.flat
  rw [← hz1] at e1 e2
  rw [hz2, hz3, e1, e2]
set_option maxHeartbeats 4000000 in
theorem rbytes_pt {P : Pt} {r : Pj3} (h : RepR P r) {m : Nat} (hm : m = pbn P) (w : World) : Calls Tryd.prog 21 #[.agg (tv r)] w (fun rr w' => rr = .returned (.agg (ks m)) ∧ Below w.heap.size w w') := by
  obtain ⟨x, hx⟩ : ∃ x : Nat, P.y.val / 256 ^ 31 % 256 = x := ⟨_, rfl⟩
  have hx1 : x < 128 := by have := PP_lt255 P.y; omega
  obtain ⟨d, hd⟩ : ∃ d : Nat, P.x.val % 65536 = d := ⟨_, rfl⟩
  obtain ⟨e, he⟩ : ∃ e : Nat, d % 2 = e := ⟨_, rfl⟩
  have he2 : e < 2 := by omega
  obtain ⟨f, hf⟩ : ∃ f : Nat, e * 128 = f := ⟨_, rfl⟩
  obtain ⟨y, hy⟩ : ∃ y, x + f = y := ⟨_, rfl⟩
  have hy1 : y < 256 := by omega
  have hput : putd 256 P.y.val 31 y = m := by
    have := putd_eq 256 P.y.val 31 y
    have hb := PP_lt255 P.y
    have hpar : P.x.val % 2 = e := by omega
    rw [hm]
    unfold pbn
    rw [hpar]
    rw [hx] at this
    omega
  refine calls_st (vs := [.agg (tv r)]) 23 Tryd.func21 rfl Tryd.ntmps21 rfl (fun a W H => ?_)
  replace H : St 23 w a W [(0, .agg (tv r))] [] := H
  refine wp_seq_k (fun K1 hK1 => ?_)
  refine rg_plain ?_
  refine pl_box rfl rfl (bx_rpt r) rfl rfl rfl rfl H ?_
  clear H a W
  intro g1 a W H
  refine pl_new (news_of rfl al_key0) rfl rfl rfl rfl H ?_
  clear H a W
  intro g2 a W H
  refine pl_end ?_
  replace H : St 23 w a W [(2, .pointer (some ⟨g2, 0, none⟩)), (1, .pointer (some ⟨g1, 0, none⟩))] [(g2, 23, ks 0), (g1, 35, tv r)] := H.pick [0, 1] [0, 1] rfl
  refine hK1 _ _ ?_
  clear hK1
  refine wp_seq_k (fun K2 hK2 => ?_)
  refine rg_plain ?_
  refine pl_does (does_load rfl rfl (k := 1) rfl Tryd.underlying35 rfl (info_rpt _)) rfl rfl rfl rfl H ?_
  clear H a W
  intro a W H
  refine pl_does (does_call rfl ⟨_, Tryd.func15, by kernel_rfl⟩ rfl (fun W hb => rflat h W)) rfl rfl rfl rfl H ?_
  clear H a W
  intro a W H
  refine pl_does (does_move rfl rfl) rfl rfl rfl rfl H ?_
  clear H a W
  intro a W H
  refine pl_does (does_extract rfl rfl (fun _ => rfl)) rfl rfl rfl rfl H ?_
  clear H a W
  intro a W H
  refine pl_does (does_extract rfl rfl (fun _ => rfl)) rfl rfl rfl rfl H ?_
  clear H a W
  intro a W H
  refine pl_new (news_of rfl al_num) rfl rfl rfl rfl H ?_
  clear H a W
  intro g3 a W H
  refine pl_new (news_of rfl al_num) rfl rfl rfl rfl H ?_
  clear H a W
  intro g4 a W H
  refine pl_store rfl rfl rfl (k := 1) rfl (info_dv _) (by simp only [dv_size, ds_size, tv_size, cv_size, ks_size]) (dv_one _) rfl rfl H ?_
  clear H a W
  intro a W H
  refine pl_store rfl rfl rfl (k := 0) rfl (info_dv _) (by simp only [dv_size, ds_size, tv_size, cv_size, ks_size]) (dv_one _) rfl rfl H ?_
  clear H a W
  intro a W H
  refine pl_end ?_
  replace H : St 23 w a W [(4, .pointer (some ⟨g4, 0, none⟩)), (3, .pointer (some ⟨g3, 0, none⟩)), (2, .pointer (some ⟨g2, 0, none⟩))] [(g4, 33, dv P.y), (g3, 33, dv P.x), (g2, 23, ks 0)] := H.pick [0, 1, 7] [0, 1, 2] rfl
  refine hK2 _ _ ?_
  clear hK2
  refine wp_seq_k (fun K3 hK3 => ?_)
  refine rg_plain ?_
  refine pl_does (does_load rfl rfl (k := 0) rfl Tryd.underlying33 rfl (info_dv _)) rfl rfl rfl rfl H ?_
  clear H a W
  intro a W H
  refine pl_does (does_call rfl ⟨_, Tryd.func17, by kernel_rfl⟩ rfl (fun W hb => bytesD P.y W)) rfl rfl rfl rfl H ?_
  clear H a W
  intro a W H
  refine pl_new (news_of rfl al_key0) rfl rfl rfl rfl H ?_
  clear H a W
  intro g5 a W H
  refine pl_store rfl rfl rfl (k := 0) rfl (info_ks _) (by simp only [dv_size, ds_size, tv_size, cv_size, ks_size]) (ks_one _) rfl rfl H ?_
  clear H a W
  intro a W H
  refine pl_end ?_
  replace H : St 23 w a W [(5, .pointer (some ⟨g5, 0, none⟩)), (3, .pointer (some ⟨g3, 0, none⟩)), (2, .pointer (some ⟨g2, 0, none⟩))] [(g5, 23, ks P.y.val), (g3, 33, dv P.x), (g2, 23, ks 0)] := H.pick [0, 4, 5] [0, 2, 3] rfl
  refine hK3 _ _ ?_
  clear hK3
  refine wp_seq_k (fun K4 hK4 => ?_)
  refine rg_plain ?_
  refine pl_does (does_indexAddr rfl rfl rfl (ia_key31r _)) rfl rfl rfl rfl H ?_
  clear H a W
  intro a W H
  refine pl_does (does_loadAt (v := .int .u8 ((x : Nat) : Int)) rfl rfl (k := 0) rfl (ld_key31r hx)) rfl rfl rfl rfl H ?_
  clear H a W
  intro a W H
  refine pl_does (does_indexAddr rfl rfl rfl (ia_num0 _)) rfl rfl rfl rfl H ?_
  clear H a W
  intro a W H
  refine pl_does (does_loadAt (v := .int .u64 ((d : Nat) : Int)) rfl rfl (k := 1) rfl (ld_num0 hd)) rfl rfl rfl rfl H ?_
  clear H a W
  intro a W H
  refine pl_does (does_binOp rfl rfl rfl (q_rem2 he _ _)) rfl rfl rfl rfl H ?_
  clear H a W
  intro a W H
  refine pl_does (does_convert rfl rfl (cv_u64_u8 (by omega))) rfl rfl rfl rfl H ?_
  clear H a W
  intro a W H
  refine pl_does (does_binOp rfl rfl rfl (b_mul128 he2 hf _ _)) rfl rfl rfl rfl H ?_
  clear H a W
  intro a W H
  refine pl_does (does_binOp rfl rfl rfl (b_add hy hy1 _ _)) rfl rfl rfl rfl H ?_
  clear H a W
  intro a W H
  refine pl_does (does_indexAddr rfl rfl rfl (ia_key31r _)) rfl rfl rfl rfl H ?_
  clear H a W
  intro a W H
  refine pl_storeAt rfl rfl rfl (k := 0) rfl st_key31r (sv_key31r hy1 hput) rfl rfl H ?_
  clear H a W
  intro a W H
  refine pl_end ?_
  replace H : St 23 w a W [(5, .pointer (some ⟨g5, 0, none⟩)), (2, .pointer (some ⟨g2, 0, none⟩))] [(g5, 23, ks m), (g2, 23, ks 0)] := H.pick [9, 11] [0, 2] rfl
  refine hK4 _ _ ?_
  clear hK4
  refine wp_seq_k (fun K5 hK5 => ?_)
  refine rg_plain ?_
  refine pl_does (does_load rfl rfl (k := 0) rfl Tryd.underlying23 rfl (info_ks _)) rfl rfl rfl rfl H ?_
  clear H a W
  intro a W H
  refine pl_store rfl rfl rfl (k := 1) rfl (info_ks _) (by simp only [dv_size, ds_size, tv_size, cv_size, ks_size]) (ks_one _) rfl rfl H ?_
  clear H a W
  intro a W H
  refine pl_end ?_
  replace H : St 23 w a W [(2, .pointer (some ⟨g2, 0, none⟩))] [(g2, 23, ks m)] := H.pick [2] [1] rfl
  refine hK5 _ _ ?_
  clear hK5
  refine wp_ret ?_
  repeat (first | (with_reducible refine then_ret ?_) | (with_reducible refine blk_ret ?_))
  refine end_cell (p := 2) rfl rfl (k := 0) rfl Tryd.underlying23 rfl (info_ks _) H (fun hb => ?_)
  exact ⟨rfl, hb⟩
set_option maxHeartbeats 4000000 in
theorem rsame_zero {s t : Pj3} (h1 : ¬ s.X * t.Z = t.X * s.Z) (w : World) : Calls Tryd.prog 26 #[.agg (tv s), .agg (tv t)] w (fun rr w' => rr = .returned (.bool false) ∧ Below w.heap.size w w') := by
  obtain ⟨z1, hz1⟩ : ∃ z : Fin PP, z = s.X * t.Z := ⟨_, rfl⟩
  obtain ⟨z2, hz2⟩ : ∃ z : Fin PP, z = t.X * s.Z := ⟨_, rfl⟩
  rw [← hz1, ← hz2] at h1
  refine calls_st (vs := [.agg (tv s), .agg (tv t)]) 29 Tryd.func26 rfl Tryd.ntmps26 rfl (fun a W H => ?_)
  replace H : St 29 w a W [(0, .agg (tv s)), (1, .agg (tv t))] [] := H
  refine wp_seq_k (fun K1 hK1 => ?_)
  refine rg_plain ?_
  refine pl_box rfl rfl (bx_rpt s) rfl rfl rfl rfl H ?_
  clear H a W
  intro g1 a W H
  refine pl_box rfl rfl (bx_rpt t) rfl rfl rfl rfl H ?_
  clear H a W
  intro g2 a W H
  refine pl_does (does_assign rfl rfl) rfl rfl rfl rfl H ?_
  clear H a W
  intro a W H
  refine pl_end ?_
  replace H : St 29 w a W [(4, .bool false), (3, .pointer (some ⟨g2, 0, none⟩)), (2, .pointer (some ⟨g1, 0, none⟩))] [(g2, 35, tv t), (g1, 35, tv s)] := H.pick [0, 1, 2] [0, 1] rfl
  refine hK1 _ _ ?_
  clear hK1
  refine wp_seq_k (fun K2 hK2 => ?_)
  replace H : St 29 w a W [(3, .pointer (some ⟨g2, 0, none⟩)), (2, .pointer (some ⟨g1, 0, none⟩))] [(g2, 35, tv t), (g1, 35, tv s)] := H.pick [1, 2] [0, 1] rfl
  refine drawnS [.val 5 (.pointer (some ⟨g1, 0, none⟩)) [] [], .val 6 (.agg (dv s.X)) [0] [1], .val 7 (.pointer (some ⟨g2, 32, none⟩)) [] [], .val 8 (.agg (dv t.Z)) [2] [0], .val 9 (.agg (dv z1)) [1, 3] [], .val 10 (.pointer (some ⟨g2, 0, none⟩)) [] [], .val 11 (.agg (dv t.X)) [5] [0], .val 12 (.pointer (some ⟨g1, 32, none⟩)) [] [], .val 13 (.agg (dv s.Z)) [7] [1], .val 14 (.agg (dv z2)) [6, 8] [], .val 15 (.bool false) [4, 9] [], .val 16 (.bool false) [10] [], .off 17 [11], .off 18 [12, 11], .off 19 [11], .off 20 [14, 11], .off 21 [13, 15, 11], .off 22 [11], .off 23 [17, 11], .off 24 [11], .off 25 [19, 11], .off 26 [18, 20, 11], .off 27 [16, 21, 11], .val 28 (.bool false) [11, 22] [], .val 4 (.bool false) [23] []] [0, 1, 0, 4, 10, 0, 32, 0, 128, 336, 528, 1536, 2048, 6144, 2048, 18432, 43008, 2048, 133120, 2048, 526336, 1378304, 2164736, 4196352, 16777215] (by kernel_rfl) (by kernel_rfl) (by kernel_rfl) H ⟨⟨does_fieldAddr rfl rfl (fun W => (fa_rpt _ W).1), wanted_none rfl⟩, ⟨does_loadAt (v := .agg (dv s.X)) rfl rfl (k := 0) rfl ld_rpt0, wanted_none rfl⟩, ⟨does_fieldAddr rfl rfl (fun W => (fa_rpt _ W).2.2), wanted_none rfl⟩, ⟨does_loadAt (v := .agg (dv t.Z)) rfl rfl (k := 0) rfl ld_rpt2, wanted_none rfl⟩, ⟨does_call rfl ⟨_, Tryd.func49, by kernel_rfl⟩ rfl (fun W hb => mulD hz1 W), wanted_none rfl⟩, ⟨does_fieldAddr rfl rfl (fun W => (fa_rpt _ W).1), wanted_none rfl⟩, ⟨does_loadAt (v := .agg (dv t.X)) rfl rfl (k := 0) rfl ld_rpt0, wanted_none rfl⟩, ⟨does_fieldAddr rfl rfl (fun W => (fa_rpt _ W).2.2), wanted_none rfl⟩, ⟨does_loadAt (v := .agg (dv s.Z)) rfl rfl (k := 0) rfl ld_rpt2, wanted_none rfl⟩, ⟨does_call rfl ⟨_, Tryd.func49, by kernel_rfl⟩ rfl (fun W hb => mulD hz2 W), wanted_none rfl⟩, ⟨does_binOp rfl rfl rfl (eq_num (decide_eq_false h1) _ _), wanted_none rfl⟩, ⟨does_move rfl rfl, wanted_none rfl⟩, wanted_some rfl rfl rfl rfl rfl, wanted_some rfl rfl rfl rfl rfl, wanted_some rfl rfl rfl rfl rfl, wanted_some rfl rfl rfl rfl rfl, wanted_some rfl rfl rfl rfl rfl, wanted_some rfl rfl rfl rfl rfl, wanted_some rfl rfl rfl rfl rfl, wanted_some rfl rfl rfl rfl rfl, wanted_some rfl rfl rfl rfl rfl, wanted_some rfl rfl rfl rfl rfl, wanted_some rfl rfl rfl rfl rfl, ⟨does_pick rfl rfl (fun hb => by cases hb) (fun _ => rfl), wanted_none rfl⟩, ⟨does_assign rfl rfl, wanted_none rfl⟩, trivial⟩ ?_
  clear H a W
  intro G3 a W H
  replace H : St 29 w a W [(5, .pointer (some ⟨g1, 0, none⟩)), (6, .agg (dv s.X)), (7, .pointer (some ⟨g2, 32, none⟩)), (8, .agg (dv t.Z)), (9, .agg (dv z1)), (10, .pointer (some ⟨g2, 0, none⟩)), (11, .agg (dv t.X)), (12, .pointer (some ⟨g1, 32, none⟩)), (13, .agg (dv s.Z)), (14, .agg (dv z2)), (15, .bool false), (16, .bool false), (17, undef), (18, undef), (19, undef), (20, undef), (21, undef), (22, undef), (23, undef), (24, undef), (25, undef), (26, undef), (27, undef), (28, .bool false), (4, .bool false), (3, .pointer (some ⟨g2, 0, none⟩)), (2, .pointer (some ⟨g1, 0, none⟩))] [(g2, 35, tv t), (g1, 35, tv s)] := H
  replace H : St 29 w a W [(4, .bool false)] [] := H.pick [24] [] rfl
  refine hK2 _ _ ?_
  clear hK2
  refine wp_ret ?_
  repeat (first | (with_reducible refine then_ret ?_) | (with_reducible refine blk_ret ?_))
  refine end_tmp (p := 4) rfl rfl H (fun hb => ?_)
  exact ⟨rfl, hb⟩
set_option maxHeartbeats 4000000 in
theorem rsame_one {s t : Pj3} (h1 : s.X * t.Z = t.X * s.Z) {b : Bool} (h2 : decide (s.Y * t.Z = t.Y * s.Z) = b) (w : World) : Calls Tryd.prog 26 #[.agg (tv s), .agg (tv t)] w (fun rr w' => rr = .returned (.bool b) ∧ Below w.heap.size w w') := by
  obtain ⟨z1, hz1⟩ : ∃ z : Fin PP, z = s.X * t.Z := ⟨_, rfl⟩
  obtain ⟨z2, hz2⟩ : ∃ z : Fin PP, z = t.X * s.Z := ⟨_, rfl⟩
  obtain ⟨z3, hz3⟩ : ∃ z : Fin PP, z = s.Y * t.Z := ⟨_, rfl⟩
  obtain ⟨z4, hz4⟩ : ∃ z : Fin PP, z = t.Y * s.Z := ⟨_, rfl⟩
  rw [← hz1, ← hz2] at h1
  rw [← hz3, ← hz4] at h2
  refine calls_st (vs := [.agg (tv s), .agg (tv t)]) 29 Tryd.func26 rfl Tryd.ntmps26 rfl (fun a W H => ?_)
  replace H : St 29 w a W [(0, .agg (tv s)), (1, .agg (tv t))] [] := H
  refine wp_seq_k (fun K1 hK1 => ?_)
  refine rg_plain ?_
  refine pl_box rfl rfl (bx_rpt s) rfl rfl rfl rfl H ?_
  clear H a W
  intro g1 a W H
  refine pl_box rfl rfl (bx_rpt t) rfl rfl rfl rfl H ?_
  clear H a W
  intro g2 a W H
  refine pl_does (does_assign rfl rfl) rfl rfl rfl rfl H ?_
  clear H a W
  intro a W H
  refine pl_end ?_
  replace H : St 29 w a W [(4, .bool false), (3, .pointer (some ⟨g2, 0, none⟩)), (2, .pointer (some ⟨g1, 0, none⟩))] [(g2, 35, tv t), (g1, 35, tv s)] := H.pick [0, 1, 2] [0, 1] rfl
  refine hK1 _ _ ?_
  clear hK1
  refine wp_seq_k (fun K2 hK2 => ?_)
  replace H : St 29 w a W [(3, .pointer (some ⟨g2, 0, none⟩)), (2, .pointer (some ⟨g1, 0, none⟩))] [(g2, 35, tv t), (g1, 35, tv s)] := H.pick [1, 2] [0, 1] rfl
  refine drawnS [.val 5 (.pointer (some ⟨g1, 0, none⟩)) [] [], .val 6 (.agg (dv s.X)) [0] [1], .val 7 (.pointer (some ⟨g2, 32, none⟩)) [] [], .val 8 (.agg (dv t.Z)) [2] [0], .val 9 (.agg (dv z1)) [1, 3] [], .val 10 (.pointer (some ⟨g2, 0, none⟩)) [] [], .val 11 (.agg (dv t.X)) [5] [0], .val 12 (.pointer (some ⟨g1, 32, none⟩)) [] [], .val 13 (.agg (dv s.Z)) [7] [1], .val 14 (.agg (dv z2)) [6, 8] [], .val 15 (.bool true) [4, 9] [], .val 16 (.bool true) [10] [], .val 17 (.pointer (some ⟨g1, 16, none⟩)) [11] [], .val 18 (.agg (dv s.Y)) [12, 11] [1], .val 19 (.pointer (some ⟨g2, 32, none⟩)) [11] [], .val 20 (.agg (dv t.Z)) [14, 11] [0], .val 21 (.agg (dv z3)) [13, 15, 11] [], .val 22 (.pointer (some ⟨g2, 16, none⟩)) [11] [], .val 23 (.agg (dv t.Y)) [17, 11] [0], .val 24 (.pointer (some ⟨g1, 32, none⟩)) [11] [], .val 25 (.agg (dv s.Z)) [19, 11] [1], .val 26 (.agg (dv z4)) [18, 20, 11] [], .val 27 (.bool b) [16, 21, 11] [], .val 28 (.bool b) [11, 22] [], .val 4 (.bool b) [23] []] [0, 1, 0, 4, 10, 0, 32, 0, 128, 336, 528, 1536, 2048, 6144, 2048, 18432, 43008, 2048, 133120, 2048, 526336, 1378304, 2164736, 4196352, 16777215] (by kernel_rfl) (by kernel_rfl) (by kernel_rfl) H ⟨⟨does_fieldAddr rfl rfl (fun W => (fa_rpt _ W).1), wanted_none rfl⟩, ⟨does_loadAt (v := .agg (dv s.X)) rfl rfl (k := 0) rfl ld_rpt0, wanted_none rfl⟩, ⟨does_fieldAddr rfl rfl (fun W => (fa_rpt _ W).2.2), wanted_none rfl⟩, ⟨does_loadAt (v := .agg (dv t.Z)) rfl rfl (k := 0) rfl ld_rpt2, wanted_none rfl⟩, ⟨does_call rfl ⟨_, Tryd.func49, by kernel_rfl⟩ rfl (fun W hb => mulD hz1 W), wanted_none rfl⟩, ⟨does_fieldAddr rfl rfl (fun W => (fa_rpt _ W).1), wanted_none rfl⟩, ⟨does_loadAt (v := .agg (dv t.X)) rfl rfl (k := 0) rfl ld_rpt0, wanted_none rfl⟩, ⟨does_fieldAddr rfl rfl (fun W => (fa_rpt _ W).2.2), wanted_none rfl⟩, ⟨does_loadAt (v := .agg (dv s.Z)) rfl rfl (k := 0) rfl ld_rpt2, wanted_none rfl⟩, ⟨does_call rfl ⟨_, Tryd.func49, by kernel_rfl⟩ rfl (fun W hb => mulD hz2 W), wanted_none rfl⟩, ⟨does_binOp rfl rfl rfl (eq_num (decide_eq_true h1) _ _), wanted_none rfl⟩, ⟨does_move rfl rfl, wanted_none rfl⟩, ⟨does_fieldAddr rfl rfl (fun W => (fa_rpt _ W).2.1), wanted_some rfl rfl rfl rfl rfl⟩, ⟨does_loadAt (v := .agg (dv s.Y)) rfl rfl (k := 0) rfl ld_rpt1, wanted_some rfl rfl rfl rfl rfl⟩, ⟨does_fieldAddr rfl rfl (fun W => (fa_rpt _ W).2.2), wanted_some rfl rfl rfl rfl rfl⟩, ⟨does_loadAt (v := .agg (dv t.Z)) rfl rfl (k := 0) rfl ld_rpt2, wanted_some rfl rfl rfl rfl rfl⟩, ⟨does_call rfl ⟨_, Tryd.func49, by kernel_rfl⟩ rfl (fun W hb => mulD hz3 W), wanted_some rfl rfl rfl rfl rfl⟩, ⟨does_fieldAddr rfl rfl (fun W => (fa_rpt _ W).2.1), wanted_some rfl rfl rfl rfl rfl⟩, ⟨does_loadAt (v := .agg (dv t.Y)) rfl rfl (k := 0) rfl ld_rpt1, wanted_some rfl rfl rfl rfl rfl⟩, ⟨does_fieldAddr rfl rfl (fun W => (fa_rpt _ W).2.2), wanted_some rfl rfl rfl rfl rfl⟩, ⟨does_loadAt (v := .agg (dv s.Z)) rfl rfl (k := 0) rfl ld_rpt2, wanted_some rfl rfl rfl rfl rfl⟩, ⟨does_call rfl ⟨_, Tryd.func49, by kernel_rfl⟩ rfl (fun W hb => mulD hz4 W), wanted_some rfl rfl rfl rfl rfl⟩, ⟨does_binOp rfl rfl rfl (eq_num h2 _ _), wanted_some rfl rfl rfl rfl rfl⟩, ⟨does_pick rfl rfl (fun _ => rfl) (fun hb => by cases hb), wanted_none rfl⟩, ⟨does_assign rfl rfl, wanted_none rfl⟩, trivial⟩ ?_
  clear H a W
  intro G3 a W H
  replace H : St 29 w a W [(5, .pointer (some ⟨g1, 0, none⟩)), (6, .agg (dv s.X)), (7, .pointer (some ⟨g2, 32, none⟩)), (8, .agg (dv t.Z)), (9, .agg (dv z1)), (10, .pointer (some ⟨g2, 0, none⟩)), (11, .agg (dv t.X)), (12, .pointer (some ⟨g1, 32, none⟩)), (13, .agg (dv s.Z)), (14, .agg (dv z2)), (15, .bool true), (16, .bool true), (17, .pointer (some ⟨g1, 16, none⟩)), (18, .agg (dv s.Y)), (19, .pointer (some ⟨g2, 32, none⟩)), (20, .agg (dv t.Z)), (21, .agg (dv z3)), (22, .pointer (some ⟨g2, 16, none⟩)), (23, .agg (dv t.Y)), (24, .pointer (some ⟨g1, 32, none⟩)), (25, .agg (dv s.Z)), (26, .agg (dv z4)), (27, .bool b), (28, .bool b), (4, .bool b), (3, .pointer (some ⟨g2, 0, none⟩)), (2, .pointer (some ⟨g1, 0, none⟩))] [(g2, 35, tv t), (g1, 35, tv s)] := H
  replace H : St 29 w a W [(4, .bool b)] [] := H.pick [24] [] rfl
  refine hK2 _ _ ?_
  clear hK2
  refine wp_ret ?_
  repeat (first | (with_reducible refine then_ret ?_) | (with_reducible refine blk_ret ?_))
  refine end_tmp (p := 4) rfl rfl H (fun hb => ?_)
  exact ⟨rfl, hb⟩
theorem rsame_pt {P Q : Pt} {s t : Pj3} (hs : RepR P s) (ht : RepR Q t) {b : Bool} (h : decide (P = Q) = b) (w : World) : Calls Tryd.prog 26 #[.agg (tv s), .agg (tv t)] w (fun rr w' => rr = .returned (.bool b) ∧ Below w.heap.size w w') := by
  have he := RepR.same hs ht
  subst h
  by_cases h1 : s.X * t.Z = t.X * s.Z
  · refine rsame_one h1 ?_ w
    rw [Bool.eq_iff_iff]
    simp only [decide_eq_true_eq]
    rw [← he]
    exact ⟨fun h => ⟨h1, h⟩, fun h => h.2⟩
  · rw [decide_eq_false (fun e => h1 (he.2 e).1)]
    exact rsame_zero h1 w
section
attribute [local semireducible] rpMul
theorem rpMul_zero {n : Nat} {p : Pj3} : rpMul p n 0 = rpNil := rfl
theorem rpMul_yes {n k : Nat} {s : Pj3} (h : lbit n (255 - k) = true) : rpMul s n (k + 1) = rpAdd (rpAdd (rpMul s n k) (rpMul s n k)) s := by
  show (if lbit n (255 - k) = true then _ else _) = _
  rw [if_pos h]
theorem rpMul_no {n k : Nat} {s : Pj3} (h : lbit n (255 - k) = false) : rpMul s n (k + 1) = rpAdd (rpMul s n k) (rpMul s n k) := by
  show (if lbit n (255 - k) = true then _ else _) = _
  rw [if_neg (by rw [h]; decide)]
end
set_option maxHeartbeats 4000000 in
theorem rmul_pt {q p r : Pj3} {n : Nat} (h : r = rpMul p n 256) (w : World) : Calls Tryd.prog 28 #[.agg (cv TD q), .agg (tv p), .agg (ks n)] w (fun rr w' => rr = .returned (.agg (tv r)) ∧ Below w.heap.size w w') := by
  refine calls_st (vs := [.agg (cv TD q), .agg (tv p), .agg (ks n)]) 33 Tryd.func28 rfl Tryd.ntmps28 rfl (fun a W H => ?_)
  replace H : St 33 w a W [(0, .agg (cv TD q)), (1, .agg (tv p)), (2, .agg (ks n))] [] := H
  refine wp_seq_k (fun K1 hK1 => ?_)
  refine rg_plain ?_
  refine pl_box rfl rfl (bx_cv TD q) rfl rfl rfl rfl H ?_
  clear H a W
  intro g1 a W H
  refine pl_box rfl rfl (bx_rpt p) rfl rfl rfl rfl H ?_
  clear H a W
  intro g2 a W H
  refine pl_box rfl rfl (bx_keyr n) rfl rfl rfl rfl H ?_
  clear H a W
  intro g3 a W H
  refine pl_new (news_of rfl al_rpt) rfl rfl rfl rfl H ?_
  clear H a W
  intro g4 a W H
  refine pl_end ?_
  replace H : St 33 w a W [(6, .pointer (some ⟨g4, 0, none⟩)), (5, .pointer (some ⟨g3, 0, none⟩)), (4, .pointer (some ⟨g2, 0, none⟩)), (3, .pointer (some ⟨g1, 0, none⟩))] [(g4, 35, tv RZ), (g3, 23, ks n), (g2, 35, tv p), (g1, 38, cv TD q)] := H.pick [0, 1, 2, 3] [0, 1, 2, 3] rfl
  refine hK1 _ _ ?_
  clear hK1
  refine wp_seq_k (fun K2 hK2 => ?_)
  refine rg_plain ?_
  refine pl_does (does_call rfl ⟨_, Tryd.func56, by kernel_rfl⟩ rfl (fun W hb => rnought (show rpMul p n 0 = rpNil from rpMul_zero) W)) rfl rfl rfl rfl H ?_
  clear H a W
  intro a W H
  refine pl_new (news_of rfl al_rpt) rfl rfl rfl rfl H ?_
  clear H a W
  intro g5 a W H
  refine pl_store rfl rfl rfl (k := 0) rfl (info_rpt _) (by simp only [dv_size, ds_size, tv_size, cv_size, ks_size]) (tv_one _) rfl rfl H ?_
  clear H a W
  intro a W H
  refine pl_end ?_
  replace H : St 33 w a W [(7, .pointer (some ⟨g5, 0, none⟩)), (6, .pointer (some ⟨g4, 0, none⟩)), (5, .pointer (some ⟨g3, 0, none⟩)), (4, .pointer (some ⟨g2, 0, none⟩)), (3, .pointer (some ⟨g1, 0, none⟩))] [(g5, 35, tv (rpMul p n 0)), (g4, 35, tv RZ), (g3, 23, ks n), (g2, 35, tv p), (g1, 38, cv TD q)] := H.pick [0, 2, 3, 4, 5] [0, 1, 2, 3, 4] rfl
  refine hK2 _ _ ?_
  clear hK2
  refine wp_seq_k (fun K3 hK3 => ?_)
  refine wp_seq_k (fun K4 hK4 => ?_)
  refine rg_plain ?_
  refine pl_does (does_assign rfl rfl) rfl rfl rfl rfl H ?_
  clear H a W
  intro a W H
  refine pl_end ?_
  refine hK4 _ _ ?_
  clear hK4
  refine wp_block ?_
  replace H : St 33 w a W [(8, .int .i64 (255 - ((0 : Nat) : Int))), (7, .pointer (some ⟨g5, 0, none⟩)), (6, .pointer (some ⟨g4, 0, none⟩)), (5, .pointer (some ⟨g3, 0, none⟩)), (4, .pointer (some ⟨g2, 0, none⟩)), (3, .pointer (some ⟨g1, 0, none⟩))] [(g5, 35, tv (rpMul p n (0))), (g4, 35, tv RZ), (g3, 23, ks n), (g2, 35, tv p), (g1, 38, cv TD q)] := H.pick [0, 1, 2, 3, 4, 5] [0, 1, 2, 3, 4] rfl
  refine wp_rounds 256 (fun k a W => St 33 w a W [(8, .int .i64 (255 - ((k : Nat) : Int))), (7, .pointer (some ⟨g5, 0, none⟩)), (6, .pointer (some ⟨g4, 0, none⟩)), (5, .pointer (some ⟨g3, 0, none⟩)), (4, .pointer (some ⟨g2, 0, none⟩)), (3, .pointer (some ⟨g1, 0, none⟩))] [(g5, 35, tv (rpMul p n (k))), (g4, 35, tv RZ), (g3, 23, ks n), (g2, 35, tv p), (g1, 38, cv TD q)]) (k0 := 0) H (by omega) ?_
  clear H a W
  intro k a W hk H
  by_cases hk2 : k < 256
  · rcases Bool.eq_false_or_eq_true (lbit n (255 - k)) with hbit | hbit
    · obtain ⟨i, hi⟩ : ∃ i : Nat, i = 255 - k := ⟨_, rfl⟩
      have hi1 : i < 256 := by omega
      rw [show (255 - ((k : Nat) : Int)) = ((i : Nat) : Int) by omega] at H
      obtain ⟨j, hj⟩ : ∃ j : Nat, i / 8 = j := ⟨_, rfl⟩
      obtain ⟨r8, hr8⟩ : ∃ r : Nat, i % 8 = r := ⟨_, rfl⟩
      obtain ⟨x, hx⟩ : ∃ x : Nat, n / 256 ^ j % 256 = x := ⟨_, rfl⟩
      obtain ⟨y, hy⟩ : ∃ y : Nat, x / 2 ^ r8 = y := ⟨_, rfl⟩
      obtain ⟨z, hz⟩ : ∃ z : Nat, y % 2 = z := ⟨_, rfl⟩
      have hzb : decide (z = 1) = true := by
        rw [← hz, ← hy, ← hx, ← hj, ← hr8, bit_at, hi]
        exact hbit
      have hn : rpMul p n (k + 1) = rpAdd (rpAdd (rpMul p n k) (rpMul p n k)) p := rpMul_yes hbit
      refine wp_seq_k (fun K5 hK5 => ?_)
      refine wp_seq_k (fun K6 hK6 => ?_)
      refine rg_plain ?_
      refine pl_does (does_move rfl rfl) rfl rfl rfl rfl H ?_
      clear H a W
      intro a W H
      refine pl_does (does_binOp rfl rfl rfl (i_geq_yes (by omega) _ _)) rfl rfl rfl rfl H ?_
      clear H a W
      intro a W H
      refine pl_end ?_
      refine hK6 _ _ ?_
      clear hK6
      refine wp_cond_true (H.ev rfl) ?_
      refine wp_skip ?_
      refine hK5 _ _ ?_
      clear hK5
      refine wp_seq_k (fun K7 hK7 => ?_)
      refine wp_block ?_
      refine wp_seq_k (fun K8 hK8 => ?_)
      refine rg_plain ?_
      refine pl_does (does_load rfl rfl (k := 4) rfl Tryd.underlying38 rfl (info_cv _ _)) rfl rfl rfl rfl H ?_
      clear H a W
      intro a W H
      refine pl_does (does_load rfl rfl (k := 0) rfl Tryd.underlying35 rfl (info_rpt _)) rfl rfl rfl rfl H ?_
      clear H a W
      intro a W H
      refine pl_does (does_load rfl rfl (k := 0) rfl Tryd.underlying35 rfl (info_rpt _)) rfl rfl rfl rfl H ?_
      clear H a W
      intro a W H
      refine pl_does (does_call rfl ⟨_, Tryd.func22, by kernel_rfl⟩ rfl (fun W hb => radd_pt rfl W)) rfl rfl rfl rfl H ?_
      clear H a W
      intro a W H
      refine pl_store rfl rfl rfl (k := 0) rfl (info_rpt _) (by simp only [dv_size, ds_size, tv_size, cv_size, ks_size]) (tv_one _) rfl rfl H ?_
      clear H a W
      intro a W H
      refine pl_end ?_
      refine hK8 _ _ ?_
      clear hK8
      refine wp_seq_k (fun K9 hK9 => ?_)
      refine rg_plain ?_
      refine pl_does (does_move rfl rfl) rfl rfl rfl rfl H ?_
      clear H a W
      intro a W H
      refine pl_does (does_binOp rfl rfl rfl (i_quo8n hi1 hj _ _)) rfl rfl rfl rfl H ?_
      clear H a W
      intro a W H
      refine pl_does (does_indexAddr rfl rfl rfl (ia_keyn (by omega))) rfl rfl rfl rfl H ?_
      clear H a W
      intro a W H
      refine pl_does (does_loadAt (v := .int .u8 ((x : Nat) : Int)) rfl rfl (k := 2) rfl (ld_keyn (by omega) hx)) rfl rfl rfl rfl H ?_
      clear H a W
      intro a W H
      refine pl_does (does_move rfl rfl) rfl rfl rfl rfl H ?_
      clear H a W
      intro a W H
      refine pl_does (does_binOp rfl rfl rfl (i_rem8n hi1 hr8 _ _)) rfl rfl rfl rfl H ?_
      clear H a W
      intro a W H
      refine pl_does (does_convert rfl rfl (cv_int_uint (by omega))) rfl rfl rfl rfl H ?_
      clear H a W
      intro a W H
      refine pl_does (does_binOp rfl rfl rfl (b_shr (by omega) hy _ _)) rfl rfl rfl rfl H ?_
      clear H a W
      intro a W H
      refine pl_does (does_binOp rfl rfl rfl (b_rem2 hz _ _)) rfl rfl rfl rfl H ?_
      clear H a W
      intro a W H
      refine pl_does (does_binOp rfl rfl rfl (b_eql1 hzb _ _)) rfl rfl rfl rfl H ?_
      clear H a W
      intro a W H
      refine pl_end ?_
      refine hK9 _ _ ?_
      clear hK9
      refine wp_cond_true (H.ev rfl) ?_
      refine rg_plain ?_
      refine pl_does (does_load rfl rfl (k := 4) rfl Tryd.underlying38 rfl (info_cv _ _)) rfl rfl rfl rfl H ?_
      clear H a W
      intro a W H
      refine pl_does (does_load rfl rfl (k := 0) rfl Tryd.underlying35 rfl (info_rpt _)) rfl rfl rfl rfl H ?_
      clear H a W
      intro a W H
      refine pl_does (does_load rfl rfl (k := 3) rfl Tryd.underlying35 rfl (info_rpt _)) rfl rfl rfl rfl H ?_
      clear H a W
      intro a W H
      refine pl_does (does_call rfl ⟨_, Tryd.func22, by kernel_rfl⟩ rfl (fun W hb => radd_pt rfl W)) rfl rfl rfl rfl H ?_
      clear H a W
      intro a W H
      refine pl_store rfl rfl rfl (k := 0) rfl (info_rpt _) (by simp only [dv_size, ds_size, tv_size, cv_size, ks_size]) (tv_one _) rfl rfl H ?_
      clear H a W
      intro a W H
      refine pl_end ?_
      refine blk_normal ?_
      refine hK7 _ _ ?_
      clear hK7
      refine rg_plain ?_
      refine pl_does (does_move rfl rfl) rfl rfl rfl rfl H ?_
      clear H a W
      intro a W H
      refine pl_does (does_binOp rfl rfl rfl (i_sub _ _ (by omega) _ _)) rfl rfl rfl rfl H ?_
      clear H a W
      intro a W H
      replace H : St 33 w a W [(13, .int .i64 (((i : Nat) : Int) - 1)), (12, .int .i64 ((i : Nat) : Int)), (31, .agg (tv (rpAdd (rpAdd (rpMul p n (k)) (rpMul p n (k))) p))), (30, .agg (tv p)), (29, .agg (tv (rpAdd (rpMul p n (k)) (rpMul p n (k))))), (28, .agg (cv TD q)), (27, .bool true), (26, .int .u8 ((z : Nat) : Int)), (25, .int .u8 ((y : Nat) : Int)), (24, .int .u64 ((r8 : Nat) : Int)), (23, .int .i64 ((r8 : Nat) : Int)), (22, .int .i64 ((i : Nat) : Int)), (21, .int .u8 ((x : Nat) : Int)), (20, .pointer (some ⟨g3, j, none⟩)), (19, .int .i64 ((j : Nat) : Int)), (18, .int .i64 ((i : Nat) : Int)), (17, .agg (tv (rpAdd (rpMul p n (k)) (rpMul p n (k))))), (16, .agg (tv (rpMul p n (k)))), (15, .agg (tv (rpMul p n (k)))), (14, .agg (cv TD q)), (11, .bool true), (10, .int .i64 ((i : Nat) : Int)), (7, .pointer (some ⟨g5, 0, none⟩)), (6, .pointer (some ⟨g4, 0, none⟩)), (5, .pointer (some ⟨g3, 0, none⟩)), (4, .pointer (some ⟨g2, 0, none⟩)), (3, .pointer (some ⟨g1, 0, none⟩))] [(g5, 35, tv (rpAdd (rpAdd (rpMul p n (k)) (rpMul p n (k))) p)), (g4, 35, tv RZ), (g3, 23, ks n), (g2, 35, tv p), (g1, 38, cv TD q)] := H.pick [0, 1, 2, 3, 4, 5, 6, 7, 8, 9, 10, 11, 12, 13, 14, 15, 16, 17, 18, 19, 20, 21, 23, 24, 25, 26, 27] [0, 1, 2, 3, 4] rfl
      refine pl_does (does_assign rfl rfl) rfl rfl rfl rfl H ?_
      clear H a W
      intro a W H
      refine pl_end ?_
      refine ⟨k + 1, by omega, by omega, ?_⟩
      show St 33 w a W [(8, .int .i64 (255 - ((k + 1 : Nat) : Int))), (7, .pointer (some ⟨g5, 0, none⟩)), (6, .pointer (some ⟨g4, 0, none⟩)), (5, .pointer (some ⟨g3, 0, none⟩)), (4, .pointer (some ⟨g2, 0, none⟩)), (3, .pointer (some ⟨g1, 0, none⟩))] [(g5, 35, tv (rpMul p n (k + 1))), (g4, 35, tv RZ), (g3, 23, ks n), (g2, 35, tv p), (g1, 38, cv TD q)]
      rw [hn, show (255 - (((k + 1) : Nat) : Int)) = ((i : Nat) : Int) - 1 by omega]
      exact H.pick [0, 23, 24, 25, 26, 27] [0, 1, 2, 3, 4] rfl
    · obtain ⟨i, hi⟩ : ∃ i : Nat, i = 255 - k := ⟨_, rfl⟩
      have hi1 : i < 256 := by omega
      rw [show (255 - ((k : Nat) : Int)) = ((i : Nat) : Int) by omega] at H
      obtain ⟨j, hj⟩ : ∃ j : Nat, i / 8 = j := ⟨_, rfl⟩
      obtain ⟨r8, hr8⟩ : ∃ r : Nat, i % 8 = r := ⟨_, rfl⟩
      obtain ⟨x, hx⟩ : ∃ x : Nat, n / 256 ^ j % 256 = x := ⟨_, rfl⟩
      obtain ⟨y, hy⟩ : ∃ y : Nat, x / 2 ^ r8 = y := ⟨_, rfl⟩
      obtain ⟨z, hz⟩ : ∃ z : Nat, y % 2 = z := ⟨_, rfl⟩
      have hzb : decide (z = 1) = false := by
        rw [← hz, ← hy, ← hx, ← hj, ← hr8, bit_at, hi]
        exact hbit
      have hn : rpMul p n (k + 1) = rpAdd (rpMul p n k) (rpMul p n k) := rpMul_no hbit
      refine wp_seq_k (fun K10 hK10 => ?_)
      refine wp_seq_k (fun K11 hK11 => ?_)
      refine rg_plain ?_
      refine pl_does (does_move rfl rfl) rfl rfl rfl rfl H ?_
      clear H a W
      intro a W H
      refine pl_does (does_binOp rfl rfl rfl (i_geq_yes (by omega) _ _)) rfl rfl rfl rfl H ?_
      clear H a W
      intro a W H
      refine pl_end ?_
      refine hK11 _ _ ?_
      clear hK11
      refine wp_cond_true (H.ev rfl) ?_
      refine wp_skip ?_
      refine hK10 _ _ ?_
      clear hK10
      refine wp_seq_k (fun K12 hK12 => ?_)
      refine wp_block ?_
      refine wp_seq_k (fun K13 hK13 => ?_)
      refine rg_plain ?_
      refine pl_does (does_load rfl rfl (k := 4) rfl Tryd.underlying38 rfl (info_cv _ _)) rfl rfl rfl rfl H ?_
      clear H a W
      intro a W H
      refine pl_does (does_load rfl rfl (k := 0) rfl Tryd.underlying35 rfl (info_rpt _)) rfl rfl rfl rfl H ?_
      clear H a W
      intro a W H
      refine pl_does (does_load rfl rfl (k := 0) rfl Tryd.underlying35 rfl (info_rpt _)) rfl rfl rfl rfl H ?_
      clear H a W
      intro a W H
      refine pl_does (does_call rfl ⟨_, Tryd.func22, by kernel_rfl⟩ rfl (fun W hb => radd_pt rfl W)) rfl rfl rfl rfl H ?_
      clear H a W
      intro a W H
      refine pl_store rfl rfl rfl (k := 0) rfl (info_rpt _) (by simp only [dv_size, ds_size, tv_size, cv_size, ks_size]) (tv_one _) rfl rfl H ?_
      clear H a W
      intro a W H
      refine pl_end ?_
      refine hK13 _ _ ?_
      clear hK13
      refine wp_seq_k (fun K14 hK14 => ?_)
      refine rg_plain ?_
      refine pl_does (does_move rfl rfl) rfl rfl rfl rfl H ?_
      clear H a W
      intro a W H
      refine pl_does (does_binOp rfl rfl rfl (i_quo8n hi1 hj _ _)) rfl rfl rfl rfl H ?_
      clear H a W
      intro a W H
      refine pl_does (does_indexAddr rfl rfl rfl (ia_keyn (by omega))) rfl rfl rfl rfl H ?_
      clear H a W
      intro a W H
      refine pl_does (does_loadAt (v := .int .u8 ((x : Nat) : Int)) rfl rfl (k := 2) rfl (ld_keyn (by omega) hx)) rfl rfl rfl rfl H ?_
      clear H a W
      intro a W H
      refine pl_does (does_move rfl rfl) rfl rfl rfl rfl H ?_
      clear H a W
      intro a W H
      refine pl_does (does_binOp rfl rfl rfl (i_rem8n hi1 hr8 _ _)) rfl rfl rfl rfl H ?_
      clear H a W
      intro a W H
      refine pl_does (does_convert rfl rfl (cv_int_uint (by omega))) rfl rfl rfl rfl H ?_
      clear H a W
      intro a W H
      refine pl_does (does_binOp rfl rfl rfl (b_shr (by omega) hy _ _)) rfl rfl rfl rfl H ?_
      clear H a W
      intro a W H
      refine pl_does (does_binOp rfl rfl rfl (b_rem2 hz _ _)) rfl rfl rfl rfl H ?_
      clear H a W
      intro a W H
      refine pl_does (does_binOp rfl rfl rfl (b_eql1 hzb _ _)) rfl rfl rfl rfl H ?_
      clear H a W
      intro a W H
      refine pl_end ?_
      refine hK14 _ _ ?_
      clear hK14
      refine wp_cond_false (H.ev rfl) ?_
      refine wp_skip ?_
      refine blk_normal ?_
      refine hK12 _ _ ?_
      clear hK12
      refine rg_plain ?_
      refine pl_does (does_move rfl rfl) rfl rfl rfl rfl H ?_
      clear H a W
      intro a W H
      refine pl_does (does_binOp rfl rfl rfl (i_sub _ _ (by omega) _ _)) rfl rfl rfl rfl H ?_
      clear H a W
      intro a W H
      replace H : St 33 w a W [(13, .int .i64 (((i : Nat) : Int) - 1)), (12, .int .i64 ((i : Nat) : Int)), (27, .bool false), (26, .int .u8 ((z : Nat) : Int)), (25, .int .u8 ((y : Nat) : Int)), (24, .int .u64 ((r8 : Nat) : Int)), (23, .int .i64 ((r8 : Nat) : Int)), (22, .int .i64 ((i : Nat) : Int)), (21, .int .u8 ((x : Nat) : Int)), (20, .pointer (some ⟨g3, j, none⟩)), (19, .int .i64 ((j : Nat) : Int)), (18, .int .i64 ((i : Nat) : Int)), (17, .agg (tv (rpAdd (rpMul p n (k)) (rpMul p n (k))))), (16, .agg (tv (rpMul p n (k)))), (15, .agg (tv (rpMul p n (k)))), (14, .agg (cv TD q)), (11, .bool true), (10, .int .i64 ((i : Nat) : Int)), (7, .pointer (some ⟨g5, 0, none⟩)), (6, .pointer (some ⟨g4, 0, none⟩)), (5, .pointer (some ⟨g3, 0, none⟩)), (4, .pointer (some ⟨g2, 0, none⟩)), (3, .pointer (some ⟨g1, 0, none⟩))] [(g5, 35, tv (rpAdd (rpMul p n (k)) (rpMul p n (k)))), (g4, 35, tv RZ), (g3, 23, ks n), (g2, 35, tv p), (g1, 38, cv TD q)] := H.pick [0, 1, 2, 3, 4, 5, 6, 7, 8, 9, 10, 11, 12, 13, 14, 15, 16, 17, 19, 20, 21, 22, 23] [0, 1, 2, 3, 4] rfl
      refine pl_does (does_assign rfl rfl) rfl rfl rfl rfl H ?_
      clear H a W
      intro a W H
      refine pl_end ?_
      refine ⟨k + 1, by omega, by omega, ?_⟩
      show St 33 w a W [(8, .int .i64 (255 - ((k + 1 : Nat) : Int))), (7, .pointer (some ⟨g5, 0, none⟩)), (6, .pointer (some ⟨g4, 0, none⟩)), (5, .pointer (some ⟨g3, 0, none⟩)), (4, .pointer (some ⟨g2, 0, none⟩)), (3, .pointer (some ⟨g1, 0, none⟩))] [(g5, 35, tv (rpMul p n (k + 1))), (g4, 35, tv RZ), (g3, 23, ks n), (g2, 35, tv p), (g1, 38, cv TD q)]
      rw [hn, show (255 - (((k + 1) : Nat) : Int)) = ((i : Nat) : Int) - 1 by omega]
      exact H.pick [0, 19, 20, 21, 22, 23] [0, 1, 2, 3, 4] rfl
  · obtain rfl : k = 256 := by omega
    refine wp_seq_k (fun K15 hK15 => ?_)
    refine wp_seq_k (fun K16 hK16 => ?_)
    refine rg_plain ?_
    refine pl_does (does_move rfl rfl) rfl rfl rfl rfl H ?_
    clear H a W
    intro a W H
    refine pl_does (does_binOp rfl rfl rfl (i_geq_no (by omega) _ _)) rfl rfl rfl rfl H ?_
    clear H a W
    intro a W H
    refine pl_end ?_
    replace H : St 33 w a W [(11, .bool false), (8, .int .i64 (255 - ((256 : Nat) : Int))), (7, .pointer (some ⟨g5, 0, none⟩)), (6, .pointer (some ⟨g4, 0, none⟩)), (5, .pointer (some ⟨g3, 0, none⟩)), (4, .pointer (some ⟨g2, 0, none⟩)), (3, .pointer (some ⟨g1, 0, none⟩))] [(g5, 35, tv (rpMul p n (256))), (g4, 35, tv RZ), (g3, 23, ks n), (g2, 35, tv p), (g1, 38, cv TD q)] := H.pick [0, 2, 3, 4, 5, 6, 7] [0, 1, 2, 3, 4] rfl
    refine hK16 _ _ ?_
    clear hK16
    refine wp_cond_false (H.ev rfl) ?_
    refine wp_exit ?_
    repeat (with_reducible refine then_exit ?_)
    refine blk_exit ?_
    refine hK3 _ _ ?_
    clear hK3
    refine wp_seq_k (fun K17 hK17 => ?_)
    refine rg_plain ?_
    refine pl_does (does_load rfl rfl (k := 0) rfl Tryd.underlying35 rfl (info_rpt _)) rfl rfl rfl rfl H ?_
    clear H a W
    intro a W H
    refine pl_store rfl rfl rfl (k := 1) rfl (info_rpt _) (by simp only [dv_size, ds_size, tv_size, cv_size, ks_size]) (tv_one _) rfl rfl H ?_
    clear H a W
    intro a W H
    refine pl_end ?_
    replace H : St 33 w a W [(6, .pointer (some ⟨g4, 0, none⟩))] [(g4, 35, tv (rpMul p n (256)))] := H.pick [4] [1] rfl
    refine hK17 _ _ ?_
    clear hK17
    refine wp_ret ?_
    repeat (first | (with_reducible refine then_ret ?_) | (with_reducible refine blk_ret ?_))
    refine end_cell (p := 6) rfl rfl (k := 0) rfl Tryd.underlying35 rfl (info_rpt _) H (fun hb => ?_)
    exact ⟨by rw [h], hb⟩
end Go.Proofs.YtcijaoihcckofaaDoor
namespace Go.Proofs.YtcijaoihcckofaaDoor
set_option linter.unusedVariables false
set_option linter.unusedSimpArgs false
set_option maxRecDepth 100000
open Go Go.RowKit
attribute [local irreducible] dv tv cv ks rpMul rootC EE II TD BX BY
theorem rofY {n : Nat} {y : Fin PP} (h : y.val = n) (w : World) (hn : n < 115792089237316195423570985008687907853269984665640564039457584007913129639936) : Calls Tryd.prog 53 #[.agg (ks n)] w (fun e w' => e = .returned (.agg (dv y)) ∧ Below w.heap.size w w') := by
  have e : dv y = ds n := by unfold dv; rw [h]
  rw [e]
  exact rof_any n w hn
theorem rlessY {y : Fin PP} (h : y.val < PP) (w : World) : Calls Tryd.prog 54 #[.agg (dv y), .agg (ds PP)] w (fun e w' => e = .returned (.bool true) ∧ Below w.heap.size w w') := by
  have e : dv y = ds y.val := by unfold dv; exact Eq.refl _
  have h2 := rless_any y.val PP w lim (by decide +kernel)
  rw [decide_eq_true h] at h2
  rw [e]
  exact h2
theorem rlessN {n : Nat} (h : ¬ n < PP) (w : World) (hn : n < 115792089237316195423570985008687907853269984665640564039457584007913129639936) : Calls Tryd.prog 54 #[.agg (ds n), .agg (ds PP)] w (fun e w' => e = .returned (.bool false) ∧ Below w.heap.size w w') := by
  have h2 := rless_any n PP w hn (by decide +kernel)
  rw [decide_eq_false h] at h2
  exact h2
set_option maxHeartbeats 4000000 in
theorem rof_a {q : Pj3} {n : Nat} (hn : n < 115792089237316195423570985008687907853269984665640564039457584007913129639936) (h1 : ¬ n % 57896044618658097711785492504343953926634992332820282019728792003956564819968 < PP) (w : World) : Calls Tryd.prog 12 #[.agg (cv TD q), .agg (ks n)] w (fun rr w' => rr = .returned (.tuple #[.agg (tv rpNil), .bool false]) ∧ Below w.heap.size w w') := by
  obtain ⟨x, hx⟩ : ∃ x : Nat, n / 256 ^ 31 % 256 = x := ⟨_, rfl⟩
  have hx1 : x < 256 := by omega
  obtain ⟨y, hy⟩ : ∃ y : Nat, x / 128 = y := ⟨_, rfl⟩
  obtain ⟨v, hv⟩ : ∃ v : Nat, x % 128 = v := ⟨_, rfl⟩
  have hv1 : v < 256 := by omega
  obtain ⟨m, hm⟩ : ∃ m : Nat, n % 57896044618658097711785492504343953926634992332820282019728792003956564819968 = m := ⟨_, rfl⟩
  have hput : putd 256 n 31 v = m := by rw [← hv, ← hx, put_top hn, hm]
  have hm1 : m < 115792089237316195423570985008687907853269984665640564039457584007913129639936 := by omega
  have hof : ofK m = ofK n := by rw [← hm]; unfold ofK; rw [Nat.mod_mod]
  have hmx : (57896044618658097711785492504343953926634992332820282019728792003956564819968 ≤ n) ↔ 128 ≤ x := by omega
  obtain ⟨od, hod⟩ : ∃ b, decide (y = 1) = b := ⟨_, rfl⟩
  have hc : ¬ m < PP := by rw [← hm]; exact h1
  refine calls_st (vs := [.agg (cv TD q), .agg (ks n)]) 49 Tryd.func12 rfl Tryd.ntmps12 rfl (fun a W H => ?_)
  replace H : St 49 w a W [(0, .agg (cv TD q)), (1, .agg (ks n))] [] := H
  refine wp_seq_k (fun K1 hK1 => ?_)
  refine rg_plain ?_
  refine pl_box rfl rfl (bx_cv TD q) rfl rfl rfl rfl H ?_
  clear H a W
  intro g1 a W H
  refine pl_box rfl rfl (bx_keyr n) rfl rfl rfl rfl H ?_
  clear H a W
  intro g2 a W H
  refine pl_new (news_of rfl al_rpt) rfl rfl rfl rfl H ?_
  clear H a W
  intro g3 a W H
  refine pl_does (does_assign rfl rfl) rfl rfl rfl rfl H ?_
  clear H a W
  intro a W H
  refine pl_end ?_
  replace H : St 49 w a W [(5, .bool false), (4, .pointer (some ⟨g3, 0, none⟩)), (3, .pointer (some ⟨g2, 0, none⟩)), (2, .pointer (some ⟨g1, 0, none⟩))] [(g3, 35, tv RZ), (g2, 23, ks n), (g1, 38, cv TD q)] := H.pick [0, 1, 2, 3] [0, 1, 2] rfl
  refine hK1 _ _ ?_
  clear hK1
  refine wp_seq_k (fun K2 hK2 => ?_)
  refine rg_plain ?_
  refine pl_does (does_indexAddr rfl rfl rfl (ia_key31r _)) rfl rfl rfl rfl H ?_
  clear H a W
  intro a W H
  refine pl_does (does_loadAt (v := .int .u8 ((x : Nat) : Int)) rfl rfl (k := 1) rfl (ld_key31r hx)) rfl rfl rfl rfl H ?_
  clear H a W
  intro a W H
  refine pl_does (does_binOp rfl rfl rfl (b_quo128 hx1 hy _ _)) rfl rfl rfl rfl H ?_
  clear H a W
  intro a W H
  refine pl_does (does_binOp rfl rfl rfl (b_eql1 hod _ _)) rfl rfl rfl rfl H ?_
  clear H a W
  intro a W H
  refine pl_does (does_assign rfl rfl) rfl rfl rfl rfl H ?_
  clear H a W
  intro a W H
  refine pl_end ?_
  replace H : St 49 w a W [(6, .bool od), (5, .bool false), (4, .pointer (some ⟨g3, 0, none⟩)), (3, .pointer (some ⟨g2, 0, none⟩)), (2, .pointer (some ⟨g1, 0, none⟩))] [(g3, 35, tv RZ), (g2, 23, ks n), (g1, 38, cv TD q)] := H.pick [0, 5, 6, 7, 8] [0, 1, 2] rfl
  refine hK2 _ _ ?_
  clear hK2
  refine wp_seq_k (fun K3 hK3 => ?_)
  refine rg_plain ?_
  refine pl_does (does_indexAddr rfl rfl rfl (ia_key31r _)) rfl rfl rfl rfl H ?_
  clear H a W
  intro a W H
  refine pl_does (does_loadAt (v := .int .u8 ((x : Nat) : Int)) rfl rfl (k := 1) rfl (ld_key31r hx)) rfl rfl rfl rfl H ?_
  clear H a W
  intro a W H
  refine pl_does (does_binOp rfl rfl rfl (b_rem128 hx1 hv _ _)) rfl rfl rfl rfl H ?_
  clear H a W
  intro a W H
  refine pl_does (does_indexAddr rfl rfl rfl (ia_key31r _)) rfl rfl rfl rfl H ?_
  clear H a W
  intro a W H
  refine pl_storeAt rfl rfl rfl (k := 1) rfl st_key31r (sv_key31r hv1 hput) rfl rfl H ?_
  clear H a W
  intro a W H
  refine pl_end ?_
  replace H : St 49 w a W [(6, .bool od), (5, .bool false), (4, .pointer (some ⟨g3, 0, none⟩)), (3, .pointer (some ⟨g2, 0, none⟩)), (2, .pointer (some ⟨g1, 0, none⟩))] [(g3, 35, tv RZ), (g2, 23, ks m), (g1, 38, cv TD q)] := H.pick [4, 5, 6, 7, 8] [0, 1, 2] rfl
  refine hK3 _ _ ?_
  clear hK3
  refine wp_seq_k (fun K4 hK4 => ?_)
  refine rg_plain ?_
  refine pl_does (does_load rfl rfl (k := 1) rfl Tryd.underlying23 rfl (info_ks _)) rfl rfl rfl rfl H ?_
  clear H a W
  intro a W H
  refine pl_does (does_call rfl ⟨_, Tryd.func53, by kernel_rfl⟩ rfl (fun W hb => rof_any m W hm1)) rfl rfl rfl rfl H ?_
  clear H a W
  intro a W H
  refine pl_new (news_of rfl al_num) rfl rfl rfl rfl H ?_
  clear H a W
  intro g4 a W H
  refine pl_store rfl rfl rfl (k := 0) rfl (info_ds _) (by simp only [dv_size, ds_size, tv_size, cv_size, ks_size]) (ds_one _) rfl rfl H ?_
  clear H a W
  intro a W H
  refine pl_end ?_
  replace H : St 49 w a W [(7, .pointer (some ⟨g4, 0, none⟩)), (6, .bool od), (5, .bool false), (4, .pointer (some ⟨g3, 0, none⟩)), (2, .pointer (some ⟨g1, 0, none⟩))] [(g4, 33, ds m), (g3, 35, tv RZ), (g1, 38, cv TD q)] := H.pick [0, 3, 4, 5, 7] [0, 1, 3] rfl
  refine hK4 _ _ ?_
  clear hK4
  refine wp_seq_k (fun K5 hK5 => ?_)
  refine wp_seq_k (fun K6 hK6 => ?_)
  refine drawnS [.val 20 (.agg (ds m)) [] [0], .val 21 (.agg (ds PP)) [] [], .val 22 (.bool false) [0, 1] [], .val 23 (.bool true) [2] []] [0, 0, 3, 4] (by kernel_rfl) (by kernel_rfl) (by kernel_rfl) H ⟨⟨does_load rfl rfl (k := 0) rfl Tryd.underlying33 rfl (info_ds _), wanted_none rfl⟩, ⟨does_call rfl ⟨_, Tryd.func55, by kernel_rfl⟩ rfl (fun W hb => rprime_any W), wanted_none rfl⟩, ⟨does_call rfl ⟨_, Tryd.func54, by kernel_rfl⟩ rfl (fun W hb => rlessN hc W hm1), wanted_none rfl⟩, ⟨does_unOp rfl rfl (fun _ => rfl), wanted_none rfl⟩, trivial⟩ ?_
  clear H a W
  intro G5 a W H
  replace H : St 49 w a W [(20, .agg (ds m)), (21, .agg (ds PP)), (22, .bool false), (23, .bool true), (7, .pointer (some ⟨g4, 0, none⟩)), (6, .bool od), (5, .bool false), (4, .pointer (some ⟨g3, 0, none⟩)), (2, .pointer (some ⟨g1, 0, none⟩))] [(g4, 33, ds m), (g3, 35, tv RZ), (g1, 38, cv TD q)] := H
  replace H : St 49 w a W [(23, .bool true), (7, .pointer (some ⟨g4, 0, none⟩)), (6, .bool od), (5, .bool false), (4, .pointer (some ⟨g3, 0, none⟩)), (2, .pointer (some ⟨g1, 0, none⟩))] [(g4, 33, ds m), (g3, 35, tv RZ), (g1, 38, cv TD q)] := H.pick [3, 4, 5, 6, 7, 8] [0, 1, 2] rfl
  refine hK6 _ _ ?_
  clear hK6
  refine wp_cond_true (H.ev rfl) ?_
  refine wp_seq_k (fun K7 hK7 => ?_)
  refine rg_plain ?_
  refine pl_does (does_call rfl ⟨_, Tryd.func56, by kernel_rfl⟩ rfl (fun W hb => rnought rfl W)) rfl rfl rfl rfl H ?_
  clear H a W
  intro a W H
  refine pl_store rfl rfl rfl (k := 1) rfl (info_rpt _) (by simp only [dv_size, ds_size, tv_size, cv_size, ks_size]) (tv_one _) rfl rfl H ?_
  clear H a W
  intro a W H
  replace H : St 49 w a W [(24, .agg (tv rpNil)), (23, .bool true), (7, .pointer (some ⟨g4, 0, none⟩)), (6, .bool od), (4, .pointer (some ⟨g3, 0, none⟩)), (2, .pointer (some ⟨g1, 0, none⟩))] [(g4, 33, ds m), (g3, 35, tv rpNil), (g1, 38, cv TD q)] := H.pick [0, 1, 2, 3, 5, 6] [0, 1, 2] rfl
  refine pl_does (does_assign rfl rfl) rfl rfl rfl rfl H ?_
  clear H a W
  intro a W H
  refine pl_end ?_
  replace H : St 49 w a W [(5, .bool false), (7, .pointer (some ⟨g4, 0, none⟩)), (6, .bool od), (4, .pointer (some ⟨g3, 0, none⟩)), (2, .pointer (some ⟨g1, 0, none⟩))] [(g4, 33, ds m), (g3, 35, tv rpNil), (g1, 38, cv TD q)] := H.pick [0, 3, 4, 5, 6] [0, 1, 2] rfl
  refine hK7 _ _ ?_
  clear hK7
  refine wp_ret ?_
  repeat (first | (with_reducible refine then_ret ?_) | (with_reducible refine blk_ret ?_))
  refine end_cell_tmp (p := 4) (q := 5) rfl rfl rfl (k := 1) rfl Tryd.underlying35 rfl (info_rpt _) H (fun hb => ?_)
  exact ⟨rfl, hb⟩
set_option maxHeartbeats 4000000 in
theorem rof_b {q : Pj3} {n : Nat} (hn : n < 115792089237316195423570985008687907853269984665640564039457584007913129639936) (h1 : n % 57896044618658097711785492504343953926634992332820282019728792003956564819968 < PP) (h2 : (ofX n).2 = false) (w : World) : Calls Tryd.prog 12 #[.agg (cv TD q), .agg (ks n)] w (fun rr w' => rr = .returned (.tuple #[.agg (tv rpNil), .bool false]) ∧ Below w.heap.size w w') := by
  obtain ⟨x, hx⟩ : ∃ x : Nat, n / 256 ^ 31 % 256 = x := ⟨_, rfl⟩
  have hx1 : x < 256 := by omega
  obtain ⟨y, hy⟩ : ∃ y : Nat, x / 128 = y := ⟨_, rfl⟩
  obtain ⟨v, hv⟩ : ∃ v : Nat, x % 128 = v := ⟨_, rfl⟩
  have hv1 : v < 256 := by omega
  obtain ⟨m, hm⟩ : ∃ m : Nat, n % 57896044618658097711785492504343953926634992332820282019728792003956564819968 = m := ⟨_, rfl⟩
  have hput : putd 256 n 31 v = m := by rw [← hv, ← hx, put_top hn, hm]
  have hm1 : m < 115792089237316195423570985008687907853269984665640564039457584007913129639936 := by omega
  have hof : ofK m = ofK n := by rw [← hm]; unfold ofK; rw [Nat.mod_mod]
  have hmx : (57896044618658097711785492504343953926634992332820282019728792003956564819968 ≤ n) ↔ 128 ≤ x := by omega
  obtain ⟨od, hod⟩ : ∃ b, decide (y = 1) = b := ⟨_, rfl⟩
  have hc0 : m < PP := by rw [← hm]; exact h1
  obtain ⟨yy, hyy⟩ : ∃ z, z = ofK m := ⟨_, rfl⟩
  have hyv : yy.val = m := by
    have e : m % 57896044618658097711785492504343953926634992332820282019728792003956564819968 = m := Nat.mod_eq_of_lt (by omega)
    rw [hyy, ofK_val' (by rw [e]; exact hc0), e]
  have hc : yy.val < PP := yy.isLt
  obtain ⟨r, hr'⟩ : ∃ r, r = (ofX n).1 := ⟨_, rfl⟩
  have hr : (r, false) = rootC EE II (yy * yy - 1) (1 + TD * (yy * yy)) := ofX_root h2 hr' (by rw [hyy, hof])
  refine calls_st (vs := [.agg (cv TD q), .agg (ks n)]) 49 Tryd.func12 rfl Tryd.ntmps12 rfl (fun a W H => ?_)
  replace H : St 49 w a W [(0, .agg (cv TD q)), (1, .agg (ks n))] [] := H
  refine wp_seq_k (fun K1 hK1 => ?_)
  refine rg_plain ?_
  refine pl_box rfl rfl (bx_cv TD q) rfl rfl rfl rfl H ?_
  clear H a W
  intro g1 a W H
  refine pl_box rfl rfl (bx_keyr n) rfl rfl rfl rfl H ?_
  clear H a W
  intro g2 a W H
  refine pl_new (news_of rfl al_rpt) rfl rfl rfl rfl H ?_
  clear H a W
  intro g3 a W H
  refine pl_does (does_assign rfl rfl) rfl rfl rfl rfl H ?_
  clear H a W
  intro a W H
  refine pl_end ?_
  replace H : St 49 w a W [(5, .bool false), (4, .pointer (some ⟨g3, 0, none⟩)), (3, .pointer (some ⟨g2, 0, none⟩)), (2, .pointer (some ⟨g1, 0, none⟩))] [(g3, 35, tv RZ), (g2, 23, ks n), (g1, 38, cv TD q)] := H.pick [0, 1, 2, 3] [0, 1, 2] rfl
  refine hK1 _ _ ?_
  clear hK1
  refine wp_seq_k (fun K2 hK2 => ?_)
  refine rg_plain ?_
  refine pl_does (does_indexAddr rfl rfl rfl (ia_key31r _)) rfl rfl rfl rfl H ?_
  clear H a W
  intro a W H
  refine pl_does (does_loadAt (v := .int .u8 ((x : Nat) : Int)) rfl rfl (k := 1) rfl (ld_key31r hx)) rfl rfl rfl rfl H ?_
  clear H a W
  intro a W H
  refine pl_does (does_binOp rfl rfl rfl (b_quo128 hx1 hy _ _)) rfl rfl rfl rfl H ?_
  clear H a W
  intro a W H
  refine pl_does (does_binOp rfl rfl rfl (b_eql1 hod _ _)) rfl rfl rfl rfl H ?_
  clear H a W
  intro a W H
  refine pl_does (does_assign rfl rfl) rfl rfl rfl rfl H ?_
  clear H a W
  intro a W H
  refine pl_end ?_
  replace H : St 49 w a W [(6, .bool od), (5, .bool false), (4, .pointer (some ⟨g3, 0, none⟩)), (3, .pointer (some ⟨g2, 0, none⟩)), (2, .pointer (some ⟨g1, 0, none⟩))] [(g3, 35, tv RZ), (g2, 23, ks n), (g1, 38, cv TD q)] := H.pick [0, 5, 6, 7, 8] [0, 1, 2] rfl
  refine hK2 _ _ ?_
  clear hK2
  refine wp_seq_k (fun K3 hK3 => ?_)
  refine rg_plain ?_
  refine pl_does (does_indexAddr rfl rfl rfl (ia_key31r _)) rfl rfl rfl rfl H ?_
  clear H a W
  intro a W H
  refine pl_does (does_loadAt (v := .int .u8 ((x : Nat) : Int)) rfl rfl (k := 1) rfl (ld_key31r hx)) rfl rfl rfl rfl H ?_
  clear H a W
  intro a W H
  refine pl_does (does_binOp rfl rfl rfl (b_rem128 hx1 hv _ _)) rfl rfl rfl rfl H ?_
  clear H a W
  intro a W H
  refine pl_does (does_indexAddr rfl rfl rfl (ia_key31r _)) rfl rfl rfl rfl H ?_
  clear H a W
  intro a W H
  refine pl_storeAt rfl rfl rfl (k := 1) rfl st_key31r (sv_key31r hv1 hput) rfl rfl H ?_
  clear H a W
  intro a W H
  refine pl_end ?_
  replace H : St 49 w a W [(6, .bool od), (5, .bool false), (4, .pointer (some ⟨g3, 0, none⟩)), (3, .pointer (some ⟨g2, 0, none⟩)), (2, .pointer (some ⟨g1, 0, none⟩))] [(g3, 35, tv RZ), (g2, 23, ks m), (g1, 38, cv TD q)] := H.pick [4, 5, 6, 7, 8] [0, 1, 2] rfl
  refine hK3 _ _ ?_
  clear hK3
  refine wp_seq_k (fun K4 hK4 => ?_)
  refine rg_plain ?_
  refine pl_does (does_load rfl rfl (k := 1) rfl Tryd.underlying23 rfl (info_ks _)) rfl rfl rfl rfl H ?_
  clear H a W
  intro a W H
  refine pl_does (does_call rfl ⟨_, Tryd.func53, by kernel_rfl⟩ rfl (fun W hb => rofY hyv W hm1)) rfl rfl rfl rfl H ?_
  clear H a W
  intro a W H
  refine pl_new (news_of rfl al_num) rfl rfl rfl rfl H ?_
  clear H a W
  intro g4 a W H
  refine pl_store rfl rfl rfl (k := 0) rfl (info_dv _) (by simp only [dv_size, ds_size, tv_size, cv_size, ks_size]) (dv_one _) rfl rfl H ?_
  clear H a W
  intro a W H
  refine pl_end ?_
  replace H : St 49 w a W [(7, .pointer (some ⟨g4, 0, none⟩)), (6, .bool od), (5, .bool false), (4, .pointer (some ⟨g3, 0, none⟩)), (2, .pointer (some ⟨g1, 0, none⟩))] [(g4, 33, dv yy), (g3, 35, tv RZ), (g1, 38, cv TD q)] := H.pick [0, 3, 4, 5, 7] [0, 1, 3] rfl
  refine hK4 _ _ ?_
  clear hK4
  refine wp_seq_k (fun K5 hK5 => ?_)
  refine wp_seq_k (fun K6 hK6 => ?_)
  refine drawnS [.val 20 (.agg (dv yy)) [] [0], .val 21 (.agg (ds PP)) [] [], .val 22 (.bool true) [0, 1] [], .val 23 (.bool false) [2] []] [0, 0, 3, 4] (by kernel_rfl) (by kernel_rfl) (by kernel_rfl) H ⟨⟨does_load rfl rfl (k := 0) rfl Tryd.underlying33 rfl (info_dv _), wanted_none rfl⟩, ⟨does_call rfl ⟨_, Tryd.func55, by kernel_rfl⟩ rfl (fun W hb => rprime_any W), wanted_none rfl⟩, ⟨does_call rfl ⟨_, Tryd.func54, by kernel_rfl⟩ rfl (fun W hb => rlessY hc W), wanted_none rfl⟩, ⟨does_unOp rfl rfl (fun _ => rfl), wanted_none rfl⟩, trivial⟩ ?_
  clear H a W
  intro G5 a W H
  replace H : St 49 w a W [(20, .agg (dv yy)), (21, .agg (ds PP)), (22, .bool true), (23, .bool false), (7, .pointer (some ⟨g4, 0, none⟩)), (6, .bool od), (5, .bool false), (4, .pointer (some ⟨g3, 0, none⟩)), (2, .pointer (some ⟨g1, 0, none⟩))] [(g4, 33, dv yy), (g3, 35, tv RZ), (g1, 38, cv TD q)] := H
  replace H : St 49 w a W [(23, .bool false), (7, .pointer (some ⟨g4, 0, none⟩)), (6, .bool od), (5, .bool false), (4, .pointer (some ⟨g3, 0, none⟩)), (2, .pointer (some ⟨g1, 0, none⟩))] [(g4, 33, dv yy), (g3, 35, tv RZ), (g1, 38, cv TD q)] := H.pick [3, 4, 5, 6, 7, 8] [0, 1, 2] rfl
  refine hK6 _ _ ?_
  clear hK6
  refine wp_cond_false (H.ev rfl) ?_
  refine wp_skip ?_
  refine hK5 _ _ ?_
  clear hK5
  refine wp_seq_k (fun K7 hK7 => ?_)
  refine rg_plain ?_
  refine pl_does (does_load rfl rfl (k := 2) rfl Tryd.underlying38 rfl (info_cv _ _)) rfl rfl rfl rfl H ?_
  clear H a W
  intro a W H
  refine pl_does (does_load rfl rfl (k := 0) rfl Tryd.underlying33 rfl (info_dv _)) rfl rfl rfl rfl H ?_
  clear H a W
  intro a W H
  refine pl_does (does_call rfl ⟨_, Tryd.func52, by kernel_rfl⟩ rfl (fun W hb => rx_any hr W)) rfl rfl rfl rfl H ?_
  clear H a W
  intro a W H
  refine pl_does (does_move rfl rfl) rfl rfl rfl rfl H ?_
  clear H a W
  intro a W H
  refine pl_does (does_extract rfl rfl (fun _ => rfl)) rfl rfl rfl rfl H ?_
  clear H a W
  intro a W H
  refine pl_does (does_extract rfl rfl (fun _ => rfl)) rfl rfl rfl rfl H ?_
  clear H a W
  intro a W H
  refine pl_new (news_of rfl al_num) rfl rfl rfl rfl H ?_
  clear H a W
  intro g6 a W H
  refine pl_store rfl rfl rfl (k := 0) rfl (info_dv _) (by simp only [dv_size, ds_size, tv_size, cv_size, ks_size]) (dv_one _) rfl rfl H ?_
  clear H a W
  intro a W H
  refine pl_does (does_assign rfl rfl) rfl rfl rfl rfl H ?_
  clear H a W
  intro a W H
  refine pl_end ?_
  replace H : St 49 w a W [(9, .bool false), (8, .pointer (some ⟨g6, 0, none⟩)), (7, .pointer (some ⟨g4, 0, none⟩)), (6, .bool od), (5, .bool false), (4, .pointer (some ⟨g3, 0, none⟩))] [(g6, 33, dv r), (g4, 33, dv yy), (g3, 35, tv RZ)] := H.pick [0, 1, 9, 10, 11, 12] [0, 1, 2] rfl
  refine hK7 _ _ ?_
  clear hK7
  refine wp_seq_k (fun K8 hK8 => ?_)
  refine wp_seq_k (fun K9 hK9 => ?_)
  refine rg_plain ?_
  refine pl_does (does_move rfl rfl) rfl rfl rfl rfl H ?_
  clear H a W
  intro a W H
  refine pl_does (does_unOp rfl rfl (fun _ => rfl)) rfl rfl rfl rfl H ?_
  clear H a W
  intro a W H
  refine pl_does (does_move rfl rfl) rfl rfl rfl rfl H ?_
  clear H a W
  intro a W H
  refine pl_skip (wanted_some rfl rfl rfl rfl rfl) rfl rfl rfl H ?_
  clear H a W
  intro a W H
  refine pl_skip (wanted_some rfl rfl rfl rfl rfl) rfl rfl rfl H ?_
  clear H a W
  intro a W H
  refine pl_skip (wanted_off rfl rfl rfl rfl) rfl rfl rfl H ?_
  clear H a W
  intro a W H
  refine pl_skip (wanted_off rfl rfl rfl rfl) rfl rfl rfl H ?_
  clear H a W
  intro a W H
  refine pl_skip (wanted_off rfl rfl rfl rfl) rfl rfl rfl H ?_
  clear H a W
  intro a W H
  refine pl_skip (wanted_some rfl rfl rfl rfl rfl) rfl rfl rfl H ?_
  clear H a W
  intro a W H
  refine pl_does (does_pick rfl rfl (fun _ => rfl) (fun hb => by cases hb)) rfl rfl rfl rfl H ?_
  clear H a W
  intro a W H
  refine pl_end ?_
  replace H : St 49 w a W [(40, .bool true), (8, .pointer (some ⟨g6, 0, none⟩)), (7, .pointer (some ⟨g4, 0, none⟩)), (6, .bool od), (5, .bool false), (4, .pointer (some ⟨g3, 0, none⟩))] [(g6, 33, dv r), (g4, 33, dv yy), (g3, 35, tv RZ)] := H.pick [0, 11, 12, 13, 14, 15] [0, 1, 2] rfl
  refine hK9 _ _ ?_
  clear hK9
  refine wp_cond_true (H.ev rfl) ?_
  refine wp_seq_k (fun K10 hK10 => ?_)
  refine rg_plain ?_
  refine pl_does (does_call rfl ⟨_, Tryd.func56, by kernel_rfl⟩ rfl (fun W hb => rnought rfl W)) rfl rfl rfl rfl H ?_
  clear H a W
  intro a W H
  refine pl_store rfl rfl rfl (k := 2) rfl (info_rpt _) (by simp only [dv_size, ds_size, tv_size, cv_size, ks_size]) (tv_one _) rfl rfl H ?_
  clear H a W
  intro a W H
  replace H : St 49 w a W [(41, .agg (tv rpNil)), (40, .bool true), (8, .pointer (some ⟨g6, 0, none⟩)), (7, .pointer (some ⟨g4, 0, none⟩)), (6, .bool od), (4, .pointer (some ⟨g3, 0, none⟩))] [(g6, 33, dv r), (g4, 33, dv yy), (g3, 35, tv rpNil)] := H.pick [0, 1, 2, 3, 4, 6] [0, 1, 2] rfl
  refine pl_does (does_assign rfl rfl) rfl rfl rfl rfl H ?_
  clear H a W
  intro a W H
  refine pl_end ?_
  replace H : St 49 w a W [(5, .bool false), (8, .pointer (some ⟨g6, 0, none⟩)), (7, .pointer (some ⟨g4, 0, none⟩)), (6, .bool od), (4, .pointer (some ⟨g3, 0, none⟩))] [(g6, 33, dv r), (g4, 33, dv yy), (g3, 35, tv rpNil)] := H.pick [0, 3, 4, 5, 6] [0, 1, 2] rfl
  refine hK10 _ _ ?_
  clear hK10
  refine wp_ret ?_
  repeat (first | (with_reducible refine then_ret ?_) | (with_reducible refine blk_ret ?_))
  refine end_cell_tmp (p := 4) (q := 5) rfl rfl rfl (k := 2) rfl Tryd.underlying35 rfl (info_rpt _) H (fun hb => ?_)
  exact ⟨rfl, hb⟩
set_option maxHeartbeats 4000000 in
theorem rof_c {q : Pj3} {n : Nat} (hn : n < 115792089237316195423570985008687907853269984665640564039457584007913129639936) (h1 : n % 57896044618658097711785492504343953926634992332820282019728792003956564819968 < PP) (h2 : (ofX n).2 = true) (h3 : 57896044618658097711785492504343953926634992332820282019728792003956564819968 ≤ n) (h4 : (ofX n).1 = 0) (w : World) : Calls Tryd.prog 12 #[.agg (cv TD q), .agg (ks n)] w (fun rr w' => rr = .returned (.tuple #[.agg (tv rpNil), .bool false]) ∧ Below w.heap.size w w') := by
  obtain ⟨x, hx⟩ : ∃ x : Nat, n / 256 ^ 31 % 256 = x := ⟨_, rfl⟩
  have hx1 : x < 256 := by omega
  obtain ⟨y, hy⟩ : ∃ y : Nat, x / 128 = y := ⟨_, rfl⟩
  obtain ⟨v, hv⟩ : ∃ v : Nat, x % 128 = v := ⟨_, rfl⟩
  have hv1 : v < 256 := by omega
  obtain ⟨m, hm⟩ : ∃ m : Nat, n % 57896044618658097711785492504343953926634992332820282019728792003956564819968 = m := ⟨_, rfl⟩
  have hput : putd 256 n 31 v = m := by rw [← hv, ← hx, put_top hn, hm]
  have hm1 : m < 115792089237316195423570985008687907853269984665640564039457584007913129639936 := by omega
  have hof : ofK m = ofK n := by rw [← hm]; unfold ofK; rw [Nat.mod_mod]
  have hmx : (57896044618658097711785492504343953926634992332820282019728792003956564819968 ≤ n) ↔ 128 ≤ x := by omega
  have hod : decide (y = 1) = true := decide_eq_true (by omega)
  have hc0 : m < PP := by rw [← hm]; exact h1
  obtain ⟨yy, hyy⟩ : ∃ z, z = ofK m := ⟨_, rfl⟩
  have hyv : yy.val = m := by
    have e : m % 57896044618658097711785492504343953926634992332820282019728792003956564819968 = m := Nat.mod_eq_of_lt (by omega)
    rw [hyy, ofK_val' (by rw [e]; exact hc0), e]
  have hc : yy.val < PP := yy.isLt
  obtain ⟨r, hr'⟩ : ∃ r, r = (ofX n).1 := ⟨_, rfl⟩
  have hr : (r, true) = rootC EE II (yy * yy - 1) (1 + TD * (yy * yy)) := ofX_root h2 hr' (by rw [hyy, hof])
  have hz : decide (r = 0) = true := decide_eq_true (by rw [hr']; exact h4)
  refine calls_st (vs := [.agg (cv TD q), .agg (ks n)]) 49 Tryd.func12 rfl Tryd.ntmps12 rfl (fun a W H => ?_)
  replace H : St 49 w a W [(0, .agg (cv TD q)), (1, .agg (ks n))] [] := H
  refine wp_seq_k (fun K1 hK1 => ?_)
  refine rg_plain ?_
  refine pl_box rfl rfl (bx_cv TD q) rfl rfl rfl rfl H ?_
  clear H a W
  intro g1 a W H
  refine pl_box rfl rfl (bx_keyr n) rfl rfl rfl rfl H ?_
  clear H a W
  intro g2 a W H
  refine pl_new (news_of rfl al_rpt) rfl rfl rfl rfl H ?_
  clear H a W
  intro g3 a W H
  refine pl_does (does_assign rfl rfl) rfl rfl rfl rfl H ?_
  clear H a W
  intro a W H
  refine pl_end ?_
  replace H : St 49 w a W [(5, .bool false), (4, .pointer (some ⟨g3, 0, none⟩)), (3, .pointer (some ⟨g2, 0, none⟩)), (2, .pointer (some ⟨g1, 0, none⟩))] [(g3, 35, tv RZ), (g2, 23, ks n), (g1, 38, cv TD q)] := H.pick [0, 1, 2, 3] [0, 1, 2] rfl
  refine hK1 _ _ ?_
  clear hK1
  refine wp_seq_k (fun K2 hK2 => ?_)
  refine rg_plain ?_
  refine pl_does (does_indexAddr rfl rfl rfl (ia_key31r _)) rfl rfl rfl rfl H ?_
  clear H a W
  intro a W H
  refine pl_does (does_loadAt (v := .int .u8 ((x : Nat) : Int)) rfl rfl (k := 1) rfl (ld_key31r hx)) rfl rfl rfl rfl H ?_
  clear H a W
  intro a W H
  refine pl_does (does_binOp rfl rfl rfl (b_quo128 hx1 hy _ _)) rfl rfl rfl rfl H ?_
  clear H a W
  intro a W H
  refine pl_does (does_binOp rfl rfl rfl (b_eql1 hod _ _)) rfl rfl rfl rfl H ?_
  clear H a W
  intro a W H
  refine pl_does (does_assign rfl rfl) rfl rfl rfl rfl H ?_
  clear H a W
  intro a W H
  refine pl_end ?_
  replace H : St 49 w a W [(6, .bool true), (5, .bool false), (4, .pointer (some ⟨g3, 0, none⟩)), (3, .pointer (some ⟨g2, 0, none⟩)), (2, .pointer (some ⟨g1, 0, none⟩))] [(g3, 35, tv RZ), (g2, 23, ks n), (g1, 38, cv TD q)] := H.pick [0, 5, 6, 7, 8] [0, 1, 2] rfl
  refine hK2 _ _ ?_
  clear hK2
  refine wp_seq_k (fun K3 hK3 => ?_)
  refine rg_plain ?_
  refine pl_does (does_indexAddr rfl rfl rfl (ia_key31r _)) rfl rfl rfl rfl H ?_
  clear H a W
  intro a W H
  refine pl_does (does_loadAt (v := .int .u8 ((x : Nat) : Int)) rfl rfl (k := 1) rfl (ld_key31r hx)) rfl rfl rfl rfl H ?_
  clear H a W
  intro a W H
  refine pl_does (does_binOp rfl rfl rfl (b_rem128 hx1 hv _ _)) rfl rfl rfl rfl H ?_
  clear H a W
  intro a W H
  refine pl_does (does_indexAddr rfl rfl rfl (ia_key31r _)) rfl rfl rfl rfl H ?_
  clear H a W
  intro a W H
  refine pl_storeAt rfl rfl rfl (k := 1) rfl st_key31r (sv_key31r hv1 hput) rfl rfl H ?_
  clear H a W
  intro a W H
  refine pl_end ?_
  replace H : St 49 w a W [(6, .bool true), (5, .bool false), (4, .pointer (some ⟨g3, 0, none⟩)), (3, .pointer (some ⟨g2, 0, none⟩)), (2, .pointer (some ⟨g1, 0, none⟩))] [(g3, 35, tv RZ), (g2, 23, ks m), (g1, 38, cv TD q)] := H.pick [4, 5, 6, 7, 8] [0, 1, 2] rfl
  refine hK3 _ _ ?_
  clear hK3
  refine wp_seq_k (fun K4 hK4 => ?_)
  refine rg_plain ?_
  refine pl_does (does_load rfl rfl (k := 1) rfl Tryd.underlying23 rfl (info_ks _)) rfl rfl rfl rfl H ?_
  clear H a W
  intro a W H
  refine pl_does (does_call rfl ⟨_, Tryd.func53, by kernel_rfl⟩ rfl (fun W hb => rofY hyv W hm1)) rfl rfl rfl rfl H ?_
  clear H a W
  intro a W H
  refine pl_new (news_of rfl al_num) rfl rfl rfl rfl H ?_
  clear H a W
  intro g4 a W H
  refine pl_store rfl rfl rfl (k := 0) rfl (info_dv _) (by simp only [dv_size, ds_size, tv_size, cv_size, ks_size]) (dv_one _) rfl rfl H ?_
  clear H a W
  intro a W H
  refine pl_end ?_
  replace H : St 49 w a W [(7, .pointer (some ⟨g4, 0, none⟩)), (6, .bool true), (5, .bool false), (4, .pointer (some ⟨g3, 0, none⟩)), (2, .pointer (some ⟨g1, 0, none⟩))] [(g4, 33, dv yy), (g3, 35, tv RZ), (g1, 38, cv TD q)] := H.pick [0, 3, 4, 5, 7] [0, 1, 3] rfl
  refine hK4 _ _ ?_
  clear hK4
  refine wp_seq_k (fun K5 hK5 => ?_)
  refine wp_seq_k (fun K6 hK6 => ?_)
  refine drawnS [.val 20 (.agg (dv yy)) [] [0], .val 21 (.agg (ds PP)) [] [], .val 22 (.bool true) [0, 1] [], .val 23 (.bool false) [2] []] [0, 0, 3, 4] (by kernel_rfl) (by kernel_rfl) (by kernel_rfl) H ⟨⟨does_load rfl rfl (k := 0) rfl Tryd.underlying33 rfl (info_dv _), wanted_none rfl⟩, ⟨does_call rfl ⟨_, Tryd.func55, by kernel_rfl⟩ rfl (fun W hb => rprime_any W), wanted_none rfl⟩, ⟨does_call rfl ⟨_, Tryd.func54, by kernel_rfl⟩ rfl (fun W hb => rlessY hc W), wanted_none rfl⟩, ⟨does_unOp rfl rfl (fun _ => rfl), wanted_none rfl⟩, trivial⟩ ?_
  clear H a W
  intro G5 a W H
  replace H : St 49 w a W [(20, .agg (dv yy)), (21, .agg (ds PP)), (22, .bool true), (23, .bool false), (7, .pointer (some ⟨g4, 0, none⟩)), (6, .bool true), (5, .bool false), (4, .pointer (some ⟨g3, 0, none⟩)), (2, .pointer (some ⟨g1, 0, none⟩))] [(g4, 33, dv yy), (g3, 35, tv RZ), (g1, 38, cv TD q)] := H
  replace H : St 49 w a W [(23, .bool false), (7, .pointer (some ⟨g4, 0, none⟩)), (6, .bool true), (5, .bool false), (4, .pointer (some ⟨g3, 0, none⟩)), (2, .pointer (some ⟨g1, 0, none⟩))] [(g4, 33, dv yy), (g3, 35, tv RZ), (g1, 38, cv TD q)] := H.pick [3, 4, 5, 6, 7, 8] [0, 1, 2] rfl
  refine hK6 _ _ ?_
  clear hK6
  refine wp_cond_false (H.ev rfl) ?_
  refine wp_skip ?_
  refine hK5 _ _ ?_
  clear hK5
  refine wp_seq_k (fun K7 hK7 => ?_)
  refine rg_plain ?_
  refine pl_does (does_load rfl rfl (k := 2) rfl Tryd.underlying38 rfl (info_cv _ _)) rfl rfl rfl rfl H ?_
  clear H a W
  intro a W H
  refine pl_does (does_load rfl rfl (k := 0) rfl Tryd.underlying33 rfl (info_dv _)) rfl rfl rfl rfl H ?_
  clear H a W
  intro a W H
  refine pl_does (does_call rfl ⟨_, Tryd.func52, by kernel_rfl⟩ rfl (fun W hb => rx_any hr W)) rfl rfl rfl rfl H ?_
  clear H a W
  intro a W H
  refine pl_does (does_move rfl rfl) rfl rfl rfl rfl H ?_
  clear H a W
  intro a W H
  refine pl_does (does_extract rfl rfl (fun _ => rfl)) rfl rfl rfl rfl H ?_
  clear H a W
  intro a W H
  refine pl_does (does_extract rfl rfl (fun _ => rfl)) rfl rfl rfl rfl H ?_
  clear H a W
  intro a W H
  refine pl_new (news_of rfl al_num) rfl rfl rfl rfl H ?_
  clear H a W
  intro g6 a W H
  refine pl_store rfl rfl rfl (k := 0) rfl (info_dv _) (by simp only [dv_size, ds_size, tv_size, cv_size, ks_size]) (dv_one _) rfl rfl H ?_
  clear H a W
  intro a W H
  refine pl_does (does_assign rfl rfl) rfl rfl rfl rfl H ?_
  clear H a W
  intro a W H
  refine pl_end ?_
  replace H : St 49 w a W [(9, .bool true), (8, .pointer (some ⟨g6, 0, none⟩)), (7, .pointer (some ⟨g4, 0, none⟩)), (6, .bool true), (5, .bool false), (4, .pointer (some ⟨g3, 0, none⟩))] [(g6, 33, dv r), (g4, 33, dv yy), (g3, 35, tv RZ)] := H.pick [0, 1, 9, 10, 11, 12] [0, 1, 2] rfl
  refine hK7 _ _ ?_
  clear hK7
  refine wp_seq_k (fun K8 hK8 => ?_)
  refine wp_seq_k (fun K9 hK9 => ?_)
  refine rg_plain ?_
  refine pl_does (does_move rfl rfl) rfl rfl rfl rfl H ?_
  clear H a W
  intro a W H
  refine pl_does (does_unOp rfl rfl (fun _ => rfl)) rfl rfl rfl rfl H ?_
  clear H a W
  intro a W H
  refine pl_does (does_move rfl rfl) rfl rfl rfl rfl H ?_
  clear H a W
  intro a W H
  refine pl_does_g (does_move rfl rfl) (wanted_some rfl rfl rfl rfl rfl) rfl rfl rfl H ?_
  clear H a W
  intro a W H
  refine pl_does_g (does_move rfl rfl) (wanted_some rfl rfl rfl rfl rfl) rfl rfl rfl H ?_
  clear H a W
  intro a W H
  refine pl_does_g (does_load rfl rfl (k := 0) rfl Tryd.underlying33 rfl (info_dv _)) (wanted_some rfl rfl rfl rfl rfl) rfl rfl rfl H ?_
  clear H a W
  intro a W H
  refine pl_does_g (does_build (ps := []) rfl rfl bd_num0) (wanted_some rfl rfl rfl rfl rfl) rfl rfl rfl H ?_
  clear H a W
  intro a W H
  refine pl_does_g (does_binOp rfl rfl rfl (eq_num hz _ _)) (wanted_some rfl rfl rfl rfl rfl) rfl rfl rfl H ?_
  clear H a W
  intro a W H
  refine pl_does_g (does_pick rfl rfl (fun _ => rfl) (fun hb => by cases hb)) (wanted_some rfl rfl rfl rfl rfl) rfl rfl rfl H ?_
  clear H a W
  intro a W H
  refine pl_does (does_pick rfl rfl (fun hb => by cases hb) (fun _ => rfl)) rfl rfl rfl rfl H ?_
  clear H a W
  intro a W H
  refine pl_end ?_
  replace H : St 49 w a W [(40, .bool true), (8, .pointer (some ⟨g6, 0, none⟩)), (7, .pointer (some ⟨g4, 0, none⟩)), (6, .bool true), (5, .bool false), (4, .pointer (some ⟨g3, 0, none⟩))] [(g6, 33, dv r), (g4, 33, dv yy), (g3, 35, tv RZ)] := H.pick [0, 11, 12, 13, 14, 15] [0, 1, 2] rfl
  refine hK9 _ _ ?_
  clear hK9
  refine wp_cond_true (H.ev rfl) ?_
  refine wp_seq_k (fun K10 hK10 => ?_)
  refine rg_plain ?_
  refine pl_does (does_call rfl ⟨_, Tryd.func56, by kernel_rfl⟩ rfl (fun W hb => rnought rfl W)) rfl rfl rfl rfl H ?_
  clear H a W
  intro a W H
  refine pl_store rfl rfl rfl (k := 2) rfl (info_rpt _) (by simp only [dv_size, ds_size, tv_size, cv_size, ks_size]) (tv_one _) rfl rfl H ?_
  clear H a W
  intro a W H
  replace H : St 49 w a W [(41, .agg (tv rpNil)), (40, .bool true), (8, .pointer (some ⟨g6, 0, none⟩)), (7, .pointer (some ⟨g4, 0, none⟩)), (6, .bool true), (4, .pointer (some ⟨g3, 0, none⟩))] [(g6, 33, dv r), (g4, 33, dv yy), (g3, 35, tv rpNil)] := H.pick [0, 1, 2, 3, 4, 6] [0, 1, 2] rfl
  refine pl_does (does_assign rfl rfl) rfl rfl rfl rfl H ?_
  clear H a W
  intro a W H
  refine pl_end ?_
  replace H : St 49 w a W [(5, .bool false), (8, .pointer (some ⟨g6, 0, none⟩)), (7, .pointer (some ⟨g4, 0, none⟩)), (6, .bool true), (4, .pointer (some ⟨g3, 0, none⟩))] [(g6, 33, dv r), (g4, 33, dv yy), (g3, 35, tv rpNil)] := H.pick [0, 3, 4, 5, 6] [0, 1, 2] rfl
  refine hK10 _ _ ?_
  clear hK10
  refine wp_ret ?_
  repeat (first | (with_reducible refine then_ret ?_) | (with_reducible refine blk_ret ?_))
  refine end_cell_tmp (p := 4) (q := 5) rfl rfl rfl (k := 2) rfl Tryd.underlying35 rfl (info_rpt _) H (fun hb => ?_)
  exact ⟨rfl, hb⟩
set_option maxHeartbeats 4000000 in
theorem rof_d {q : Pj3} {n : Nat} (hn : n < 115792089237316195423570985008687907853269984665640564039457584007913129639936) (h1 : n % 57896044618658097711785492504343953926634992332820282019728792003956564819968 < PP) (h2 : (ofX n).2 = true) (h3 : 57896044618658097711785492504343953926634992332820282019728792003956564819968 ≤ n) (h4 : ¬ (ofX n).1 = 0) (w : World) : Calls Tryd.prog 12 #[.agg (cv TD q), .agg (ks n)] w (fun rr w' => rr = .returned (.tuple #[.agg (tv ⟨ptX n, ofK n, 1⟩), .bool true]) ∧ Below w.heap.size w w') := by
  obtain ⟨x, hx⟩ : ∃ x : Nat, n / 256 ^ 31 % 256 = x := ⟨_, rfl⟩
  have hx1 : x < 256 := by omega
  obtain ⟨y, hy⟩ : ∃ y : Nat, x / 128 = y := ⟨_, rfl⟩
  obtain ⟨v, hv⟩ : ∃ v : Nat, x % 128 = v := ⟨_, rfl⟩
  have hv1 : v < 256 := by omega
  obtain ⟨m, hm⟩ : ∃ m : Nat, n % 57896044618658097711785492504343953926634992332820282019728792003956564819968 = m := ⟨_, rfl⟩
  have hput : putd 256 n 31 v = m := by rw [← hv, ← hx, put_top hn, hm]
  have hm1 : m < 115792089237316195423570985008687907853269984665640564039457584007913129639936 := by omega
  have hof : ofK m = ofK n := by rw [← hm]; unfold ofK; rw [Nat.mod_mod]
  have hmx : (57896044618658097711785492504343953926634992332820282019728792003956564819968 ≤ n) ↔ 128 ≤ x := by omega
  have hod : decide (y = 1) = true := decide_eq_true (by omega)
  have hc0 : m < PP := by rw [← hm]; exact h1
  obtain ⟨yy, hyy⟩ : ∃ z, z = ofK m := ⟨_, rfl⟩
  have hyv : yy.val = m := by
    have e : m % 57896044618658097711785492504343953926634992332820282019728792003956564819968 = m := Nat.mod_eq_of_lt (by omega)
    rw [hyy, ofK_val' (by rw [e]; exact hc0), e]
  have hc : yy.val < PP := yy.isLt
  obtain ⟨r, hr'⟩ : ∃ r, r = (ofX n).1 := ⟨_, rfl⟩
  have hr : (r, true) = rootC EE II (yy * yy - 1) (1 + TD * (yy * yy)) := ofX_root h2 hr' (by rw [hyy, hof])
  have hz : decide (r = 0) = false := decide_eq_false (by rw [hr']; exact h4)
  have hxr : ptX n = -r := by unfold ptX; rw [if_pos h3, hr']
  obtain ⟨z1, hz1⟩ : ∃ z : Fin PP, z = -r := ⟨_, rfl⟩
  obtain ⟨z2, hz2⟩ : ∃ z : Fin PP, z = sm 1 := ⟨_, rfl⟩
  refine calls_st (vs := [.agg (cv TD q), .agg (ks n)]) 49 Tryd.func12 rfl Tryd.ntmps12 rfl (fun a W H => ?_)
  replace H : St 49 w a W [(0, .agg (cv TD q)), (1, .agg (ks n))] [] := H
  refine wp_seq_k (fun K1 hK1 => ?_)
  refine rg_plain ?_
  refine pl_box rfl rfl (bx_cv TD q) rfl rfl rfl rfl H ?_
  clear H a W
  intro g1 a W H
  refine pl_box rfl rfl (bx_keyr n) rfl rfl rfl rfl H ?_
  clear H a W
  intro g2 a W H
  refine pl_new (news_of rfl al_rpt) rfl rfl rfl rfl H ?_
  clear H a W
  intro g3 a W H
  refine pl_does (does_assign rfl rfl) rfl rfl rfl rfl H ?_
  clear H a W
  intro a W H
  refine pl_end ?_
  replace H : St 49 w a W [(5, .bool false), (4, .pointer (some ⟨g3, 0, none⟩)), (3, .pointer (some ⟨g2, 0, none⟩)), (2, .pointer (some ⟨g1, 0, none⟩))] [(g3, 35, tv RZ), (g2, 23, ks n), (g1, 38, cv TD q)] := H.pick [0, 1, 2, 3] [0, 1, 2] rfl
  refine hK1 _ _ ?_
  clear hK1
  refine wp_seq_k (fun K2 hK2 => ?_)
  refine rg_plain ?_
  refine pl_does (does_indexAddr rfl rfl rfl (ia_key31r _)) rfl rfl rfl rfl H ?_
  clear H a W
  intro a W H
  refine pl_does (does_loadAt (v := .int .u8 ((x : Nat) : Int)) rfl rfl (k := 1) rfl (ld_key31r hx)) rfl rfl rfl rfl H ?_
  clear H a W
  intro a W H
  refine pl_does (does_binOp rfl rfl rfl (b_quo128 hx1 hy _ _)) rfl rfl rfl rfl H ?_
  clear H a W
  intro a W H
  refine pl_does (does_binOp rfl rfl rfl (b_eql1 hod _ _)) rfl rfl rfl rfl H ?_
  clear H a W
  intro a W H
  refine pl_does (does_assign rfl rfl) rfl rfl rfl rfl H ?_
  clear H a W
  intro a W H
  refine pl_end ?_
  replace H : St 49 w a W [(6, .bool true), (5, .bool false), (4, .pointer (some ⟨g3, 0, none⟩)), (3, .pointer (some ⟨g2, 0, none⟩)), (2, .pointer (some ⟨g1, 0, none⟩))] [(g3, 35, tv RZ), (g2, 23, ks n), (g1, 38, cv TD q)] := H.pick [0, 5, 6, 7, 8] [0, 1, 2] rfl
  refine hK2 _ _ ?_
  clear hK2
  refine wp_seq_k (fun K3 hK3 => ?_)
  refine rg_plain ?_
  refine pl_does (does_indexAddr rfl rfl rfl (ia_key31r _)) rfl rfl rfl rfl H ?_
  clear H a W
  intro a W H
  refine pl_does (does_loadAt (v := .int .u8 ((x : Nat) : Int)) rfl rfl (k := 1) rfl (ld_key31r hx)) rfl rfl rfl rfl H ?_
  clear H a W
  intro a W H
  refine pl_does (does_binOp rfl rfl rfl (b_rem128 hx1 hv _ _)) rfl rfl rfl rfl H ?_
  clear H a W
  intro a W H
  refine pl_does (does_indexAddr rfl rfl rfl (ia_key31r _)) rfl rfl rfl rfl H ?_
  clear H a W
  intro a W H
  refine pl_storeAt rfl rfl rfl (k := 1) rfl st_key31r (sv_key31r hv1 hput) rfl rfl H ?_
  clear H a W
  intro a W H
  refine pl_end ?_
  replace H : St 49 w a W [(6, .bool true), (5, .bool false), (4, .pointer (some ⟨g3, 0, none⟩)), (3, .pointer (some ⟨g2, 0, none⟩)), (2, .pointer (some ⟨g1, 0, none⟩))] [(g3, 35, tv RZ), (g2, 23, ks m), (g1, 38, cv TD q)] := H.pick [4, 5, 6, 7, 8] [0, 1, 2] rfl
  refine hK3 _ _ ?_
  clear hK3
  refine wp_seq_k (fun K4 hK4 => ?_)
  refine rg_plain ?_
  refine pl_does (does_load rfl rfl (k := 1) rfl Tryd.underlying23 rfl (info_ks _)) rfl rfl rfl rfl H ?_
  clear H a W
  intro a W H
  refine pl_does (does_call rfl ⟨_, Tryd.func53, by kernel_rfl⟩ rfl (fun W hb => rofY hyv W hm1)) rfl rfl rfl rfl H ?_
  clear H a W
  intro a W H
  refine pl_new (news_of rfl al_num) rfl rfl rfl rfl H ?_
  clear H a W
  intro g4 a W H
  refine pl_store rfl rfl rfl (k := 0) rfl (info_dv _) (by simp only [dv_size, ds_size, tv_size, cv_size, ks_size]) (dv_one _) rfl rfl H ?_
  clear H a W
  intro a W H
  refine pl_end ?_
  replace H : St 49 w a W [(7, .pointer (some ⟨g4, 0, none⟩)), (6, .bool true), (5, .bool false), (4, .pointer (some ⟨g3, 0, none⟩)), (2, .pointer (some ⟨g1, 0, none⟩))] [(g4, 33, dv yy), (g3, 35, tv RZ), (g1, 38, cv TD q)] := H.pick [0, 3, 4, 5, 7] [0, 1, 3] rfl
  refine hK4 _ _ ?_
  clear hK4
  refine wp_seq_k (fun K5 hK5 => ?_)
  refine wp_seq_k (fun K6 hK6 => ?_)
  refine drawnS [.val 20 (.agg (dv yy)) [] [0], .val 21 (.agg (ds PP)) [] [], .val 22 (.bool true) [0, 1] [], .val 23 (.bool false) [2] []] [0, 0, 3, 4] (by kernel_rfl) (by kernel_rfl) (by kernel_rfl) H ⟨⟨does_load rfl rfl (k := 0) rfl Tryd.underlying33 rfl (info_dv _), wanted_none rfl⟩, ⟨does_call rfl ⟨_, Tryd.func55, by kernel_rfl⟩ rfl (fun W hb => rprime_any W), wanted_none rfl⟩, ⟨does_call rfl ⟨_, Tryd.func54, by kernel_rfl⟩ rfl (fun W hb => rlessY hc W), wanted_none rfl⟩, ⟨does_unOp rfl rfl (fun _ => rfl), wanted_none rfl⟩, trivial⟩ ?_
  clear H a W
  intro G5 a W H
  replace H : St 49 w a W [(20, .agg (dv yy)), (21, .agg (ds PP)), (22, .bool true), (23, .bool false), (7, .pointer (some ⟨g4, 0, none⟩)), (6, .bool true), (5, .bool false), (4, .pointer (some ⟨g3, 0, none⟩)), (2, .pointer (some ⟨g1, 0, none⟩))] [(g4, 33, dv yy), (g3, 35, tv RZ), (g1, 38, cv TD q)] := H
  replace H : St 49 w a W [(23, .bool false), (7, .pointer (some ⟨g4, 0, none⟩)), (6, .bool true), (5, .bool false), (4, .pointer (some ⟨g3, 0, none⟩)), (2, .pointer (some ⟨g1, 0, none⟩))] [(g4, 33, dv yy), (g3, 35, tv RZ), (g1, 38, cv TD q)] := H.pick [3, 4, 5, 6, 7, 8] [0, 1, 2] rfl
  refine hK6 _ _ ?_
  clear hK6
  refine wp_cond_false (H.ev rfl) ?_
  refine wp_skip ?_
  refine hK5 _ _ ?_
  clear hK5
  refine wp_seq_k (fun K7 hK7 => ?_)
  refine rg_plain ?_
  refine pl_does (does_load rfl rfl (k := 2) rfl Tryd.underlying38 rfl (info_cv _ _)) rfl rfl rfl rfl H ?_
  clear H a W
  intro a W H
  refine pl_does (does_load rfl rfl (k := 0) rfl Tryd.underlying33 rfl (info_dv _)) rfl rfl rfl rfl H ?_
  clear H a W
  intro a W H
  refine pl_does (does_call rfl ⟨_, Tryd.func52, by kernel_rfl⟩ rfl (fun W hb => rx_any hr W)) rfl rfl rfl rfl H ?_
  clear H a W
  intro a W H
  refine pl_does (does_move rfl rfl) rfl rfl rfl rfl H ?_
  clear H a W
  intro a W H
  refine pl_does (does_extract rfl rfl (fun _ => rfl)) rfl rfl rfl rfl H ?_
  clear H a W
  intro a W H
  refine pl_does (does_extract rfl rfl (fun _ => rfl)) rfl rfl rfl rfl H ?_
  clear H a W
  intro a W H
  refine pl_new (news_of rfl al_num) rfl rfl rfl rfl H ?_
  clear H a W
  intro g6 a W H
  refine pl_store rfl rfl rfl (k := 0) rfl (info_dv _) (by simp only [dv_size, ds_size, tv_size, cv_size, ks_size]) (dv_one _) rfl rfl H ?_
  clear H a W
  intro a W H
  refine pl_does (does_assign rfl rfl) rfl rfl rfl rfl H ?_
  clear H a W
  intro a W H
  refine pl_end ?_
  replace H : St 49 w a W [(9, .bool true), (8, .pointer (some ⟨g6, 0, none⟩)), (7, .pointer (some ⟨g4, 0, none⟩)), (6, .bool true), (5, .bool false), (4, .pointer (some ⟨g3, 0, none⟩))] [(g6, 33, dv r), (g4, 33, dv yy), (g3, 35, tv RZ)] := H.pick [0, 1, 9, 10, 11, 12] [0, 1, 2] rfl
  refine hK7 _ _ ?_
  clear hK7
  refine wp_seq_k (fun K8 hK8 => ?_)
  refine wp_seq_k (fun K9 hK9 => ?_)
  refine rg_plain ?_
  refine pl_does (does_move rfl rfl) rfl rfl rfl rfl H ?_
  clear H a W
  intro a W H
  refine pl_does (does_unOp rfl rfl (fun _ => rfl)) rfl rfl rfl rfl H ?_
  clear H a W
  intro a W H
  refine pl_does (does_move rfl rfl) rfl rfl rfl rfl H ?_
  clear H a W
  intro a W H
  refine pl_does_g (does_move rfl rfl) (wanted_some rfl rfl rfl rfl rfl) rfl rfl rfl H ?_
  clear H a W
  intro a W H
  refine pl_does_g (does_move rfl rfl) (wanted_some rfl rfl rfl rfl rfl) rfl rfl rfl H ?_
  clear H a W
  intro a W H
  refine pl_does_g (does_load rfl rfl (k := 0) rfl Tryd.underlying33 rfl (info_dv _)) (wanted_some rfl rfl rfl rfl rfl) rfl rfl rfl H ?_
  clear H a W
  intro a W H
  refine pl_does_g (does_build (ps := []) rfl rfl bd_num0) (wanted_some rfl rfl rfl rfl rfl) rfl rfl rfl H ?_
  clear H a W
  intro a W H
  refine pl_does_g (does_binOp rfl rfl rfl (eq_num hz _ _)) (wanted_some rfl rfl rfl rfl rfl) rfl rfl rfl H ?_
  clear H a W
  intro a W H
  refine pl_does_g (does_pick rfl rfl (fun _ => rfl) (fun hb => by cases hb)) (wanted_some rfl rfl rfl rfl rfl) rfl rfl rfl H ?_
  clear H a W
  intro a W H
  refine pl_does (does_pick rfl rfl (fun hb => by cases hb) (fun _ => rfl)) rfl rfl rfl rfl H ?_
  clear H a W
  intro a W H
  refine pl_end ?_
  replace H : St 49 w a W [(40, .bool false), (8, .pointer (some ⟨g6, 0, none⟩)), (7, .pointer (some ⟨g4, 0, none⟩)), (6, .bool true), (5, .bool false), (4, .pointer (some ⟨g3, 0, none⟩))] [(g6, 33, dv r), (g4, 33, dv yy), (g3, 35, tv RZ)] := H.pick [0, 11, 12, 13, 14, 15] [0, 1, 2] rfl
  refine hK9 _ _ ?_
  clear hK9
  refine wp_cond_false (H.ev rfl) ?_
  refine wp_skip ?_
  refine hK8 _ _ ?_
  clear hK8
  refine wp_seq_k (fun K10 hK10 => ?_)
  refine wp_seq_k (fun K11 hK11 => ?_)
  refine rg_plain ?_
  refine pl_does (does_move rfl rfl) rfl rfl rfl rfl H ?_
  clear H a W
  intro a W H
  refine pl_end ?_
  replace H : St 49 w a W [(42, .bool true), (8, .pointer (some ⟨g6, 0, none⟩)), (7, .pointer (some ⟨g4, 0, none⟩)), (5, .bool false), (4, .pointer (some ⟨g3, 0, none⟩))] [(g6, 33, dv r), (g4, 33, dv yy), (g3, 35, tv RZ)] := H.pick [0, 2, 3, 5, 6] [0, 1, 2] rfl
  refine hK11 _ _ ?_
  clear hK11
  refine wp_cond_true (H.ev rfl) ?_
  refine rg_plain ?_
  refine pl_does (does_load rfl rfl (k := 0) rfl Tryd.underlying33 rfl (info_dv _)) rfl rfl rfl rfl H ?_
  clear H a W
  intro a W H
  refine pl_does (does_call rfl ⟨_, Tryd.func48, by kernel_rfl⟩ rfl (fun W hb => negD hz1 W)) rfl rfl rfl rfl H ?_
  clear H a W
  intro a W H
  refine pl_store rfl rfl rfl (k := 0) rfl (info_dv _) (by simp only [dv_size, ds_size, tv_size, cv_size, ks_size]) (dv_one _) rfl rfl H ?_
  clear H a W
  intro a W H
  refine pl_end ?_
  replace H : St 49 w a W [(8, .pointer (some ⟨g6, 0, none⟩)), (7, .pointer (some ⟨g4, 0, none⟩)), (5, .bool false), (4, .pointer (some ⟨g3, 0, none⟩))] [(g6, 33, dv z1), (g4, 33, dv yy), (g3, 35, tv RZ)] := H.pick [3, 4, 5, 6] [0, 1, 2] rfl
  refine hK10 _ _ ?_
  clear hK10
  refine wp_seq_k (fun K12 hK12 => ?_)
  replace H : St 49 w a W [(8, .pointer (some ⟨g6, 0, none⟩)), (7, .pointer (some ⟨g4, 0, none⟩)), (4, .pointer (some ⟨g3, 0, none⟩))] [(g6, 33, dv z1), (g4, 33, dv yy), (g3, 35, tv RZ)] := H.pick [0, 1, 3] [0, 1, 2] rfl
  refine drawnS [.val 45 (.agg (dv z1)) [] [0], .val 46 (.agg (dv yy)) [] [1], .val 47 (.agg (dv z2)) [] [], .val 48 (.agg (tv ⟨z1, yy, z2⟩)) [0, 1, 2] [], .sto 2 g3 35 (tv RZ) (tv ⟨z1, yy, z2⟩) [3], .val 5 (.bool true) [] []] [0, 0, 0, 7, 15, 31] (by kernel_rfl) (by kernel_rfl) (by kernel_rfl) H ⟨⟨does_load rfl rfl (k := 0) rfl Tryd.underlying33 rfl (info_dv _), wanted_none rfl⟩, ⟨does_load rfl rfl (k := 0) rfl Tryd.underlying33 rfl (info_dv _), wanted_none rfl⟩, ⟨does_call rfl ⟨_, Tryd.func50, by kernel_rfl⟩ rfl (fun W hb => smallD 1 hz2 (by omega) W), wanted_none rfl⟩, ⟨does_build rfl rfl (bd_rpt z1 yy z2), wanted_none rfl⟩, ⟨rfl, rfl, sto_row rfl rfl rfl (info_rpt _) (by simp only [dv_size, ds_size, tv_size, cv_size, ks_size]) (tv_one _)⟩, ⟨does_assign rfl rfl, wanted_none rfl⟩, trivial⟩ ?_
  clear H a W
  intro G7 a W H
  replace H : St 49 w a W [(45, .agg (dv z1)), (46, .agg (dv yy)), (47, .agg (dv z2)), (48, .agg (tv ⟨z1, yy, z2⟩)), (5, .bool true), (8, .pointer (some ⟨g6, 0, none⟩)), (7, .pointer (some ⟨g4, 0, none⟩)), (4, .pointer (some ⟨g3, 0, none⟩))] [(g6, 33, dv z1), (g4, 33, dv yy), (g3, 35, tv ⟨z1, yy, z2⟩)] := H
  replace H : St 49 w a W [(5, .bool true), (4, .pointer (some ⟨g3, 0, none⟩))] [(g3, 35, tv ⟨z1, yy, z2⟩)] := H.pick [4, 7] [2] rfl
  refine hK12 _ _ ?_
  clear hK12
  refine wp_ret ?_
  repeat (first | (with_reducible refine then_ret ?_) | (with_reducible refine blk_ret ?_))
  refine end_cell_tmp (p := 4) (q := 5) rfl rfl rfl (k := 0) rfl Tryd.underlying35 rfl (info_rpt _) H (fun hb => ?_)
  refine ⟨?_, hb⟩
  rw [hxr, ← hof, ← hyy, ← sm_one, ← hz1, ← hz2]
set_option maxHeartbeats 4000000 in
theorem rof_e {q : Pj3} {n : Nat} (hn : n < 115792089237316195423570985008687907853269984665640564039457584007913129639936) (h1 : n % 57896044618658097711785492504343953926634992332820282019728792003956564819968 < PP) (h2 : (ofX n).2 = true) (h3 : ¬ 57896044618658097711785492504343953926634992332820282019728792003956564819968 ≤ n) (w : World) : Calls Tryd.prog 12 #[.agg (cv TD q), .agg (ks n)] w (fun rr w' => rr = .returned (.tuple #[.agg (tv ⟨ptX n, ofK n, 1⟩), .bool true]) ∧ Below w.heap.size w w') := by
  obtain ⟨x, hx⟩ : ∃ x : Nat, n / 256 ^ 31 % 256 = x := ⟨_, rfl⟩
  have hx1 : x < 256 := by omega
  obtain ⟨y, hy⟩ : ∃ y : Nat, x / 128 = y := ⟨_, rfl⟩
  obtain ⟨v, hv⟩ : ∃ v : Nat, x % 128 = v := ⟨_, rfl⟩
  have hv1 : v < 256 := by omega
  obtain ⟨m, hm⟩ : ∃ m : Nat, n % 57896044618658097711785492504343953926634992332820282019728792003956564819968 = m := ⟨_, rfl⟩
  have hput : putd 256 n 31 v = m := by rw [← hv, ← hx, put_top hn, hm]
  have hm1 : m < 115792089237316195423570985008687907853269984665640564039457584007913129639936 := by omega
  have hof : ofK m = ofK n := by rw [← hm]; unfold ofK; rw [Nat.mod_mod]
  have hmx : (57896044618658097711785492504343953926634992332820282019728792003956564819968 ≤ n) ↔ 128 ≤ x := by omega
  have hod : decide (y = 1) = false := decide_eq_false (by omega)
  have hc0 : m < PP := by rw [← hm]; exact h1
  obtain ⟨yy, hyy⟩ : ∃ z, z = ofK m := ⟨_, rfl⟩
  have hyv : yy.val = m := by
    have e : m % 57896044618658097711785492504343953926634992332820282019728792003956564819968 = m := Nat.mod_eq_of_lt (by omega)
    rw [hyy, ofK_val' (by rw [e]; exact hc0), e]
  have hc : yy.val < PP := yy.isLt
  obtain ⟨r, hr'⟩ : ∃ r, r = (ofX n).1 := ⟨_, rfl⟩
  have hr : (r, true) = rootC EE II (yy * yy - 1) (1 + TD * (yy * yy)) := ofX_root h2 hr' (by rw [hyy, hof])
  have hxr : ptX n = r := by unfold ptX; rw [if_neg h3, hr']
  obtain ⟨z1, hz1⟩ : ∃ z : Fin PP, z = sm 1 := ⟨_, rfl⟩
  refine calls_st (vs := [.agg (cv TD q), .agg (ks n)]) 49 Tryd.func12 rfl Tryd.ntmps12 rfl (fun a W H => ?_)
  replace H : St 49 w a W [(0, .agg (cv TD q)), (1, .agg (ks n))] [] := H
  refine wp_seq_k (fun K1 hK1 => ?_)
  refine rg_plain ?_
  refine pl_box rfl rfl (bx_cv TD q) rfl rfl rfl rfl H ?_
  clear H a W
  intro g1 a W H
  refine pl_box rfl rfl (bx_keyr n) rfl rfl rfl rfl H ?_
  clear H a W
  intro g2 a W H
  refine pl_new (news_of rfl al_rpt) rfl rfl rfl rfl H ?_
  clear H a W
  intro g3 a W H
  refine pl_does (does_assign rfl rfl) rfl rfl rfl rfl H ?_
  clear H a W
  intro a W H
  refine pl_end ?_
  replace H : St 49 w a W [(5, .bool false), (4, .pointer (some ⟨g3, 0, none⟩)), (3, .pointer (some ⟨g2, 0, none⟩)), (2, .pointer (some ⟨g1, 0, none⟩))] [(g3, 35, tv RZ), (g2, 23, ks n), (g1, 38, cv TD q)] := H.pick [0, 1, 2, 3] [0, 1, 2] rfl
  refine hK1 _ _ ?_
  clear hK1
  refine wp_seq_k (fun K2 hK2 => ?_)
  refine rg_plain ?_
  refine pl_does (does_indexAddr rfl rfl rfl (ia_key31r _)) rfl rfl rfl rfl H ?_
  clear H a W
  intro a W H
  refine pl_does (does_loadAt (v := .int .u8 ((x : Nat) : Int)) rfl rfl (k := 1) rfl (ld_key31r hx)) rfl rfl rfl rfl H ?_
  clear H a W
  intro a W H
  refine pl_does (does_binOp rfl rfl rfl (b_quo128 hx1 hy _ _)) rfl rfl rfl rfl H ?_
  clear H a W
  intro a W H
  refine pl_does (does_binOp rfl rfl rfl (b_eql1 hod _ _)) rfl rfl rfl rfl H ?_
  clear H a W
  intro a W H
  refine pl_does (does_assign rfl rfl) rfl rfl rfl rfl H ?_
  clear H a W
  intro a W H
  refine pl_end ?_
  replace H : St 49 w a W [(6, .bool false), (5, .bool false), (4, .pointer (some ⟨g3, 0, none⟩)), (3, .pointer (some ⟨g2, 0, none⟩)), (2, .pointer (some ⟨g1, 0, none⟩))] [(g3, 35, tv RZ), (g2, 23, ks n), (g1, 38, cv TD q)] := H.pick [0, 5, 6, 7, 8] [0, 1, 2] rfl
  refine hK2 _ _ ?_
  clear hK2
  refine wp_seq_k (fun K3 hK3 => ?_)
  refine rg_plain ?_
  refine pl_does (does_indexAddr rfl rfl rfl (ia_key31r _)) rfl rfl rfl rfl H ?_
  clear H a W
  intro a W H
  refine pl_does (does_loadAt (v := .int .u8 ((x : Nat) : Int)) rfl rfl (k := 1) rfl (ld_key31r hx)) rfl rfl rfl rfl H ?_
  clear H a W
  intro a W H
  refine pl_does (does_binOp rfl rfl rfl (b_rem128 hx1 hv _ _)) rfl rfl rfl rfl H ?_
  clear H a W
  intro a W H
  refine pl_does (does_indexAddr rfl rfl rfl (ia_key31r _)) rfl rfl rfl rfl H ?_
  clear H a W
  intro a W H
  refine pl_storeAt rfl rfl rfl (k := 1) rfl st_key31r (sv_key31r hv1 hput) rfl rfl H ?_
  clear H a W
  intro a W H
  refine pl_end ?_
  replace H : St 49 w a W [(6, .bool false), (5, .bool false), (4, .pointer (some ⟨g3, 0, none⟩)), (3, .pointer (some ⟨g2, 0, none⟩)), (2, .pointer (some ⟨g1, 0, none⟩))] [(g3, 35, tv RZ), (g2, 23, ks m), (g1, 38, cv TD q)] := H.pick [4, 5, 6, 7, 8] [0, 1, 2] rfl
  refine hK3 _ _ ?_
  clear hK3
  refine wp_seq_k (fun K4 hK4 => ?_)
  refine rg_plain ?_
  refine pl_does (does_load rfl rfl (k := 1) rfl Tryd.underlying23 rfl (info_ks _)) rfl rfl rfl rfl H ?_
  clear H a W
  intro a W H
  refine pl_does (does_call rfl ⟨_, Tryd.func53, by kernel_rfl⟩ rfl (fun W hb => rofY hyv W hm1)) rfl rfl rfl rfl H ?_
  clear H a W
  intro a W H
  refine pl_new (news_of rfl al_num) rfl rfl rfl rfl H ?_
  clear H a W
  intro g4 a W H
  refine pl_store rfl rfl rfl (k := 0) rfl (info_dv _) (by simp only [dv_size, ds_size, tv_size, cv_size, ks_size]) (dv_one _) rfl rfl H ?_
  clear H a W
  intro a W H
  refine pl_end ?_
  replace H : St 49 w a W [(7, .pointer (some ⟨g4, 0, none⟩)), (6, .bool false), (5, .bool false), (4, .pointer (some ⟨g3, 0, none⟩)), (2, .pointer (some ⟨g1, 0, none⟩))] [(g4, 33, dv yy), (g3, 35, tv RZ), (g1, 38, cv TD q)] := H.pick [0, 3, 4, 5, 7] [0, 1, 3] rfl
  refine hK4 _ _ ?_
  clear hK4
  refine wp_seq_k (fun K5 hK5 => ?_)
  refine wp_seq_k (fun K6 hK6 => ?_)
  refine drawnS [.val 20 (.agg (dv yy)) [] [0], .val 21 (.agg (ds PP)) [] [], .val 22 (.bool true) [0, 1] [], .val 23 (.bool false) [2] []] [0, 0, 3, 4] (by kernel_rfl) (by kernel_rfl) (by kernel_rfl) H ⟨⟨does_load rfl rfl (k := 0) rfl Tryd.underlying33 rfl (info_dv _), wanted_none rfl⟩, ⟨does_call rfl ⟨_, Tryd.func55, by kernel_rfl⟩ rfl (fun W hb => rprime_any W), wanted_none rfl⟩, ⟨does_call rfl ⟨_, Tryd.func54, by kernel_rfl⟩ rfl (fun W hb => rlessY hc W), wanted_none rfl⟩, ⟨does_unOp rfl rfl (fun _ => rfl), wanted_none rfl⟩, trivial⟩ ?_
  clear H a W
  intro G5 a W H
  replace H : St 49 w a W [(20, .agg (dv yy)), (21, .agg (ds PP)), (22, .bool true), (23, .bool false), (7, .pointer (some ⟨g4, 0, none⟩)), (6, .bool false), (5, .bool false), (4, .pointer (some ⟨g3, 0, none⟩)), (2, .pointer (some ⟨g1, 0, none⟩))] [(g4, 33, dv yy), (g3, 35, tv RZ), (g1, 38, cv TD q)] := H
  replace H : St 49 w a W [(23, .bool false), (7, .pointer (some ⟨g4, 0, none⟩)), (6, .bool false), (5, .bool false), (4, .pointer (some ⟨g3, 0, none⟩)), (2, .pointer (some ⟨g1, 0, none⟩))] [(g4, 33, dv yy), (g3, 35, tv RZ), (g1, 38, cv TD q)] := H.pick [3, 4, 5, 6, 7, 8] [0, 1, 2] rfl
  refine hK6 _ _ ?_
  clear hK6
  refine wp_cond_false (H.ev rfl) ?_
  refine wp_skip ?_
  refine hK5 _ _ ?_
  clear hK5
  refine wp_seq_k (fun K7 hK7 => ?_)
  refine rg_plain ?_
  refine pl_does (does_load rfl rfl (k := 2) rfl Tryd.underlying38 rfl (info_cv _ _)) rfl rfl rfl rfl H ?_
  clear H a W
  intro a W H
  refine pl_does (does_load rfl rfl (k := 0) rfl Tryd.underlying33 rfl (info_dv _)) rfl rfl rfl rfl H ?_
  clear H a W
  intro a W H
  refine pl_does (does_call rfl ⟨_, Tryd.func52, by kernel_rfl⟩ rfl (fun W hb => rx_any hr W)) rfl rfl rfl rfl H ?_
  clear H a W
  intro a W H
  refine pl_does (does_move rfl rfl) rfl rfl rfl rfl H ?_
  clear H a W
  intro a W H
  refine pl_does (does_extract rfl rfl (fun _ => rfl)) rfl rfl rfl rfl H ?_
  clear H a W
  intro a W H
  refine pl_does (does_extract rfl rfl (fun _ => rfl)) rfl rfl rfl rfl H ?_
  clear H a W
  intro a W H
  refine pl_new (news_of rfl al_num) rfl rfl rfl rfl H ?_
  clear H a W
  intro g6 a W H
  refine pl_store rfl rfl rfl (k := 0) rfl (info_dv _) (by simp only [dv_size, ds_size, tv_size, cv_size, ks_size]) (dv_one _) rfl rfl H ?_
  clear H a W
  intro a W H
  refine pl_does (does_assign rfl rfl) rfl rfl rfl rfl H ?_
  clear H a W
  intro a W H
  refine pl_end ?_
  replace H : St 49 w a W [(9, .bool true), (8, .pointer (some ⟨g6, 0, none⟩)), (7, .pointer (some ⟨g4, 0, none⟩)), (6, .bool false), (5, .bool false), (4, .pointer (some ⟨g3, 0, none⟩))] [(g6, 33, dv r), (g4, 33, dv yy), (g3, 35, tv RZ)] := H.pick [0, 1, 9, 10, 11, 12] [0, 1, 2] rfl
  refine hK7 _ _ ?_
  clear hK7
  refine wp_seq_k (fun K8 hK8 => ?_)
  refine wp_seq_k (fun K9 hK9 => ?_)
  refine rg_plain ?_
  refine pl_does (does_move rfl rfl) rfl rfl rfl rfl H ?_
  clear H a W
  intro a W H
  refine pl_does (does_unOp rfl rfl (fun _ => rfl)) rfl rfl rfl rfl H ?_
  clear H a W
  intro a W H
  refine pl_does (does_move rfl rfl) rfl rfl rfl rfl H ?_
  clear H a W
  intro a W H
  refine pl_does_g (does_move rfl rfl) (wanted_some rfl rfl rfl rfl rfl) rfl rfl rfl H ?_
  clear H a W
  intro a W H
  refine pl_does_g (does_move rfl rfl) (wanted_some rfl rfl rfl rfl rfl) rfl rfl rfl H ?_
  clear H a W
  intro a W H
  refine pl_skip (wanted_some rfl rfl rfl rfl rfl) rfl rfl rfl H ?_
  clear H a W
  intro a W H
  refine pl_skip (wanted_some rfl rfl rfl rfl rfl) rfl rfl rfl H ?_
  clear H a W
  intro a W H
  refine pl_skip (wanted_some rfl rfl rfl rfl rfl) rfl rfl rfl H ?_
  clear H a W
  intro a W H
  refine pl_does_g (does_pick rfl rfl (fun hb => by cases hb) (fun _ => rfl)) (wanted_some rfl rfl rfl rfl rfl) rfl rfl rfl H ?_
  clear H a W
  intro a W H
  refine pl_does (does_pick rfl rfl (fun hb => by cases hb) (fun _ => rfl)) rfl rfl rfl rfl H ?_
  clear H a W
  intro a W H
  refine pl_end ?_
  replace H : St 49 w a W [(40, .bool false), (8, .pointer (some ⟨g6, 0, none⟩)), (7, .pointer (some ⟨g4, 0, none⟩)), (6, .bool false), (5, .bool false), (4, .pointer (some ⟨g3, 0, none⟩))] [(g6, 33, dv r), (g4, 33, dv yy), (g3, 35, tv RZ)] := H.pick [0, 11, 12, 13, 14, 15] [0, 1, 2] rfl
  refine hK9 _ _ ?_
  clear hK9
  refine wp_cond_false (H.ev rfl) ?_
  refine wp_skip ?_
  refine hK8 _ _ ?_
  clear hK8
  refine wp_seq_k (fun K10 hK10 => ?_)
  refine wp_seq_k (fun K11 hK11 => ?_)
  refine rg_plain ?_
  refine pl_does (does_move rfl rfl) rfl rfl rfl rfl H ?_
  clear H a W
  intro a W H
  refine pl_end ?_
  replace H : St 49 w a W [(42, .bool false), (8, .pointer (some ⟨g6, 0, none⟩)), (7, .pointer (some ⟨g4, 0, none⟩)), (5, .bool false), (4, .pointer (some ⟨g3, 0, none⟩))] [(g6, 33, dv r), (g4, 33, dv yy), (g3, 35, tv RZ)] := H.pick [0, 2, 3, 5, 6] [0, 1, 2] rfl
  refine hK11 _ _ ?_
  clear hK11
  refine wp_cond_false (H.ev rfl) ?_
  refine wp_skip ?_
  refine hK10 _ _ ?_
  clear hK10
  refine wp_seq_k (fun K12 hK12 => ?_)
  replace H : St 49 w a W [(42, .bool false), (8, .pointer (some ⟨g6, 0, none⟩)), (7, .pointer (some ⟨g4, 0, none⟩)), (4, .pointer (some ⟨g3, 0, none⟩))] [(g6, 33, dv r), (g4, 33, dv yy), (g3, 35, tv RZ)] := H.pick [0, 1, 2, 4] [0, 1, 2] rfl
  refine drawnS [.val 45 (.agg (dv r)) [] [0], .val 46 (.agg (dv yy)) [] [1], .val 47 (.agg (dv z1)) [] [], .val 48 (.agg (tv ⟨r, yy, z1⟩)) [0, 1, 2] [], .sto 2 g3 35 (tv RZ) (tv ⟨r, yy, z1⟩) [3], .val 5 (.bool true) [] []] [0, 0, 0, 7, 15, 31] (by kernel_rfl) (by kernel_rfl) (by kernel_rfl) H ⟨⟨does_load rfl rfl (k := 0) rfl Tryd.underlying33 rfl (info_dv _), wanted_none rfl⟩, ⟨does_load rfl rfl (k := 0) rfl Tryd.underlying33 rfl (info_dv _), wanted_none rfl⟩, ⟨does_call rfl ⟨_, Tryd.func50, by kernel_rfl⟩ rfl (fun W hb => smallD 1 hz1 (by omega) W), wanted_none rfl⟩, ⟨does_build rfl rfl (bd_rpt r yy z1), wanted_none rfl⟩, ⟨rfl, rfl, sto_row rfl rfl rfl (info_rpt _) (by simp only [dv_size, ds_size, tv_size, cv_size, ks_size]) (tv_one _)⟩, ⟨does_assign rfl rfl, wanted_none rfl⟩, trivial⟩ ?_
  clear H a W
  intro G7 a W H
  replace H : St 49 w a W [(45, .agg (dv r)), (46, .agg (dv yy)), (47, .agg (dv z1)), (48, .agg (tv ⟨r, yy, z1⟩)), (5, .bool true), (42, .bool false), (8, .pointer (some ⟨g6, 0, none⟩)), (7, .pointer (some ⟨g4, 0, none⟩)), (4, .pointer (some ⟨g3, 0, none⟩))] [(g6, 33, dv r), (g4, 33, dv yy), (g3, 35, tv ⟨r, yy, z1⟩)] := H
  replace H : St 49 w a W [(5, .bool true), (4, .pointer (some ⟨g3, 0, none⟩))] [(g3, 35, tv ⟨r, yy, z1⟩)] := H.pick [4, 8] [2] rfl
  refine hK12 _ _ ?_
  clear hK12
  refine wp_ret ?_
  repeat (first | (with_reducible refine then_ret ?_) | (with_reducible refine blk_ret ?_))
  refine end_cell_tmp (p := 4) (q := 5) rfl rfl rfl (k := 0) rfl Tryd.underlying35 rfl (info_rpt _) H (fun hb => ?_)
  refine ⟨?_, hb⟩
  rw [hxr, ← hof, ← hyy, ← sm_one, ← hz1]
theorem rof_yes {q : Pj3} {n : Nat} (hn : n < 115792089237316195423570985008687907853269984665640564039457584007913129639936) (h : isPt n = true) (w : World) : Calls Tryd.prog 12 #[.agg (cv TD q), .agg (ks n)] w (fun rr w' => rr = .returned (.tuple #[.agg (tv ⟨ptX n, ofK n, 1⟩), .bool true]) ∧ Below w.heap.size w w') := by
  obtain ⟨h1, h2, h3⟩ := isPt_parts h
  by_cases h4 : 57896044618658097711785492504343953926634992332820282019728792003956564819968 ≤ n
  · exact rof_d hn h1 h2 h4 (fun e => h3 ⟨h4, e⟩) w
  · exact rof_e hn h1 h2 h4 w
theorem rof_no {q : Pj3} {n : Nat} (hn : n < 115792089237316195423570985008687907853269984665640564039457584007913129639936) (h : isPt n = false) (w : World) : Calls Tryd.prog 12 #[.agg (cv TD q), .agg (ks n)] w (fun rr w' => rr = .returned (.tuple #[.agg (tv rpNil), .bool false]) ∧ Below w.heap.size w w') := by
  by_cases h1 : n % 57896044618658097711785492504343953926634992332820282019728792003956564819968 < PP
  · cases h2 : (ofX n).2 with
    | false => exact rof_b hn h1 h2 w
    | true =>
      have hp : 57896044618658097711785492504343953926634992332820282019728792003956564819968 ≤ n ∧ (ofX n).1 = 0 := by
        unfold isPt at h
        rw [decide_eq_true h1, h2] at h
        simpa using h
      exact rof_c hn h1 h2 hp.1 hp.2 w
  · exact rof_a hn h1 w
end Go.Proofs.YtcijaoihcckofaaDoor
namespace Go.Proofs.YtcijaoihcckofaaDoor
set_option linter.unusedVariables false
set_option linter.unusedSimpArgs false
/-- L. -/
def LL : Nat := 7237005577332262213973186563042994240857116359379907606001950938285454250989
theorem LL_eq : LL = 7237005577332262213973186563042994240857116359379907606001950938285454250989 := rfl
theorem LL_lt : LL < 115792089237316195423570985008687907853269984665640564039457584007913129639936 := by rw [LL_eq]; omega
end Go.Proofs.YtcijaoihcckofaaDoor
namespace Go.Proofs.YtcijaoihcckofaaDoor
set_option linter.unusedVariables false
set_option linter.unusedSimpArgs false
open Go.RowKit
/-- The decimals of the text. -/
def NT : Nat := 27742317777372353535851937790883648493
def TXT : ByteArray := { data := #[50, 55, 55, 52, 50, 51, 49, 55, 55, 55, 55, 51, 55, 50, 51, 53, 51, 53, 51, 53, 56, 53, 49, 57, 51, 55, 55, 57, 48, 56, 56, 51, 54, 52, 56, 52, 57, 51] }
theorem TXT_size : TXT.size = 38 := rfl
def dgt (j : Nat) : Nat := NT / 10 ^ (37 - j) % 10
theorem dgt_lt (j : Nat) : dgt j < 10 := Nat.mod_lt _ (by omega)
theorem txt_at : ∀ j : Fin 38, TXT.data[j.val]?.map (·.toNat) = some (48 + dgt j.val) := by decide +kernel
theorem txt_index (j : Nat) (hj : j < 38) (W : World) : (Instr.index 9 (.string TXT) (.int .i64 (j : Int))).run Tryd.prog W = .ok (.int .u8 ((48 + dgt j : Nat) : Int)) W := by
  have h := txt_at ⟨j, hj⟩
  have hs : TXT.data.size = 38 := TXT_size
  rw [run_index_string (P := Tryd.prog) W 9 TXT .i64 (j : Int) Tryd.underlying9, dif_pos (by rw [TXT_size]; omega)]
  simp only [Array.getElem?_eq_getElem (show j < TXT.data.size by omega), Option.map_some, Option.some.injEq] at h
  congr 3
def pre (j : Nat) : Nat := NT / 10 ^ (38 - j)
theorem pre_step {j : Nat} (hj : j < 38) : pre (j + 1) = 10 * pre j + dgt j := by
  unfold pre dgt
  have h1 : 38 - (j + 1) = 37 - j := by omega
  have h2 : 38 - j = 37 - j + 1 := by omega
  rw [h1, h2, Nat.pow_succ, ← Nat.div_div_eq_div_mul]
  omega
theorem pre_le (j : Nat) : pre j ≤ NT := Nat.div_le_self _ _
theorem pre_end : pre 38 = NT := by decide
theorem pre_start : pre 0 = 0 := by decide
theorem order_put : (ds NT).setIfInBounds 15 (.int .u64 4096) = ds LL := by kernel_rfl
theorem order_top : (ds NT)[15]? = some (.int .u64 0) := by kernel_rfl
set_option maxRecDepth 100000 in
set_option maxHeartbeats 2000000 in
theorem rorder_any (w : World) : Calls Tryd.prog 30 #[] w (NumPost LL w) := by
  have hfr := ((Fr.start w).any (ds 0) 33 16 (ds_size 0) (g := w.heap.size) rfl).row (ds 0) 33 (g := w.heap.size + 1) (by simp)
  rw [ds_zero] at hfr
  have HFR := Lib.hid hfr
  clear hfr
  go_enter Tryd.func30, Tryd.ntmps30
  go_wp2_with (fail)
  obtain ⟨TX, hTX⟩ : ∃ TX, TX = TXT := ⟨_, rfl⟩
  have hix := txt_index
  have hsz := TXT_size
  rw [← hTX] at hix hsz
  have hT : ({ data := #[50, 55, 55, 52, 50, 51, 49, 55, 55, 55, 55, 51, 55, 50, 51, 53, 51, 53, 51, 53, 56, 53, 49, 57, 51, 55, 55, 57, 48, 56, 56, 51, 54, 52, 56, 52, 57, 51] } : ByteArray) = TX := hTX.symm
  rw [hT]
  have HIX := Lib.hid hix
  clear hix hTX hT
  go_loopw [3] (fun i wr => ∃ j : Nat, j ≤ 38 ∧ i = .int .i64 j ∧ Fr w wr [(w.heap.size + 1, 33, ds (pre j))] [(w.heap.size, 33, 16)]) (fun i _ => 38 - (intOf i).toNat)
  case atStart => exact ⟨0, by omega, rfl, by rw [pre_start, ds_zero]; exact HFR.out⟩
  case round =>
    obtain ⟨j, hj, rfl, hF⟩ := hrel
    clear HFR
    by_cases hlt : j < 38
    · have hx := HIX.out j hlt
      have hd := dgt_lt j
      have hps := pre_step hlt
      have hpl := pre_le (j + 1)
      have HPS := Lib.hid hps
      have HPL := Lib.hid hpl
      have HF := Lib.hid hF
      clear hF hps hpl
      generalize dgt j = d at *
      go_wp2_with (fail)
      have e0 : (48 : Int) + (d : Int) - 48 = (d : Int) := by omega
      rw [e0]
      rw [decide_eq_true (show (j : Int) < 38 by omega)]
      have hst := @scale_start 65536 (pre j) 10 d hd
      have HST0 := Lib.hid hst
      have hN : 10 * pre j + d < 65536 ^ 16 := by rw [← HPS.out, d16]; have := HPL.out; unfold NT at this; omega
      have HN := Lib.hid hN
      clear hst hN
      go_loopw [5, 4] (fun i c' wq => ∃ k v c : Nat, k ≤ 16 ∧ i = .int .i64 k ∧ c' = .int .u64 c ∧ ScaleAt 65536 10 (pre j) d k v c ∧ Fr w wq [(w.heap.size + 1, 33, ds v)] [(w.heap.size, 33, 16)]) (fun i _ _ => 16 - (intOf i).toNat)
      case atStart => exact ⟨0, pre j, d, by omega, rfl, rfl, HST0.out, HF.out⟩
      case round =>
        obtain ⟨k, v, c, hk, rfl, rfl, hS, hF⟩ := hrel
        clear HF HST0
        by_cases hkt : k < 16
        · have hV := hF.get (g := w.heap.size + 1) (t := 33) (cs := ds v) (by simp)
          have cv : wr.cell? ⟨w.heap.size + 1, k, none⟩ = some (.int .u64 ((v / 65536 ^ k % 65536 : Nat) : Int)) := by rw [hV.cell, ds_get _ hkt]
          have hf := hV.frozen k
          have hc := hS.2.2
          have hx : v / 65536 ^ k % 65536 < 65536 := Nat.mod_lt _ (by omega)
          have hst := @scale_step 65536 10 (pre j) d k v c (by omega) (by omega) hS
          have hpt := @ds_put v k ((10 * (v / 65536 ^ k % 65536) + c) % 65536) hkt (Nat.mod_lt _ (by omega))
          have HST := Lib.hid hst
          have HPT := Lib.hid hpt
          have HF := Lib.hid hF
          clear hst hpt hS hF hV
          generalize v / 65536 ^ k % 65536 = x at *
          go_wp2
          go_roundw
          case rel =>
            have e1 : (10 * (x : Int) + c) % 65536 = (((10 * x + c) % 65536 : Nat) : Int) := by omega
            have e2 : (10 * (x : Int) + c) / 65536 = (((10 * x + c) / 65536 : Nat) : Int) := by omega
            rw [e1, e2]
            refine ⟨k + 1, _, _, by omega, by go_num, rfl, HST.out, ?_⟩
            rw [← HPT.out]
            exact HF.out.setHead (by simp <;> omega) (by simp <;> omega) _ _ (by omega)
          case measure => simp [intOf] <;> omega
        · obtain rfl : k = 16 := by omega
          have hp : pre j < 65536 ^ 16 := by rw [d16]; have := pre_le j; unfold NT at this; omega
          obtain rfl := scale_end hS hp (by omega) HN.out
          have HF := Lib.hid hF
          clear hF hS hp
          go_wp2_with (fail)
          go_roundw
          case rel => exact ⟨j + 1, by omega, by go_num, by rw [HPS.out]; exact HF.out⟩
          case measure => simp [intOf] <;> omega
    · obtain rfl : j = 38 := by omega
      rw [pre_end] at hF
      have hV := hF.get (g := w.heap.size + 1) (t := 33) (cs := ds NT) (by simp)
      have cv : wr.cell? ⟨w.heap.size + 1, 15, none⟩ = some (.int .u64 0) := by rw [hV.cell, order_top]
      have hf := hV.frozen 15
      have hF2 := hF.setHead (by simp) (by simp) 15 (.int .u64 4096) (by omega)
      rw [order_put] at hF2
      have kT := hF2.get (g := w.heap.size + 1) (t := 33) (cs := ds LL) (by simp)
      obtain ⟨old, hold, kR⟩ := hF2.old (g := w.heap.size) (t := 33) (n := 16) (by simp)
      have kS := kR.setRow_same (ds LL)
      have hB := below_setRow hF2.below (Nat.le_refl _) (ds LL)
      have hold' : old.size = (ds LL).size := by rw [hold, ds_size]
      have HS := Lib.hid kS
      have HB := Lib.hid hB
      have HO := Lib.hid hold'
      have KT := Lib.hid kT
      have KR := Lib.hid kR
      clear hF hF2 kS hB hold hold' hV kT kR
      go_wp2_with (first | (refine wpList_load_row rfl 33 (.tmp 1) rfl (w.heap.size + 1) rfl 33 (ds LL) (0, 0) _ KT.out Tryd.underlying33 rfl (info_ds LL) ?_) | (refine wpList_store_row rfl 33 (.tmp 0) (.tmp 38) rfl (w.heap.size) (ds LL) rfl rfl 33 old KR.out (info_ds LL) HO.out (ds_one _) ?_))
      exact bodyPost_ret (results_cell_row rfl _ _ (w.heap.size) 33 (ds LL) (0, 0) _ rfl HS.out Tryd.underlying33 rfl (info_ds LL)) rfl ⟨rfl, HB.out⟩
end Go.Proofs.YtcijaoihcckofaaDoor
namespace Go.Proofs.YtcijaoihcckofaaDoor
set_option linter.unusedVariables false
set_option linter.unusedSimpArgs false
set_option maxRecDepth 100000
open Go Go.RowKit
theorem eq_key {m n : Nat} {b : Bool} (hm : m < 115792089237316195423570985008687907853269984665640564039457584007913129639936) (hn : n < 115792089237316195423570985008687907853269984665640564039457584007913129639936) (h : decide (m = n) = b) (p q : Operand) (W : World) : (do eqGuard .eql 23 p q (.agg (ks m)) (.agg (ks n)); binOp .eql 23 (.agg (ks m)) (.agg (ks n)) : Sem Value).run Tryd.prog W = .ok (.bool b) W := by
  have hq := keys_eq hm hn h W
  go_simp
theorem eq_key_same {m n : Nat} (h : m = n) (p q : Operand) (W : World) : (do eqGuard .eql 23 p q (.agg (ks m)) (.agg (ks n)); binOp .eql 23 (.agg (ks m)) (.agg (ks n)) : Sem Value).run Tryd.prog W = .ok (.bool true) W := by
  subst h
  have hq := keys_same m W
  go_simp
theorem eq_bool (b : Bool) (p q : Operand) (W : World) : (do eqGuard .eql 4 p q (.bool b) (.bool b); binOp .eql 4 (.bool b) (.bool b) : Sem Value).run Tryd.prog W = .ok (.bool true) W := by
  cases b <;> go_simp
theorem neq_bool (b : Bool) (p q : Operand) (W : World) : (do eqGuard .neq 4 p q (.bool b) (.bool b); binOp .neq 4 (.bool b) (.bool b) : Sem Value).run Tryd.prog W = .ok (.bool false) W := by
  cases b <;> go_simp
theorem bd_key0 (W : World) : (Instr.build 23 ([] : List (Nat × Value)).toArray).run Tryd.prog W = .ok (.agg (ks 0)) W := by kernel_rfl
theorem bd_key1 (W : World) : (Instr.build 23 [(0, .int .u8 1)].toArray).run Tryd.prog W = .ok (.agg (ks 1)) W := by kernel_rfl
theorem lit_byte (t : Nat) (h : t < 256) : ks t = #[.int .u8 (t : Int), .int .u8 0, .int .u8 0, .int .u8 0, .int .u8 0, .int .u8 0, .int .u8 0, .int .u8 0, .int .u8 0, .int .u8 0, .int .u8 0, .int .u8 0, .int .u8 0, .int .u8 0, .int .u8 0, .int .u8 0, .int .u8 0, .int .u8 0, .int .u8 0, .int .u8 0, .int .u8 0, .int .u8 0, .int .u8 0, .int .u8 0, .int .u8 0, .int .u8 0, .int .u8 0, .int .u8 0, .int .u8 0, .int .u8 0, .int .u8 0, .int .u8 0] := by
  have e : kb t = [t, 0, 0, 0, 0, 0, 0, 0, 0, 0, 0, 0, 0, 0, 0, 0, 0, 0, 0, 0, 0, 0, 0, 0, 0, 0, 0, 0, 0, 0, 0, 0] := by
    apply List.ext_getElem?
    intro i
    by_cases hi : i < 32
    · rw [kb_get t hi]
      rcases byte_cases hi with rfl | rfl | rfl | rfl | rfl | rfl | rfl | rfl | rfl | rfl | rfl | rfl | rfl | rfl | rfl | rfl | rfl | rfl | rfl | rfl | rfl | rfl | rfl | rfl | rfl | rfl | rfl | rfl | rfl | rfl | rfl | rfl
      all_goals
        simp only [Nat.reducePow, Nat.div_one, List.getElem?_cons_zero, List.getElem?_cons_succ]
        congr 1
        omega
    · rw [List.getElem?_eq_none (by rw [kb_len]; omega), List.getElem?_eq_none (by simp; omega)]
  rw [ks, e]
  rfl
theorem bd_keyb {x : Nat} (hx : x < 256) (W : World) : (Instr.build 23 [(0, .int .u8 ((x : Nat) : Int))].toArray).run Tryd.prog W = .ok (.agg (ks x)) W := by
  rw [lit_byte x hx]
  exact run_build W 23 _ _ (by kernel_rfl)
theorem ix_key {n j x : Nat} (hj : j < 32) (hx : n / 256 ^ j % 256 = x) (W : World) : (Instr.index 23 (.agg (ks n)) (.int .i64 (j : Int))).run Tryd.prog W = .ok (.int .u8 (x : Int)) W := by
  have h2 := run_index_nats (P := Tryd.prog) W 23 5 32 .u8 Tryd.underlying23 Tryd.underlying5 size_u8' (kb n) j x (by omega) (by rw [kb_get n hj, hx])
  exact h2
theorem b_neq {x y : Nat} {b : Bool} (h : decide (x ≠ y) = b) (p q : Operand) (W : World) : (do eqGuard .neq 5 p q (.int .u8 (x : Int)) (.int .u8 (y : Int)); binOp .neq 5 (.int .u8 (x : Int)) (.int .u8 (y : Int)) : Sem Value).run Tryd.prog W = .ok (.bool b) W := by
  have e : ((x : Int) != (y : Int)) = b := by
    rw [← h]
    by_cases hy : x = y
    · subst hy; simp
    · have : ¬ (x : Int) = (y : Int) := by omega
      simp [hy, this]
  go_simp
theorem b_eql {x y : Nat} {b : Bool} (h : decide (x = y) = b) (p q : Operand) (W : World) : (do eqGuard .eql 5 p q (.int .u8 (x : Int)) (.int .u8 (y : Int)); binOp .eql 5 (.int .u8 (x : Int)) (.int .u8 (y : Int)) : Sem Value).run Tryd.prog W = .ok (.bool b) W := by
  have e : ((x : Int) == (y : Int)) = b := by
    rw [← h]
    by_cases hy : x = y
    · subst hy; simp
    · have : ¬ (x : Int) = (y : Int) := by omega
      simp [hy, this]
  go_simp
theorem b_geq {x y : Nat} {b : Bool} (h : decide (x ≥ y) = b) (p q : Operand) (W : World) : (do eqGuard .geq 5 p q (.int .u8 (x : Int)) (.int .u8 (y : Int)); binOp .geq 5 (.int .u8 (x : Int)) (.int .u8 (y : Int)) : Sem Value).run Tryd.prog W = .ok (.bool b) W := by
  have e : decide ((x : Int) ≥ (y : Int)) = b := by
    rw [← h]
    congr 1
    simp
  go_simp
theorem ptX_nm {P : Pt} {s : L4 PP} {z : Nat} (h : RepS P s) (hz : z = P.x.val) (w : World) (hpg : PG w) : Calls Tryd.prog 16 #[.agg (sv s)] w (fun rr w' => rr = .returned (.agg (ks z)) ∧ Below w.heap.size w w') := by
  subst hz; exact ptX_any h w hpg
theorem ptY_nm {P : Pt} {s : L4 PP} {z : Nat} (h : RepS P s) (hz : z = P.y.val) (w : World) (hpg : PG w) : Calls Tryd.prog 18 #[.agg (sv s)] w (fun rr w' => rr = .returned (.agg (ks z)) ∧ Below w.heap.size w w') := by
  subst hz; exact ptY_any h w hpg
theorem of_yes_nm {n : Nat} {z : L4 PP} (hn : n < 115792089237316195423570985008687907853269984665640564039457584007913129639936) (h : isPt n = true) (hz : z = ptE (ptX n) (ofK n)) (w : World) (hpg : PG w) : Calls Tryd.prog 10 #[.agg (ks n)] w (fun rr w' => rr = .returned (.tuple #[.agg (sv z), .bool true]) ∧ Below w.heap.size w w') := by
  subst hz; exact of_yes hn h w hpg
theorem rof_yes_nm {q z : Pj3} {n : Nat} (hn : n < 115792089237316195423570985008687907853269984665640564039457584007913129639936) (h : isPt n = true) (hz : z = ⟨ptX n, ofK n, 1⟩) (w : World) : Calls Tryd.prog 12 #[.agg (cv TD q), .agg (ks n)] w (fun rr w' => rr = .returned (.tuple #[.agg (tv z), .bool true]) ∧ Below w.heap.size w w') := by
  subst hz; exact rof_yes hn h w
theorem bytesD_nm {x : Fin PP} {z : Nat} (hz : z = x.val) (w : World) : Calls Tryd.prog 17 #[.agg (dv x)] w (fun rr w' => rr = .returned (.agg (ks z)) ∧ Below w.heap.size w w') := by
  subst hz; exact bytesD x w
theorem al_ptZ (W : World) : (Instr.alloc 29 true (.tuple #[])).run Tryd.prog W = .ok (.pointer (some ⟨W.heap.size, 0, none⟩)) (W.alloc (.cells (sv PZ) 29)) := by kernel_rfl
theorem b_rem9 {x y : Nat} (h : x % 9 = y) (p q : Operand) (W : World) : (do eqGuard .rem 5 p q (.int .u8 (x : Int)) (.int .u8 9); binOp .rem 5 (.int .u8 (x : Int)) (.int .u8 9) : Sem Value).run Tryd.prog W = .ok (.int .u8 (y : Int)) W := by
  have e : (x : Int).tmod 9 = (y : Int) := by rw [Int.tmod_eq_emod_of_nonneg (by omega)]; omega
  go_simp
theorem cv_u8_int {x : Nat} (hx : x < 256) (W : World) : (convert 5 3 (.int .u8 (x : Int))).run Tryd.prog W = .ok (.int .i64 (x : Int)) W := by
  have e : IntKind.i64.wrap (x : Int) = (x : Int) := IntWalk.i64_in _ (by omega)
  go_simp
theorem xor128 {x : Nat} (hx : x < 256) : bits .xor .u8 (x : Int) 128 = ((x % 128 + (1 - x / 128) * 128 : Nat) : Int) := by
  have h : ∀ x : Fin 256, bits .xor .u8 ((x.val : Nat) : Int) 128 = ((x.val % 128 + (1 - x.val / 128) * 128 : Nat) : Int) := by decide +kernel
  exact h ⟨x, hx⟩
theorem b_xor128 {x y : Nat} (hx : x < 256) (h : x % 128 + (1 - x / 128) * 128 = y) (p q : Operand) (W : World) : (do eqGuard .xor 5 p q (.int .u8 (x : Int)) (.int .u8 128); binOp .xor 5 (.int .u8 (x : Int)) (.int .u8 128) : Sem Value).run Tryd.prog W = .ok (.int .u8 (y : Int)) W := by
  have := xor128 hx
  rw [h] at this
  go_simp
end Go.Proofs.YtcijaoihcckofaaDoor
