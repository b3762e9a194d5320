/- The document's Root: whether there is one of a fraction, and the even one. -/
import Derived.Test.YtnfckoamjeafhaaDoorRz
import Derived.Test.YtnfckoamjeafhaaDoorFrt
import Derived.Test.YtnfckoamjeafhaaDoorLm
namespace Go.Proofs.YtnfckoamjeafhaaDoor
set_option linter.unusedVariables false
set_option linter.unusedSimpArgs false
open Go Go.RowKit

theorem dg_inj {n m : Nat} (hn : n < 115792089237316195423570985008687907853269984665640564039457584007913129639936) (hm : m < 115792089237316195423570985008687907853269984665640564039457584007913129639936) (h : dg n = dg m) : n = m := by
  have e1 := dval_dgl n 16
  have e2 := dval_dgl m 16
  have h2 : dgl n 16 = dgl m 16 := h
  rw [h2, e2, d16] at e1
  omega
theorem size_u64w (W : World) : (sizeOf 24).run Tryd.prog W = .ok 1 W := by kernel_rfl
/-- '==' of two numbers. -/
theorem nums_eq {x y : Fin PP} {b : Bool} (h : decide (x = y) = b) (W : World) : (Op.equalIn 10000 32 (.agg (dv x)) (.agg (dv y))).run Tryd.prog W = .ok b W := by
  have h2 := run_equalIn_nats (P := Tryd.prog) W 9998 32 24 16 .u64 Tryd.underlying32 Tryd.underlying24 size_u64w (dg x.val) (dg y.val) (dg_len _) (dg_len _)
  have e : (dg x.val == dg y.val) = b := by
    rw [← h, Bool.eq_iff_iff]
    simp
    exact ⟨fun h => Fin.ext (dg_inj lim lim h), fun h => by rw [h]⟩
  rw [e] at h2
  exact h2
theorem build_num (w : World) : (Instr.build 32 #[]).run Tryd.prog w = .ok (.agg (dv 0)) w := by
  rw [dv_zero, ds_zero]
  kernel_rfl
theorem dv_z : dv 0 = #[.int .u64 0, .int .u64 0, .int .u64 0, .int .u64 0, .int .u64 0, .int .u64 0, .int .u64 0, .int .u64 0, .int .u64 0, .int .u64 0, .int .u64 0, .int .u64 0, .int .u64 0, .int .u64 0, .int .u64 0, .int .u64 0] := by rw [dv_zero, ds_zero]
theorem dv_zsize (x : Fin PP) : (#[.int .u64 0, .int .u64 0, .int .u64 0, .int .u64 0, .int .u64 0, .int .u64 0, .int .u64 0, .int .u64 0, .int .u64 0, .int .u64 0, .int .u64 0, .int .u64 0, .int .u64 0, .int .u64 0, .int .u64 0, .int .u64 0] : Array Value).size = (dv x).size := by rw [dv_size]; rfl
theorem dv_at0 (x : Fin PP) : (dv x)[0]? = some (.int .u64 ((x.val % 65536 : Nat) : Int)) := by
  unfold dv ds
  rw [ncs_get]
  simp [dg]
  rfl
theorem dv_ss (x y : Fin PP) : (dv x).size = (dv y).size := by rw [dv_size, dv_size]
theorem minor_half : (PP - 1) / 2 ^ 1 = 4 * EE + 2 := by decide +kernel
theorem minor_e : (PP - 5) / 2 ^ 3 = EE := by decide +kernel
theorem minor_q : (PP - 1) / 2 ^ 2 = 2 * EE + 1 := by decide +kernel
theorem half_lt : 4 * EE + 2 < 115792089237316195423570985008687907853269984665640564039457584007913129639936 := by decide +kernel
theorem quarter_lt : 2 * EE + 1 < 115792089237316195423570985008687907853269984665640564039457584007913129639936 := by decide +kernel
section
variable {p : Nat} [NeZero p] {e : Nat} {i u v : Fin p}
theorem rootR_0 (h : v = 0) : rootR e i u v = (0, decide (u = 0)) := by unfold rootR; rw [if_pos h]
theorem rootR_q {q : Fin p} (h : ¬ v = 0) (hq : q = u * v ^ (p - 2)) (h0 : q = 0) : rootR e i u v = (q, true) := by
  unfold rootR
  rw [if_neg h]
  dsimp only
  rw [← hq, if_pos h0]
theorem rootR_n {q : Fin p} (h : ¬ v = 0) (hq : q = u * v ^ (p - 2)) (h0 : ¬ q = 0) (h1 : ¬ q ^ (4 * e + 2) = 1) : rootR e i u v = (0, false) := by
  unfold rootR
  rw [if_neg h]
  dsimp only
  rw [← hq, if_neg h0, if_neg h1]
theorem rootR_y {q x y : Fin p} (h : ¬ v = 0) (hq : q = u * v ^ (p - 2)) (h0 : ¬ q = 0) (h1 : q ^ (4 * e + 2) = 1) (hx : x = q * q ^ e) (hy : y = if x * x = q then x else x * i) : rootR e i u v = (evenOf y, true) := by
  unfold rootR
  rw [if_neg h]
  dsimp only
  rw [← hq, if_neg h0, if_pos h1, ← hx, ← hy]
end
attribute [local irreducible] dv ds EE II rootR evenOf
set_option maxRecDepth 100000 in
set_option maxHeartbeats 16000000 in
theorem rrootD {u v r : Fin PP} {b : Bool} (h : (r, b) = rootR EE II u v) (w : World) : Calls Tryd.prog 10 #[.agg (dv u), .agg (dv v)] w fun e w' => e = .returned (.tuple #[.agg (dv r), .bool b]) ∧ Below w.heap.size w w' := by
  have f0 := (((Fr.start w).row (dv u) 32 (g := w.heap.size) rfl).row (dv v) 32 (g := w.heap.size + 1) (by simp)).any #[.int .u64 0, .int .u64 0, .int .u64 0, .int .u64 0, .int .u64 0, .int .u64 0, .int .u64 0, .int .u64 0, .int .u64 0, .int .u64 0, .int .u64 0, .int .u64 0, .int .u64 0, .int .u64 0, .int .u64 0, .int .u64 0] 32 16 rfl (g := w.heap.size + 1 + 1) (by simp)
  have k0 := f0.get (g := w.heap.size) (t := 32) (cs := dv u) (by simp)
  have k1 := f0.get (g := w.heap.size + 1) (t := 32) (cs := dv v) (by simp)
  have F0 := Lib.hid f0
  have he0 := fun W => nums_eq (x := v) (y := 0) rfl W
  rw [dv_z] at he0
  clear f0
  go_enter Tryd.func10, Tryd.ntmps10
  rcases Classical.em (v = 0) with hv | hv
  · rw [decide_eq_true hv] at he0
    rw [rootR_0 hv] at h
    injection h with hr hb
    have he1 := fun W => nums_eq (x := u) (y := 0) hb.symm W
    rw [dv_z] at he1
    have HRR := Lib.hid hr
    clear hv hr hb
    go_wp2_with (first | (refine wpList_load_row rfl 32 (.tmp 3) rfl (w.heap.size + 1) rfl 32 (dv v) (0, 0) _ k1 Tryd.underlying32 rfl (info_dv _) ?_))
    refine wp_region_held_drew (S := fun W => Fr w W [(w.heap.size + 1, 32, dv v), (w.heap.size, 32, dv u)] [(w.heap.size + 1 + 1, 32, 16)]) (by kernel_rfl) ?_ (fun hHeld => ?_)
    · exact F0.out.drew
    refine wpAnyH_take (i := 0) (v := ?_) rfl (by kernel_rfl) (by kernel_rfl) (by kernel_rfl) (fun _ _ _ h => h) (Or.inl ⟨by rfl, ?_⟩) hHeld ?_
    rotate_left
    · (intro W hSw; (try dsimp only at hSw); (try simp only [List.getElem_toArray, List.getElem_cons_succ, List.getElem_cons_zero]); go_simp; try with_reducible rfl)
    try simp only [Act.put, List.getElem_toArray, List.getElem_cons_succ, List.getElem_cons_zero, List.setIfInBounds_toArray, List.set_cons_zero, List.set_cons_succ]
    refine wpAnyH_take (i := 1) (v := .agg (dv u)) rfl (by kernel_rfl) (by kernel_rfl) (by kernel_rfl) (fun _ _ _ h => h) (yields_row (by rfl) 32 (.tmp 2) rfl (w.heap.size) rfl 32 (dv u) _ (fun W (h : Fr _ W _ _) => h.get (by simp)) Tryd.underlying32 rfl (info_dv _)) hHeld ?_
    try simp only [Act.put, List.getElem_toArray, List.getElem_cons_succ, List.getElem_cons_zero, List.setIfInBounds_toArray, List.set_cons_zero, List.set_cons_succ]
    refine wpAnyH_take (i := 2) (v := ?_) rfl (by kernel_rfl) (by kernel_rfl) (by kernel_rfl) (fun _ _ _ h => h) (Or.inl ⟨by rfl, ?_⟩) hHeld ?_
    rotate_left
    · (intro W hSw; (try dsimp only at hSw); (try simp only [List.getElem_toArray, List.getElem_cons_succ, List.getElem_cons_zero]); go_simp; try with_reducible rfl)
    try simp only [Act.put, List.getElem_toArray, List.getElem_cons_succ, List.getElem_cons_zero, List.setIfInBounds_toArray, List.set_cons_zero, List.set_cons_succ]
    refine wpAnyH_take (i := 3) (v := ?_) rfl (by kernel_rfl) (by kernel_rfl) (by kernel_rfl) (fun _ _ _ h => h) (Or.inl ⟨by rfl, ?_⟩) hHeld ?_
    rotate_left
    · (intro W hSw; (try dsimp only at hSw); (try simp only [List.getElem_toArray, List.getElem_cons_succ, List.getElem_cons_zero]); go_simp; try with_reducible rfl)
    try simp only [Act.put, List.getElem_toArray, List.getElem_cons_succ, List.getElem_cons_zero, List.setIfInBounds_toArray, List.set_cons_zero, List.set_cons_succ]
    refine wpAnyH_ready (rs := [4]) (by kernel_rfl) (by simp) (AllReadyH.cons rfl (fun K hK => ?_) AllReadyH.nil)
    have h0 := hHeld
    clear hHeld
    try simp only [List.getElem_toArray, List.getElem_cons_succ, List.getElem_cons_zero]
    rw [if_pos (by rfl)]
    obtain ⟨old, hold, kold⟩ := Fr.old h0 (g := w.heap.size + 1 + 1) (t := 32) (n := 16) (by simp)
    refine wp_store_row 32 (.tmp 4) (.tmp 12) rfl (w.heap.size + 1 + 1) (#[.int .u64 0, .int .u64 0, .int .u64 0, .int .u64 0, .int .u64 0, .int .u64 0, .int .u64 0, .int .u64 0, .int .u64 0, .int .u64 0, .int .u64 0, .int .u64 0, .int .u64 0, .int .u64 0, .int .u64 0, .int .u64 0]) rfl rfl 32 old kold (by rw [← dv_z]; exact info_dv 0) hold (by rw [← dv_z]; exact dv_one 0) ?_
    refine hK.out _ _ (Fr.setAny h0 (g := w.heap.size + 1 + 1) (t := 32) (rfl) (by simp) (by simp <;> omega)) (fun hHeld => ?_)
    have kb := kold.setRow_same (#[.int .u64 0, .int .u64 0, .int .u64 0, .int .u64 0, .int .u64 0, .int .u64 0, .int .u64 0, .int .u64 0, .int .u64 0, .int .u64 0, .int .u64 0, .int .u64 0, .int .u64 0, .int .u64 0, .int .u64 0, .int .u64 0])
    clear hK K h0 hold
    try simp only [Act.put, List.getElem_toArray, List.getElem_cons_succ, List.getElem_cons_zero, List.setIfInBounds_toArray, List.set_cons_zero, List.set_cons_succ]
    refine wpAnyH_take (i := 5) (v := ?_) rfl (by kernel_rfl) (by kernel_rfl) (by kernel_rfl) (fun _ _ _ h => h) (Or.inl ⟨by rfl, ?_⟩) hHeld ?_
    rotate_left
    · (intro W hSw; (try dsimp only at hSw); (try simp only [List.getElem_toArray, List.getElem_cons_succ, List.getElem_cons_zero]); go_simp; try with_reducible rfl)
    try simp only [Act.put, List.getElem_toArray, List.getElem_cons_succ, List.getElem_cons_zero, List.setIfInBounds_toArray, List.set_cons_zero, List.set_cons_succ]
    have KB := Lib.hid kb
    have HB := Lib.hid hHeld.below
    clear hHeld kb kold
    refine wpAnyH_done (by kernel_rfl) ?_ _
    go_wp2_with (fail)
    exact bodyPost_ret (results_row_tmp rfl rfl rfl KB.out Tryd.underlying32 rfl (by rw [← dv_z]; exact info_dv 0)) rfl ⟨by rw [HRR.out, dv_z]; rfl, HB.out⟩
  · rw [decide_eq_false hv] at he0
    have HV := Lib.hid hv
    have HR := Lib.hid h
    clear hv h
    go_wp2_with (first | (refine wpList_load_row rfl 32 (.tmp 3) rfl (w.heap.size + 1) rfl 32 (dv v) (0, 0) _ k1 Tryd.underlying32 rfl (info_dv _) ?_))
    obtain ⟨iv, hiv⟩ : ∃ x, x = v ^ (PP - 2) := ⟨_, rfl⟩
    obtain ⟨q, hq⟩ : ∃ x, x = u * iv := ⟨_, rfl⟩
    have HIV := Lib.hid hiv
    have HQ := Lib.hid hq
    clear hiv hq he0
    obtain ⟨wx, hwx⟩ : ∃ wx : World, wx = (((w.alloc (.cells (dv u) 32)).alloc (.cells (dv v) 32)).alloc (.cells #[.int .u64 0, .int .u64 0, .int .u64 0, .int .u64 0, .int .u64 0, .int .u64 0, .int .u64 0, .int .u64 0, .int .u64 0, .int .u64 0, .int .u64 0, .int .u64 0, .int .u64 0, .int .u64 0, .int .u64 0, .int .u64 0] 32)) := ⟨_, rfl⟩
    rw [← hwx] at F0 k0 k1 ⊢
    have hsx : w.heap.size + 1 + 1 < wx.heap.size := by rw [hwx]; simp
    clear hwx
    go_cut [6] (fun s6 wz => ∃ g : Nat, s6 = .pointer (some ⟨g, 0, none⟩) ∧ wx.heap.size ≤ g ∧ Blk wz g 32 (dv q) ∧ Below wx.heap.size wx wz)
    case first =>
      as_aux_lemma =>
        have hn := (F0.out.now.sub (L' := [(w.heap.size + 1, 32, dv v), (w.heap.size, 32, dv u)]) (by simp))
        have HN := Lib.hid hn
        clear hn
        refine wp_region_held_drew (S := fun W => Fn wx W [(w.heap.size + 1, 32, dv v), (w.heap.size, 32, dv u)]) (by kernel_rfl) ?_ (fun hHeld => ?_)
        · exact HN.out.drew
        refine wpAnyH_take (i := 0) (v := .agg (dv u)) rfl (by kernel_rfl) (by kernel_rfl) (by kernel_rfl) (fun _ _ _ h => h) (yields_row (by rfl) 32 (.tmp 2) rfl (w.heap.size) rfl 32 (dv u) _ (fun W (h : Fn _ W _) => h.get (by simp)) Tryd.underlying32 rfl (info_dv _)) hHeld ?_
        try simp only [Act.put, List.getElem_toArray, List.getElem_cons_succ, List.getElem_cons_zero, List.setIfInBounds_toArray, List.set_cons_zero, List.set_cons_succ]
        refine wpAnyH_take (i := 1) (v := .agg (dv v)) rfl (by kernel_rfl) (by kernel_rfl) (by kernel_rfl) (fun _ _ _ h => h) (yields_row (by rfl) 32 (.tmp 3) rfl (w.heap.size + 1) rfl 32 (dv v) _ (fun W (h : Fn _ W _) => h.get (by simp)) Tryd.underlying32 rfl (info_dv _)) hHeld ?_
        try simp only [Act.put, List.getElem_toArray, List.getElem_cons_succ, List.getElem_cons_zero, List.setIfInBounds_toArray, List.set_cons_zero, List.set_cons_succ]
        refine wpAnyH_ready (rs := [2, 4]) (by kernel_rfl) (by simp) (AllReadyH.cons rfl (fun K hK => ?_) (AllReadyH.cons rfl (fun K hK => ?_) AllReadyH.nil))
        · have h0 := hHeld
          clear hHeld
          try simp only [List.getElem_toArray, List.getElem_cons_succ, List.getElem_cons_zero]
          have H0 := Lib.hid h0
          clear h0
          go_simp
          go_at_call 27
          refine (invD HIV.out _).mono ?_
          rintro e vv ⟨rfl, hb⟩
          have h1 := H0.out.ext hb
          clear hb H0
          go_wp2_with (fail)
          refine hK.out _ _ h1 (fun hHeld => ?_)
          clear hK K h1
          try simp only [Act.put, List.getElem_toArray, List.getElem_cons_succ, List.getElem_cons_zero, List.setIfInBounds_toArray, List.set_cons_zero, List.set_cons_succ]
          refine wpAnyH_ready (rs := [3, 4]) (by kernel_rfl) (by simp) (AllReadyH.cons rfl (fun K hK => ?_) (AllReadyH.cons rfl (fun K hK => ?_) AllReadyH.nil))
          · have h0 := hHeld
            clear hHeld
            try simp only [List.getElem_toArray, List.getElem_cons_succ, List.getElem_cons_zero]
            have H0 := Lib.hid h0
            clear h0
            go_simp
            go_at_call 26
            refine (mulD HQ.out _).mono ?_
            rintro e vv ⟨rfl, hb⟩
            have h1 := H0.out.ext hb
            clear hb H0
            go_wp2_with (fail)
            refine hK.out _ _ h1 (fun hHeld => ?_)
            clear hK K h1
            try simp only [Act.put, List.getElem_toArray, List.getElem_cons_succ, List.getElem_cons_zero, List.setIfInBounds_toArray, List.set_cons_zero, List.set_cons_succ]
            refine wpAnyH_ready (rs := [4]) (by kernel_rfl) (by simp) (AllReadyH.cons rfl (fun K hK => ?_) AllReadyH.nil)
            have h0 := hHeld
            clear hHeld
            try simp only [List.getElem_toArray, List.getElem_cons_succ, List.getElem_cons_zero]
            obtain ⟨kz, hg⟩ := Fn.fresh h0 32 #[.int .u64 0, .int .u64 0, .int .u64 0, .int .u64 0, .int .u64 0, .int .u64 0, .int .u64 0, .int .u64 0, .int .u64 0, .int .u64 0, .int .u64 0, .int .u64 0, .int .u64 0, .int .u64 0, .int .u64 0, .int .u64 0]
            have KZ := Lib.hid kz
            have HG := Lib.hid hg
            have H0 := Lib.hid h0
            clear kz hg h0
            go_simp
            refine hK.out _ _ (Fn.pass H0.out _) (fun hHeld => ?_)
            clear hK K H0
            try simp only [Act.put, List.getElem_toArray, List.getElem_cons_succ, List.getElem_cons_zero, List.setIfInBounds_toArray, List.set_cons_zero, List.set_cons_succ]
            refine wpAnyH_ready (rs := [5]) (by kernel_rfl) (by simp) (AllReadyH.cons rfl (fun K hK => ?_) AllReadyH.nil)
            have h0 := hHeld
            clear hHeld
            try simp only [List.getElem_toArray, List.getElem_cons_succ, List.getElem_cons_zero]
            rw [if_pos (by rfl)]
            refine wp_store_row 32 (.tmp 6) (.tmp 19) rfl _ (dv q) rfl rfl 32 _ KZ.out (info_dv _) (dv_zsize _) (dv_one _) ?_
            refine hK.out _ _ (Fn.setFresh h0 HG.out _) (fun hHeld => ?_)
            have kb := KZ.out.setRow_same (dv q)
            clear hK K h0
            try simp only [Act.put, List.getElem_toArray, List.getElem_cons_succ, List.getElem_cons_zero, List.setIfInBounds_toArray, List.set_cons_zero, List.set_cons_succ]
            refine wpAnyH_done (by kernel_rfl) ?_ _
            have HB := Lib.hid hHeld.below
            have HGG := Lib.hid HG.out
            clear hHeld
            go_wp2_with (fail)
            go_meet
            exact ⟨_, rfl, HGG.out, kb, HB.out⟩
          · have h0 := hHeld
            clear hHeld
            try simp only [List.getElem_toArray, List.getElem_cons_succ, List.getElem_cons_zero]
            obtain ⟨kz, hg⟩ := Fn.fresh h0 32 #[.int .u64 0, .int .u64 0, .int .u64 0, .int .u64 0, .int .u64 0, .int .u64 0, .int .u64 0, .int .u64 0, .int .u64 0, .int .u64 0, .int .u64 0, .int .u64 0, .int .u64 0, .int .u64 0, .int .u64 0, .int .u64 0]
            have KZ := Lib.hid kz
            have HG := Lib.hid hg
            have H0 := Lib.hid h0
            clear kz hg h0
            go_simp
            refine hK.out _ _ (Fn.pass H0.out _) (fun hHeld => ?_)
            clear hK K H0
            try simp only [Act.put, List.getElem_toArray, List.getElem_cons_succ, List.getElem_cons_zero, List.setIfInBounds_toArray, List.set_cons_zero, List.set_cons_succ]
            refine wpAnyH_ready (rs := [3]) (by kernel_rfl) (by simp) (AllReadyH.cons rfl (fun K hK => ?_) AllReadyH.nil)
            have h0 := hHeld
            clear hHeld
            try simp only [List.getElem_toArray, List.getElem_cons_succ, List.getElem_cons_zero]
            have H0 := Lib.hid h0
            clear h0
            go_simp
            go_at_call 26
            refine (mulD HQ.out _).mono ?_
            rintro e vv ⟨rfl, hb⟩
            have kz := KZ.out.below hb KZ.out.lt
            clear KZ
            have KZ := Lib.hid kz
            clear kz
            have h1 := H0.out.ext hb
            clear hb H0
            go_wp2_with (fail)
            refine hK.out _ _ h1 (fun hHeld => ?_)
            clear hK K h1
            try simp only [Act.put, List.getElem_toArray, List.getElem_cons_succ, List.getElem_cons_zero, List.setIfInBounds_toArray, List.set_cons_zero, List.set_cons_succ]
            refine wpAnyH_ready (rs := [5]) (by kernel_rfl) (by simp) (AllReadyH.cons rfl (fun K hK => ?_) AllReadyH.nil)
            have h0 := hHeld
            clear hHeld
            try simp only [List.getElem_toArray, List.getElem_cons_succ, List.getElem_cons_zero]
            rw [if_pos (by rfl)]
            refine wp_store_row 32 (.tmp 6) (.tmp 19) rfl _ (dv q) rfl rfl 32 _ KZ.out (info_dv _) (dv_zsize _) (dv_one _) ?_
            refine hK.out _ _ (Fn.setFresh h0 HG.out _) (fun hHeld => ?_)
            have kb := KZ.out.setRow_same (dv q)
            clear hK K h0
            try simp only [Act.put, List.getElem_toArray, List.getElem_cons_succ, List.getElem_cons_zero, List.setIfInBounds_toArray, List.set_cons_zero, List.set_cons_succ]
            refine wpAnyH_done (by kernel_rfl) ?_ _
            have HB := Lib.hid hHeld.below
            have HGG := Lib.hid HG.out
            clear hHeld
            go_wp2_with (fail)
            go_meet
            exact ⟨_, rfl, HGG.out, kb, HB.out⟩
        · have h0 := hHeld
          clear hHeld
          try simp only [List.getElem_toArray, List.getElem_cons_succ, List.getElem_cons_zero]
          obtain ⟨kz, hg⟩ := Fn.fresh h0 32 #[.int .u64 0, .int .u64 0, .int .u64 0, .int .u64 0, .int .u64 0, .int .u64 0, .int .u64 0, .int .u64 0, .int .u64 0, .int .u64 0, .int .u64 0, .int .u64 0, .int .u64 0, .int .u64 0, .int .u64 0, .int .u64 0]
          have KZ := Lib.hid kz
          have HG := Lib.hid hg
          have H0 := Lib.hid h0
          clear kz hg h0
          go_simp
          refine hK.out _ _ (Fn.pass H0.out _) (fun hHeld => ?_)
          clear hK K H0
          try simp only [Act.put, List.getElem_toArray, List.getElem_cons_succ, List.getElem_cons_zero, List.setIfInBounds_toArray, List.set_cons_zero, List.set_cons_succ]
          refine wpAnyH_ready (rs := [2]) (by kernel_rfl) (by simp) (AllReadyH.cons rfl (fun K hK => ?_) AllReadyH.nil)
          have h0 := hHeld
          clear hHeld
          try simp only [List.getElem_toArray, List.getElem_cons_succ, List.getElem_cons_zero]
          have H0 := Lib.hid h0
          clear h0
          go_simp
          go_at_call 27
          refine (invD HIV.out _).mono ?_
          rintro e vv ⟨rfl, hb⟩
          have kz := KZ.out.below hb KZ.out.lt
          clear KZ
          have KZ := Lib.hid kz
          clear kz
          have h1 := H0.out.ext hb
          clear hb H0
          go_wp2_with (fail)
          refine hK.out _ _ h1 (fun hHeld => ?_)
          clear hK K h1
          try simp only [Act.put, List.getElem_toArray, List.getElem_cons_succ, List.getElem_cons_zero, List.setIfInBounds_toArray, List.set_cons_zero, List.set_cons_succ]
          refine wpAnyH_ready (rs := [3]) (by kernel_rfl) (by simp) (AllReadyH.cons rfl (fun K hK => ?_) AllReadyH.nil)
          have h0 := hHeld
          clear hHeld
          try simp only [List.getElem_toArray, List.getElem_cons_succ, List.getElem_cons_zero]
          have H0 := Lib.hid h0
          clear h0
          go_simp
          go_at_call 26
          refine (mulD HQ.out _).mono ?_
          rintro e vv ⟨rfl, hb⟩
          have kz := KZ.out.below hb KZ.out.lt
          clear KZ
          have KZ := Lib.hid kz
          clear kz
          have h1 := H0.out.ext hb
          clear hb H0
          go_wp2_with (fail)
          refine hK.out _ _ h1 (fun hHeld => ?_)
          clear hK K h1
          try simp only [Act.put, List.getElem_toArray, List.getElem_cons_succ, List.getElem_cons_zero, List.setIfInBounds_toArray, List.set_cons_zero, List.set_cons_succ]
          refine wpAnyH_ready (rs := [5]) (by kernel_rfl) (by simp) (AllReadyH.cons rfl (fun K hK => ?_) AllReadyH.nil)
          have h0 := hHeld
          clear hHeld
          try simp only [List.getElem_toArray, List.getElem_cons_succ, List.getElem_cons_zero]
          rw [if_pos (by rfl)]
          refine wp_store_row 32 (.tmp 6) (.tmp 19) rfl _ (dv q) rfl rfl 32 _ KZ.out (info_dv _) (dv_zsize _) (dv_one _) ?_
          refine hK.out _ _ (Fn.setFresh h0 HG.out _) (fun hHeld => ?_)
          have kb := KZ.out.setRow_same (dv q)
          clear hK K h0
          try simp only [Act.put, List.getElem_toArray, List.getElem_cons_succ, List.getElem_cons_zero, List.setIfInBounds_toArray, List.set_cons_zero, List.set_cons_succ]
          refine wpAnyH_done (by kernel_rfl) ?_ _
          have HB := Lib.hid hHeld.below
          have HGG := Lib.hid HG.out
          clear hHeld
          go_wp2_with (fail)
          go_meet
          exact ⟨_, rfl, HGG.out, kb, HB.out⟩
    case rest =>
      obtain ⟨g6, rfl, hg, hk, hb⟩ := hcut
      have hf2 := (F0.out.ext hb).more hk
      have hz6 : wx.heap.size ≤ g6 := hg
      have HF := Lib.hid hf2
      have k6 := hk
      clear F0 hb hk hg hf2 k0 k1
      have he1 := fun W => nums_eq (x := q) (y := 0) rfl W
      rw [dv_z] at he1
      rcases Classical.em (q = 0) with h0 | h0
      · rw [decide_eq_true h0] at he1
        have hr := HR.out
        rw [rootR_q HV.out (by rw [HQ.out, HIV.out]) h0] at hr
        injection hr with hr hb
        have HRR := Lib.hid hr
        clear hr h0
        obtain ⟨old, ho, k2⟩ := HF.out.old (g := w.heap.size + 1 + 1) (t := 32) (n := 16) (by simp)
        have kS := k2.setRow_same (dv q)
        have hB := below_setRow HF.out.below (show w.heap.size ≤ w.heap.size + 1 + 1 by omega) (dv q)
        have KS := Lib.hid kS
        have HB := Lib.hid hB
        have HO := Lib.hid (show old.size = (dv q).size by rw [ho, dv_size])
        clear kS hB ho
        go_wp2_with (first | (refine wpList_load_row rfl 32 (.tmp 6) rfl g6 rfl 32 (dv q) (0, 0) _ k6 Tryd.underlying32 rfl (info_dv _) ?_) | (refine wpList_store_row rfl 32 (.tmp 4) (.tmp 23) rfl (w.heap.size + 1 + 1) (dv q) rfl rfl 32 old k2 (info_dv _) HO.out (dv_one _) ?_))
        exact bodyPost_ret (results_row_tmp rfl rfl rfl KS.out Tryd.underlying32 rfl (info_dv _)) rfl ⟨by rw [HRR.out, hb]; rfl, HB.out⟩
      · rw [decide_eq_false h0] at he1
        have H0 := Lib.hid h0
        clear h0
        go_wp2_with (first | (refine wpList_load_row rfl 32 (.tmp 6) rfl g6 rfl 32 (dv q) (0, 0) _ k6 Tryd.underlying32 rfl (info_dv _) ?_))
        obtain ⟨e2, he2⟩ : ∃ x, x = 4 * EE + 2 := ⟨_, rfl⟩
        obtain ⟨pw, hpw⟩ : ∃ x, x = q ^ e2 := ⟨_, rfl⟩
        obtain ⟨one, hone⟩ : ∃ x, x = sm 1 := ⟨_, rfl⟩
        have HM1 := Lib.hid (show ∀ W, Calls Tryd.prog 29 #[.int .u64 1, .int .i64 1] W (KeyPost e2 W) from fun W => by
          have h2 := rminor_any 1 1 W (by omega) (by omega)
          rw [minor_half, ← he2] at h2
          exact h2)
        have HE2 := Lib.hid (show e2 < 115792089237316195423570985008687907853269984665640564039457584007913129639936 by rw [he2]; exact half_lt)
        have HPW := Lib.hid hpw
        have HON := Lib.hid hone
        have HE2D := Lib.hid he2
        have HS1 := Lib.hid (show ∀ W, Calls Tryd.prog 30 #[.int .u64 1] W (DPost one W) from fun W => smallD 1 hone (by omega) W)
        have hq1 := fun W => nums_eq (x := pw) (y := one) rfl W
        clear he2 hpw hone he1
        rcases Classical.em (pw = one) with h1 | h1
        · rw [decide_eq_true h1] at hq1
          have H1 := Lib.hid h1
          clear h1
          refine wp_region_held_drew (S := fun W => Fr w W [(g6, 32, dv q), (w.heap.size + 1, 32, dv v), (w.heap.size, 32, dv u)] [(w.heap.size + 1 + 1, 32, 16)]) (by kernel_rfl) ?_ (fun hHeld => ?_)
          · exact HF.out.drew
          refine wpAnyH_take (i := 0) (v := .agg (dv q)) rfl (by kernel_rfl) (by kernel_rfl) (by kernel_rfl) (fun _ _ _ h => h) (yields_row (by rfl) 32 (.tmp 6) rfl (g6) rfl 32 (dv q) _ (fun W (h : Fr _ W _ _) => h.get (by simp)) Tryd.underlying32 rfl (info_dv _)) hHeld ?_
          try simp only [Act.put, List.getElem_toArray, List.getElem_cons_succ, List.getElem_cons_zero, List.setIfInBounds_toArray, List.set_cons_zero, List.set_cons_succ]
          refine wpAnyH_ready (rs := [1]) (by kernel_rfl) (by simp) (AllReadyH.cons rfl (fun K hK => ?_) AllReadyH.nil)
          have h0 := hHeld
          clear hHeld
          try simp only [List.getElem_toArray, List.getElem_cons_succ, List.getElem_cons_zero]
          have H0 := Lib.hid h0
          clear h0
          go_simp
          go_at_call 29
          refine (HM1.out _).mono ?_
          rintro e vv ⟨rfl, hb⟩
          have h1 := H0.out.ext hb
          clear hb H0
          go_wp2_with (fail)
          refine hK.out _ _ h1 (fun hHeld => ?_)
          clear hK K h1
          try simp only [Act.put, List.getElem_toArray, List.getElem_cons_succ, List.getElem_cons_zero, List.setIfInBounds_toArray, List.set_cons_zero, List.set_cons_succ]
          refine wpAnyH_ready (rs := [2]) (by kernel_rfl) (by simp) (AllReadyH.cons rfl (fun K hK => ?_) AllReadyH.nil)
          have h0 := hHeld
          clear hHeld
          try simp only [List.getElem_toArray, List.getElem_cons_succ, List.getElem_cons_zero]
          have H0 := Lib.hid h0
          clear h0
          go_simp
          go_at_call 28
          refine (powerD HPW.out HE2.out _).mono ?_
          rintro e vv ⟨rfl, hb⟩
          have h1 := H0.out.ext hb
          clear hb H0
          go_wp2_with (fail)
          refine hK.out _ _ h1 (fun hHeld => ?_)
          clear hK K h1
          try simp only [Act.put, List.getElem_toArray, List.getElem_cons_succ, List.getElem_cons_zero, List.setIfInBounds_toArray, List.set_cons_zero, List.set_cons_succ]
          refine wpAnyH_ready (rs := [3]) (by kernel_rfl) (by simp) (AllReadyH.cons rfl (fun K hK => ?_) AllReadyH.nil)
          have h0 := hHeld
          clear hHeld
          try simp only [List.getElem_toArray, List.getElem_cons_succ, List.getElem_cons_zero]
          have H0 := Lib.hid h0
          clear h0
          go_simp
          go_at_call 30
          refine (HS1.out _).mono ?_
          rintro e vv ⟨rfl, hb⟩
          have h1 := H0.out.ext hb
          clear hb H0
          go_wp2_with (fail)
          refine hK.out _ _ h1 (fun hHeld => ?_)
          clear hK K h1
          try simp only [Act.put, List.getElem_toArray, List.getElem_cons_succ, List.getElem_cons_zero, List.setIfInBounds_toArray, List.set_cons_zero, List.set_cons_succ]
          refine wpAnyH_take (i := 4) (v := ?_) rfl (by kernel_rfl) (by kernel_rfl) (by kernel_rfl) (fun _ _ _ h => h) (Or.inl ⟨by rfl, ?_⟩) hHeld ?_
          rotate_left
          · (intro W hSw; (try dsimp only at hSw); (try simp only [List.getElem_toArray, List.getElem_cons_succ, List.getElem_cons_zero]); go_simp; try with_reducible rfl)
          try simp only [Act.put, List.getElem_toArray, List.getElem_cons_succ, List.getElem_cons_zero, List.setIfInBounds_toArray, List.set_cons_zero, List.set_cons_succ]
          have HF2 := Lib.hid hHeld
          clear hHeld HF
          have HF := HF2
          clear HF2
          refine wpAnyH_done (by kernel_rfl) ?_ _
          go_wp2_with (fail)
          obtain ⟨e0, he0⟩ : ∃ x, x = EE := ⟨_, rfl⟩
          have HM5 := Lib.hid (show ∀ W, Calls Tryd.prog 29 #[.int .u64 5, .int .i64 3] W (KeyPost e0 W) from fun W => by
            have h2 := rminor_any 5 3 W (by omega) (by omega)
            rw [minor_e, ← he0] at h2
            exact h2)
          have HEL := Lib.hid (show e0 < 115792089237316195423570985008687907853269984665640564039457584007913129639936 by rw [he0]; exact EE_lt)
          obtain ⟨p0, hp0⟩ : ∃ x, x = q ^ e0 := ⟨_, rfl⟩
          obtain ⟨x0, hx0⟩ : ∃ x, x = q * p0 := ⟨_, rfl⟩
          have HP0 := Lib.hid hp0
          have HX0 := Lib.hid hx0
          have HED := Lib.hid he0
          clear he0 hp0 hx0 hq1
          refine (HM5.out _).mono ?_
          rintro e v1 ⟨rfl, hb⟩
          have hv1 : w.heap.size ≤ v1.heap.size := (HF.out.ext hb).size
          have hf := HF.out.ext hb
          have ka : Blk (v1.alloc (.cells #[.int .u8 0, .int .u8 0, .int .u8 0, .int .u8 0, .int .u8 0, .int .u8 0, .int .u8 0, .int .u8 0, .int .u8 0, .int .u8 0, .int .u8 0, .int .u8 0, .int .u8 0, .int .u8 0, .int .u8 0, .int .u8 0, .int .u8 0, .int .u8 0, .int .u8 0, .int .u8 0, .int .u8 0, .int .u8 0, .int .u8 0, .int .u8 0, .int .u8 0, .int .u8 0, .int .u8 0, .int .u8 0, .int .u8 0, .int .u8 0, .int .u8 0, .int .u8 0] 23)) v1.heap.size 23 #[.int .u8 0, .int .u8 0, .int .u8 0, .int .u8 0, .int .u8 0, .int .u8 0, .int .u8 0, .int .u8 0, .int .u8 0, .int .u8 0, .int .u8 0, .int .u8 0, .int .u8 0, .int .u8 0, .int .u8 0, .int .u8 0, .int .u8 0, .int .u8 0, .int .u8 0, .int .u8 0, .int .u8 0, .int .u8 0, .int .u8 0, .int .u8 0, .int .u8 0, .int .u8 0, .int .u8 0, .int .u8 0, .int .u8 0, .int .u8 0, .int .u8 0, .int .u8 0] := Blk.new _ _ _
          have kc := ka.setRow_same (ks e0)
          have hf3 := ((hf.pass (.cells #[.int .u8 0, .int .u8 0, .int .u8 0, .int .u8 0, .int .u8 0, .int .u8 0, .int .u8 0, .int .u8 0, .int .u8 0, .int .u8 0, .int .u8 0, .int .u8 0, .int .u8 0, .int .u8 0, .int .u8 0, .int .u8 0, .int .u8 0, .int .u8 0, .int .u8 0, .int .u8 0, .int .u8 0, .int .u8 0, .int .u8 0, .int .u8 0, .int .u8 0, .int .u8 0, .int .u8 0, .int .u8 0, .int .u8 0, .int .u8 0, .int .u8 0, .int .u8 0] 23)).setOut (g := v1.heap.size) (by have := hf.size; omega) (by intro p hp; exact Nat.ne_of_lt (hf.rows p hp).lt) (by intro p hp; obtain ⟨_, _, k⟩ := hf.some_ p hp; exact Nat.ne_of_lt k.lt) (ks e0)).more kc
          have hsz : (#[.int .u8 0, .int .u8 0, .int .u8 0, .int .u8 0, .int .u8 0, .int .u8 0, .int .u8 0, .int .u8 0, .int .u8 0, .int .u8 0, .int .u8 0, .int .u8 0, .int .u8 0, .int .u8 0, .int .u8 0, .int .u8 0, .int .u8 0, .int .u8 0, .int .u8 0, .int .u8 0, .int .u8 0, .int .u8 0, .int .u8 0, .int .u8 0, .int .u8 0, .int .u8 0, .int .u8 0, .int .u8 0, .int .u8 0, .int .u8 0, .int .u8 0, .int .u8 0] : Array Value).size = (ks e0).size := by rw [ks_size]; rfl
          have KA := Lib.hid ka
          have HSZ := Lib.hid hsz
          have HF4 := Lib.hid hf3
          clear hb hf kc ka hf3 HF hsz
          go_wp2_with (first | (refine wpList_store_row rfl 23 (.tmp 7) (.tmp 30) rfl (v1.heap.size) (ks e0) rfl rfl 23 _ KA.out (info_ks _) HSZ.out (ks_one _) ?_))
          have HF := HF4
          clear HF4 KA HSZ
          obtain ⟨wy, hwy⟩ : ∃ wy : World, wy = (v1.alloc (.cells #[.int .u8 0, .int .u8 0, .int .u8 0, .int .u8 0, .int .u8 0, .int .u8 0, .int .u8 0, .int .u8 0, .int .u8 0, .int .u8 0, .int .u8 0, .int .u8 0, .int .u8 0, .int .u8 0, .int .u8 0, .int .u8 0, .int .u8 0, .int .u8 0, .int .u8 0, .int .u8 0, .int .u8 0, .int .u8 0, .int .u8 0, .int .u8 0, .int .u8 0, .int .u8 0, .int .u8 0, .int .u8 0, .int .u8 0, .int .u8 0, .int .u8 0, .int .u8 0] 23)).setRow v1.heap.size (ks e0) := ⟨_, rfl⟩
          rw [← hwy] at HF ⊢
          try simp only [Act.put]
          clear hwy
          have hy6 : g6 < wy.heap.size := (HF.out.get (g := g6) (t := 32) (cs := dv q) (by simp)).lt
          have hy2 : w.heap.size + 1 + 1 < wy.heap.size := by obtain ⟨_, _, k⟩ := HF.out.old (g := w.heap.size + 1 + 1) (t := 32) (n := 16) (by simp); exact k.lt
          go_cut [8] (fun s6 wz => ∃ g : Nat, s6 = .pointer (some ⟨g, 0, none⟩) ∧ wy.heap.size ≤ g ∧ Blk wz g 32 (dv x0) ∧ Below wy.heap.size wy wz)
          case first =>
            as_aux_lemma =>
              have hn := (HF.out.now.sub (L' := [(v1.heap.size, 23, ks e0), (g6, 32, dv q), (w.heap.size + 1, 32, dv v), (w.heap.size, 32, dv u)]) (by simp))
              have HN := Lib.hid hn
              clear hn
              refine wp_region_held_drew (S := fun W => Fn wy W [(v1.heap.size, 23, ks e0), (g6, 32, dv q), (w.heap.size + 1, 32, dv v), (w.heap.size, 32, dv u)]) (by kernel_rfl) ?_ (fun hHeld => ?_)
              · exact HN.out.drew
              refine wpAnyH_take (i := 0) (v := .agg (dv q)) rfl (by kernel_rfl) (by kernel_rfl) (by kernel_rfl) (fun _ _ _ h => h) (yields_row (by rfl) 32 (.tmp 6) rfl (g6) rfl 32 (dv q) _ (fun W (h : Fn _ W _) => h.get (by simp)) Tryd.underlying32 rfl (info_dv _)) hHeld ?_
              try simp only [Act.put, List.getElem_toArray, List.getElem_cons_succ, List.getElem_cons_zero, List.setIfInBounds_toArray, List.set_cons_zero, List.set_cons_succ]
              refine wpAnyH_take (i := 1) (v := .agg (dv q)) rfl (by kernel_rfl) (by kernel_rfl) (by kernel_rfl) (fun _ _ _ h => h) (yields_row (by rfl) 32 (.tmp 6) rfl (g6) rfl 32 (dv q) _ (fun W (h : Fn _ W _) => h.get (by simp)) Tryd.underlying32 rfl (info_dv _)) hHeld ?_
              try simp only [Act.put, List.getElem_toArray, List.getElem_cons_succ, List.getElem_cons_zero, List.setIfInBounds_toArray, List.set_cons_zero, List.set_cons_succ]
              refine wpAnyH_take (i := 2) (v := .agg (ks e0)) rfl (by kernel_rfl) (by kernel_rfl) (by kernel_rfl) (fun _ _ _ h => h) (yields_row (by rfl) 23 (.tmp 7) rfl (v1.heap.size) rfl 23 (ks e0) _ (fun W (h : Fn _ W _) => h.get (by simp)) Tryd.underlying23 rfl (info_ks _)) hHeld ?_
              try simp only [Act.put, List.getElem_toArray, List.getElem_cons_succ, List.getElem_cons_zero, List.setIfInBounds_toArray, List.set_cons_zero, List.set_cons_succ]
              refine wpAnyH_ready (rs := [3, 5]) (by kernel_rfl) (by simp) (AllReadyH.cons rfl (fun K hK => ?_) (AllReadyH.cons rfl (fun K hK => ?_) AllReadyH.nil))
              · have h0 := hHeld
                clear hHeld
                try simp only [List.getElem_toArray, List.getElem_cons_succ, List.getElem_cons_zero]
                have H0 := Lib.hid h0
                clear h0
                go_simp
                go_at_call 28
                refine (powerD HP0.out HEL.out _).mono ?_
                rintro e vv ⟨rfl, hb⟩
                have h1 := H0.out.ext hb
                clear hb H0
                go_wp2_with (fail)
                refine hK.out _ _ h1 (fun hHeld => ?_)
                clear hK K h1
                try simp only [Act.put, List.getElem_toArray, List.getElem_cons_succ, List.getElem_cons_zero, List.setIfInBounds_toArray, List.set_cons_zero, List.set_cons_succ]
                refine wpAnyH_ready (rs := [4, 5]) (by kernel_rfl) (by simp) (AllReadyH.cons rfl (fun K hK => ?_) (AllReadyH.cons rfl (fun K hK => ?_) AllReadyH.nil))
                · have h0 := hHeld
                  clear hHeld
                  try simp only [List.getElem_toArray, List.getElem_cons_succ, List.getElem_cons_zero]
                  have H0 := Lib.hid h0
                  clear h0
                  go_simp
                  go_at_call 26
                  refine (mulD HX0.out _).mono ?_
                  rintro e vv ⟨rfl, hb⟩
                  have h1 := H0.out.ext hb
                  clear hb H0
                  go_wp2_with (fail)
                  refine hK.out _ _ h1 (fun hHeld => ?_)
                  clear hK K h1
                  try simp only [Act.put, List.getElem_toArray, List.getElem_cons_succ, List.getElem_cons_zero, List.setIfInBounds_toArray, List.set_cons_zero, List.set_cons_succ]
                  refine wpAnyH_ready (rs := [5]) (by kernel_rfl) (by simp) (AllReadyH.cons rfl (fun K hK => ?_) AllReadyH.nil)
                  have h0 := hHeld
                  clear hHeld
                  try simp only [List.getElem_toArray, List.getElem_cons_succ, List.getElem_cons_zero]
                  obtain ⟨kz, hg⟩ := Fn.fresh h0 32 #[.int .u64 0, .int .u64 0, .int .u64 0, .int .u64 0, .int .u64 0, .int .u64 0, .int .u64 0, .int .u64 0, .int .u64 0, .int .u64 0, .int .u64 0, .int .u64 0, .int .u64 0, .int .u64 0, .int .u64 0, .int .u64 0]
                  have KZ := Lib.hid kz
                  have HG := Lib.hid hg
                  have H0 := Lib.hid h0
                  clear kz hg h0
                  go_simp
                  refine hK.out _ _ (Fn.pass H0.out _) (fun hHeld => ?_)
                  clear hK K H0
                  try simp only [Act.put, List.getElem_toArray, List.getElem_cons_succ, List.getElem_cons_zero, List.setIfInBounds_toArray, List.set_cons_zero, List.set_cons_succ]
                  refine wpAnyH_ready (rs := [6]) (by kernel_rfl) (by simp) (AllReadyH.cons rfl (fun K hK => ?_) AllReadyH.nil)
                  have h0 := hHeld
                  clear hHeld
                  try simp only [List.getElem_toArray, List.getElem_cons_succ, List.getElem_cons_zero]
                  rw [if_pos (by rfl)]
                  refine wp_store_row 32 (.tmp 8) (.tmp 35) rfl _ (dv x0) rfl rfl 32 _ KZ.out (info_dv _) (dv_zsize _) (dv_one _) ?_
                  refine hK.out _ _ (Fn.setFresh h0 HG.out _) (fun hHeld => ?_)
                  have kb := KZ.out.setRow_same (dv x0)
                  clear hK K h0
                  try simp only [Act.put, List.getElem_toArray, List.getElem_cons_succ, List.getElem_cons_zero, List.setIfInBounds_toArray, List.set_cons_zero, List.set_cons_succ]
                  refine wpAnyH_done (by kernel_rfl) ?_ _
                  have HB := Lib.hid hHeld.below
                  have HGG := Lib.hid HG.out
                  clear hHeld
                  go_wp2_with (fail)
                  go_meet
                  exact ⟨_, rfl, HGG.out, kb, HB.out⟩
                · have h0 := hHeld
                  clear hHeld
                  try simp only [List.getElem_toArray, List.getElem_cons_succ, List.getElem_cons_zero]
                  obtain ⟨kz, hg⟩ := Fn.fresh h0 32 #[.int .u64 0, .int .u64 0, .int .u64 0, .int .u64 0, .int .u64 0, .int .u64 0, .int .u64 0, .int .u64 0, .int .u64 0, .int .u64 0, .int .u64 0, .int .u64 0, .int .u64 0, .int .u64 0, .int .u64 0, .int .u64 0]
                  have KZ := Lib.hid kz
                  have HG := Lib.hid hg
                  have H0 := Lib.hid h0
                  clear kz hg h0
                  go_simp
                  refine hK.out _ _ (Fn.pass H0.out _) (fun hHeld => ?_)
                  clear hK K H0
                  try simp only [Act.put, List.getElem_toArray, List.getElem_cons_succ, List.getElem_cons_zero, List.setIfInBounds_toArray, List.set_cons_zero, List.set_cons_succ]
                  refine wpAnyH_ready (rs := [4]) (by kernel_rfl) (by simp) (AllReadyH.cons rfl (fun K hK => ?_) AllReadyH.nil)
                  have h0 := hHeld
                  clear hHeld
                  try simp only [List.getElem_toArray, List.getElem_cons_succ, List.getElem_cons_zero]
                  have H0 := Lib.hid h0
                  clear h0
                  go_simp
                  go_at_call 26
                  refine (mulD HX0.out _).mono ?_
                  rintro e vv ⟨rfl, hb⟩
                  have kz := KZ.out.below hb KZ.out.lt
                  clear KZ
                  have KZ := Lib.hid kz
                  clear kz
                  have h1 := H0.out.ext hb
                  clear hb H0
                  go_wp2_with (fail)
                  refine hK.out _ _ h1 (fun hHeld => ?_)
                  clear hK K h1
                  try simp only [Act.put, List.getElem_toArray, List.getElem_cons_succ, List.getElem_cons_zero, List.setIfInBounds_toArray, List.set_cons_zero, List.set_cons_succ]
                  refine wpAnyH_ready (rs := [6]) (by kernel_rfl) (by simp) (AllReadyH.cons rfl (fun K hK => ?_) AllReadyH.nil)
                  have h0 := hHeld
                  clear hHeld
                  try simp only [List.getElem_toArray, List.getElem_cons_succ, List.getElem_cons_zero]
                  rw [if_pos (by rfl)]
                  refine wp_store_row 32 (.tmp 8) (.tmp 35) rfl _ (dv x0) rfl rfl 32 _ KZ.out (info_dv _) (dv_zsize _) (dv_one _) ?_
                  refine hK.out _ _ (Fn.setFresh h0 HG.out _) (fun hHeld => ?_)
                  have kb := KZ.out.setRow_same (dv x0)
                  clear hK K h0
                  try simp only [Act.put, List.getElem_toArray, List.getElem_cons_succ, List.getElem_cons_zero, List.setIfInBounds_toArray, List.set_cons_zero, List.set_cons_succ]
                  refine wpAnyH_done (by kernel_rfl) ?_ _
                  have HB := Lib.hid hHeld.below
                  have HGG := Lib.hid HG.out
                  clear hHeld
                  go_wp2_with (fail)
                  go_meet
                  exact ⟨_, rfl, HGG.out, kb, HB.out⟩
              · have h0 := hHeld
                clear hHeld
                try simp only [List.getElem_toArray, List.getElem_cons_succ, List.getElem_cons_zero]
                obtain ⟨kz, hg⟩ := Fn.fresh h0 32 #[.int .u64 0, .int .u64 0, .int .u64 0, .int .u64 0, .int .u64 0, .int .u64 0, .int .u64 0, .int .u64 0, .int .u64 0, .int .u64 0, .int .u64 0, .int .u64 0, .int .u64 0, .int .u64 0, .int .u64 0, .int .u64 0]
                have KZ := Lib.hid kz
                have HG := Lib.hid hg
                have H0 := Lib.hid h0
                clear kz hg h0
                go_simp
                refine hK.out _ _ (Fn.pass H0.out _) (fun hHeld => ?_)
                clear hK K H0
                try simp only [Act.put, List.getElem_toArray, List.getElem_cons_succ, List.getElem_cons_zero, List.setIfInBounds_toArray, List.set_cons_zero, List.set_cons_succ]
                refine wpAnyH_ready (rs := [3]) (by kernel_rfl) (by simp) (AllReadyH.cons rfl (fun K hK => ?_) AllReadyH.nil)
                have h0 := hHeld
                clear hHeld
                try simp only [List.getElem_toArray, List.getElem_cons_succ, List.getElem_cons_zero]
                have H0 := Lib.hid h0
                clear h0
                go_simp
                go_at_call 28
                refine (powerD HP0.out HEL.out _).mono ?_
                rintro e vv ⟨rfl, hb⟩
                have kz := KZ.out.below hb KZ.out.lt
                clear KZ
                have KZ := Lib.hid kz
                clear kz
                have h1 := H0.out.ext hb
                clear hb H0
                go_wp2_with (fail)
                refine hK.out _ _ h1 (fun hHeld => ?_)
                clear hK K h1
                try simp only [Act.put, List.getElem_toArray, List.getElem_cons_succ, List.getElem_cons_zero, List.setIfInBounds_toArray, List.set_cons_zero, List.set_cons_succ]
                refine wpAnyH_ready (rs := [4]) (by kernel_rfl) (by simp) (AllReadyH.cons rfl (fun K hK => ?_) AllReadyH.nil)
                have h0 := hHeld
                clear hHeld
                try simp only [List.getElem_toArray, List.getElem_cons_succ, List.getElem_cons_zero]
                have H0 := Lib.hid h0
                clear h0
                go_simp
                go_at_call 26
                refine (mulD HX0.out _).mono ?_
                rintro e vv ⟨rfl, hb⟩
                have kz := KZ.out.below hb KZ.out.lt
                clear KZ
                have KZ := Lib.hid kz
                clear kz
                have h1 := H0.out.ext hb
                clear hb H0
                go_wp2_with (fail)
                refine hK.out _ _ h1 (fun hHeld => ?_)
                clear hK K h1
                try simp only [Act.put, List.getElem_toArray, List.getElem_cons_succ, List.getElem_cons_zero, List.setIfInBounds_toArray, List.set_cons_zero, List.set_cons_succ]
                refine wpAnyH_ready (rs := [6]) (by kernel_rfl) (by simp) (AllReadyH.cons rfl (fun K hK => ?_) AllReadyH.nil)
                have h0 := hHeld
                clear hHeld
                try simp only [List.getElem_toArray, List.getElem_cons_succ, List.getElem_cons_zero]
                rw [if_pos (by rfl)]
                refine wp_store_row 32 (.tmp 8) (.tmp 35) rfl _ (dv x0) rfl rfl 32 _ KZ.out (info_dv _) (dv_zsize _) (dv_one _) ?_
                refine hK.out _ _ (Fn.setFresh h0 HG.out _) (fun hHeld => ?_)
                have kb := KZ.out.setRow_same (dv x0)
                clear hK K h0
                try simp only [Act.put, List.getElem_toArray, List.getElem_cons_succ, List.getElem_cons_zero, List.setIfInBounds_toArray, List.set_cons_zero, List.set_cons_succ]
                refine wpAnyH_done (by kernel_rfl) ?_ _
                have HB := Lib.hid hHeld.below
                have HGG := Lib.hid HG.out
                clear hHeld
                go_wp2_with (fail)
                go_meet
                exact ⟨_, rfl, HGG.out, kb, HB.out⟩
          case rest =>
          obtain ⟨g8, rfl, hg, hk, hb⟩ := hcut
          have hf2 := (HF.out.ext hb).more hk
          have hz8 : wy.heap.size ≤ g8 := hg
          clear HF
          have HF := Lib.hid hf2
          have k8 := hk
          clear hb hk hg hf2 k6
          obtain ⟨xx, hxx⟩ : ∃ x, x = x0 * x0 := ⟨_, rfl⟩
          have HXX := Lib.hid hxx
          clear hxx k8
          have hq2 := fun W => nums_eq (x := xx) (y := q) rfl W
          go_wp2_with (fail)
          rcases Classical.em (xx = q) with h2 | h2
          · rw [decide_eq_true h2] at hq2
            have HY := Lib.hid (show x0 = if x0 * x0 = q then x0 else x0 * II by rw [← HXX.out, if_pos h2])
            clear h2
            refine wp_region_held_drew (S := fun W => Fr w W [(g8, 32, dv x0), (g6, 32, dv q), (w.heap.size + 1, 32, dv v), (w.heap.size, 32, dv u)] [(w.heap.size + 1 + 1, 32, 16)]) (by kernel_rfl) ?_ (fun hHeld => ?_)
            · exact (HF.out.sub (by simp) (by simp)).drew
            refine wpAnyH_take (i := 0) (v := .agg (dv x0)) rfl (by kernel_rfl) (by kernel_rfl) (by kernel_rfl) (fun _ _ _ h => h) (yields_row (by rfl) 32 (.tmp 8) rfl (g8) rfl 32 (dv x0) _ (fun W (h : Fr _ W _ _) => h.get (by simp)) Tryd.underlying32 rfl (info_dv _)) hHeld ?_
            try simp only [Act.put, List.getElem_toArray, List.getElem_cons_succ, List.getElem_cons_zero, List.setIfInBounds_toArray, List.set_cons_zero, List.set_cons_succ]
            refine wpAnyH_take (i := 1) (v := .agg (dv x0)) rfl (by kernel_rfl) (by kernel_rfl) (by kernel_rfl) (fun _ _ _ h => h) (yields_row (by rfl) 32 (.tmp 8) rfl (g8) rfl 32 (dv x0) _ (fun W (h : Fr _ W _ _) => h.get (by simp)) Tryd.underlying32 rfl (info_dv _)) hHeld ?_
            try simp only [Act.put, List.getElem_toArray, List.getElem_cons_succ, List.getElem_cons_zero, List.setIfInBounds_toArray, List.set_cons_zero, List.set_cons_succ]
            refine wpAnyH_take (i := 3) (v := .agg (dv q)) rfl (by kernel_rfl) (by kernel_rfl) (by kernel_rfl) (fun _ _ _ h => h) (yields_row (by rfl) 32 (.tmp 6) rfl (g6) rfl 32 (dv q) _ (fun W (h : Fr _ W _ _) => h.get (by simp)) Tryd.underlying32 rfl (info_dv _)) hHeld ?_
            try simp only [Act.put, List.getElem_toArray, List.getElem_cons_succ, List.getElem_cons_zero, List.setIfInBounds_toArray, List.set_cons_zero, List.set_cons_succ]
            refine wpAnyH_ready (rs := [2]) (by kernel_rfl) (by simp) (AllReadyH.cons rfl (fun K hK => ?_) AllReadyH.nil)
            have h0 := hHeld
            clear hHeld
            try simp only [List.getElem_toArray, List.getElem_cons_succ, List.getElem_cons_zero]
            have H0 := Lib.hid h0
            clear h0
            go_simp
            go_at_call 26
            refine (mulD HXX.out _).mono ?_
            rintro e vv ⟨rfl, hb⟩
            have h1 := H0.out.ext hb
            clear hb H0
            go_wp2_with (fail)
            refine hK.out _ _ h1 (fun hHeld => ?_)
            clear hK K h1
            try simp only [Act.put, List.getElem_toArray, List.getElem_cons_succ, List.getElem_cons_zero, List.setIfInBounds_toArray, List.set_cons_zero, List.set_cons_succ]
            refine wpAnyH_take (i := 4) (v := ?_) rfl (by kernel_rfl) (by kernel_rfl) (by kernel_rfl) (fun _ _ _ h => h) (Or.inl ⟨by rfl, ?_⟩) hHeld ?_
            rotate_left
            · (intro W hSw; (try dsimp only at hSw); (try simp only [List.getElem_toArray, List.getElem_cons_succ, List.getElem_cons_zero]); go_simp; try with_reducible rfl)
            try simp only [Act.put, List.getElem_toArray, List.getElem_cons_succ, List.getElem_cons_zero, List.setIfInBounds_toArray, List.set_cons_zero, List.set_cons_succ]
            have HF2 := Lib.hid hHeld
            clear hHeld HF
            have HF := HF2
            clear HF2
            refine wpAnyH_done (by kernel_rfl) ?_ _
            have hf0 := HF.out
            have k8 := hf0.get (g := g8) (t := 32) (cs := dv x0) (by simp)
            have c8 := k8.cell 0
            rw [dv_at0] at c8
            obtain ⟨d, hd⟩ : ∃ t, t = x0.val % 65536 := ⟨_, rfl⟩
            rw [← hd] at c8
            have hry := rootR_y (e := EE) (i := II) (u := u) HV.out (show q = u * v ^ (PP - 2) by rw [HQ.out, HIV.out]) H0.out (by rw [← HE2D.out, ← HPW.out, ← sm_one, ← HON.out]; exact H1.out) (show x0 = q * q ^ EE by rw [HX0.out, HP0.out, HED.out]) HY.out
            have hr := HR.out
            rw [hry] at hr
            injection hr with hr hb2
            clear hry
            rcases Classical.em (x0.val % 2 = 1) with hp | hp
            · obtain ⟨ny, hny⟩ : ∃ t, t = -x0 := ⟨_, rfl⟩
              rw [evenOf_yes hp, ← hny] at hr
              have HRR := Lib.hid hr
              have HNY := Lib.hid hny
              have hm1 : (d : Int) % 2 = 1 := by omega
              clear hr hny hp hd hf0
              go_wp2_with (first | (refine wpList_load_row rfl 32 (.tmp 8) rfl g8 rfl 32 (dv x0) (0, 0) _ k8 Tryd.underlying32 rfl (info_dv _) ?_))
              refine (negD HNY.out _).mono ?_
              rintro e v2 ⟨rfl, hb3⟩
              have hf3 := HF.out.ext hb3
              have k8b := hf3.get (g := g8) (t := 32) (cs := dv x0) (by simp)
              have f4 := hf3.setRowHead (by simp <;> omega) (by simp <;> omega) (dv ny) (by omega)
              have k8c := f4.get (g := g8) (t := 32) (cs := dv ny) (by simp)
              have HG := Lib.hid f4
              clear hb3 hf3 f4 k8
              obtain ⟨old, ho, k2⟩ := HG.out.old (g := w.heap.size + 1 + 1) (t := 32) (n := 16) (by simp)
              have kS := k2.setRow_same (dv ny)
              have hB := below_setRow HG.out.below (show w.heap.size ≤ w.heap.size + 1 + 1 by omega) (dv ny)
              have KS := Lib.hid kS
              have HB := Lib.hid hB
              have HO := Lib.hid (show old.size = (dv ny).size by rw [ho, dv_size])
              clear kS hB ho
              go_wp2_with (first | (refine wpList_store_row rfl 32 (.tmp 8) (.tmp 51) rfl g8 (dv ny) rfl rfl 32 (dv x0) k8b (info_dv _) (dv_ss _ _) (dv_one _) ?_) | (refine wpList_load_row rfl 32 (.tmp 8) rfl g8 rfl 32 (dv ny) (0, 0) _ k8c Tryd.underlying32 rfl (info_dv _) ?_) | (refine wpList_store_row rfl 32 (.tmp 4) (.tmp 52) rfl (w.heap.size + 1 + 1) (dv ny) rfl rfl 32 old k2 (info_dv _) HO.out (dv_one _) ?_))
              exact bodyPost_ret (results_row_tmp rfl rfl rfl KS.out Tryd.underlying32 rfl (info_dv _)) rfl ⟨by rw [HRR.out, hb2]; rfl, HB.out⟩
            · rw [evenOf_no hp] at hr
              have HRR := Lib.hid hr
              have hm1 : (d : Int) % 2 = 0 := by omega
              have HG := Lib.hid hf0
              clear hr hp hd hf0
              obtain ⟨old, ho, k2⟩ := HG.out.old (g := w.heap.size + 1 + 1) (t := 32) (n := 16) (by simp)
              have kS := k2.setRow_same (dv x0)
              have hB := below_setRow HG.out.below (show w.heap.size ≤ w.heap.size + 1 + 1 by omega) (dv x0)
              have KS := Lib.hid kS
              have HB := Lib.hid hB
              have HO := Lib.hid (show old.size = (dv x0).size by rw [ho, dv_size])
              clear kS hB ho
              go_wp2_with (first | (refine wpList_load_row rfl 32 (.tmp 8) rfl g8 rfl 32 (dv x0) (0, 0) _ k8 Tryd.underlying32 rfl (info_dv _) ?_) | (refine wpList_store_row rfl 32 (.tmp 4) (.tmp 52) rfl (w.heap.size + 1 + 1) (dv x0) rfl rfl 32 old k2 (info_dv _) HO.out (dv_one _) ?_))
              exact bodyPost_ret (results_row_tmp rfl rfl rfl KS.out Tryd.underlying32 rfl (info_dv _)) rfl ⟨by rw [HRR.out, hb2]; rfl, HB.out⟩
          · rw [decide_eq_false h2] at hq2
            obtain ⟨i0, hi0⟩ : ∃ x, x = II := ⟨_, rfl⟩
            obtain ⟨y, hy⟩ : ∃ x, x = x0 * i0 := ⟨_, rfl⟩
            have HY0 := Lib.hid hy
            have HY := Lib.hid (show y = if x0 * x0 = q then x0 else x0 * II by rw [← HXX.out, if_neg h2, hy, hi0])
            have HI0 := Lib.hid hi0
            clear h2 hy hi0
            refine wp_region_held_drew (S := fun W => Fr w W [(g8, 32, dv x0), (g6, 32, dv q), (w.heap.size + 1, 32, dv v), (w.heap.size, 32, dv u)] [(w.heap.size + 1 + 1, 32, 16)]) (by kernel_rfl) ?_ (fun hHeld => ?_)
            · exact (HF.out.sub (by simp) (by simp)).drew
            refine wpAnyH_take (i := 0) (v := .agg (dv x0)) rfl (by kernel_rfl) (by kernel_rfl) (by kernel_rfl) (fun _ _ _ h => h) (yields_row (by rfl) 32 (.tmp 8) rfl (g8) rfl 32 (dv x0) _ (fun W (h : Fr _ W _ _) => h.get (by simp)) Tryd.underlying32 rfl (info_dv _)) hHeld ?_
            try simp only [Act.put, List.getElem_toArray, List.getElem_cons_succ, List.getElem_cons_zero, List.setIfInBounds_toArray, List.set_cons_zero, List.set_cons_succ]
            refine wpAnyH_take (i := 1) (v := .agg (dv x0)) rfl (by kernel_rfl) (by kernel_rfl) (by kernel_rfl) (fun _ _ _ h => h) (yields_row (by rfl) 32 (.tmp 8) rfl (g8) rfl 32 (dv x0) _ (fun W (h : Fr _ W _ _) => h.get (by simp)) Tryd.underlying32 rfl (info_dv _)) hHeld ?_
            try simp only [Act.put, List.getElem_toArray, List.getElem_cons_succ, List.getElem_cons_zero, List.setIfInBounds_toArray, List.set_cons_zero, List.set_cons_succ]
            refine wpAnyH_take (i := 3) (v := .agg (dv q)) rfl (by kernel_rfl) (by kernel_rfl) (by kernel_rfl) (fun _ _ _ h => h) (yields_row (by rfl) 32 (.tmp 6) rfl (g6) rfl 32 (dv q) _ (fun W (h : Fr _ W _ _) => h.get (by simp)) Tryd.underlying32 rfl (info_dv _)) hHeld ?_
            try simp only [Act.put, List.getElem_toArray, List.getElem_cons_succ, List.getElem_cons_zero, List.setIfInBounds_toArray, List.set_cons_zero, List.set_cons_succ]
            refine wpAnyH_ready (rs := [2]) (by kernel_rfl) (by simp) (AllReadyH.cons rfl (fun K hK => ?_) AllReadyH.nil)
            have h0 := hHeld
            clear hHeld
            try simp only [List.getElem_toArray, List.getElem_cons_succ, List.getElem_cons_zero]
            have H0 := Lib.hid h0
            clear h0
            go_simp
            go_at_call 26
            refine (mulD HXX.out _).mono ?_
            rintro e vv ⟨rfl, hb⟩
            have h1 := H0.out.ext hb
            clear hb H0
            go_wp2_with (fail)
            refine hK.out _ _ h1 (fun hHeld => ?_)
            clear hK K h1
            try simp only [Act.put, List.getElem_toArray, List.getElem_cons_succ, List.getElem_cons_zero, List.setIfInBounds_toArray, List.set_cons_zero, List.set_cons_succ]
            refine wpAnyH_take (i := 4) (v := ?_) rfl (by kernel_rfl) (by kernel_rfl) (by kernel_rfl) (fun _ _ _ h => h) (Or.inl ⟨by rfl, ?_⟩) hHeld ?_
            rotate_left
            · (intro W hSw; (try dsimp only at hSw); (try simp only [List.getElem_toArray, List.getElem_cons_succ, List.getElem_cons_zero]); go_simp; try with_reducible rfl)
            try simp only [Act.put, List.getElem_toArray, List.getElem_cons_succ, List.getElem_cons_zero, List.setIfInBounds_toArray, List.set_cons_zero, List.set_cons_succ]
            have HF2 := Lib.hid hHeld
            clear hHeld HF
            have HF := HF2
            clear HF2
            refine wpAnyH_done (by kernel_rfl) ?_ _
            obtain ⟨e4, he4⟩ : ∃ x, x = 2 * EE + 1 := ⟨_, rfl⟩
            obtain ⟨two, htwo⟩ : ∃ x, x = sm 2 := ⟨_, rfl⟩
            have HM2 := Lib.hid (show ∀ W, Calls Tryd.prog 29 #[.int .u64 1, .int .i64 2] W (KeyPost e4 W) from fun W => by have h2 := rminor_any 1 2 W (by omega) (by omega); rw [minor_q, ← he4] at h2; exact h2)
            have HS2 := Lib.hid (show ∀ W, Calls Tryd.prog 30 #[.int .u64 2] W (DPost two W) from fun W => smallD 2 htwo (by omega) W)
            have HE4 := Lib.hid (show e4 < 115792089237316195423570985008687907853269984665640564039457584007913129639936 by rw [he4]; exact quarter_lt)
            have HP2 := Lib.hid (show i0 = two ^ e4 by rw [HI0.out, htwo, he4, ← II_eq]; rfl)
            clear he4 htwo
            go_wp2_with (fail)
            go_cut [] (fun wz => Fr w wz [(g8, 32, dv y), (g6, 32, dv q), (w.heap.size + 1, 32, dv v), (w.heap.size, 32, dv u)] [(w.heap.size + 1 + 1, 32, 16)])
            case first =>
              as_aux_lemma =>
                have KZ := Lib.hid (HF.out.get (g := g8) (t := 32) (cs := dv x0) (by simp)).drew
                refine wp_region_held_drew (S := fun W => Fr w W [(g6, 32, dv q), (w.heap.size + 1, 32, dv v), (w.heap.size, 32, dv u)] [(w.heap.size + 1 + 1, 32, 16)]) (by kernel_rfl) ?_ (fun hHeld => ?_)
                · exact (HF.out.sub (by simp) (by simp)).drew
                refine wpAnyH_ready (rs := [0, 1]) (by kernel_rfl) (by simp) (AllReadyH.cons rfl (fun K hK => ?_) (AllReadyH.cons rfl (fun K hK => ?_) AllReadyH.nil))
                · have h0 := hHeld
                  clear hHeld
                  try simp only [List.getElem_toArray, List.getElem_cons_succ, List.getElem_cons_zero]
                  rw [if_pos (by rfl)]
                  refine wp_load_row 32 (.tmp 8) rfl (g8) rfl 32 (dv x0) (0, 0) _ KZ.out Tryd.underlying32 rfl (info_dv _) ?_
                  refine hK.out _ _ h0 (fun hHeld => ?_)
                  clear hK K h0
                  try simp only [Act.put, List.getElem_toArray, List.getElem_cons_succ, List.getElem_cons_zero, List.setIfInBounds_toArray, List.set_cons_zero, List.set_cons_succ]
                  refine wpAnyH_ready (rs := [1]) (by kernel_rfl) (by simp) (AllReadyH.cons rfl (fun K hK => ?_) AllReadyH.nil)
                  have h0 := hHeld
                  clear hHeld
                  try simp only [List.getElem_toArray, List.getElem_cons_succ, List.getElem_cons_zero]
                  have H0 := Lib.hid h0
                  clear h0
                  go_simp
                  go_at_call 30
                  refine (HS2.out _).mono ?_
                  rintro e vv ⟨rfl, hb⟩
                  have kz := KZ.out.below hb KZ.out.lt
                  clear KZ
                  have KZ := Lib.hid kz
                  clear kz
                  have h1 := H0.out.ext hb
                  clear hb H0
                  go_wp2_with (fail)
                  refine hK.out _ _ h1 (fun hHeld => ?_)
                  clear hK K h1
                  try simp only [Act.put, List.getElem_toArray, List.getElem_cons_succ, List.getElem_cons_zero, List.setIfInBounds_toArray, List.set_cons_zero, List.set_cons_succ]
                  refine wpAnyH_ready (rs := [2]) (by kernel_rfl) (by simp) (AllReadyH.cons rfl (fun K hK => ?_) AllReadyH.nil)
                  have h0 := hHeld
                  clear hHeld
                  try simp only [List.getElem_toArray, List.getElem_cons_succ, List.getElem_cons_zero]
                  have H0 := Lib.hid h0
                  clear h0
                  go_simp
                  go_at_call 29
                  refine (HM2.out _).mono ?_
                  rintro e vv ⟨rfl, hb⟩
                  have kz := KZ.out.below hb KZ.out.lt
                  clear KZ
                  have KZ := Lib.hid kz
                  clear kz
                  have h1 := H0.out.ext hb
                  clear hb H0
                  go_wp2_with (fail)
                  refine hK.out _ _ h1 (fun hHeld => ?_)
                  clear hK K h1
                  try simp only [Act.put, List.getElem_toArray, List.getElem_cons_succ, List.getElem_cons_zero, List.setIfInBounds_toArray, List.set_cons_zero, List.set_cons_succ]
                  refine wpAnyH_ready (rs := [3]) (by kernel_rfl) (by simp) (AllReadyH.cons rfl (fun K hK => ?_) AllReadyH.nil)
                  have h0 := hHeld
                  clear hHeld
                  try simp only [List.getElem_toArray, List.getElem_cons_succ, List.getElem_cons_zero]
                  have H0 := Lib.hid h0
                  clear h0
                  go_simp
                  go_at_call 28
                  refine (powerD HP2.out HE4.out _).mono ?_
                  rintro e vv ⟨rfl, hb⟩
                  have kz := KZ.out.below hb KZ.out.lt
                  clear KZ
                  have KZ := Lib.hid kz
                  clear kz
                  have h1 := H0.out.ext hb
                  clear hb H0
                  go_wp2_with (fail)
                  refine hK.out _ _ h1 (fun hHeld => ?_)
                  clear hK K h1
                  try simp only [Act.put, List.getElem_toArray, List.getElem_cons_succ, List.getElem_cons_zero, List.setIfInBounds_toArray, List.set_cons_zero, List.set_cons_succ]
                  refine wpAnyH_ready (rs := [4]) (by kernel_rfl) (by simp) (AllReadyH.cons rfl (fun K hK => ?_) AllReadyH.nil)
                  have h0 := hHeld
                  clear hHeld
                  try simp only [List.getElem_toArray, List.getElem_cons_succ, List.getElem_cons_zero]
                  have H0 := Lib.hid h0
                  clear h0
                  go_simp
                  go_at_call 26
                  refine (mulD HY0.out _).mono ?_
                  rintro e vv ⟨rfl, hb⟩
                  have kz := KZ.out.below hb KZ.out.lt
                  clear KZ
                  have KZ := Lib.hid kz
                  clear kz
                  have h1 := H0.out.ext hb
                  clear hb H0
                  go_wp2_with (fail)
                  refine hK.out _ _ h1 (fun hHeld => ?_)
                  clear hK K h1
                  try simp only [Act.put, List.getElem_toArray, List.getElem_cons_succ, List.getElem_cons_zero, List.setIfInBounds_toArray, List.set_cons_zero, List.set_cons_succ]
                  refine wpAnyH_ready (rs := [5]) (by kernel_rfl) (by simp) (AllReadyH.cons rfl (fun K hK => ?_) AllReadyH.nil)
                  have h0 := hHeld
                  clear hHeld
                  try simp only [List.getElem_toArray, List.getElem_cons_succ, List.getElem_cons_zero]
                  rw [if_pos (by rfl)]
                  refine wp_store_row 32 (.tmp 8) (.tmp 45) rfl (g8) (dv y) rfl rfl 32 _ KZ.out (info_dv _) (dv_ss _ _) (dv_one _) ?_
                  refine hK.out _ _ (Fr.setOut h0 (g := g8) (by omega) (by simp <;> omega) (by simp <;> omega) _) (fun hHeld => ?_)
                  have kb := KZ.out.setRow_same (dv y)
                  clear hK K h0
                  try simp only [Act.put, List.getElem_toArray, List.getElem_cons_succ, List.getElem_cons_zero, List.setIfInBounds_toArray, List.set_cons_zero, List.set_cons_succ]
                  have HE := Lib.hid (hHeld.more kb)
                  clear hHeld kb
                  refine wpAnyH_done (by kernel_rfl) ?_ _
                  go_wp2_with (fail)
                  go_meet
                  exact HE.out
                · have h0 := hHeld
                  clear hHeld
                  try simp only [List.getElem_toArray, List.getElem_cons_succ, List.getElem_cons_zero]
                  have H0 := Lib.hid h0
                  clear h0
                  go_simp
                  go_at_call 30
                  refine (HS2.out _).mono ?_
                  rintro e vv ⟨rfl, hb⟩
                  have kz := KZ.out.below hb KZ.out.lt
                  clear KZ
                  have KZ := Lib.hid kz
                  clear kz
                  have h1 := H0.out.ext hb
                  clear hb H0
                  go_wp2_with (fail)
                  refine hK.out _ _ h1 (fun hHeld => ?_)
                  clear hK K h1
                  try simp only [Act.put, List.getElem_toArray, List.getElem_cons_succ, List.getElem_cons_zero, List.setIfInBounds_toArray, List.set_cons_zero, List.set_cons_succ]
                  refine wpAnyH_ready (rs := [0, 2]) (by kernel_rfl) (by simp) (AllReadyH.cons rfl (fun K hK => ?_) (AllReadyH.cons rfl (fun K hK => ?_) AllReadyH.nil))
                  · have h0 := hHeld
                    clear hHeld
                    try simp only [List.getElem_toArray, List.getElem_cons_succ, List.getElem_cons_zero]
                    rw [if_pos (by rfl)]
                    refine wp_load_row 32 (.tmp 8) rfl (g8) rfl 32 (dv x0) (0, 0) _ KZ.out Tryd.underlying32 rfl (info_dv _) ?_
                    refine hK.out _ _ h0 (fun hHeld => ?_)
                    clear hK K h0
                    try simp only [Act.put, List.getElem_toArray, List.getElem_cons_succ, List.getElem_cons_zero, List.setIfInBounds_toArray, List.set_cons_zero, List.set_cons_succ]
                    refine wpAnyH_ready (rs := [2]) (by kernel_rfl) (by simp) (AllReadyH.cons rfl (fun K hK => ?_) AllReadyH.nil)
                    have h0 := hHeld
                    clear hHeld
                    try simp only [List.getElem_toArray, List.getElem_cons_succ, List.getElem_cons_zero]
                    have H0 := Lib.hid h0
                    clear h0
                    go_simp
                    go_at_call 29
                    refine (HM2.out _).mono ?_
                    rintro e vv ⟨rfl, hb⟩
                    have kz := KZ.out.below hb KZ.out.lt
                    clear KZ
                    have KZ := Lib.hid kz
                    clear kz
                    have h1 := H0.out.ext hb
                    clear hb H0
                    go_wp2_with (fail)
                    refine hK.out _ _ h1 (fun hHeld => ?_)
                    clear hK K h1
                    try simp only [Act.put, List.getElem_toArray, List.getElem_cons_succ, List.getElem_cons_zero, List.setIfInBounds_toArray, List.set_cons_zero, List.set_cons_succ]
                    refine wpAnyH_ready (rs := [3]) (by kernel_rfl) (by simp) (AllReadyH.cons rfl (fun K hK => ?_) AllReadyH.nil)
                    have h0 := hHeld
                    clear hHeld
                    try simp only [List.getElem_toArray, List.getElem_cons_succ, List.getElem_cons_zero]
                    have H0 := Lib.hid h0
                    clear h0
                    go_simp
                    go_at_call 28
                    refine (powerD HP2.out HE4.out _).mono ?_
                    rintro e vv ⟨rfl, hb⟩
                    have kz := KZ.out.below hb KZ.out.lt
                    clear KZ
                    have KZ := Lib.hid kz
                    clear kz
                    have h1 := H0.out.ext hb
                    clear hb H0
                    go_wp2_with (fail)
                    refine hK.out _ _ h1 (fun hHeld => ?_)
                    clear hK K h1
                    try simp only [Act.put, List.getElem_toArray, List.getElem_cons_succ, List.getElem_cons_zero, List.setIfInBounds_toArray, List.set_cons_zero, List.set_cons_succ]
                    refine wpAnyH_ready (rs := [4]) (by kernel_rfl) (by simp) (AllReadyH.cons rfl (fun K hK => ?_) AllReadyH.nil)
                    have h0 := hHeld
                    clear hHeld
                    try simp only [List.getElem_toArray, List.getElem_cons_succ, List.getElem_cons_zero]
                    have H0 := Lib.hid h0
                    clear h0
                    go_simp
                    go_at_call 26
                    refine (mulD HY0.out _).mono ?_
                    rintro e vv ⟨rfl, hb⟩
                    have kz := KZ.out.below hb KZ.out.lt
                    clear KZ
                    have KZ := Lib.hid kz
                    clear kz
                    have h1 := H0.out.ext hb
                    clear hb H0
                    go_wp2_with (fail)
                    refine hK.out _ _ h1 (fun hHeld => ?_)
                    clear hK K h1
                    try simp only [Act.put, List.getElem_toArray, List.getElem_cons_succ, List.getElem_cons_zero, List.setIfInBounds_toArray, List.set_cons_zero, List.set_cons_succ]
                    refine wpAnyH_ready (rs := [5]) (by kernel_rfl) (by simp) (AllReadyH.cons rfl (fun K hK => ?_) AllReadyH.nil)
                    have h0 := hHeld
                    clear hHeld
                    try simp only [List.getElem_toArray, List.getElem_cons_succ, List.getElem_cons_zero]
                    rw [if_pos (by rfl)]
                    refine wp_store_row 32 (.tmp 8) (.tmp 45) rfl (g8) (dv y) rfl rfl 32 _ KZ.out (info_dv _) (dv_ss _ _) (dv_one _) ?_
                    refine hK.out _ _ (Fr.setOut h0 (g := g8) (by omega) (by simp <;> omega) (by simp <;> omega) _) (fun hHeld => ?_)
                    have kb := KZ.out.setRow_same (dv y)
                    clear hK K h0
                    try simp only [Act.put, List.getElem_toArray, List.getElem_cons_succ, List.getElem_cons_zero, List.setIfInBounds_toArray, List.set_cons_zero, List.set_cons_succ]
                    have HE := Lib.hid (hHeld.more kb)
                    clear hHeld kb
                    refine wpAnyH_done (by kernel_rfl) ?_ _
                    go_wp2_with (fail)
                    go_meet
                    exact HE.out
                  · have h0 := hHeld
                    clear hHeld
                    try simp only [List.getElem_toArray, List.getElem_cons_succ, List.getElem_cons_zero]
                    have H0 := Lib.hid h0
                    clear h0
                    go_simp
                    go_at_call 29
                    refine (HM2.out _).mono ?_
                    rintro e vv ⟨rfl, hb⟩
                    have kz := KZ.out.below hb KZ.out.lt
                    clear KZ
                    have KZ := Lib.hid kz
                    clear kz
                    have h1 := H0.out.ext hb
                    clear hb H0
                    go_wp2_with (fail)
                    refine hK.out _ _ h1 (fun hHeld => ?_)
                    clear hK K h1
                    try simp only [Act.put, List.getElem_toArray, List.getElem_cons_succ, List.getElem_cons_zero, List.setIfInBounds_toArray, List.set_cons_zero, List.set_cons_succ]
                    refine wpAnyH_ready (rs := [0, 3]) (by kernel_rfl) (by simp) (AllReadyH.cons rfl (fun K hK => ?_) (AllReadyH.cons rfl (fun K hK => ?_) AllReadyH.nil))
                    · have h0 := hHeld
                      clear hHeld
                      try simp only [List.getElem_toArray, List.getElem_cons_succ, List.getElem_cons_zero]
                      rw [if_pos (by rfl)]
                      refine wp_load_row 32 (.tmp 8) rfl (g8) rfl 32 (dv x0) (0, 0) _ KZ.out Tryd.underlying32 rfl (info_dv _) ?_
                      refine hK.out _ _ h0 (fun hHeld => ?_)
                      clear hK K h0
                      try simp only [Act.put, List.getElem_toArray, List.getElem_cons_succ, List.getElem_cons_zero, List.setIfInBounds_toArray, List.set_cons_zero, List.set_cons_succ]
                      refine wpAnyH_ready (rs := [3]) (by kernel_rfl) (by simp) (AllReadyH.cons rfl (fun K hK => ?_) AllReadyH.nil)
                      have h0 := hHeld
                      clear hHeld
                      try simp only [List.getElem_toArray, List.getElem_cons_succ, List.getElem_cons_zero]
                      have H0 := Lib.hid h0
                      clear h0
                      go_simp
                      go_at_call 28
                      refine (powerD HP2.out HE4.out _).mono ?_
                      rintro e vv ⟨rfl, hb⟩
                      have kz := KZ.out.below hb KZ.out.lt
                      clear KZ
                      have KZ := Lib.hid kz
                      clear kz
                      have h1 := H0.out.ext hb
                      clear hb H0
                      go_wp2_with (fail)
                      refine hK.out _ _ h1 (fun hHeld => ?_)
                      clear hK K h1
                      try simp only [Act.put, List.getElem_toArray, List.getElem_cons_succ, List.getElem_cons_zero, List.setIfInBounds_toArray, List.set_cons_zero, List.set_cons_succ]
                      refine wpAnyH_ready (rs := [4]) (by kernel_rfl) (by simp) (AllReadyH.cons rfl (fun K hK => ?_) AllReadyH.nil)
                      have h0 := hHeld
                      clear hHeld
                      try simp only [List.getElem_toArray, List.getElem_cons_succ, List.getElem_cons_zero]
                      have H0 := Lib.hid h0
                      clear h0
                      go_simp
                      go_at_call 26
                      refine (mulD HY0.out _).mono ?_
                      rintro e vv ⟨rfl, hb⟩
                      have kz := KZ.out.below hb KZ.out.lt
                      clear KZ
                      have KZ := Lib.hid kz
                      clear kz
                      have h1 := H0.out.ext hb
                      clear hb H0
                      go_wp2_with (fail)
                      refine hK.out _ _ h1 (fun hHeld => ?_)
                      clear hK K h1
                      try simp only [Act.put, List.getElem_toArray, List.getElem_cons_succ, List.getElem_cons_zero, List.setIfInBounds_toArray, List.set_cons_zero, List.set_cons_succ]
                      refine wpAnyH_ready (rs := [5]) (by kernel_rfl) (by simp) (AllReadyH.cons rfl (fun K hK => ?_) AllReadyH.nil)
                      have h0 := hHeld
                      clear hHeld
                      try simp only [List.getElem_toArray, List.getElem_cons_succ, List.getElem_cons_zero]
                      rw [if_pos (by rfl)]
                      refine wp_store_row 32 (.tmp 8) (.tmp 45) rfl (g8) (dv y) rfl rfl 32 _ KZ.out (info_dv _) (dv_ss _ _) (dv_one _) ?_
                      refine hK.out _ _ (Fr.setOut h0 (g := g8) (by omega) (by simp <;> omega) (by simp <;> omega) _) (fun hHeld => ?_)
                      have kb := KZ.out.setRow_same (dv y)
                      clear hK K h0
                      try simp only [Act.put, List.getElem_toArray, List.getElem_cons_succ, List.getElem_cons_zero, List.setIfInBounds_toArray, List.set_cons_zero, List.set_cons_succ]
                      have HE := Lib.hid (hHeld.more kb)
                      clear hHeld kb
                      refine wpAnyH_done (by kernel_rfl) ?_ _
                      go_wp2_with (fail)
                      go_meet
                      exact HE.out
                    · have h0 := hHeld
                      clear hHeld
                      try simp only [List.getElem_toArray, List.getElem_cons_succ, List.getElem_cons_zero]
                      have H0 := Lib.hid h0
                      clear h0
                      go_simp
                      go_at_call 28
                      refine (powerD HP2.out HE4.out _).mono ?_
                      rintro e vv ⟨rfl, hb⟩
                      have kz := KZ.out.below hb KZ.out.lt
                      clear KZ
                      have KZ := Lib.hid kz
                      clear kz
                      have h1 := H0.out.ext hb
                      clear hb H0
                      go_wp2_with (fail)
                      refine hK.out _ _ h1 (fun hHeld => ?_)
                      clear hK K h1
                      try simp only [Act.put, List.getElem_toArray, List.getElem_cons_succ, List.getElem_cons_zero, List.setIfInBounds_toArray, List.set_cons_zero, List.set_cons_succ]
                      refine wpAnyH_ready (rs := [0]) (by kernel_rfl) (by simp) (AllReadyH.cons rfl (fun K hK => ?_) AllReadyH.nil)
                      have h0 := hHeld
                      clear hHeld
                      try simp only [List.getElem_toArray, List.getElem_cons_succ, List.getElem_cons_zero]
                      rw [if_pos (by rfl)]
                      refine wp_load_row 32 (.tmp 8) rfl (g8) rfl 32 (dv x0) (0, 0) _ KZ.out Tryd.underlying32 rfl (info_dv _) ?_
                      refine hK.out _ _ h0 (fun hHeld => ?_)
                      clear hK K h0
                      try simp only [Act.put, List.getElem_toArray, List.getElem_cons_succ, List.getElem_cons_zero, List.setIfInBounds_toArray, List.set_cons_zero, List.set_cons_succ]
                      refine wpAnyH_ready (rs := [4]) (by kernel_rfl) (by simp) (AllReadyH.cons rfl (fun K hK => ?_) AllReadyH.nil)
                      have h0 := hHeld
                      clear hHeld
                      try simp only [List.getElem_toArray, List.getElem_cons_succ, List.getElem_cons_zero]
                      have H0 := Lib.hid h0
                      clear h0
                      go_simp
                      go_at_call 26
                      refine (mulD HY0.out _).mono ?_
                      rintro e vv ⟨rfl, hb⟩
                      have kz := KZ.out.below hb KZ.out.lt
                      clear KZ
                      have KZ := Lib.hid kz
                      clear kz
                      have h1 := H0.out.ext hb
                      clear hb H0
                      go_wp2_with (fail)
                      refine hK.out _ _ h1 (fun hHeld => ?_)
                      clear hK K h1
                      try simp only [Act.put, List.getElem_toArray, List.getElem_cons_succ, List.getElem_cons_zero, List.setIfInBounds_toArray, List.set_cons_zero, List.set_cons_succ]
                      refine wpAnyH_ready (rs := [5]) (by kernel_rfl) (by simp) (AllReadyH.cons rfl (fun K hK => ?_) AllReadyH.nil)
                      have h0 := hHeld
                      clear hHeld
                      try simp only [List.getElem_toArray, List.getElem_cons_succ, List.getElem_cons_zero]
                      rw [if_pos (by rfl)]
                      refine wp_store_row 32 (.tmp 8) (.tmp 45) rfl (g8) (dv y) rfl rfl 32 _ KZ.out (info_dv _) (dv_ss _ _) (dv_one _) ?_
                      refine hK.out _ _ (Fr.setOut h0 (g := g8) (by omega) (by simp <;> omega) (by simp <;> omega) _) (fun hHeld => ?_)
                      have kb := KZ.out.setRow_same (dv y)
                      clear hK K h0
                      try simp only [Act.put, List.getElem_toArray, List.getElem_cons_succ, List.getElem_cons_zero, List.setIfInBounds_toArray, List.set_cons_zero, List.set_cons_succ]
                      have HE := Lib.hid (hHeld.more kb)
                      clear hHeld kb
                      refine wpAnyH_done (by kernel_rfl) ?_ _
                      go_wp2_with (fail)
                      go_meet
                      exact HE.out
            case rest =>
              clear HF
              have HF := Lib.hid hcut
              clear hcut
              have hf0 := HF.out
              have k8 := hf0.get (g := g8) (t := 32) (cs := dv y) (by simp)
              have c8 := k8.cell 0
              rw [dv_at0] at c8
              obtain ⟨d, hd⟩ : ∃ t, t = y.val % 65536 := ⟨_, rfl⟩
              rw [← hd] at c8
              have hry := rootR_y (e := EE) (i := II) (u := u) HV.out (show q = u * v ^ (PP - 2) by rw [HQ.out, HIV.out]) H0.out (by rw [← HE2D.out, ← HPW.out, ← sm_one, ← HON.out]; exact H1.out) (show x0 = q * q ^ EE by rw [HX0.out, HP0.out, HED.out]) HY.out
              have hr := HR.out
              rw [hry] at hr
              injection hr with hr hb2
              clear hry
              rcases Classical.em (y.val % 2 = 1) with hp | hp
              · obtain ⟨ny, hny⟩ : ∃ t, t = -y := ⟨_, rfl⟩
                rw [evenOf_yes hp, ← hny] at hr
                have HRR := Lib.hid hr
                have HNY := Lib.hid hny
                have hm1 : (d : Int) % 2 = 1 := by omega
                clear hr hny hp hd hf0
                go_wp2_with (first | (refine wpList_load_row rfl 32 (.tmp 8) rfl g8 rfl 32 (dv y) (0, 0) _ k8 Tryd.underlying32 rfl (info_dv _) ?_))
                refine (negD HNY.out _).mono ?_
                rintro e v2 ⟨rfl, hb3⟩
                have hf3 := HF.out.ext hb3
                have k8b := hf3.get (g := g8) (t := 32) (cs := dv y) (by simp)
                have f4 := hf3.setRowHead (by simp <;> omega) (by simp <;> omega) (dv ny) (by omega)
                have k8c := f4.get (g := g8) (t := 32) (cs := dv ny) (by simp)
                have HG := Lib.hid f4
                clear hb3 hf3 f4 k8
                obtain ⟨old, ho, k2⟩ := HG.out.old (g := w.heap.size + 1 + 1) (t := 32) (n := 16) (by simp)
                have kS := k2.setRow_same (dv ny)
                have hB := below_setRow HG.out.below (show w.heap.size ≤ w.heap.size + 1 + 1 by omega) (dv ny)
                have KS := Lib.hid kS
                have HB := Lib.hid hB
                have HO := Lib.hid (show old.size = (dv ny).size by rw [ho, dv_size])
                clear kS hB ho
                go_wp2_with (first | (refine wpList_store_row rfl 32 (.tmp 8) (.tmp 51) rfl g8 (dv ny) rfl rfl 32 (dv y) k8b (info_dv _) (dv_ss _ _) (dv_one _) ?_) | (refine wpList_load_row rfl 32 (.tmp 8) rfl g8 rfl 32 (dv ny) (0, 0) _ k8c Tryd.underlying32 rfl (info_dv _) ?_) | (refine wpList_store_row rfl 32 (.tmp 4) (.tmp 52) rfl (w.heap.size + 1 + 1) (dv ny) rfl rfl 32 old k2 (info_dv _) HO.out (dv_one _) ?_))
                exact bodyPost_ret (results_row_tmp rfl rfl rfl KS.out Tryd.underlying32 rfl (info_dv _)) rfl ⟨by rw [HRR.out, hb2]; rfl, HB.out⟩
              · rw [evenOf_no hp] at hr
                have HRR := Lib.hid hr
                have hm1 : (d : Int) % 2 = 0 := by omega
                have HG := Lib.hid hf0
                clear hr hp hd hf0
                obtain ⟨old, ho, k2⟩ := HG.out.old (g := w.heap.size + 1 + 1) (t := 32) (n := 16) (by simp)
                have kS := k2.setRow_same (dv y)
                have hB := below_setRow HG.out.below (show w.heap.size ≤ w.heap.size + 1 + 1 by omega) (dv y)
                have KS := Lib.hid kS
                have HB := Lib.hid hB
                have HO := Lib.hid (show old.size = (dv y).size by rw [ho, dv_size])
                clear kS hB ho
                go_wp2_with (first | (refine wpList_load_row rfl 32 (.tmp 8) rfl g8 rfl 32 (dv y) (0, 0) _ k8 Tryd.underlying32 rfl (info_dv _) ?_) | (refine wpList_store_row rfl 32 (.tmp 4) (.tmp 52) rfl (w.heap.size + 1 + 1) (dv y) rfl rfl 32 old k2 (info_dv _) HO.out (dv_one _) ?_))
                exact bodyPost_ret (results_row_tmp rfl rfl rfl KS.out Tryd.underlying32 rfl (info_dv _)) rfl ⟨by rw [HRR.out, hb2]; rfl, HB.out⟩
        · rw [decide_eq_false h1] at hq1
          have hr := HR.out
          rw [rootR_n HV.out (by rw [HQ.out, HIV.out]) H0.out (by rw [← HE2D.out, ← HPW.out, ← sm_one, ← HON.out]; exact h1)] at hr
          injection hr with hr hb
          have HRR := Lib.hid hr
          clear hr h1
          refine wp_region_held_drew (S := fun W => Fr w W [(g6, 32, dv q), (w.heap.size + 1, 32, dv v), (w.heap.size, 32, dv u)] [(w.heap.size + 1 + 1, 32, 16)]) (by kernel_rfl) ?_ (fun hHeld => ?_)
          · exact HF.out.drew
          refine wpAnyH_take (i := 0) (v := .agg (dv q)) rfl (by kernel_rfl) (by kernel_rfl) (by kernel_rfl) (fun _ _ _ h => h) (yields_row (by rfl) 32 (.tmp 6) rfl (g6) rfl 32 (dv q) _ (fun W (h : Fr _ W _ _) => h.get (by simp)) Tryd.underlying32 rfl (info_dv _)) hHeld ?_
          try simp only [Act.put, List.getElem_toArray, List.getElem_cons_succ, List.getElem_cons_zero, List.setIfInBounds_toArray, List.set_cons_zero, List.set_cons_succ]
          refine wpAnyH_ready (rs := [1]) (by kernel_rfl) (by simp) (AllReadyH.cons rfl (fun K hK => ?_) AllReadyH.nil)
          have h0 := hHeld
          clear hHeld
          try simp only [List.getElem_toArray, List.getElem_cons_succ, List.getElem_cons_zero]
          have H0 := Lib.hid h0
          clear h0
          go_simp
          go_at_call 29
          refine (HM1.out _).mono ?_
          rintro e vv ⟨rfl, hb⟩
          have h1 := H0.out.ext hb
          clear hb H0
          go_wp2_with (fail)
          refine hK.out _ _ h1 (fun hHeld => ?_)
          clear hK K h1
          try simp only [Act.put, List.getElem_toArray, List.getElem_cons_succ, List.getElem_cons_zero, List.setIfInBounds_toArray, List.set_cons_zero, List.set_cons_succ]
          refine wpAnyH_ready (rs := [2]) (by kernel_rfl) (by simp) (AllReadyH.cons rfl (fun K hK => ?_) AllReadyH.nil)
          have h0 := hHeld
          clear hHeld
          try simp only [List.getElem_toArray, List.getElem_cons_succ, List.getElem_cons_zero]
          have H0 := Lib.hid h0
          clear h0
          go_simp
          go_at_call 28
          refine (powerD HPW.out HE2.out _).mono ?_
          rintro e vv ⟨rfl, hb⟩
          have h1 := H0.out.ext hb
          clear hb H0
          go_wp2_with (fail)
          refine hK.out _ _ h1 (fun hHeld => ?_)
          clear hK K h1
          try simp only [Act.put, List.getElem_toArray, List.getElem_cons_succ, List.getElem_cons_zero, List.setIfInBounds_toArray, List.set_cons_zero, List.set_cons_succ]
          refine wpAnyH_ready (rs := [3]) (by kernel_rfl) (by simp) (AllReadyH.cons rfl (fun K hK => ?_) AllReadyH.nil)
          have h0 := hHeld
          clear hHeld
          try simp only [List.getElem_toArray, List.getElem_cons_succ, List.getElem_cons_zero]
          have H0 := Lib.hid h0
          clear h0
          go_simp
          go_at_call 30
          refine (HS1.out _).mono ?_
          rintro e vv ⟨rfl, hb⟩
          have h1 := H0.out.ext hb
          clear hb H0
          go_wp2_with (fail)
          refine hK.out _ _ h1 (fun hHeld => ?_)
          clear hK K h1
          try simp only [Act.put, List.getElem_toArray, List.getElem_cons_succ, List.getElem_cons_zero, List.setIfInBounds_toArray, List.set_cons_zero, List.set_cons_succ]
          refine wpAnyH_take (i := 4) (v := ?_) rfl (by kernel_rfl) (by kernel_rfl) (by kernel_rfl) (fun _ _ _ h => h) (Or.inl ⟨by rfl, ?_⟩) hHeld ?_
          rotate_left
          · (intro W hSw; (try dsimp only at hSw); (try simp only [List.getElem_toArray, List.getElem_cons_succ, List.getElem_cons_zero]); go_simp; try with_reducible rfl)
          try simp only [Act.put, List.getElem_toArray, List.getElem_cons_succ, List.getElem_cons_zero, List.setIfInBounds_toArray, List.set_cons_zero, List.set_cons_succ]
          have HF2 := Lib.hid hHeld
          clear hHeld HF
          have HF := HF2
          clear HF2
          refine wpAnyH_done (by kernel_rfl) ?_ _
          obtain ⟨old, ho, k2⟩ := HF.out.old (g := w.heap.size + 1 + 1) (t := 32) (n := 16) (by simp)
          have kS := k2.setRow_same #[.int .u64 0, .int .u64 0, .int .u64 0, .int .u64 0, .int .u64 0, .int .u64 0, .int .u64 0, .int .u64 0, .int .u64 0, .int .u64 0, .int .u64 0, .int .u64 0, .int .u64 0, .int .u64 0, .int .u64 0, .int .u64 0]
          have hB := below_setRow HF.out.below (show w.heap.size ≤ w.heap.size + 1 + 1 by omega) #[.int .u64 0, .int .u64 0, .int .u64 0, .int .u64 0, .int .u64 0, .int .u64 0, .int .u64 0, .int .u64 0, .int .u64 0, .int .u64 0, .int .u64 0, .int .u64 0, .int .u64 0, .int .u64 0, .int .u64 0, .int .u64 0]
          have KS := Lib.hid kS
          have HB := Lib.hid hB
          have HO := Lib.hid (show old.size = (#[.int .u64 0, .int .u64 0, .int .u64 0, .int .u64 0, .int .u64 0, .int .u64 0, .int .u64 0, .int .u64 0, .int .u64 0, .int .u64 0, .int .u64 0, .int .u64 0, .int .u64 0, .int .u64 0, .int .u64 0, .int .u64 0] : Array Value).size by rw [ho]; rfl)
          have HI := Lib.hid (show (Tryd.prog.info? 32).map (·.size) = some (#[.int .u64 0, .int .u64 0, .int .u64 0, .int .u64 0, .int .u64 0, .int .u64 0, .int .u64 0, .int .u64 0, .int .u64 0, .int .u64 0, .int .u64 0, .int .u64 0, .int .u64 0, .int .u64 0, .int .u64 0, .int .u64 0] : Array Value).size by rw [← dv_z]; exact info_dv 0)
          have HN1 := Lib.hid (show (#[.int .u64 0, .int .u64 0, .int .u64 0, .int .u64 0, .int .u64 0, .int .u64 0, .int .u64 0, .int .u64 0, .int .u64 0, .int .u64 0, .int .u64 0, .int .u64 0, .int .u64 0, .int .u64 0, .int .u64 0, .int .u64 0] : Array Value).all (·.oneCell') = true by rw [← dv_z]; exact dv_one 0)
          clear kS hB ho
          go_wp2_with (first | (refine wpList_store_row rfl 32 (.tmp 4) (.tmp 29) rfl (w.heap.size + 1 + 1) #[.int .u64 0, .int .u64 0, .int .u64 0, .int .u64 0, .int .u64 0, .int .u64 0, .int .u64 0, .int .u64 0, .int .u64 0, .int .u64 0, .int .u64 0, .int .u64 0, .int .u64 0, .int .u64 0, .int .u64 0, .int .u64 0] rfl rfl 32 old k2 HI.out HO.out HN1.out ?_))
          exact bodyPost_ret (results_row_tmp rfl rfl rfl KS.out Tryd.underlying32 rfl HI.out) rfl ⟨by rw [HRR.out, hb, dv_z]; rfl, HB.out⟩
end Go.Proofs.YtnfckoamjeafhaaDoor
