/- Words, contracts and walks (Ln, Lb, Lmu, Ly, Yl), laid together. No condition. -/
import Derived.Test.YtcijaoihcckofaaDoorZlb
import Derived.Deep.DeepCutAuto
import Derived.Deep.CutBlock
namespace Go.Proofs.YtcijaoihcckofaaDoor
set_option linter.unusedVariables false
set_option linter.unusedSimpArgs false
set_option maxRecDepth 100000
open Go.RowKit
theorem addR {x y z : Fin PP} (h : z = x + y) (w : World) (hp : PG w) : Calls Tryd.prog 35 #[.agg (ev x), .agg (ev y)] w (EPost z w) := by rw [h]; exact addF x y w hp
theorem subR {x y z : Fin PP} (h : z = x - y) (w : World) (hp : PG w) : Calls Tryd.prog 37 #[.agg (ev x), .agg (ev y)] w (EPost z w) := by rw [h]; exact subF x y w hp
theorem mulR {x y z : Fin PP} (h : z = x * y) (w : World) (hp : PG w) : Calls Tryd.prog 36 #[.agg (ev x), .agg (ev y)] w (EPost z w) := by rw [h]; exact mulF x y w hp
theorem squareR {x z : Fin PP} (h : z = x * x) (w : World) (hp : PG w) : Calls Tryd.prog 75 #[.agg (ev x)] w (EPost z w) := by rw [h]; exact squareF x w hp
theorem smallR {z : Fin PP} (n : Nat) (h : z = sm n) (hn : n < 18446744073709551616) (w : World) : Calls Tryd.prog 34 #[.int .u64 (n : Int)] w (EPost z w) := by rw [h]; exact smallF n w hn
theorem yields_build {P : Program} {ops : Array Oper} {S : World → Prop} {o : Oper} {a : Act} (hw : Region.wanted o (yielded ops a.tmps) = true) (t : TypeId) (parts : Array (Nat × Operand)) (ho : o.op = .build t parts) (l : List (Nat × Value)) (hl : (parts.map fun (i, x) => (i, a.eval x)).toList = l) (cells : Array Value)
    (hc : P.built t l = some cells) : YieldsIf P ops S o (.agg cells) a :=
  Or.inl ⟨hw, fun w hS => by
    unfold execOp
    subst hl
    simp only [ho, Sem.run_bind, run_build w t _ cells hc, Result.andThen_ok]
    rfl⟩
theorem built_sv (a b c d : Fin PP) : Tryd.prog.built 109 [(0, .agg (ev a)), (1, .agg (ev b)), (2, .agg (ev c)), (3, .agg (ev d))] = some (sv ⟨a, b, c, d⟩) := by kernel_rfl
theorem built_sv3 (a c d : Fin PP) : Tryd.prog.built 109 [(0, .agg (ev a)), (2, .agg (ev c)), (3, .agg (ev d))] = some (sv ⟨a, 0, c, d⟩) := by kernel_rfl
set_option maxRecDepth 100000 in
set_option maxHeartbeats 16000000 in
theorem next_any (s : L4 PP) (x : Fin PP) (w : World) (hpg : PG w) : Calls Tryd.prog 93 #[.agg (sv s), .agg (ev x)] w (SPost (lnx Q0 x s) w) := by
  obtain ⟨su, h_su⟩ : ∃ z, z = s.a + s.b := ⟨_, rfl⟩
  obtain ⟨le, h_le⟩ : ∃ z, z = s.a - s.b := ⟨_, rfl⟩
  obtain ⟨u, h_u⟩ : ∃ z, z = su * su := ⟨_, rfl⟩
  obtain ⟨v, h_v⟩ : ∃ z, z = le * le := ⟨_, rfl⟩
  obtain ⟨e, h_e⟩ : ∃ z, z = u - v := ⟨_, rfl⟩
  obtain ⟨cd, h_cd⟩ : ∃ z, z = s.c + s.d := ⟨_, rfl⟩
  obtain ⟨m, h_m⟩ : ∃ z, z = cd * le := ⟨_, rfl⟩
  obtain ⟨ce, h_ce⟩ : ∃ z, z = s.c - s.d := ⟨_, rfl⟩
  obtain ⟨k, h_k⟩ : ∃ z, z = ce * su := ⟨_, rfl⟩
  obtain ⟨za, h_za⟩ : ∃ z, z = u * v := ⟨_, rfl⟩
  obtain ⟨qq, h_qq⟩ : ∃ z, z = sm 121665 := ⟨_, rfl⟩
  obtain ⟨eq, h_eq⟩ : ∃ z, z = e * qq := ⟨_, rfl⟩
  obtain ⟨ue, h_ue⟩ : ∃ z, z = u + eq := ⟨_, rfl⟩
  obtain ⟨zb, h_zb⟩ : ∃ z, z = e * ue := ⟨_, rfl⟩
  obtain ⟨mk, h_mk⟩ : ∃ z, z = m + k := ⟨_, rfl⟩
  obtain ⟨zc, h_zc⟩ : ∃ z, z = mk * mk := ⟨_, rfl⟩
  obtain ⟨ml, h_ml⟩ : ∃ z, z = m - k := ⟨_, rfl⟩
  obtain ⟨m2, h_m2⟩ : ∃ z, z = ml * ml := ⟨_, rfl⟩
  obtain ⟨zd, h_zd⟩ : ∃ z, z = x * m2 := ⟨_, rfl⟩
  obtain ⟨z, h_z⟩ : ∃ z, z = (⟨za, zb, zc, zd⟩ : L4 PP) := ⟨_, rfl⟩
  have hblt : Tryd.prog.built 109 [(0, .agg (ev za)), (1, .agg (ev zb)), (2, .agg (ev zc)), (3, .agg (ev zd))] = some (sv z) := by rw [h_z]; exact built_sv za zb zc zd
  have HBLT := Lib.hid hblt
  have hend : z = lnx Q0 x s := by
    rw [h_z]
    have hq : qq = Q0 := h_qq
    subst h_zd h_m2 h_ml h_zc h_mk h_zb h_ue h_eq h_za h_k h_ce h_m h_cd h_e h_v h_u h_le h_su
    rw [hq]
    rfl
  have H_su := Lib.hid h_su
  have H_le := Lib.hid h_le
  have H_u := Lib.hid h_u
  have H_v := Lib.hid h_v
  have H_e := Lib.hid h_e
  have H_cd := Lib.hid h_cd
  have H_m := Lib.hid h_m
  have H_ce := Lib.hid h_ce
  have H_k := Lib.hid h_k
  have H_za := Lib.hid h_za
  have H_qq := Lib.hid h_qq
  have H_eq := Lib.hid h_eq
  have H_ue := Lib.hid h_ue
  have H_zb := Lib.hid h_zb
  have H_mk := Lib.hid h_mk
  have H_zc := Lib.hid h_zc
  have H_ml := Lib.hid h_ml
  have H_m2 := Lib.hid h_m2
  have H_zd := Lib.hid h_zd
  have HEND := Lib.hid hend
  clear hend hblt h_z h_zd h_m2 h_ml h_zc h_mk h_zb h_ue h_eq h_qq h_za h_k h_ce h_m h_cd h_e h_v h_u h_le h_su
  have hfr := (((Fr.start w).row (sv s) 109 (g := w.heap.size) rfl).row (ev x) 27 (g := w.heap.size + 1) (by simp)).any (sv ZS) 109 16 (sv_size _) (g := w.heap.size + 1 + 1) (by simp)
  rw [sv_zero] at hfr
  have HP := Lib.hid hpg
  have hpg0 := Fr.pg hfr hpg
  clear hpg
  go_enter Tryd.func93, Tryd.ntmps93
  go_wp2_with (fail)
  obtain ⟨wx, hwx⟩ : ∃ wx : World, wx = (((w.alloc (.cells (sv s) 109)).alloc (.cells (ev x) 27)).alloc (.cells #[.int .u64 0, .int .u64 0, .int .u64 0, .int .u64 0, .int .u64 0, .int .u64 0, .int .u64 0, .int .u64 0, .int .u64 0, .int .u64 0, .int .u64 0, .int .u64 0, .int .u64 0, .int .u64 0, .int .u64 0, .int .u64 0] 109)) := ⟨_, rfl⟩
  rw [← hwx] at hfr hpg0 ⊢
  clear hwx
  have HF := Lib.hid hfr
  have HPG := Lib.hid hpg0
  clear hfr hpg0
  go_cut [5, 6] (fun s5 s6 wz => ∃ g5 g6 : Nat, s5 = .pointer (some ⟨g5, 0, none⟩) ∧ s6 = .pointer (some ⟨g6, 0, none⟩) ∧ Blk wz g5 27 (ev su) ∧ Blk wz g6 27 (ev le) ∧ Below wx.heap.size wx wz)
  case first =>
    as_aux_lemma =>
      have hn := (HF.out.now.sub (L' := [(w.heap.size + 1, 27, ev x), (w.heap.size, 109, sv s)]) (by simp))
      have HN := Lib.hid hn
      clear hn
      refine wp_region_held_drew (S := fun W => Fn wx W [(w.heap.size + 1, 27, ev x), (w.heap.size, 109, sv s)]) (by kernel_rfl) ?_ (fun hHeld => ?_)
      · exact HN.out.drew
      refine wpAnyH_take (i := 0) (v := ?_) rfl (by kernel_rfl) (by kernel_rfl) (by kernel_rfl) (fun _ _ _ h => h) (Or.inl ⟨by rfl, ?_⟩) hHeld ?_
      rotate_left
      · (intro W hSw; (try dsimp only at hSw); (try simp only [List.getElem_toArray, List.getElem_cons_succ, List.getElem_cons_zero]); go_simp; try with_reducible rfl)
      try simp only [Act.put, List.getElem_toArray, List.getElem_cons_succ, List.getElem_cons_zero, List.setIfInBounds_toArray, List.set_cons_zero, List.set_cons_succ]
      refine wpAnyH_take (i := 1) (v := .agg (ev (s.a))) rfl (by kernel_rfl) (by kernel_rfl) (by kernel_rfl) (fun _ _ _ h => h) (yields_sv (by rfl) (.tmp 12) rfl (w.heap.size) 0 (by omega) rfl 109 s (fun W (h : Fn _ W _) => h.get (by simp))) hHeld ?_
      try simp only [Act.put, List.getElem_toArray, List.getElem_cons_succ, List.getElem_cons_zero, List.setIfInBounds_toArray, List.set_cons_zero, List.set_cons_succ]
      refine wpAnyH_take (i := 2) (v := ?_) rfl (by kernel_rfl) (by kernel_rfl) (by kernel_rfl) (fun _ _ _ h => h) (Or.inl ⟨by rfl, ?_⟩) hHeld ?_
      rotate_left
      · (intro W hSw; (try dsimp only at hSw); (try simp only [List.getElem_toArray, List.getElem_cons_succ, List.getElem_cons_zero]); go_simp; try with_reducible rfl)
      try simp only [Act.put, List.getElem_toArray, List.getElem_cons_succ, List.getElem_cons_zero, List.setIfInBounds_toArray, List.set_cons_zero, List.set_cons_succ]
      refine wpAnyH_take (i := 3) (v := .agg (ev (s.b))) rfl (by kernel_rfl) (by kernel_rfl) (by kernel_rfl) (fun _ _ _ h => h) (yields_sv (by rfl) (.tmp 14) rfl (w.heap.size) 1 (by omega) rfl 109 s (fun W (h : Fn _ W _) => h.get (by simp))) hHeld ?_
      try simp only [Act.put, List.getElem_toArray, List.getElem_cons_succ, List.getElem_cons_zero, List.setIfInBounds_toArray, List.set_cons_zero, List.set_cons_succ]
      refine wpAnyH_take (i := 5) (v := ?_) rfl (by kernel_rfl) (by kernel_rfl) (by kernel_rfl) (fun _ _ _ h => h) (Or.inl ⟨by rfl, ?_⟩) hHeld ?_
      rotate_left
      · (intro W hSw; (try dsimp only at hSw); (try simp only [List.getElem_toArray, List.getElem_cons_succ, List.getElem_cons_zero]); go_simp; try with_reducible rfl)
      try simp only [Act.put, List.getElem_toArray, List.getElem_cons_succ, List.getElem_cons_zero, List.setIfInBounds_toArray, List.set_cons_zero, List.set_cons_succ]
      refine wpAnyH_take (i := 6) (v := .agg (ev (s.a))) rfl (by kernel_rfl) (by kernel_rfl) (by kernel_rfl) (fun _ _ _ h => h) (yields_sv (by rfl) (.tmp 17) rfl (w.heap.size) 0 (by omega) rfl 109 s (fun W (h : Fn _ W _) => h.get (by simp))) hHeld ?_
      try simp only [Act.put, List.getElem_toArray, List.getElem_cons_succ, List.getElem_cons_zero, List.setIfInBounds_toArray, List.set_cons_zero, List.set_cons_succ]
      refine wpAnyH_take (i := 7) (v := ?_) rfl (by kernel_rfl) (by kernel_rfl) (by kernel_rfl) (fun _ _ _ h => h) (Or.inl ⟨by rfl, ?_⟩) hHeld ?_
      rotate_left
      · (intro W hSw; (try dsimp only at hSw); (try simp only [List.getElem_toArray, List.getElem_cons_succ, List.getElem_cons_zero]); go_simp; try with_reducible rfl)
      try simp only [Act.put, List.getElem_toArray, List.getElem_cons_succ, List.getElem_cons_zero, List.setIfInBounds_toArray, List.set_cons_zero, List.set_cons_succ]
      refine wpAnyH_take (i := 8) (v := .agg (ev (s.b))) rfl (by kernel_rfl) (by kernel_rfl) (by kernel_rfl) (fun _ _ _ h => h) (yields_sv (by rfl) (.tmp 19) rfl (w.heap.size) 1 (by omega) rfl 109 s (fun W (h : Fn _ W _) => h.get (by simp))) hHeld ?_
      try simp only [Act.put, List.getElem_toArray, List.getElem_cons_succ, List.getElem_cons_zero, List.setIfInBounds_toArray, List.set_cons_zero, List.set_cons_succ]
      refine wpAnyH_name ?_
      intro ops Q hops hQ
      have st2_1011 : ∀ (g5 g6 : Nat) (W : World), Fn wx W [(w.heap.size + 1, 27, ev x), (w.heap.size, 109, sv s)] → Blk W g5 27 #[.int .u64 0, .int .u64 0, .int .u64 0, .int .u64 0] → wx.heap.size ≤ g5 → Blk W g6 27 #[.int .u64 0, .int .u64 0, .int .u64 0, .int .u64 0] → wx.heap.size ≤ g6 → g5 ≠ g6 → wpAnyH Tryd.prog .any ops Q (fun W => Fn wx W [(w.heap.size + 1, 27, ev x), (w.heap.size, 109, sv s)]) 2 #[true, true, true, true, true, true, true, true, true, true, true, true, false, false] { tmps := #[.agg (sv s), .agg (ev x), .pointer (some ⟨w.heap.size, 0, none⟩), .pointer (some ⟨w.heap.size + 1, 0, none⟩), .pointer (some ⟨w.heap.size + 1 + 1, 0, none⟩), .pointer (some ⟨g5, 0, none⟩), .pointer (some ⟨g6, 0, none⟩), undef, undef, undef, undef, undef, .pointer (some ⟨w.heap.size, 0, none⟩), .agg (ev (s.a)), .pointer (some ⟨w.heap.size, 4, none⟩), .agg (ev (s.b)), .agg (ev su), .pointer (some ⟨w.heap.size, 0, none⟩), .agg (ev (s.a)), .pointer (some ⟨w.heap.size, 4, none⟩), .agg (ev (s.b)), .agg (ev le), undef, undef, undef, undef, undef, undef, undef, undef, undef, undef, undef, undef, undef, undef, undef, undef, undef, undef, undef, undef, undef, undef, undef, undef, undef, undef, undef, undef, undef, undef, undef, undef, undef, undef, undef, undef, undef, undef, undef, undef, undef, undef], defers := [] } W := by
        as_aux_lemma =>
          intro g5 g6 W hHeld K10 Z10 K11 Z11 n10_11
          rw [← hops]
          rw [← hQ]
          have KK10 := Lib.hid K10
          clear K10
          have KK11 := Lib.hid K11
          clear K11
          refine wpAnyH_ready (rs := [12]) (by kernel_rfl) (by simp) (AllReadyH.cons rfl (fun K hK => ?_) AllReadyH.nil)
          have h0 := hHeld
          clear hHeld
          try simp only [List.getElem_toArray, List.getElem_cons_succ, List.getElem_cons_zero]
          rw [if_pos (by rfl)]
          refine wp_store_row 27 (.tmp 5) (.tmp 16) rfl g5 (ev su) rfl rfl 27 _ KK10.out (info_ev _) rfl (ev_one _) ?_
          refine hK.out _ _ (Fn.setFresh h0 Z10 _) (fun hHeld => ?_)
          have J10 := Lib.hid (KK10.out.setRow_same (ev su))
          clear KK10
          have KK10 := J10
          clear J10
          have J11 := Lib.hid (KK11.out.setRow_other (Ne.symm n10_11) (ev su))
          clear KK11
          have KK11 := J11
          clear J11
          clear hK K h0
          try simp only [Act.put, List.getElem_toArray, List.getElem_cons_succ, List.getElem_cons_zero, List.setIfInBounds_toArray, List.set_cons_zero, List.set_cons_succ]
          refine wpAnyH_ready (rs := [13]) (by kernel_rfl) (by simp) (AllReadyH.cons rfl (fun K hK => ?_) AllReadyH.nil)
          have h0 := hHeld
          clear hHeld
          try simp only [List.getElem_toArray, List.getElem_cons_succ, List.getElem_cons_zero]
          rw [if_pos (by rfl)]
          refine wp_store_row 27 (.tmp 6) (.tmp 21) rfl g6 (ev le) rfl rfl 27 _ KK11.out (info_ev _) rfl (ev_one _) ?_
          refine hK.out _ _ (Fn.setFresh h0 Z11 _) (fun hHeld => ?_)
          have J11 := Lib.hid (KK11.out.setRow_same (ev le))
          clear KK11
          have KK11 := J11
          clear J11
          have J10 := Lib.hid (KK10.out.setRow_other n10_11 (ev le))
          clear KK10
          have KK10 := J10
          clear J10
          clear hK K h0
          try simp only [Act.put, List.getElem_toArray, List.getElem_cons_succ, List.getElem_cons_zero, List.setIfInBounds_toArray, List.set_cons_zero, List.set_cons_succ]
          refine wpAnyH_done (by kernel_rfl) ?_ _
          have HB := Lib.hid hHeld.below
          clear hHeld
          go_wp2_with (fail)
          go_meet
          exact ⟨g5, g6, rfl, rfl, KK10.out, KK11.out, HB.out⟩
      have st2_10 : ∀ (g5 : Nat) (W : World), Fn wx W [(w.heap.size + 1, 27, ev x), (w.heap.size, 109, sv s)] → Blk W g5 27 #[.int .u64 0, .int .u64 0, .int .u64 0, .int .u64 0] → wx.heap.size ≤ g5 → wpAnyH Tryd.prog .any ops Q (fun W => Fn wx W [(w.heap.size + 1, 27, ev x), (w.heap.size, 109, sv s)]) 3 #[true, true, true, true, true, true, true, true, true, true, true, false, false, false] { tmps := #[.agg (sv s), .agg (ev x), .pointer (some ⟨w.heap.size, 0, none⟩), .pointer (some ⟨w.heap.size + 1, 0, none⟩), .pointer (some ⟨w.heap.size + 1 + 1, 0, none⟩), .pointer (some ⟨g5, 0, none⟩), undef, undef, undef, undef, undef, undef, .pointer (some ⟨w.heap.size, 0, none⟩), .agg (ev (s.a)), .pointer (some ⟨w.heap.size, 4, none⟩), .agg (ev (s.b)), .agg (ev su), .pointer (some ⟨w.heap.size, 0, none⟩), .agg (ev (s.a)), .pointer (some ⟨w.heap.size, 4, none⟩), .agg (ev (s.b)), .agg (ev le), undef, undef, undef, undef, undef, undef, undef, undef, undef, undef, undef, undef, undef, undef, undef, undef, undef, undef, undef, undef, undef, undef, undef, undef, undef, undef, undef, undef, undef, undef, undef, undef, undef, undef, undef, undef, undef, undef, undef, undef, undef, undef], defers := [] } W := by
        as_aux_lemma =>
          intro g5 W hHeld K10 Z10
          rw [← hops]
          refine wpAnyH_ready (rs := [11]) (by kernel_rfl) (by simp) (AllReadyH.cons rfl (fun K hK => ?_) AllReadyH.nil)
          have h0 := hHeld
          clear hHeld
          try simp only [List.getElem_toArray, List.getElem_cons_succ, List.getElem_cons_zero]
          obtain ⟨kz, hg⟩ := Fn.fresh h0 27 #[.int .u64 0, .int .u64 0, .int .u64 0, .int .u64 0]
          have KZ := Lib.hid kz
          have HG := Lib.hid hg
          have H0 := Lib.hid h0
          clear kz hg h0
          have KH10 := Lib.hid K10
          go_simp
          refine hK.out _ _ (Fn.pass H0.out _) (fun hHeld => ?_)
          clear hK K H0
          try simp only [Act.put, List.getElem_toArray, List.getElem_cons_succ, List.getElem_cons_zero, List.setIfInBounds_toArray, List.set_cons_zero, List.set_cons_succ]
          have k10 := KH10.out.alloc (.cells #[.int .u64 0, .int .u64 0, .int .u64 0, .int .u64 0] 27)
          have z10 := Z10
          have k11 := KZ.out
          have z11 := HG.out
          refine wpAnyH_cast (n' := 2) (l' := #[true, true, true, true, true, true, true, true, true, true, true, true, false, false]) (by kernel_rfl) (by kernel_rfl) ?_
          have hh := st2_1011 g5 _ _ hHeld k10 z10 k11 z11 (Nat.ne_of_lt K10.lt)
          rw [← hops] at hh
          exact hh
      have st2_11 : ∀ (g6 : Nat) (W : World), Fn wx W [(w.heap.size + 1, 27, ev x), (w.heap.size, 109, sv s)] → Blk W g6 27 #[.int .u64 0, .int .u64 0, .int .u64 0, .int .u64 0] → wx.heap.size ≤ g6 → wpAnyH Tryd.prog .any ops Q (fun W => Fn wx W [(w.heap.size + 1, 27, ev x), (w.heap.size, 109, sv s)]) 3 #[true, true, true, true, true, true, true, true, true, true, false, true, false, false] { tmps := #[.agg (sv s), .agg (ev x), .pointer (some ⟨w.heap.size, 0, none⟩), .pointer (some ⟨w.heap.size + 1, 0, none⟩), .pointer (some ⟨w.heap.size + 1 + 1, 0, none⟩), undef, .pointer (some ⟨g6, 0, none⟩), undef, undef, undef, undef, undef, .pointer (some ⟨w.heap.size, 0, none⟩), .agg (ev (s.a)), .pointer (some ⟨w.heap.size, 4, none⟩), .agg (ev (s.b)), .agg (ev su), .pointer (some ⟨w.heap.size, 0, none⟩), .agg (ev (s.a)), .pointer (some ⟨w.heap.size, 4, none⟩), .agg (ev (s.b)), .agg (ev le), undef, undef, undef, undef, undef, undef, undef, undef, undef, undef, undef, undef, undef, undef, undef, undef, undef, undef, undef, undef, undef, undef, undef, undef, undef, undef, undef, undef, undef, undef, undef, undef, undef, undef, undef, undef, undef, undef, undef, undef, undef, undef], defers := [] } W := by
        as_aux_lemma =>
          clear st2_10
          intro g6 W hHeld K11 Z11
          rw [← hops]
          refine wpAnyH_ready (rs := [10]) (by kernel_rfl) (by simp) (AllReadyH.cons rfl (fun K hK => ?_) AllReadyH.nil)
          have h0 := hHeld
          clear hHeld
          try simp only [List.getElem_toArray, List.getElem_cons_succ, List.getElem_cons_zero]
          obtain ⟨kz, hg⟩ := Fn.fresh h0 27 #[.int .u64 0, .int .u64 0, .int .u64 0, .int .u64 0]
          have KZ := Lib.hid kz
          have HG := Lib.hid hg
          have H0 := Lib.hid h0
          clear kz hg h0
          have KH11 := Lib.hid K11
          go_simp
          refine hK.out _ _ (Fn.pass H0.out _) (fun hHeld => ?_)
          clear hK K H0
          try simp only [Act.put, List.getElem_toArray, List.getElem_cons_succ, List.getElem_cons_zero, List.setIfInBounds_toArray, List.set_cons_zero, List.set_cons_succ]
          have k11 := KH11.out.alloc (.cells #[.int .u64 0, .int .u64 0, .int .u64 0, .int .u64 0] 27)
          have z11 := Z11
          have k10 := KZ.out
          have z10 := HG.out
          refine wpAnyH_cast (n' := 2) (l' := #[true, true, true, true, true, true, true, true, true, true, true, true, false, false]) (by kernel_rfl) (by kernel_rfl) ?_
          have hh := st2_1011 _ g6 _ hHeld k10 z10 k11 z11 (Ne.symm (Nat.ne_of_lt K11.lt))
          rw [← hops] at hh
          exact hh
      have st1_1011 : ∀ (g5 g6 : Nat) (W : World), Fn wx W [(w.heap.size + 1, 27, ev x), (w.heap.size, 109, sv s)] → Blk W g5 27 #[.int .u64 0, .int .u64 0, .int .u64 0, .int .u64 0] → wx.heap.size ≤ g5 → Blk W g6 27 #[.int .u64 0, .int .u64 0, .int .u64 0, .int .u64 0] → wx.heap.size ≤ g6 → g5 ≠ g6 → wpAnyH Tryd.prog .any ops Q (fun W => Fn wx W [(w.heap.size + 1, 27, ev x), (w.heap.size, 109, sv s)]) 3 #[true, true, true, true, true, true, true, true, true, false, true, true, false, false] { tmps := #[.agg (sv s), .agg (ev x), .pointer (some ⟨w.heap.size, 0, none⟩), .pointer (some ⟨w.heap.size + 1, 0, none⟩), .pointer (some ⟨w.heap.size + 1 + 1, 0, none⟩), .pointer (some ⟨g5, 0, none⟩), .pointer (some ⟨g6, 0, none⟩), undef, undef, undef, undef, undef, .pointer (some ⟨w.heap.size, 0, none⟩), .agg (ev (s.a)), .pointer (some ⟨w.heap.size, 4, none⟩), .agg (ev (s.b)), .agg (ev su), .pointer (some ⟨w.heap.size, 0, none⟩), .agg (ev (s.a)), .pointer (some ⟨w.heap.size, 4, none⟩), .agg (ev (s.b)), undef, undef, undef, undef, undef, undef, undef, undef, undef, undef, undef, undef, undef, undef, undef, undef, undef, undef, undef, undef, undef, undef, undef, undef, undef, undef, undef, undef, undef, undef, undef, undef, undef, undef, undef, undef, undef, undef, undef, undef, undef, undef, undef], defers := [] } W := by
        as_aux_lemma =>
          clear st2_11 st2_10
          intro g5 g6 W hHeld K10 Z10 K11 Z11 n10_11
          rw [← hops]
          refine wpAnyH_ready (rs := [9]) (by kernel_rfl) (by simp) (AllReadyH.cons rfl (fun K hK => ?_) AllReadyH.nil)
          have KH10 := Lib.hid K10
          have KH11 := Lib.hid K11
          have h0 := hHeld
          clear hHeld
          try simp only [List.getElem_toArray, List.getElem_cons_succ, List.getElem_cons_zero]
          have H0 := Lib.hid h0
          clear h0
          go_simp
          go_at_call 37
          refine (subR H_le.out _ (HPG.out.ext H0.out.below)).mono ?_
          rintro e vv ⟨rfl, hb⟩
          have KJ10 := Lib.hid (KH10.out.below hb KH10.out.lt)
          have KJ11 := Lib.hid (KH11.out.below hb KH11.out.lt)
          have h1 := H0.out.ext hb
          clear hb H0
          go_wp2_with (fail)
          refine hK.out _ _ h1 (fun hHeld => ?_)
          clear hK K h1
          try simp only [Act.put, List.getElem_toArray, List.getElem_cons_succ, List.getElem_cons_zero, List.setIfInBounds_toArray, List.set_cons_zero, List.set_cons_succ]
          have k10 := KJ10.out
          have k11 := KJ11.out
          have z10 := Z10
          have z11 := Z11
          refine wpAnyH_cast (n' := 2) (l' := #[true, true, true, true, true, true, true, true, true, true, true, true, false, false]) (by kernel_rfl) (by kernel_rfl) ?_
          have hh := st2_1011 g5 g6 _ hHeld k10 z10 k11 z11 n10_11
          rw [← hops] at hh
          exact hh
      have st2_ : ∀ (W : World), Fn wx W [(w.heap.size + 1, 27, ev x), (w.heap.size, 109, sv s)] → wpAnyH Tryd.prog .any ops Q (fun W => Fn wx W [(w.heap.size + 1, 27, ev x), (w.heap.size, 109, sv s)]) 4 #[true, true, true, true, true, true, true, true, true, true, false, false, false, false] { tmps := #[.agg (sv s), .agg (ev x), .pointer (some ⟨w.heap.size, 0, none⟩), .pointer (some ⟨w.heap.size + 1, 0, none⟩), .pointer (some ⟨w.heap.size + 1 + 1, 0, none⟩), undef, undef, undef, undef, undef, undef, undef, .pointer (some ⟨w.heap.size, 0, none⟩), .agg (ev (s.a)), .pointer (some ⟨w.heap.size, 4, none⟩), .agg (ev (s.b)), .agg (ev su), .pointer (some ⟨w.heap.size, 0, none⟩), .agg (ev (s.a)), .pointer (some ⟨w.heap.size, 4, none⟩), .agg (ev (s.b)), .agg (ev le), undef, undef, undef, undef, undef, undef, undef, undef, undef, undef, undef, undef, undef, undef, undef, undef, undef, undef, undef, undef, undef, undef, undef, undef, undef, undef, undef, undef, undef, undef, undef, undef, undef, undef, undef, undef, undef, undef, undef, undef, undef, undef], defers := [] } W := by
        as_aux_lemma =>
          clear st1_1011 st2_1011
          intro W hHeld
          rw [← hops]
          refine wpAnyH_ready (rs := [10, 11]) (by kernel_rfl) (by simp) (AllReadyH.cons rfl (fun K hK => ?_) (AllReadyH.cons rfl (fun K hK => ?_) AllReadyH.nil))
          · have h0 := hHeld
            clear hHeld
            try simp only [List.getElem_toArray, List.getElem_cons_succ, List.getElem_cons_zero]
            obtain ⟨kz, hg⟩ := Fn.fresh h0 27 #[.int .u64 0, .int .u64 0, .int .u64 0, .int .u64 0]
            have KZ := Lib.hid kz
            have HG := Lib.hid hg
            have H0 := Lib.hid h0
            clear kz hg h0
            go_simp
            refine hK.out _ _ (Fn.pass H0.out _) (fun hHeld => ?_)
            clear hK K H0
            try simp only [Act.put, List.getElem_toArray, List.getElem_cons_succ, List.getElem_cons_zero, List.setIfInBounds_toArray, List.set_cons_zero, List.set_cons_succ]
            have k10 := KZ.out
            have z10 := HG.out
            refine wpAnyH_cast (n' := 3) (l' := #[true, true, true, true, true, true, true, true, true, true, true, false, false, false]) (by kernel_rfl) (by kernel_rfl) ?_
            have hh := st2_10 _ _ hHeld k10 z10
            rw [← hops] at hh
            exact hh
          · have h0 := hHeld
            clear hHeld
            try simp only [List.getElem_toArray, List.getElem_cons_succ, List.getElem_cons_zero]
            obtain ⟨kz, hg⟩ := Fn.fresh h0 27 #[.int .u64 0, .int .u64 0, .int .u64 0, .int .u64 0]
            have KZ := Lib.hid kz
            have HG := Lib.hid hg
            have H0 := Lib.hid h0
            clear kz hg h0
            go_simp
            refine hK.out _ _ (Fn.pass H0.out _) (fun hHeld => ?_)
            clear hK K H0
            try simp only [Act.put, List.getElem_toArray, List.getElem_cons_succ, List.getElem_cons_zero, List.setIfInBounds_toArray, List.set_cons_zero, List.set_cons_succ]
            have k11 := KZ.out
            have z11 := HG.out
            refine wpAnyH_cast (n' := 3) (l' := #[true, true, true, true, true, true, true, true, true, true, false, true, false, false]) (by kernel_rfl) (by kernel_rfl) ?_
            have hh := st2_11 _ _ hHeld k11 z11
            rw [← hops] at hh
            exact hh
      have st1_10 : ∀ (g5 : Nat) (W : World), Fn wx W [(w.heap.size + 1, 27, ev x), (w.heap.size, 109, sv s)] → Blk W g5 27 #[.int .u64 0, .int .u64 0, .int .u64 0, .int .u64 0] → wx.heap.size ≤ g5 → wpAnyH Tryd.prog .any ops Q (fun W => Fn wx W [(w.heap.size + 1, 27, ev x), (w.heap.size, 109, sv s)]) 4 #[true, true, true, true, true, true, true, true, true, false, true, false, false, false] { tmps := #[.agg (sv s), .agg (ev x), .pointer (some ⟨w.heap.size, 0, none⟩), .pointer (some ⟨w.heap.size + 1, 0, none⟩), .pointer (some ⟨w.heap.size + 1 + 1, 0, none⟩), .pointer (some ⟨g5, 0, none⟩), undef, undef, undef, undef, undef, undef, .pointer (some ⟨w.heap.size, 0, none⟩), .agg (ev (s.a)), .pointer (some ⟨w.heap.size, 4, none⟩), .agg (ev (s.b)), .agg (ev su), .pointer (some ⟨w.heap.size, 0, none⟩), .agg (ev (s.a)), .pointer (some ⟨w.heap.size, 4, none⟩), .agg (ev (s.b)), undef, undef, undef, undef, undef, undef, undef, undef, undef, undef, undef, undef, undef, undef, undef, undef, undef, undef, undef, undef, undef, undef, undef, undef, undef, undef, undef, undef, undef, undef, undef, undef, undef, undef, undef, undef, undef, undef, undef, undef, undef, undef, undef], defers := [] } W := by
        as_aux_lemma =>
          clear st2_ st2_11 st2_1011
          intro g5 W hHeld K10 Z10
          rw [← hops]
          refine wpAnyH_ready (rs := [9, 11]) (by kernel_rfl) (by simp) (AllReadyH.cons rfl (fun K hK => ?_) (AllReadyH.cons rfl (fun K hK => ?_) AllReadyH.nil))
          · have KH10 := Lib.hid K10
            have h0 := hHeld
            clear hHeld
            try simp only [List.getElem_toArray, List.getElem_cons_succ, List.getElem_cons_zero]
            have H0 := Lib.hid h0
            clear h0
            go_simp
            go_at_call 37
            refine (subR H_le.out _ (HPG.out.ext H0.out.below)).mono ?_
            rintro e vv ⟨rfl, hb⟩
            have KJ10 := Lib.hid (KH10.out.below hb KH10.out.lt)
            have h1 := H0.out.ext hb
            clear hb H0
            go_wp2_with (fail)
            refine hK.out _ _ h1 (fun hHeld => ?_)
            clear hK K h1
            try simp only [Act.put, List.getElem_toArray, List.getElem_cons_succ, List.getElem_cons_zero, List.setIfInBounds_toArray, List.set_cons_zero, List.set_cons_succ]
            have k10 := KJ10.out
            have z10 := Z10
            refine wpAnyH_cast (n' := 3) (l' := #[true, true, true, true, true, true, true, true, true, true, true, false, false, false]) (by kernel_rfl) (by kernel_rfl) ?_
            have hh := st2_10 g5 _ hHeld k10 z10
            rw [← hops] at hh
            exact hh
          · have h0 := hHeld
            clear hHeld
            try simp only [List.getElem_toArray, List.getElem_cons_succ, List.getElem_cons_zero]
            obtain ⟨kz, hg⟩ := Fn.fresh h0 27 #[.int .u64 0, .int .u64 0, .int .u64 0, .int .u64 0]
            have KZ := Lib.hid kz
            have HG := Lib.hid hg
            have H0 := Lib.hid h0
            clear kz hg h0
            have KH10 := Lib.hid K10
            go_simp
            refine hK.out _ _ (Fn.pass H0.out _) (fun hHeld => ?_)
            clear hK K H0
            try simp only [Act.put, List.getElem_toArray, List.getElem_cons_succ, List.getElem_cons_zero, List.setIfInBounds_toArray, List.set_cons_zero, List.set_cons_succ]
            have k10 := KH10.out.alloc (.cells #[.int .u64 0, .int .u64 0, .int .u64 0, .int .u64 0] 27)
            have z10 := Z10
            have k11 := KZ.out
            have z11 := HG.out
            refine wpAnyH_cast (n' := 3) (l' := #[true, true, true, true, true, true, true, true, true, false, true, true, false, false]) (by kernel_rfl) (by kernel_rfl) ?_
            have hh := st1_1011 g5 _ _ hHeld k10 z10 k11 z11 (Nat.ne_of_lt K10.lt)
            rw [← hops] at hh
            exact hh
      have st1_11 : ∀ (g6 : Nat) (W : World), Fn wx W [(w.heap.size + 1, 27, ev x), (w.heap.size, 109, sv s)] → Blk W g6 27 #[.int .u64 0, .int .u64 0, .int .u64 0, .int .u64 0] → wx.heap.size ≤ g6 → wpAnyH Tryd.prog .any ops Q (fun W => Fn wx W [(w.heap.size + 1, 27, ev x), (w.heap.size, 109, sv s)]) 4 #[true, true, true, true, true, true, true, true, true, false, false, true, false, false] { tmps := #[.agg (sv s), .agg (ev x), .pointer (some ⟨w.heap.size, 0, none⟩), .pointer (some ⟨w.heap.size + 1, 0, none⟩), .pointer (some ⟨w.heap.size + 1 + 1, 0, none⟩), undef, .pointer (some ⟨g6, 0, none⟩), undef, undef, undef, undef, undef, .pointer (some ⟨w.heap.size, 0, none⟩), .agg (ev (s.a)), .pointer (some ⟨w.heap.size, 4, none⟩), .agg (ev (s.b)), .agg (ev su), .pointer (some ⟨w.heap.size, 0, none⟩), .agg (ev (s.a)), .pointer (some ⟨w.heap.size, 4, none⟩), .agg (ev (s.b)), undef, undef, undef, undef, undef, undef, undef, undef, undef, undef, undef, undef, undef, undef, undef, undef, undef, undef, undef, undef, undef, undef, undef, undef, undef, undef, undef, undef, undef, undef, undef, undef, undef, undef, undef, undef, undef, undef, undef, undef, undef, undef, undef], defers := [] } W := by
        as_aux_lemma =>
          clear st1_10 st2_ st2_10 st2_1011
          intro g6 W hHeld K11 Z11
          rw [← hops]
          refine wpAnyH_ready (rs := [9, 10]) (by kernel_rfl) (by simp) (AllReadyH.cons rfl (fun K hK => ?_) (AllReadyH.cons rfl (fun K hK => ?_) AllReadyH.nil))
          · have KH11 := Lib.hid K11
            have h0 := hHeld
            clear hHeld
            try simp only [List.getElem_toArray, List.getElem_cons_succ, List.getElem_cons_zero]
            have H0 := Lib.hid h0
            clear h0
            go_simp
            go_at_call 37
            refine (subR H_le.out _ (HPG.out.ext H0.out.below)).mono ?_
            rintro e vv ⟨rfl, hb⟩
            have KJ11 := Lib.hid (KH11.out.below hb KH11.out.lt)
            have h1 := H0.out.ext hb
            clear hb H0
            go_wp2_with (fail)
            refine hK.out _ _ h1 (fun hHeld => ?_)
            clear hK K h1
            try simp only [Act.put, List.getElem_toArray, List.getElem_cons_succ, List.getElem_cons_zero, List.setIfInBounds_toArray, List.set_cons_zero, List.set_cons_succ]
            have k11 := KJ11.out
            have z11 := Z11
            refine wpAnyH_cast (n' := 3) (l' := #[true, true, true, true, true, true, true, true, true, true, false, true, false, false]) (by kernel_rfl) (by kernel_rfl) ?_
            have hh := st2_11 g6 _ hHeld k11 z11
            rw [← hops] at hh
            exact hh
          · have h0 := hHeld
            clear hHeld
            try simp only [List.getElem_toArray, List.getElem_cons_succ, List.getElem_cons_zero]
            obtain ⟨kz, hg⟩ := Fn.fresh h0 27 #[.int .u64 0, .int .u64 0, .int .u64 0, .int .u64 0]
            have KZ := Lib.hid kz
            have HG := Lib.hid hg
            have H0 := Lib.hid h0
            clear kz hg h0
            have KH11 := Lib.hid K11
            go_simp
            refine hK.out _ _ (Fn.pass H0.out _) (fun hHeld => ?_)
            clear hK K H0
            try simp only [Act.put, List.getElem_toArray, List.getElem_cons_succ, List.getElem_cons_zero, List.setIfInBounds_toArray, List.set_cons_zero, List.set_cons_succ]
            have k11 := KH11.out.alloc (.cells #[.int .u64 0, .int .u64 0, .int .u64 0, .int .u64 0] 27)
            have z11 := Z11
            have k10 := KZ.out
            have z10 := HG.out
            refine wpAnyH_cast (n' := 3) (l' := #[true, true, true, true, true, true, true, true, true, false, true, true, false, false]) (by kernel_rfl) (by kernel_rfl) ?_
            have hh := st1_1011 _ g6 _ hHeld k10 z10 k11 z11 (Ne.symm (Nat.ne_of_lt K11.lt))
            rw [← hops] at hh
            exact hh
      have st0_1011 : ∀ (g5 g6 : Nat) (W : World), Fn wx W [(w.heap.size + 1, 27, ev x), (w.heap.size, 109, sv s)] → Blk W g5 27 #[.int .u64 0, .int .u64 0, .int .u64 0, .int .u64 0] → wx.heap.size ≤ g5 → Blk W g6 27 #[.int .u64 0, .int .u64 0, .int .u64 0, .int .u64 0] → wx.heap.size ≤ g6 → g5 ≠ g6 → wpAnyH Tryd.prog .any ops Q (fun W => Fn wx W [(w.heap.size + 1, 27, ev x), (w.heap.size, 109, sv s)]) 4 #[true, true, true, true, false, true, true, true, true, false, true, true, false, false] { tmps := #[.agg (sv s), .agg (ev x), .pointer (some ⟨w.heap.size, 0, none⟩), .pointer (some ⟨w.heap.size + 1, 0, none⟩), .pointer (some ⟨w.heap.size + 1 + 1, 0, none⟩), .pointer (some ⟨g5, 0, none⟩), .pointer (some ⟨g6, 0, none⟩), undef, undef, undef, undef, undef, .pointer (some ⟨w.heap.size, 0, none⟩), .agg (ev (s.a)), .pointer (some ⟨w.heap.size, 4, none⟩), .agg (ev (s.b)), undef, .pointer (some ⟨w.heap.size, 0, none⟩), .agg (ev (s.a)), .pointer (some ⟨w.heap.size, 4, none⟩), .agg (ev (s.b)), undef, undef, undef, undef, undef, undef, undef, undef, undef, undef, undef, undef, undef, undef, undef, undef, undef, undef, undef, undef, undef, undef, undef, undef, undef, undef, undef, undef, undef, undef, undef, undef, undef, undef, undef, undef, undef, undef, undef, undef, undef, undef, undef], defers := [] } W := by
        as_aux_lemma =>
          clear st1_11 st1_10 st2_ st2_11 st2_10 st2_1011
          intro g5 g6 W hHeld K10 Z10 K11 Z11 n10_11
          rw [← hops]
          refine wpAnyH_ready (rs := [4]) (by kernel_rfl) (by simp) (AllReadyH.cons rfl (fun K hK => ?_) AllReadyH.nil)
          have KH10 := Lib.hid K10
          have KH11 := Lib.hid K11
          have h0 := hHeld
          clear hHeld
          try simp only [List.getElem_toArray, List.getElem_cons_succ, List.getElem_cons_zero]
          have H0 := Lib.hid h0
          clear h0
          go_simp
          go_at_call 35
          refine (addR H_su.out _ (HPG.out.ext H0.out.below)).mono ?_
          rintro e vv ⟨rfl, hb⟩
          have KJ10 := Lib.hid (KH10.out.below hb KH10.out.lt)
          have KJ11 := Lib.hid (KH11.out.below hb KH11.out.lt)
          have h1 := H0.out.ext hb
          clear hb H0
          go_wp2_with (fail)
          refine hK.out _ _ h1 (fun hHeld => ?_)
          clear hK K h1
          try simp only [Act.put, List.getElem_toArray, List.getElem_cons_succ, List.getElem_cons_zero, List.setIfInBounds_toArray, List.set_cons_zero, List.set_cons_succ]
          have k10 := KJ10.out
          have k11 := KJ11.out
          have z10 := Z10
          have z11 := Z11
          refine wpAnyH_cast (n' := 3) (l' := #[true, true, true, true, true, true, true, true, true, false, true, true, false, false]) (by kernel_rfl) (by kernel_rfl) ?_
          have hh := st1_1011 g5 g6 _ hHeld k10 z10 k11 z11 n10_11
          rw [← hops] at hh
          exact hh
      have st1_ : ∀ (W : World), Fn wx W [(w.heap.size + 1, 27, ev x), (w.heap.size, 109, sv s)] → wpAnyH Tryd.prog .any ops Q (fun W => Fn wx W [(w.heap.size + 1, 27, ev x), (w.heap.size, 109, sv s)]) 5 #[true, true, true, true, true, true, true, true, true, false, false, false, false, false] { tmps := #[.agg (sv s), .agg (ev x), .pointer (some ⟨w.heap.size, 0, none⟩), .pointer (some ⟨w.heap.size + 1, 0, none⟩), .pointer (some ⟨w.heap.size + 1 + 1, 0, none⟩), undef, undef, undef, undef, undef, undef, undef, .pointer (some ⟨w.heap.size, 0, none⟩), .agg (ev (s.a)), .pointer (some ⟨w.heap.size, 4, none⟩), .agg (ev (s.b)), .agg (ev su), .pointer (some ⟨w.heap.size, 0, none⟩), .agg (ev (s.a)), .pointer (some ⟨w.heap.size, 4, none⟩), .agg (ev (s.b)), undef, undef, undef, undef, undef, undef, undef, undef, undef, undef, undef, undef, undef, undef, undef, undef, undef, undef, undef, undef, undef, undef, undef, undef, undef, undef, undef, undef, undef, undef, undef, undef, undef, undef, undef, undef, undef, undef, undef, undef, undef, undef, undef], defers := [] } W := by
        as_aux_lemma =>
          clear st0_1011 st1_1011 st2_11 st2_10 st2_1011
          intro W hHeld
          rw [← hops]
          refine wpAnyH_ready (rs := [9, 10, 11]) (by kernel_rfl) (by simp) (AllReadyH.cons rfl (fun K hK => ?_) (AllReadyH.cons rfl (fun K hK => ?_) (AllReadyH.cons rfl (fun K hK => ?_) AllReadyH.nil)))
          · have h0 := hHeld
            clear hHeld
            try simp only [List.getElem_toArray, List.getElem_cons_succ, List.getElem_cons_zero]
            have H0 := Lib.hid h0
            clear h0
            go_simp
            go_at_call 37
            refine (subR H_le.out _ (HPG.out.ext H0.out.below)).mono ?_
            rintro e vv ⟨rfl, hb⟩
            have h1 := H0.out.ext hb
            clear hb H0
            go_wp2_with (fail)
            refine hK.out _ _ h1 (fun hHeld => ?_)
            clear hK K h1
            try simp only [Act.put, List.getElem_toArray, List.getElem_cons_succ, List.getElem_cons_zero, List.setIfInBounds_toArray, List.set_cons_zero, List.set_cons_succ]
            refine wpAnyH_cast (n' := 4) (l' := #[true, true, true, true, true, true, true, true, true, true, false, false, false, false]) (by kernel_rfl) (by kernel_rfl) ?_
            have hh := st2_ _ hHeld
            rw [← hops] at hh
            exact hh
          · have h0 := hHeld
            clear hHeld
            try simp only [List.getElem_toArray, List.getElem_cons_succ, List.getElem_cons_zero]
            obtain ⟨kz, hg⟩ := Fn.fresh h0 27 #[.int .u64 0, .int .u64 0, .int .u64 0, .int .u64 0]
            have KZ := Lib.hid kz
            have HG := Lib.hid hg
            have H0 := Lib.hid h0
            clear kz hg h0
            go_simp
            refine hK.out _ _ (Fn.pass H0.out _) (fun hHeld => ?_)
            clear hK K H0
            try simp only [Act.put, List.getElem_toArray, List.getElem_cons_succ, List.getElem_cons_zero, List.setIfInBounds_toArray, List.set_cons_zero, List.set_cons_succ]
            have k10 := KZ.out
            have z10 := HG.out
            refine wpAnyH_cast (n' := 4) (l' := #[true, true, true, true, true, true, true, true, true, false, true, false, false, false]) (by kernel_rfl) (by kernel_rfl) ?_
            have hh := st1_10 _ _ hHeld k10 z10
            rw [← hops] at hh
            exact hh
          · have h0 := hHeld
            clear hHeld
            try simp only [List.getElem_toArray, List.getElem_cons_succ, List.getElem_cons_zero]
            obtain ⟨kz, hg⟩ := Fn.fresh h0 27 #[.int .u64 0, .int .u64 0, .int .u64 0, .int .u64 0]
            have KZ := Lib.hid kz
            have HG := Lib.hid hg
            have H0 := Lib.hid h0
            clear kz hg h0
            go_simp
            refine hK.out _ _ (Fn.pass H0.out _) (fun hHeld => ?_)
            clear hK K H0
            try simp only [Act.put, List.getElem_toArray, List.getElem_cons_succ, List.getElem_cons_zero, List.setIfInBounds_toArray, List.set_cons_zero, List.set_cons_succ]
            have k11 := KZ.out
            have z11 := HG.out
            refine wpAnyH_cast (n' := 4) (l' := #[true, true, true, true, true, true, true, true, true, false, false, true, false, false]) (by kernel_rfl) (by kernel_rfl) ?_
            have hh := st1_11 _ _ hHeld k11 z11
            rw [← hops] at hh
            exact hh
      have st0_10 : ∀ (g5 : Nat) (W : World), Fn wx W [(w.heap.size + 1, 27, ev x), (w.heap.size, 109, sv s)] → Blk W g5 27 #[.int .u64 0, .int .u64 0, .int .u64 0, .int .u64 0] → wx.heap.size ≤ g5 → wpAnyH Tryd.prog .any ops Q (fun W => Fn wx W [(w.heap.size + 1, 27, ev x), (w.heap.size, 109, sv s)]) 5 #[true, true, true, true, false, true, true, true, true, false, true, false, false, false] { tmps := #[.agg (sv s), .agg (ev x), .pointer (some ⟨w.heap.size, 0, none⟩), .pointer (some ⟨w.heap.size + 1, 0, none⟩), .pointer (some ⟨w.heap.size + 1 + 1, 0, none⟩), .pointer (some ⟨g5, 0, none⟩), undef, undef, undef, undef, undef, undef, .pointer (some ⟨w.heap.size, 0, none⟩), .agg (ev (s.a)), .pointer (some ⟨w.heap.size, 4, none⟩), .agg (ev (s.b)), undef, .pointer (some ⟨w.heap.size, 0, none⟩), .agg (ev (s.a)), .pointer (some ⟨w.heap.size, 4, none⟩), .agg (ev (s.b)), undef, undef, undef, undef, undef, undef, undef, undef, undef, undef, undef, undef, undef, undef, undef, undef, undef, undef, undef, undef, undef, undef, undef, undef, undef, undef, undef, undef, undef, undef, undef, undef, undef, undef, undef, undef, undef, undef, undef, undef, undef, undef, undef], defers := [] } W := by
        as_aux_lemma =>
          clear st1_ st1_11 st2_ st1_1011 st2_11 st2_10 st2_1011
          intro g5 W hHeld K10 Z10
          rw [← hops]
          refine wpAnyH_ready (rs := [4, 11]) (by kernel_rfl) (by simp) (AllReadyH.cons rfl (fun K hK => ?_) (AllReadyH.cons rfl (fun K hK => ?_) AllReadyH.nil))
          · have KH10 := Lib.hid K10
            have h0 := hHeld
            clear hHeld
            try simp only [List.getElem_toArray, List.getElem_cons_succ, List.getElem_cons_zero]
            have H0 := Lib.hid h0
            clear h0
            go_simp
            go_at_call 35
            refine (addR H_su.out _ (HPG.out.ext H0.out.below)).mono ?_
            rintro e vv ⟨rfl, hb⟩
            have KJ10 := Lib.hid (KH10.out.below hb KH10.out.lt)
            have h1 := H0.out.ext hb
            clear hb H0
            go_wp2_with (fail)
            refine hK.out _ _ h1 (fun hHeld => ?_)
            clear hK K h1
            try simp only [Act.put, List.getElem_toArray, List.getElem_cons_succ, List.getElem_cons_zero, List.setIfInBounds_toArray, List.set_cons_zero, List.set_cons_succ]
            have k10 := KJ10.out
            have z10 := Z10
            refine wpAnyH_cast (n' := 4) (l' := #[true, true, true, true, true, true, true, true, true, false, true, false, false, false]) (by kernel_rfl) (by kernel_rfl) ?_
            have hh := st1_10 g5 _ hHeld k10 z10
            rw [← hops] at hh
            exact hh
          · have h0 := hHeld
            clear hHeld
            try simp only [List.getElem_toArray, List.getElem_cons_succ, List.getElem_cons_zero]
            obtain ⟨kz, hg⟩ := Fn.fresh h0 27 #[.int .u64 0, .int .u64 0, .int .u64 0, .int .u64 0]
            have KZ := Lib.hid kz
            have HG := Lib.hid hg
            have H0 := Lib.hid h0
            clear kz hg h0
            have KH10 := Lib.hid K10
            go_simp
            refine hK.out _ _ (Fn.pass H0.out _) (fun hHeld => ?_)
            clear hK K H0
            try simp only [Act.put, List.getElem_toArray, List.getElem_cons_succ, List.getElem_cons_zero, List.setIfInBounds_toArray, List.set_cons_zero, List.set_cons_succ]
            have k10 := KH10.out.alloc (.cells #[.int .u64 0, .int .u64 0, .int .u64 0, .int .u64 0] 27)
            have z10 := Z10
            have k11 := KZ.out
            have z11 := HG.out
            refine wpAnyH_cast (n' := 4) (l' := #[true, true, true, true, false, true, true, true, true, false, true, true, false, false]) (by kernel_rfl) (by kernel_rfl) ?_
            have hh := st0_1011 g5 _ _ hHeld k10 z10 k11 z11 (Nat.ne_of_lt K10.lt)
            rw [← hops] at hh
            exact hh
      have st0_11 : ∀ (g6 : Nat) (W : World), Fn wx W [(w.heap.size + 1, 27, ev x), (w.heap.size, 109, sv s)] → Blk W g6 27 #[.int .u64 0, .int .u64 0, .int .u64 0, .int .u64 0] → wx.heap.size ≤ g6 → wpAnyH Tryd.prog .any ops Q (fun W => Fn wx W [(w.heap.size + 1, 27, ev x), (w.heap.size, 109, sv s)]) 5 #[true, true, true, true, false, true, true, true, true, false, false, true, false, false] { tmps := #[.agg (sv s), .agg (ev x), .pointer (some ⟨w.heap.size, 0, none⟩), .pointer (some ⟨w.heap.size + 1, 0, none⟩), .pointer (some ⟨w.heap.size + 1 + 1, 0, none⟩), undef, .pointer (some ⟨g6, 0, none⟩), undef, undef, undef, undef, undef, .pointer (some ⟨w.heap.size, 0, none⟩), .agg (ev (s.a)), .pointer (some ⟨w.heap.size, 4, none⟩), .agg (ev (s.b)), undef, .pointer (some ⟨w.heap.size, 0, none⟩), .agg (ev (s.a)), .pointer (some ⟨w.heap.size, 4, none⟩), .agg (ev (s.b)), undef, undef, undef, undef, undef, undef, undef, undef, undef, undef, undef, undef, undef, undef, undef, undef, undef, undef, undef, undef, undef, undef, undef, undef, undef, undef, undef, undef, undef, undef, undef, undef, undef, undef, undef, undef, undef, undef, undef, undef, undef, undef, undef], defers := [] } W := by
        as_aux_lemma =>
          clear st0_10 st1_ st1_10 st2_ st1_1011 st2_11 st2_10 st2_1011
          intro g6 W hHeld K11 Z11
          rw [← hops]
          refine wpAnyH_ready (rs := [4, 10]) (by kernel_rfl) (by simp) (AllReadyH.cons rfl (fun K hK => ?_) (AllReadyH.cons rfl (fun K hK => ?_) AllReadyH.nil))
          · have KH11 := Lib.hid K11
            have h0 := hHeld
            clear hHeld
            try simp only [List.getElem_toArray, List.getElem_cons_succ, List.getElem_cons_zero]
            have H0 := Lib.hid h0
            clear h0
            go_simp
            go_at_call 35
            refine (addR H_su.out _ (HPG.out.ext H0.out.below)).mono ?_
            rintro e vv ⟨rfl, hb⟩
            have KJ11 := Lib.hid (KH11.out.below hb KH11.out.lt)
            have h1 := H0.out.ext hb
            clear hb H0
            go_wp2_with (fail)
            refine hK.out _ _ h1 (fun hHeld => ?_)
            clear hK K h1
            try simp only [Act.put, List.getElem_toArray, List.getElem_cons_succ, List.getElem_cons_zero, List.setIfInBounds_toArray, List.set_cons_zero, List.set_cons_succ]
            have k11 := KJ11.out
            have z11 := Z11
            refine wpAnyH_cast (n' := 4) (l' := #[true, true, true, true, true, true, true, true, true, false, false, true, false, false]) (by kernel_rfl) (by kernel_rfl) ?_
            have hh := st1_11 g6 _ hHeld k11 z11
            rw [← hops] at hh
            exact hh
          · have h0 := hHeld
            clear hHeld
            try simp only [List.getElem_toArray, List.getElem_cons_succ, List.getElem_cons_zero]
            obtain ⟨kz, hg⟩ := Fn.fresh h0 27 #[.int .u64 0, .int .u64 0, .int .u64 0, .int .u64 0]
            have KZ := Lib.hid kz
            have HG := Lib.hid hg
            have H0 := Lib.hid h0
            clear kz hg h0
            have KH11 := Lib.hid K11
            go_simp
            refine hK.out _ _ (Fn.pass H0.out _) (fun hHeld => ?_)
            clear hK K H0
            try simp only [Act.put, List.getElem_toArray, List.getElem_cons_succ, List.getElem_cons_zero, List.setIfInBounds_toArray, List.set_cons_zero, List.set_cons_succ]
            have k11 := KH11.out.alloc (.cells #[.int .u64 0, .int .u64 0, .int .u64 0, .int .u64 0] 27)
            have z11 := Z11
            have k10 := KZ.out
            have z10 := HG.out
            refine wpAnyH_cast (n' := 4) (l' := #[true, true, true, true, false, true, true, true, true, false, true, true, false, false]) (by kernel_rfl) (by kernel_rfl) ?_
            have hh := st0_1011 _ g6 _ hHeld k10 z10 k11 z11 (Ne.symm (Nat.ne_of_lt K11.lt))
            rw [← hops] at hh
            exact hh
      have st0_ : ∀ (W : World), Fn wx W [(w.heap.size + 1, 27, ev x), (w.heap.size, 109, sv s)] → wpAnyH Tryd.prog .any ops Q (fun W => Fn wx W [(w.heap.size + 1, 27, ev x), (w.heap.size, 109, sv s)]) 6 #[true, true, true, true, false, true, true, true, true, false, false, false, false, false] { tmps := #[.agg (sv s), .agg (ev x), .pointer (some ⟨w.heap.size, 0, none⟩), .pointer (some ⟨w.heap.size + 1, 0, none⟩), .pointer (some ⟨w.heap.size + 1 + 1, 0, none⟩), undef, undef, undef, undef, undef, undef, undef, .pointer (some ⟨w.heap.size, 0, none⟩), .agg (ev (s.a)), .pointer (some ⟨w.heap.size, 4, none⟩), .agg (ev (s.b)), undef, .pointer (some ⟨w.heap.size, 0, none⟩), .agg (ev (s.a)), .pointer (some ⟨w.heap.size, 4, none⟩), .agg (ev (s.b)), undef, undef, undef, undef, undef, undef, undef, undef, undef, undef, undef, undef, undef, undef, undef, undef, undef, undef, undef, undef, undef, undef, undef, undef, undef, undef, undef, undef, undef, undef, undef, undef, undef, undef, undef, undef, undef, undef, undef, undef, undef, undef, undef], defers := [] } W := by
        as_aux_lemma =>
          clear st0_1011 st1_11 st1_10 st2_ st1_1011 st2_11 st2_10 st2_1011
          intro W hHeld
          rw [← hops]
          refine wpAnyH_ready (rs := [4, 10, 11]) (by kernel_rfl) (by simp) (AllReadyH.cons rfl (fun K hK => ?_) (AllReadyH.cons rfl (fun K hK => ?_) (AllReadyH.cons rfl (fun K hK => ?_) AllReadyH.nil)))
          · have h0 := hHeld
            clear hHeld
            try simp only [List.getElem_toArray, List.getElem_cons_succ, List.getElem_cons_zero]
            have H0 := Lib.hid h0
            clear h0
            go_simp
            go_at_call 35
            refine (addR H_su.out _ (HPG.out.ext H0.out.below)).mono ?_
            rintro e vv ⟨rfl, hb⟩
            have h1 := H0.out.ext hb
            clear hb H0
            go_wp2_with (fail)
            refine hK.out _ _ h1 (fun hHeld => ?_)
            clear hK K h1
            try simp only [Act.put, List.getElem_toArray, List.getElem_cons_succ, List.getElem_cons_zero, List.setIfInBounds_toArray, List.set_cons_zero, List.set_cons_succ]
            refine wpAnyH_cast (n' := 5) (l' := #[true, true, true, true, true, true, true, true, true, false, false, false, false, false]) (by kernel_rfl) (by kernel_rfl) ?_
            have hh := st1_ _ hHeld
            rw [← hops] at hh
            exact hh
          · have h0 := hHeld
            clear hHeld
            try simp only [List.getElem_toArray, List.getElem_cons_succ, List.getElem_cons_zero]
            obtain ⟨kz, hg⟩ := Fn.fresh h0 27 #[.int .u64 0, .int .u64 0, .int .u64 0, .int .u64 0]
            have KZ := Lib.hid kz
            have HG := Lib.hid hg
            have H0 := Lib.hid h0
            clear kz hg h0
            go_simp
            refine hK.out _ _ (Fn.pass H0.out _) (fun hHeld => ?_)
            clear hK K H0
            try simp only [Act.put, List.getElem_toArray, List.getElem_cons_succ, List.getElem_cons_zero, List.setIfInBounds_toArray, List.set_cons_zero, List.set_cons_succ]
            have k10 := KZ.out
            have z10 := HG.out
            refine wpAnyH_cast (n' := 5) (l' := #[true, true, true, true, false, true, true, true, true, false, true, false, false, false]) (by kernel_rfl) (by kernel_rfl) ?_
            have hh := st0_10 _ _ hHeld k10 z10
            rw [← hops] at hh
            exact hh
          · have h0 := hHeld
            clear hHeld
            try simp only [List.getElem_toArray, List.getElem_cons_succ, List.getElem_cons_zero]
            obtain ⟨kz, hg⟩ := Fn.fresh h0 27 #[.int .u64 0, .int .u64 0, .int .u64 0, .int .u64 0]
            have KZ := Lib.hid kz
            have HG := Lib.hid hg
            have H0 := Lib.hid h0
            clear kz hg h0
            go_simp
            refine hK.out _ _ (Fn.pass H0.out _) (fun hHeld => ?_)
            clear hK K H0
            try simp only [Act.put, List.getElem_toArray, List.getElem_cons_succ, List.getElem_cons_zero, List.setIfInBounds_toArray, List.set_cons_zero, List.set_cons_succ]
            have k11 := KZ.out
            have z11 := HG.out
            refine wpAnyH_cast (n' := 5) (l' := #[true, true, true, true, false, true, true, true, true, false, false, true, false, false]) (by kernel_rfl) (by kernel_rfl) ?_
            have hh := st0_11 _ _ hHeld k11 z11
            rw [← hops] at hh
            exact hh
      refine wpAnyH_cast (n' := 6) (l' := #[true, true, true, true, false, true, true, true, true, false, false, false, false, false]) (by kernel_rfl) (by kernel_rfl) ?_
      exact st0_ _ hHeld
  case rest =>
    as_aux_lemma =>
      obtain ⟨g5, g6, rfl, rfl, k5, k6, hb⟩ := hcut
      have n5 : g5 ≠ w.heap.size + 1 + 1 := by
        intro e
        obtain ⟨cs, _, kk⟩ := (HF.out.ext hb).old (g := w.heap.size + 1 + 1) (t := 109) (n := 16) (by simp)
        rw [← e] at kk
        exact absurd (k5.inj kk).1 (by decide)
      have n6 : g6 ≠ w.heap.size + 1 + 1 := by
        intro e
        obtain ⟨cs, _, kk⟩ := (HF.out.ext hb).old (g := w.heap.size + 1 + 1) (t := 109) (n := 16) (by simp)
        rw [← e] at kk
        exact absurd (k6.inj kk).1 (by decide)
      have hf2 := (((HF.out.ext hb).more k5).more k6)
      have hpg2 := HPG.out.ext hb
      clear HF HPG hb k5 k6
      have HF := Lib.hid hf2
      have HPG := Lib.hid hpg2
      clear hf2 hpg2
      obtain ⟨wy, hwc0⟩ : ∃ wz : World, wz = wc := ⟨_, rfl⟩
      rw [← hwc0] at HF HPG ⊢
      clear hwc0
      go_wp2_with (fail)
      go_cut [7, 8] (fun s7 s8 wz => ∃ g7 g8 : Nat, s7 = .pointer (some ⟨g7, 0, none⟩) ∧ s8 = .pointer (some ⟨g8, 0, none⟩) ∧ Blk wz g7 27 (ev u) ∧ Blk wz g8 27 (ev v) ∧ Below wy.heap.size wy wz)
      case first =>
        as_aux_lemma =>
          have hn := (HF.out.now.sub (L' := [(g6, 27, ev le), (g5, 27, ev su), (w.heap.size + 1, 27, ev x), (w.heap.size, 109, sv s)]) (by simp))
          have HN := Lib.hid hn
          clear hn
          refine wp_region_held_drew (S := fun W => Fn wy W [(g6, 27, ev le), (g5, 27, ev su), (w.heap.size + 1, 27, ev x), (w.heap.size, 109, sv s)]) (by kernel_rfl) ?_ (fun hHeld => ?_)
          · exact HN.out.drew
          refine wpAnyH_take (i := 0) (v := .agg (ev su)) rfl (by kernel_rfl) (by kernel_rfl) (by kernel_rfl) (fun _ _ _ h => h) (yields_row (by rfl) 27 (.tmp 5) rfl (g5) rfl 27 (ev su) _ (fun W (h : Fn _ W _) => h.get (by simp)) Tryd.underlying27 rfl (info_ev _)) hHeld ?_
          try simp only [Act.put, List.getElem_toArray, List.getElem_cons_succ, List.getElem_cons_zero, List.setIfInBounds_toArray, List.set_cons_zero, List.set_cons_succ]
          refine wpAnyH_take (i := 2) (v := .agg (ev le)) rfl (by kernel_rfl) (by kernel_rfl) (by kernel_rfl) (fun _ _ _ h => h) (yields_row (by rfl) 27 (.tmp 6) rfl (g6) rfl 27 (ev le) _ (fun W (h : Fn _ W _) => h.get (by simp)) Tryd.underlying27 rfl (info_ev _)) hHeld ?_
          try simp only [Act.put, List.getElem_toArray, List.getElem_cons_succ, List.getElem_cons_zero, List.setIfInBounds_toArray, List.set_cons_zero, List.set_cons_succ]
          refine wpAnyH_name ?_
          intro ops Q hops hQ
          have st2_45 : ∀ (g7 g8 : Nat) (W : World), Fn wy W [(g6, 27, ev le), (g5, 27, ev su), (w.heap.size + 1, 27, ev x), (w.heap.size, 109, sv s)] → Blk W g7 27 #[.int .u64 0, .int .u64 0, .int .u64 0, .int .u64 0] → wy.heap.size ≤ g7 → Blk W g8 27 #[.int .u64 0, .int .u64 0, .int .u64 0, .int .u64 0] → wy.heap.size ≤ g8 → g7 ≠ g8 → wpAnyH Tryd.prog .any ops Q (fun W => Fn wy W [(g6, 27, ev le), (g5, 27, ev su), (w.heap.size + 1, 27, ev x), (w.heap.size, 109, sv s)]) 2 #[true, true, true, true, true, true, false, false] { tmps := #[.agg (sv s), .agg (ev x), .pointer (some ⟨w.heap.size, 0, none⟩), .pointer (some ⟨w.heap.size + 1, 0, none⟩), .pointer (some ⟨w.heap.size + 1 + 1, 0, none⟩), .pointer (some ⟨g5, 0, none⟩), .pointer (some ⟨g6, 0, none⟩), .pointer (some ⟨g7, 0, none⟩), .pointer (some ⟨g8, 0, none⟩), undef, undef, undef, u12, u13, u14, u15, u16, u17, u18, u19, u20, u21, .agg (ev su), .agg (ev u), .agg (ev le), .agg (ev v), u26, u27, u28, u29, u30, u31, u32, u33, u34, u35, u36, u37, u38, u39, u40, u41, u42, u43, u44, u45, u46, u47, u48, u49, u50, u51, u52, u53, u54, u55, u56, u57, u58, u59, u60, u61, u62, u63], defers := [] } W := by
            as_aux_lemma =>
              intro g7 g8 W hHeld K4 Z4 K5 Z5 n4_5
              rw [← hops]
              rw [← hQ]
              have KK4 := Lib.hid K4
              clear K4
              have KK5 := Lib.hid K5
              clear K5
              refine wpAnyH_ready (rs := [6]) (by kernel_rfl) (by simp) (AllReadyH.cons rfl (fun K hK => ?_) AllReadyH.nil)
              have h0 := hHeld
              clear hHeld
              try simp only [List.getElem_toArray, List.getElem_cons_succ, List.getElem_cons_zero]
              rw [if_pos (by rfl)]
              refine wp_store_row 27 (.tmp 7) (.tmp 23) rfl g7 (ev u) rfl rfl 27 _ KK4.out (info_ev _) rfl (ev_one _) ?_
              refine hK.out _ _ (Fn.setFresh h0 Z4 _) (fun hHeld => ?_)
              have J4 := Lib.hid (KK4.out.setRow_same (ev u))
              clear KK4
              have KK4 := J4
              clear J4
              have J5 := Lib.hid (KK5.out.setRow_other (Ne.symm n4_5) (ev u))
              clear KK5
              have KK5 := J5
              clear J5
              clear hK K h0
              try simp only [Act.put, List.getElem_toArray, List.getElem_cons_succ, List.getElem_cons_zero, List.setIfInBounds_toArray, List.set_cons_zero, List.set_cons_succ]
              refine wpAnyH_ready (rs := [7]) (by kernel_rfl) (by simp) (AllReadyH.cons rfl (fun K hK => ?_) AllReadyH.nil)
              have h0 := hHeld
              clear hHeld
              try simp only [List.getElem_toArray, List.getElem_cons_succ, List.getElem_cons_zero]
              rw [if_pos (by rfl)]
              refine wp_store_row 27 (.tmp 8) (.tmp 25) rfl g8 (ev v) rfl rfl 27 _ KK5.out (info_ev _) rfl (ev_one _) ?_
              refine hK.out _ _ (Fn.setFresh h0 Z5 _) (fun hHeld => ?_)
              have J5 := Lib.hid (KK5.out.setRow_same (ev v))
              clear KK5
              have KK5 := J5
              clear J5
              have J4 := Lib.hid (KK4.out.setRow_other n4_5 (ev v))
              clear KK4
              have KK4 := J4
              clear J4
              clear hK K h0
              try simp only [Act.put, List.getElem_toArray, List.getElem_cons_succ, List.getElem_cons_zero, List.setIfInBounds_toArray, List.set_cons_zero, List.set_cons_succ]
              refine wpAnyH_done (by kernel_rfl) ?_ _
              have HB := Lib.hid hHeld.below
              clear hHeld
              go_wp2_with (fail)
              go_meet
              exact ⟨g7, g8, rfl, rfl, KK4.out, KK5.out, HB.out⟩
          have st2_4 : ∀ (g7 : Nat) (W : World), Fn wy W [(g6, 27, ev le), (g5, 27, ev su), (w.heap.size + 1, 27, ev x), (w.heap.size, 109, sv s)] → Blk W g7 27 #[.int .u64 0, .int .u64 0, .int .u64 0, .int .u64 0] → wy.heap.size ≤ g7 → wpAnyH Tryd.prog .any ops Q (fun W => Fn wy W [(g6, 27, ev le), (g5, 27, ev su), (w.heap.size + 1, 27, ev x), (w.heap.size, 109, sv s)]) 3 #[true, true, true, true, true, false, false, false] { tmps := #[.agg (sv s), .agg (ev x), .pointer (some ⟨w.heap.size, 0, none⟩), .pointer (some ⟨w.heap.size + 1, 0, none⟩), .pointer (some ⟨w.heap.size + 1 + 1, 0, none⟩), .pointer (some ⟨g5, 0, none⟩), .pointer (some ⟨g6, 0, none⟩), .pointer (some ⟨g7, 0, none⟩), undef, undef, undef, undef, u12, u13, u14, u15, u16, u17, u18, u19, u20, u21, .agg (ev su), .agg (ev u), .agg (ev le), .agg (ev v), u26, u27, u28, u29, u30, u31, u32, u33, u34, u35, u36, u37, u38, u39, u40, u41, u42, u43, u44, u45, u46, u47, u48, u49, u50, u51, u52, u53, u54, u55, u56, u57, u58, u59, u60, u61, u62, u63], defers := [] } W := by
            as_aux_lemma =>
              intro g7 W hHeld K4 Z4
              rw [← hops]
              refine wpAnyH_ready (rs := [5]) (by kernel_rfl) (by simp) (AllReadyH.cons rfl (fun K hK => ?_) AllReadyH.nil)
              have h0 := hHeld
              clear hHeld
              try simp only [List.getElem_toArray, List.getElem_cons_succ, List.getElem_cons_zero]
              obtain ⟨kz, hg⟩ := Fn.fresh h0 27 #[.int .u64 0, .int .u64 0, .int .u64 0, .int .u64 0]
              have KZ := Lib.hid kz
              have HG := Lib.hid hg
              have H0 := Lib.hid h0
              clear kz hg h0
              have KH4 := Lib.hid K4
              go_simp
              refine hK.out _ _ (Fn.pass H0.out _) (fun hHeld => ?_)
              clear hK K H0
              try simp only [Act.put, List.getElem_toArray, List.getElem_cons_succ, List.getElem_cons_zero, List.setIfInBounds_toArray, List.set_cons_zero, List.set_cons_succ]
              have k4 := KH4.out.alloc (.cells #[.int .u64 0, .int .u64 0, .int .u64 0, .int .u64 0] 27)
              have z4 := Z4
              have k5 := KZ.out
              have z5 := HG.out
              refine wpAnyH_cast (n' := 2) (l' := #[true, true, true, true, true, true, false, false]) (by kernel_rfl) (by kernel_rfl) ?_
              have hh := st2_45 g7 _ _ hHeld k4 z4 k5 z5 (Nat.ne_of_lt K4.lt)
              rw [← hops] at hh
              exact hh
          have st2_5 : ∀ (g8 : Nat) (W : World), Fn wy W [(g6, 27, ev le), (g5, 27, ev su), (w.heap.size + 1, 27, ev x), (w.heap.size, 109, sv s)] → Blk W g8 27 #[.int .u64 0, .int .u64 0, .int .u64 0, .int .u64 0] → wy.heap.size ≤ g8 → wpAnyH Tryd.prog .any ops Q (fun W => Fn wy W [(g6, 27, ev le), (g5, 27, ev su), (w.heap.size + 1, 27, ev x), (w.heap.size, 109, sv s)]) 3 #[true, true, true, true, false, true, false, false] { tmps := #[.agg (sv s), .agg (ev x), .pointer (some ⟨w.heap.size, 0, none⟩), .pointer (some ⟨w.heap.size + 1, 0, none⟩), .pointer (some ⟨w.heap.size + 1 + 1, 0, none⟩), .pointer (some ⟨g5, 0, none⟩), .pointer (some ⟨g6, 0, none⟩), undef, .pointer (some ⟨g8, 0, none⟩), undef, undef, undef, u12, u13, u14, u15, u16, u17, u18, u19, u20, u21, .agg (ev su), .agg (ev u), .agg (ev le), .agg (ev v), u26, u27, u28, u29, u30, u31, u32, u33, u34, u35, u36, u37, u38, u39, u40, u41, u42, u43, u44, u45, u46, u47, u48, u49, u50, u51, u52, u53, u54, u55, u56, u57, u58, u59, u60, u61, u62, u63], defers := [] } W := by
            as_aux_lemma =>
              clear st2_4
              intro g8 W hHeld K5 Z5
              rw [← hops]
              refine wpAnyH_ready (rs := [4]) (by kernel_rfl) (by simp) (AllReadyH.cons rfl (fun K hK => ?_) AllReadyH.nil)
              have h0 := hHeld
              clear hHeld
              try simp only [List.getElem_toArray, List.getElem_cons_succ, List.getElem_cons_zero]
              obtain ⟨kz, hg⟩ := Fn.fresh h0 27 #[.int .u64 0, .int .u64 0, .int .u64 0, .int .u64 0]
              have KZ := Lib.hid kz
              have HG := Lib.hid hg
              have H0 := Lib.hid h0
              clear kz hg h0
              have KH5 := Lib.hid K5
              go_simp
              refine hK.out _ _ (Fn.pass H0.out _) (fun hHeld => ?_)
              clear hK K H0
              try simp only [Act.put, List.getElem_toArray, List.getElem_cons_succ, List.getElem_cons_zero, List.setIfInBounds_toArray, List.set_cons_zero, List.set_cons_succ]
              have k5 := KH5.out.alloc (.cells #[.int .u64 0, .int .u64 0, .int .u64 0, .int .u64 0] 27)
              have z5 := Z5
              have k4 := KZ.out
              have z4 := HG.out
              refine wpAnyH_cast (n' := 2) (l' := #[true, true, true, true, true, true, false, false]) (by kernel_rfl) (by kernel_rfl) ?_
              have hh := st2_45 _ g8 _ hHeld k4 z4 k5 z5 (Ne.symm (Nat.ne_of_lt K5.lt))
              rw [← hops] at hh
              exact hh
          have st1_45 : ∀ (g7 g8 : Nat) (W : World), Fn wy W [(g6, 27, ev le), (g5, 27, ev su), (w.heap.size + 1, 27, ev x), (w.heap.size, 109, sv s)] → Blk W g7 27 #[.int .u64 0, .int .u64 0, .int .u64 0, .int .u64 0] → wy.heap.size ≤ g7 → Blk W g8 27 #[.int .u64 0, .int .u64 0, .int .u64 0, .int .u64 0] → wy.heap.size ≤ g8 → g7 ≠ g8 → wpAnyH Tryd.prog .any ops Q (fun W => Fn wy W [(g6, 27, ev le), (g5, 27, ev su), (w.heap.size + 1, 27, ev x), (w.heap.size, 109, sv s)]) 3 #[true, true, true, false, true, true, false, false] { tmps := #[.agg (sv s), .agg (ev x), .pointer (some ⟨w.heap.size, 0, none⟩), .pointer (some ⟨w.heap.size + 1, 0, none⟩), .pointer (some ⟨w.heap.size + 1 + 1, 0, none⟩), .pointer (some ⟨g5, 0, none⟩), .pointer (some ⟨g6, 0, none⟩), .pointer (some ⟨g7, 0, none⟩), .pointer (some ⟨g8, 0, none⟩), undef, undef, undef, u12, u13, u14, u15, u16, u17, u18, u19, u20, u21, .agg (ev su), .agg (ev u), .agg (ev le), u25, u26, u27, u28, u29, u30, u31, u32, u33, u34, u35, u36, u37, u38, u39, u40, u41, u42, u43, u44, u45, u46, u47, u48, u49, u50, u51, u52, u53, u54, u55, u56, u57, u58, u59, u60, u61, u62, u63], defers := [] } W := by
            as_aux_lemma =>
              clear st2_5 st2_4
              intro g7 g8 W hHeld K4 Z4 K5 Z5 n4_5
              rw [← hops]
              refine wpAnyH_ready (rs := [3]) (by kernel_rfl) (by simp) (AllReadyH.cons rfl (fun K hK => ?_) AllReadyH.nil)
              have KH4 := Lib.hid K4
              have KH5 := Lib.hid K5
              have h0 := hHeld
              clear hHeld
              try simp only [List.getElem_toArray, List.getElem_cons_succ, List.getElem_cons_zero]
              have H0 := Lib.hid h0
              clear h0
              go_simp
              go_at_call 75
              refine (squareR H_v.out _ (HPG.out.ext H0.out.below)).mono ?_
              rintro e vv ⟨rfl, hb⟩
              have KJ4 := Lib.hid (KH4.out.below hb KH4.out.lt)
              have KJ5 := Lib.hid (KH5.out.below hb KH5.out.lt)
              have h1 := H0.out.ext hb
              clear hb H0
              go_wp2_with (fail)
              refine hK.out _ _ h1 (fun hHeld => ?_)
              clear hK K h1
              try simp only [Act.put, List.getElem_toArray, List.getElem_cons_succ, List.getElem_cons_zero, List.setIfInBounds_toArray, List.set_cons_zero, List.set_cons_succ]
              have k4 := KJ4.out
              have k5 := KJ5.out
              have z4 := Z4
              have z5 := Z5
              refine wpAnyH_cast (n' := 2) (l' := #[true, true, true, true, true, true, false, false]) (by kernel_rfl) (by kernel_rfl) ?_
              have hh := st2_45 g7 g8 _ hHeld k4 z4 k5 z5 n4_5
              rw [← hops] at hh
              exact hh
          have st2_ : ∀ (W : World), Fn wy W [(g6, 27, ev le), (g5, 27, ev su), (w.heap.size + 1, 27, ev x), (w.heap.size, 109, sv s)] → wpAnyH Tryd.prog .any ops Q (fun W => Fn wy W [(g6, 27, ev le), (g5, 27, ev su), (w.heap.size + 1, 27, ev x), (w.heap.size, 109, sv s)]) 4 #[true, true, true, true, false, false, false, false] { tmps := #[.agg (sv s), .agg (ev x), .pointer (some ⟨w.heap.size, 0, none⟩), .pointer (some ⟨w.heap.size + 1, 0, none⟩), .pointer (some ⟨w.heap.size + 1 + 1, 0, none⟩), .pointer (some ⟨g5, 0, none⟩), .pointer (some ⟨g6, 0, none⟩), undef, undef, undef, undef, undef, u12, u13, u14, u15, u16, u17, u18, u19, u20, u21, .agg (ev su), .agg (ev u), .agg (ev le), .agg (ev v), u26, u27, u28, u29, u30, u31, u32, u33, u34, u35, u36, u37, u38, u39, u40, u41, u42, u43, u44, u45, u46, u47, u48, u49, u50, u51, u52, u53, u54, u55, u56, u57, u58, u59, u60, u61, u62, u63], defers := [] } W := by
            as_aux_lemma =>
              clear st1_45 st2_45
              intro W hHeld
              rw [← hops]
              refine wpAnyH_ready (rs := [4, 5]) (by kernel_rfl) (by simp) (AllReadyH.cons rfl (fun K hK => ?_) (AllReadyH.cons rfl (fun K hK => ?_) AllReadyH.nil))
              · have h0 := hHeld
                clear hHeld
                try simp only [List.getElem_toArray, List.getElem_cons_succ, List.getElem_cons_zero]
                obtain ⟨kz, hg⟩ := Fn.fresh h0 27 #[.int .u64 0, .int .u64 0, .int .u64 0, .int .u64 0]
                have KZ := Lib.hid kz
                have HG := Lib.hid hg
                have H0 := Lib.hid h0
                clear kz hg h0
                go_simp
                refine hK.out _ _ (Fn.pass H0.out _) (fun hHeld => ?_)
                clear hK K H0
                try simp only [Act.put, List.getElem_toArray, List.getElem_cons_succ, List.getElem_cons_zero, List.setIfInBounds_toArray, List.set_cons_zero, List.set_cons_succ]
                have k4 := KZ.out
                have z4 := HG.out
                refine wpAnyH_cast (n' := 3) (l' := #[true, true, true, true, true, false, false, false]) (by kernel_rfl) (by kernel_rfl) ?_
                have hh := st2_4 _ _ hHeld k4 z4
                rw [← hops] at hh
                exact hh
              · have h0 := hHeld
                clear hHeld
                try simp only [List.getElem_toArray, List.getElem_cons_succ, List.getElem_cons_zero]
                obtain ⟨kz, hg⟩ := Fn.fresh h0 27 #[.int .u64 0, .int .u64 0, .int .u64 0, .int .u64 0]
                have KZ := Lib.hid kz
                have HG := Lib.hid hg
                have H0 := Lib.hid h0
                clear kz hg h0
                go_simp
                refine hK.out _ _ (Fn.pass H0.out _) (fun hHeld => ?_)
                clear hK K H0
                try simp only [Act.put, List.getElem_toArray, List.getElem_cons_succ, List.getElem_cons_zero, List.setIfInBounds_toArray, List.set_cons_zero, List.set_cons_succ]
                have k5 := KZ.out
                have z5 := HG.out
                refine wpAnyH_cast (n' := 3) (l' := #[true, true, true, true, false, true, false, false]) (by kernel_rfl) (by kernel_rfl) ?_
                have hh := st2_5 _ _ hHeld k5 z5
                rw [← hops] at hh
                exact hh
          have st1_4 : ∀ (g7 : Nat) (W : World), Fn wy W [(g6, 27, ev le), (g5, 27, ev su), (w.heap.size + 1, 27, ev x), (w.heap.size, 109, sv s)] → Blk W g7 27 #[.int .u64 0, .int .u64 0, .int .u64 0, .int .u64 0] → wy.heap.size ≤ g7 → wpAnyH Tryd.prog .any ops Q (fun W => Fn wy W [(g6, 27, ev le), (g5, 27, ev su), (w.heap.size + 1, 27, ev x), (w.heap.size, 109, sv s)]) 4 #[true, true, true, false, true, false, false, false] { tmps := #[.agg (sv s), .agg (ev x), .pointer (some ⟨w.heap.size, 0, none⟩), .pointer (some ⟨w.heap.size + 1, 0, none⟩), .pointer (some ⟨w.heap.size + 1 + 1, 0, none⟩), .pointer (some ⟨g5, 0, none⟩), .pointer (some ⟨g6, 0, none⟩), .pointer (some ⟨g7, 0, none⟩), undef, undef, undef, undef, u12, u13, u14, u15, u16, u17, u18, u19, u20, u21, .agg (ev su), .agg (ev u), .agg (ev le), u25, u26, u27, u28, u29, u30, u31, u32, u33, u34, u35, u36, u37, u38, u39, u40, u41, u42, u43, u44, u45, u46, u47, u48, u49, u50, u51, u52, u53, u54, u55, u56, u57, u58, u59, u60, u61, u62, u63], defers := [] } W := by
            as_aux_lemma =>
              clear st2_ st2_5 st2_45
              intro g7 W hHeld K4 Z4
              rw [← hops]
              refine wpAnyH_ready (rs := [3, 5]) (by kernel_rfl) (by simp) (AllReadyH.cons rfl (fun K hK => ?_) (AllReadyH.cons rfl (fun K hK => ?_) AllReadyH.nil))
              · have KH4 := Lib.hid K4
                have h0 := hHeld
                clear hHeld
                try simp only [List.getElem_toArray, List.getElem_cons_succ, List.getElem_cons_zero]
                have H0 := Lib.hid h0
                clear h0
                go_simp
                go_at_call 75
                refine (squareR H_v.out _ (HPG.out.ext H0.out.below)).mono ?_
                rintro e vv ⟨rfl, hb⟩
                have KJ4 := Lib.hid (KH4.out.below hb KH4.out.lt)
                have h1 := H0.out.ext hb
                clear hb H0
                go_wp2_with (fail)
                refine hK.out _ _ h1 (fun hHeld => ?_)
                clear hK K h1
                try simp only [Act.put, List.getElem_toArray, List.getElem_cons_succ, List.getElem_cons_zero, List.setIfInBounds_toArray, List.set_cons_zero, List.set_cons_succ]
                have k4 := KJ4.out
                have z4 := Z4
                refine wpAnyH_cast (n' := 3) (l' := #[true, true, true, true, true, false, false, false]) (by kernel_rfl) (by kernel_rfl) ?_
                have hh := st2_4 g7 _ hHeld k4 z4
                rw [← hops] at hh
                exact hh
              · have h0 := hHeld
                clear hHeld
                try simp only [List.getElem_toArray, List.getElem_cons_succ, List.getElem_cons_zero]
                obtain ⟨kz, hg⟩ := Fn.fresh h0 27 #[.int .u64 0, .int .u64 0, .int .u64 0, .int .u64 0]
                have KZ := Lib.hid kz
                have HG := Lib.hid hg
                have H0 := Lib.hid h0
                clear kz hg h0
                have KH4 := Lib.hid K4
                go_simp
                refine hK.out _ _ (Fn.pass H0.out _) (fun hHeld => ?_)
                clear hK K H0
                try simp only [Act.put, List.getElem_toArray, List.getElem_cons_succ, List.getElem_cons_zero, List.setIfInBounds_toArray, List.set_cons_zero, List.set_cons_succ]
                have k4 := KH4.out.alloc (.cells #[.int .u64 0, .int .u64 0, .int .u64 0, .int .u64 0] 27)
                have z4 := Z4
                have k5 := KZ.out
                have z5 := HG.out
                refine wpAnyH_cast (n' := 3) (l' := #[true, true, true, false, true, true, false, false]) (by kernel_rfl) (by kernel_rfl) ?_
                have hh := st1_45 g7 _ _ hHeld k4 z4 k5 z5 (Nat.ne_of_lt K4.lt)
                rw [← hops] at hh
                exact hh
          have st1_5 : ∀ (g8 : Nat) (W : World), Fn wy W [(g6, 27, ev le), (g5, 27, ev su), (w.heap.size + 1, 27, ev x), (w.heap.size, 109, sv s)] → Blk W g8 27 #[.int .u64 0, .int .u64 0, .int .u64 0, .int .u64 0] → wy.heap.size ≤ g8 → wpAnyH Tryd.prog .any ops Q (fun W => Fn wy W [(g6, 27, ev le), (g5, 27, ev su), (w.heap.size + 1, 27, ev x), (w.heap.size, 109, sv s)]) 4 #[true, true, true, false, false, true, false, false] { tmps := #[.agg (sv s), .agg (ev x), .pointer (some ⟨w.heap.size, 0, none⟩), .pointer (some ⟨w.heap.size + 1, 0, none⟩), .pointer (some ⟨w.heap.size + 1 + 1, 0, none⟩), .pointer (some ⟨g5, 0, none⟩), .pointer (some ⟨g6, 0, none⟩), undef, .pointer (some ⟨g8, 0, none⟩), undef, undef, undef, u12, u13, u14, u15, u16, u17, u18, u19, u20, u21, .agg (ev su), .agg (ev u), .agg (ev le), u25, u26, u27, u28, u29, u30, u31, u32, u33, u34, u35, u36, u37, u38, u39, u40, u41, u42, u43, u44, u45, u46, u47, u48, u49, u50, u51, u52, u53, u54, u55, u56, u57, u58, u59, u60, u61, u62, u63], defers := [] } W := by
            as_aux_lemma =>
              clear st1_4 st2_ st2_4 st2_45
              intro g8 W hHeld K5 Z5
              rw [← hops]
              refine wpAnyH_ready (rs := [3, 4]) (by kernel_rfl) (by simp) (AllReadyH.cons rfl (fun K hK => ?_) (AllReadyH.cons rfl (fun K hK => ?_) AllReadyH.nil))
              · have KH5 := Lib.hid K5
                have h0 := hHeld
                clear hHeld
                try simp only [List.getElem_toArray, List.getElem_cons_succ, List.getElem_cons_zero]
                have H0 := Lib.hid h0
                clear h0
                go_simp
                go_at_call 75
                refine (squareR H_v.out _ (HPG.out.ext H0.out.below)).mono ?_
                rintro e vv ⟨rfl, hb⟩
                have KJ5 := Lib.hid (KH5.out.below hb KH5.out.lt)
                have h1 := H0.out.ext hb
                clear hb H0
                go_wp2_with (fail)
                refine hK.out _ _ h1 (fun hHeld => ?_)
                clear hK K h1
                try simp only [Act.put, List.getElem_toArray, List.getElem_cons_succ, List.getElem_cons_zero, List.setIfInBounds_toArray, List.set_cons_zero, List.set_cons_succ]
                have k5 := KJ5.out
                have z5 := Z5
                refine wpAnyH_cast (n' := 3) (l' := #[true, true, true, true, false, true, false, false]) (by kernel_rfl) (by kernel_rfl) ?_
                have hh := st2_5 g8 _ hHeld k5 z5
                rw [← hops] at hh
                exact hh
              · have h0 := hHeld
                clear hHeld
                try simp only [List.getElem_toArray, List.getElem_cons_succ, List.getElem_cons_zero]
                obtain ⟨kz, hg⟩ := Fn.fresh h0 27 #[.int .u64 0, .int .u64 0, .int .u64 0, .int .u64 0]
                have KZ := Lib.hid kz
                have HG := Lib.hid hg
                have H0 := Lib.hid h0
                clear kz hg h0
                have KH5 := Lib.hid K5
                go_simp
                refine hK.out _ _ (Fn.pass H0.out _) (fun hHeld => ?_)
                clear hK K H0
                try simp only [Act.put, List.getElem_toArray, List.getElem_cons_succ, List.getElem_cons_zero, List.setIfInBounds_toArray, List.set_cons_zero, List.set_cons_succ]
                have k5 := KH5.out.alloc (.cells #[.int .u64 0, .int .u64 0, .int .u64 0, .int .u64 0] 27)
                have z5 := Z5
                have k4 := KZ.out
                have z4 := HG.out
                refine wpAnyH_cast (n' := 3) (l' := #[true, true, true, false, true, true, false, false]) (by kernel_rfl) (by kernel_rfl) ?_
                have hh := st1_45 _ g8 _ hHeld k4 z4 k5 z5 (Ne.symm (Nat.ne_of_lt K5.lt))
                rw [← hops] at hh
                exact hh
          have st0_45 : ∀ (g7 g8 : Nat) (W : World), Fn wy W [(g6, 27, ev le), (g5, 27, ev su), (w.heap.size + 1, 27, ev x), (w.heap.size, 109, sv s)] → Blk W g7 27 #[.int .u64 0, .int .u64 0, .int .u64 0, .int .u64 0] → wy.heap.size ≤ g7 → Blk W g8 27 #[.int .u64 0, .int .u64 0, .int .u64 0, .int .u64 0] → wy.heap.size ≤ g8 → g7 ≠ g8 → wpAnyH Tryd.prog .any ops Q (fun W => Fn wy W [(g6, 27, ev le), (g5, 27, ev su), (w.heap.size + 1, 27, ev x), (w.heap.size, 109, sv s)]) 4 #[true, false, true, false, true, true, false, false] { tmps := #[.agg (sv s), .agg (ev x), .pointer (some ⟨w.heap.size, 0, none⟩), .pointer (some ⟨w.heap.size + 1, 0, none⟩), .pointer (some ⟨w.heap.size + 1 + 1, 0, none⟩), .pointer (some ⟨g5, 0, none⟩), .pointer (some ⟨g6, 0, none⟩), .pointer (some ⟨g7, 0, none⟩), .pointer (some ⟨g8, 0, none⟩), undef, undef, undef, u12, u13, u14, u15, u16, u17, u18, u19, u20, u21, .agg (ev su), u23, .agg (ev le), u25, u26, u27, u28, u29, u30, u31, u32, u33, u34, u35, u36, u37, u38, u39, u40, u41, u42, u43, u44, u45, u46, u47, u48, u49, u50, u51, u52, u53, u54, u55, u56, u57, u58, u59, u60, u61, u62, u63], defers := [] } W := by
            as_aux_lemma =>
              clear st1_5 st1_4 st2_ st2_5 st2_4 st2_45
              intro g7 g8 W hHeld K4 Z4 K5 Z5 n4_5
              rw [← hops]
              refine wpAnyH_ready (rs := [1]) (by kernel_rfl) (by simp) (AllReadyH.cons rfl (fun K hK => ?_) AllReadyH.nil)
              have KH4 := Lib.hid K4
              have KH5 := Lib.hid K5
              have h0 := hHeld
              clear hHeld
              try simp only [List.getElem_toArray, List.getElem_cons_succ, List.getElem_cons_zero]
              have H0 := Lib.hid h0
              clear h0
              go_simp
              go_at_call 75
              refine (squareR H_u.out _ (HPG.out.ext H0.out.below)).mono ?_
              rintro e vv ⟨rfl, hb⟩
              have KJ4 := Lib.hid (KH4.out.below hb KH4.out.lt)
              have KJ5 := Lib.hid (KH5.out.below hb KH5.out.lt)
              have h1 := H0.out.ext hb
              clear hb H0
              go_wp2_with (fail)
              refine hK.out _ _ h1 (fun hHeld => ?_)
              clear hK K h1
              try simp only [Act.put, List.getElem_toArray, List.getElem_cons_succ, List.getElem_cons_zero, List.setIfInBounds_toArray, List.set_cons_zero, List.set_cons_succ]
              have k4 := KJ4.out
              have k5 := KJ5.out
              have z4 := Z4
              have z5 := Z5
              refine wpAnyH_cast (n' := 3) (l' := #[true, true, true, false, true, true, false, false]) (by kernel_rfl) (by kernel_rfl) ?_
              have hh := st1_45 g7 g8 _ hHeld k4 z4 k5 z5 n4_5
              rw [← hops] at hh
              exact hh
          have st1_ : ∀ (W : World), Fn wy W [(g6, 27, ev le), (g5, 27, ev su), (w.heap.size + 1, 27, ev x), (w.heap.size, 109, sv s)] → wpAnyH Tryd.prog .any ops Q (fun W => Fn wy W [(g6, 27, ev le), (g5, 27, ev su), (w.heap.size + 1, 27, ev x), (w.heap.size, 109, sv s)]) 5 #[true, true, true, false, false, false, false, false] { tmps := #[.agg (sv s), .agg (ev x), .pointer (some ⟨w.heap.size, 0, none⟩), .pointer (some ⟨w.heap.size + 1, 0, none⟩), .pointer (some ⟨w.heap.size + 1 + 1, 0, none⟩), .pointer (some ⟨g5, 0, none⟩), .pointer (some ⟨g6, 0, none⟩), undef, undef, undef, undef, undef, u12, u13, u14, u15, u16, u17, u18, u19, u20, u21, .agg (ev su), .agg (ev u), .agg (ev le), u25, u26, u27, u28, u29, u30, u31, u32, u33, u34, u35, u36, u37, u38, u39, u40, u41, u42, u43, u44, u45, u46, u47, u48, u49, u50, u51, u52, u53, u54, u55, u56, u57, u58, u59, u60, u61, u62, u63], defers := [] } W := by
            as_aux_lemma =>
              clear st0_45 st1_45 st2_5 st2_4 st2_45
              intro W hHeld
              rw [← hops]
              refine wpAnyH_ready (rs := [3, 4, 5]) (by kernel_rfl) (by simp) (AllReadyH.cons rfl (fun K hK => ?_) (AllReadyH.cons rfl (fun K hK => ?_) (AllReadyH.cons rfl (fun K hK => ?_) AllReadyH.nil)))
              · have h0 := hHeld
                clear hHeld
                try simp only [List.getElem_toArray, List.getElem_cons_succ, List.getElem_cons_zero]
                have H0 := Lib.hid h0
                clear h0
                go_simp
                go_at_call 75
                refine (squareR H_v.out _ (HPG.out.ext H0.out.below)).mono ?_
                rintro e vv ⟨rfl, hb⟩
                have h1 := H0.out.ext hb
                clear hb H0
                go_wp2_with (fail)
                refine hK.out _ _ h1 (fun hHeld => ?_)
                clear hK K h1
                try simp only [Act.put, List.getElem_toArray, List.getElem_cons_succ, List.getElem_cons_zero, List.setIfInBounds_toArray, List.set_cons_zero, List.set_cons_succ]
                refine wpAnyH_cast (n' := 4) (l' := #[true, true, true, true, false, false, false, false]) (by kernel_rfl) (by kernel_rfl) ?_
                have hh := st2_ _ hHeld
                rw [← hops] at hh
                exact hh
              · have h0 := hHeld
                clear hHeld
                try simp only [List.getElem_toArray, List.getElem_cons_succ, List.getElem_cons_zero]
                obtain ⟨kz, hg⟩ := Fn.fresh h0 27 #[.int .u64 0, .int .u64 0, .int .u64 0, .int .u64 0]
                have KZ := Lib.hid kz
                have HG := Lib.hid hg
                have H0 := Lib.hid h0
                clear kz hg h0
                go_simp
                refine hK.out _ _ (Fn.pass H0.out _) (fun hHeld => ?_)
                clear hK K H0
                try simp only [Act.put, List.getElem_toArray, List.getElem_cons_succ, List.getElem_cons_zero, List.setIfInBounds_toArray, List.set_cons_zero, List.set_cons_succ]
                have k4 := KZ.out
                have z4 := HG.out
                refine wpAnyH_cast (n' := 4) (l' := #[true, true, true, false, true, false, false, false]) (by kernel_rfl) (by kernel_rfl) ?_
                have hh := st1_4 _ _ hHeld k4 z4
                rw [← hops] at hh
                exact hh
              · have h0 := hHeld
                clear hHeld
                try simp only [List.getElem_toArray, List.getElem_cons_succ, List.getElem_cons_zero]
                obtain ⟨kz, hg⟩ := Fn.fresh h0 27 #[.int .u64 0, .int .u64 0, .int .u64 0, .int .u64 0]
                have KZ := Lib.hid kz
                have HG := Lib.hid hg
                have H0 := Lib.hid h0
                clear kz hg h0
                go_simp
                refine hK.out _ _ (Fn.pass H0.out _) (fun hHeld => ?_)
                clear hK K H0
                try simp only [Act.put, List.getElem_toArray, List.getElem_cons_succ, List.getElem_cons_zero, List.setIfInBounds_toArray, List.set_cons_zero, List.set_cons_succ]
                have k5 := KZ.out
                have z5 := HG.out
                refine wpAnyH_cast (n' := 4) (l' := #[true, true, true, false, false, true, false, false]) (by kernel_rfl) (by kernel_rfl) ?_
                have hh := st1_5 _ _ hHeld k5 z5
                rw [← hops] at hh
                exact hh
          have st0_4 : ∀ (g7 : Nat) (W : World), Fn wy W [(g6, 27, ev le), (g5, 27, ev su), (w.heap.size + 1, 27, ev x), (w.heap.size, 109, sv s)] → Blk W g7 27 #[.int .u64 0, .int .u64 0, .int .u64 0, .int .u64 0] → wy.heap.size ≤ g7 → wpAnyH Tryd.prog .any ops Q (fun W => Fn wy W [(g6, 27, ev le), (g5, 27, ev su), (w.heap.size + 1, 27, ev x), (w.heap.size, 109, sv s)]) 5 #[true, false, true, false, true, false, false, false] { tmps := #[.agg (sv s), .agg (ev x), .pointer (some ⟨w.heap.size, 0, none⟩), .pointer (some ⟨w.heap.size + 1, 0, none⟩), .pointer (some ⟨w.heap.size + 1 + 1, 0, none⟩), .pointer (some ⟨g5, 0, none⟩), .pointer (some ⟨g6, 0, none⟩), .pointer (some ⟨g7, 0, none⟩), undef, undef, undef, undef, u12, u13, u14, u15, u16, u17, u18, u19, u20, u21, .agg (ev su), u23, .agg (ev le), u25, u26, u27, u28, u29, u30, u31, u32, u33, u34, u35, u36, u37, u38, u39, u40, u41, u42, u43, u44, u45, u46, u47, u48, u49, u50, u51, u52, u53, u54, u55, u56, u57, u58, u59, u60, u61, u62, u63], defers := [] } W := by
            as_aux_lemma =>
              clear st1_ st1_5 st2_ st1_45 st2_5 st2_4 st2_45
              intro g7 W hHeld K4 Z4
              rw [← hops]
              refine wpAnyH_ready (rs := [1, 5]) (by kernel_rfl) (by simp) (AllReadyH.cons rfl (fun K hK => ?_) (AllReadyH.cons rfl (fun K hK => ?_) AllReadyH.nil))
              · have KH4 := Lib.hid K4
                have h0 := hHeld
                clear hHeld
                try simp only [List.getElem_toArray, List.getElem_cons_succ, List.getElem_cons_zero]
                have H0 := Lib.hid h0
                clear h0
                go_simp
                go_at_call 75
                refine (squareR H_u.out _ (HPG.out.ext H0.out.below)).mono ?_
                rintro e vv ⟨rfl, hb⟩
                have KJ4 := Lib.hid (KH4.out.below hb KH4.out.lt)
                have h1 := H0.out.ext hb
                clear hb H0
                go_wp2_with (fail)
                refine hK.out _ _ h1 (fun hHeld => ?_)
                clear hK K h1
                try simp only [Act.put, List.getElem_toArray, List.getElem_cons_succ, List.getElem_cons_zero, List.setIfInBounds_toArray, List.set_cons_zero, List.set_cons_succ]
                have k4 := KJ4.out
                have z4 := Z4
                refine wpAnyH_cast (n' := 4) (l' := #[true, true, true, false, true, false, false, false]) (by kernel_rfl) (by kernel_rfl) ?_
                have hh := st1_4 g7 _ hHeld k4 z4
                rw [← hops] at hh
                exact hh
              · have h0 := hHeld
                clear hHeld
                try simp only [List.getElem_toArray, List.getElem_cons_succ, List.getElem_cons_zero]
                obtain ⟨kz, hg⟩ := Fn.fresh h0 27 #[.int .u64 0, .int .u64 0, .int .u64 0, .int .u64 0]
                have KZ := Lib.hid kz
                have HG := Lib.hid hg
                have H0 := Lib.hid h0
                clear kz hg h0
                have KH4 := Lib.hid K4
                go_simp
                refine hK.out _ _ (Fn.pass H0.out _) (fun hHeld => ?_)
                clear hK K H0
                try simp only [Act.put, List.getElem_toArray, List.getElem_cons_succ, List.getElem_cons_zero, List.setIfInBounds_toArray, List.set_cons_zero, List.set_cons_succ]
                have k4 := KH4.out.alloc (.cells #[.int .u64 0, .int .u64 0, .int .u64 0, .int .u64 0] 27)
                have z4 := Z4
                have k5 := KZ.out
                have z5 := HG.out
                refine wpAnyH_cast (n' := 4) (l' := #[true, false, true, false, true, true, false, false]) (by kernel_rfl) (by kernel_rfl) ?_
                have hh := st0_45 g7 _ _ hHeld k4 z4 k5 z5 (Nat.ne_of_lt K4.lt)
                rw [← hops] at hh
                exact hh
          have st0_5 : ∀ (g8 : Nat) (W : World), Fn wy W [(g6, 27, ev le), (g5, 27, ev su), (w.heap.size + 1, 27, ev x), (w.heap.size, 109, sv s)] → Blk W g8 27 #[.int .u64 0, .int .u64 0, .int .u64 0, .int .u64 0] → wy.heap.size ≤ g8 → wpAnyH Tryd.prog .any ops Q (fun W => Fn wy W [(g6, 27, ev le), (g5, 27, ev su), (w.heap.size + 1, 27, ev x), (w.heap.size, 109, sv s)]) 5 #[true, false, true, false, false, true, false, false] { tmps := #[.agg (sv s), .agg (ev x), .pointer (some ⟨w.heap.size, 0, none⟩), .pointer (some ⟨w.heap.size + 1, 0, none⟩), .pointer (some ⟨w.heap.size + 1 + 1, 0, none⟩), .pointer (some ⟨g5, 0, none⟩), .pointer (some ⟨g6, 0, none⟩), undef, .pointer (some ⟨g8, 0, none⟩), undef, undef, undef, u12, u13, u14, u15, u16, u17, u18, u19, u20, u21, .agg (ev su), u23, .agg (ev le), u25, u26, u27, u28, u29, u30, u31, u32, u33, u34, u35, u36, u37, u38, u39, u40, u41, u42, u43, u44, u45, u46, u47, u48, u49, u50, u51, u52, u53, u54, u55, u56, u57, u58, u59, u60, u61, u62, u63], defers := [] } W := by
            as_aux_lemma =>
              clear st0_4 st1_ st1_4 st2_ st1_45 st2_5 st2_4 st2_45
              intro g8 W hHeld K5 Z5
              rw [← hops]
              refine wpAnyH_ready (rs := [1, 4]) (by kernel_rfl) (by simp) (AllReadyH.cons rfl (fun K hK => ?_) (AllReadyH.cons rfl (fun K hK => ?_) AllReadyH.nil))
              · have KH5 := Lib.hid K5
                have h0 := hHeld
                clear hHeld
                try simp only [List.getElem_toArray, List.getElem_cons_succ, List.getElem_cons_zero]
                have H0 := Lib.hid h0
                clear h0
                go_simp
                go_at_call 75
                refine (squareR H_u.out _ (HPG.out.ext H0.out.below)).mono ?_
                rintro e vv ⟨rfl, hb⟩
                have KJ5 := Lib.hid (KH5.out.below hb KH5.out.lt)
                have h1 := H0.out.ext hb
                clear hb H0
                go_wp2_with (fail)
                refine hK.out _ _ h1 (fun hHeld => ?_)
                clear hK K h1
                try simp only [Act.put, List.getElem_toArray, List.getElem_cons_succ, List.getElem_cons_zero, List.setIfInBounds_toArray, List.set_cons_zero, List.set_cons_succ]
                have k5 := KJ5.out
                have z5 := Z5
                refine wpAnyH_cast (n' := 4) (l' := #[true, true, true, false, false, true, false, false]) (by kernel_rfl) (by kernel_rfl) ?_
                have hh := st1_5 g8 _ hHeld k5 z5
                rw [← hops] at hh
                exact hh
              · have h0 := hHeld
                clear hHeld
                try simp only [List.getElem_toArray, List.getElem_cons_succ, List.getElem_cons_zero]
                obtain ⟨kz, hg⟩ := Fn.fresh h0 27 #[.int .u64 0, .int .u64 0, .int .u64 0, .int .u64 0]
                have KZ := Lib.hid kz
                have HG := Lib.hid hg
                have H0 := Lib.hid h0
                clear kz hg h0
                have KH5 := Lib.hid K5
                go_simp
                refine hK.out _ _ (Fn.pass H0.out _) (fun hHeld => ?_)
                clear hK K H0
                try simp only [Act.put, List.getElem_toArray, List.getElem_cons_succ, List.getElem_cons_zero, List.setIfInBounds_toArray, List.set_cons_zero, List.set_cons_succ]
                have k5 := KH5.out.alloc (.cells #[.int .u64 0, .int .u64 0, .int .u64 0, .int .u64 0] 27)
                have z5 := Z5
                have k4 := KZ.out
                have z4 := HG.out
                refine wpAnyH_cast (n' := 4) (l' := #[true, false, true, false, true, true, false, false]) (by kernel_rfl) (by kernel_rfl) ?_
                have hh := st0_45 _ g8 _ hHeld k4 z4 k5 z5 (Ne.symm (Nat.ne_of_lt K5.lt))
                rw [← hops] at hh
                exact hh
          have st0_ : ∀ (W : World), Fn wy W [(g6, 27, ev le), (g5, 27, ev su), (w.heap.size + 1, 27, ev x), (w.heap.size, 109, sv s)] → wpAnyH Tryd.prog .any ops Q (fun W => Fn wy W [(g6, 27, ev le), (g5, 27, ev su), (w.heap.size + 1, 27, ev x), (w.heap.size, 109, sv s)]) 6 #[true, false, true, false, false, false, false, false] { tmps := #[.agg (sv s), .agg (ev x), .pointer (some ⟨w.heap.size, 0, none⟩), .pointer (some ⟨w.heap.size + 1, 0, none⟩), .pointer (some ⟨w.heap.size + 1 + 1, 0, none⟩), .pointer (some ⟨g5, 0, none⟩), .pointer (some ⟨g6, 0, none⟩), undef, undef, undef, undef, undef, u12, u13, u14, u15, u16, u17, u18, u19, u20, u21, .agg (ev su), u23, .agg (ev le), u25, u26, u27, u28, u29, u30, u31, u32, u33, u34, u35, u36, u37, u38, u39, u40, u41, u42, u43, u44, u45, u46, u47, u48, u49, u50, u51, u52, u53, u54, u55, u56, u57, u58, u59, u60, u61, u62, u63], defers := [] } W := by
            as_aux_lemma =>
              clear st0_45 st1_5 st1_4 st2_ st1_45 st2_5 st2_4 st2_45
              intro W hHeld
              rw [← hops]
              refine wpAnyH_ready (rs := [1, 4, 5]) (by kernel_rfl) (by simp) (AllReadyH.cons rfl (fun K hK => ?_) (AllReadyH.cons rfl (fun K hK => ?_) (AllReadyH.cons rfl (fun K hK => ?_) AllReadyH.nil)))
              · have h0 := hHeld
                clear hHeld
                try simp only [List.getElem_toArray, List.getElem_cons_succ, List.getElem_cons_zero]
                have H0 := Lib.hid h0
                clear h0
                go_simp
                go_at_call 75
                refine (squareR H_u.out _ (HPG.out.ext H0.out.below)).mono ?_
                rintro e vv ⟨rfl, hb⟩
                have h1 := H0.out.ext hb
                clear hb H0
                go_wp2_with (fail)
                refine hK.out _ _ h1 (fun hHeld => ?_)
                clear hK K h1
                try simp only [Act.put, List.getElem_toArray, List.getElem_cons_succ, List.getElem_cons_zero, List.setIfInBounds_toArray, List.set_cons_zero, List.set_cons_succ]
                refine wpAnyH_cast (n' := 5) (l' := #[true, true, true, false, false, false, false, false]) (by kernel_rfl) (by kernel_rfl) ?_
                have hh := st1_ _ hHeld
                rw [← hops] at hh
                exact hh
              · have h0 := hHeld
                clear hHeld
                try simp only [List.getElem_toArray, List.getElem_cons_succ, List.getElem_cons_zero]
                obtain ⟨kz, hg⟩ := Fn.fresh h0 27 #[.int .u64 0, .int .u64 0, .int .u64 0, .int .u64 0]
                have KZ := Lib.hid kz
                have HG := Lib.hid hg
                have H0 := Lib.hid h0
                clear kz hg h0
                go_simp
                refine hK.out _ _ (Fn.pass H0.out _) (fun hHeld => ?_)
                clear hK K H0
                try simp only [Act.put, List.getElem_toArray, List.getElem_cons_succ, List.getElem_cons_zero, List.setIfInBounds_toArray, List.set_cons_zero, List.set_cons_succ]
                have k4 := KZ.out
                have z4 := HG.out
                refine wpAnyH_cast (n' := 5) (l' := #[true, false, true, false, true, false, false, false]) (by kernel_rfl) (by kernel_rfl) ?_
                have hh := st0_4 _ _ hHeld k4 z4
                rw [← hops] at hh
                exact hh
              · have h0 := hHeld
                clear hHeld
                try simp only [List.getElem_toArray, List.getElem_cons_succ, List.getElem_cons_zero]
                obtain ⟨kz, hg⟩ := Fn.fresh h0 27 #[.int .u64 0, .int .u64 0, .int .u64 0, .int .u64 0]
                have KZ := Lib.hid kz
                have HG := Lib.hid hg
                have H0 := Lib.hid h0
                clear kz hg h0
                go_simp
                refine hK.out _ _ (Fn.pass H0.out _) (fun hHeld => ?_)
                clear hK K H0
                try simp only [Act.put, List.getElem_toArray, List.getElem_cons_succ, List.getElem_cons_zero, List.setIfInBounds_toArray, List.set_cons_zero, List.set_cons_succ]
                have k5 := KZ.out
                have z5 := HG.out
                refine wpAnyH_cast (n' := 5) (l' := #[true, false, true, false, false, true, false, false]) (by kernel_rfl) (by kernel_rfl) ?_
                have hh := st0_5 _ _ hHeld k5 z5
                rw [← hops] at hh
                exact hh
          refine wpAnyH_cast (n' := 6) (l' := #[true, false, true, false, false, false, false, false]) (by kernel_rfl) (by kernel_rfl) ?_
          exact st0_ _ hHeld
      case rest =>
        as_aux_lemma =>
          obtain ⟨g7, g8, rfl, rfl, k7, k8, hb⟩ := hcut
          have n7 : g7 ≠ w.heap.size + 1 + 1 := by
            intro e
            obtain ⟨cs, _, kk⟩ := (HF.out.ext hb).old (g := w.heap.size + 1 + 1) (t := 109) (n := 16) (by simp)
            rw [← e] at kk
            exact absurd (k7.inj kk).1 (by decide)
          have n8 : g8 ≠ w.heap.size + 1 + 1 := by
            intro e
            obtain ⟨cs, _, kk⟩ := (HF.out.ext hb).old (g := w.heap.size + 1 + 1) (t := 109) (n := 16) (by simp)
            rw [← e] at kk
            exact absurd (k8.inj kk).1 (by decide)
          have hf2 := (((HF.out.ext hb).more k7).more k8)
          have hpg2 := HPG.out.ext hb
          clear HF HPG hb k7 k8
          have HF := Lib.hid hf2
          have HPG := Lib.hid hpg2
          clear hf2 hpg2
          obtain ⟨wu, hwc0⟩ : ∃ wz : World, wz = wc := ⟨_, rfl⟩
          rw [← hwc0] at HF HPG ⊢
          clear hwc0
          have l7 := HF.out.get (g := g7) (t := 27) (cs := ev u) (by simp)
          have l8 := HF.out.get (g := g8) (t := 27) (cs := ev v) (by simp)
          go_wp2_with (first | (refine wpList_load_row rfl 27 (.tmp 7) rfl (g7) rfl 27 (ev u) (0, 0) _ l7 Tryd.underlying27 rfl (info_ev _) ?_) | (refine wpList_load_row rfl 27 (.tmp 8) rfl (g8) rfl 27 (ev v) (0, 0) _ l8 Tryd.underlying27 rfl (info_ev _) ?_))
          clear l7 l8
          refine (subR H_e.out _ HPG.out).mono ?_
          rintro e0 v1 ⟨rfl, hb⟩
          have hf := HF.out.ext hb
          have hpgb := HPG.out.ext hb
          have ka : Blk (v1.alloc (.cells #[.int .u64 0, .int .u64 0, .int .u64 0, .int .u64 0] 27)) v1.heap.size 27 #[.int .u64 0, .int .u64 0, .int .u64 0, .int .u64 0] := Blk.new _ _ _
          have kc := ka.setRow_same (ev e)
          have hf3 := ((hf.pass (.cells #[.int .u64 0, .int .u64 0, .int .u64 0, .int .u64 0] 27)).setOut (g := v1.heap.size) (by have := hf.size; omega) (by intro p hp; exact Nat.ne_of_lt (hf.rows p hp).lt) (by intro p hp; obtain ⟨cs, _, k⟩ := hf.some_ p hp; exact Nat.ne_of_lt k.lt) (ev e)).more kc
          have hres : w.heap.size + 1 + 1 < v1.heap.size := by obtain ⟨cs, _, k⟩ := hf.old (g := w.heap.size + 1 + 1) (t := 109) (n := 16) (by simp); exact k.lt
          have hpg3 : PG ((v1.alloc (.cells #[.int .u64 0, .int .u64 0, .int .u64 0, .int .u64 0] 27)).setRow v1.heap.size (ev e)) := hpgb.ext (below_setRow ((Below.refl _ v1).alloc (Nat.le_refl _) _) (Nat.le_refl _) _)
          have KA := Lib.hid ka
          have HF4 := Lib.hid hf3
          have HPG4 := Lib.hid hpg3
          clear hb hf hpgb ka kc hf3 hpg3 HF HPG
          go_wp2_with (first | (refine wpList_store_row rfl 27 (.tmp 9) (.tmp 28) rfl (v1.heap.size) (ev e) rfl rfl 27 _ KA.out (info_ev _) (ev_size _).symm (ev_one _) ?_))
          clear KA
          obtain ⟨wd, hwd⟩ : ∃ wz : World, wz = (v1.alloc (.cells #[.int .u64 0, .int .u64 0, .int .u64 0, .int .u64 0] 27)).setRow v1.heap.size (ev e) := ⟨_, rfl⟩
          rw [← hwd] at HF4 HPG4 ⊢
          clear hwd
          obtain ⟨g9, hg9⟩ : ∃ g9, g9 = v1.heap.size := ⟨_, rfl⟩
          have n9 : v1.heap.size ≠ w.heap.size + 1 + 1 := Ne.symm (Nat.ne_of_lt hres)
          rw [← hg9] at HF4 n9 ⊢
          clear hg9 hres
          have HF := HF4
          have HPG := HPG4
          clear HF4 HPG4
          simp only [Act.put]
          go_cut [10, 11] (fun s10 s11 wz => ∃ g10 g11 : Nat, s10 = .pointer (some ⟨g10, 0, none⟩) ∧ s11 = .pointer (some ⟨g11, 0, none⟩) ∧ Blk wz g10 27 (ev m) ∧ Blk wz g11 27 (ev k) ∧ Below wd.heap.size wd wz)
          case first =>
            as_aux_lemma =>
              have hn := (HF.out.now.sub (L' := [(g9, 27, ev e), (g8, 27, ev v), (g7, 27, ev u), (g6, 27, ev le), (g5, 27, ev su), (w.heap.size + 1, 27, ev x), (w.heap.size, 109, sv s)]) (by simp))
              have HN := Lib.hid hn
              clear hn
              refine wp_region_held_drew (S := fun W => Fn wd W [(g9, 27, ev e), (g8, 27, ev v), (g7, 27, ev u), (g6, 27, ev le), (g5, 27, ev su), (w.heap.size + 1, 27, ev x), (w.heap.size, 109, sv s)]) (by kernel_rfl) ?_ (fun hHeld => ?_)
              · exact HN.out.drew
              refine wpAnyH_take (i := 0) (v := ?_) rfl (by kernel_rfl) (by kernel_rfl) (by kernel_rfl) (fun _ _ _ h => h) (Or.inl ⟨by rfl, ?_⟩) hHeld ?_
              rotate_left
              · (intro W hSw; (try dsimp only at hSw); (try simp only [List.getElem_toArray, List.getElem_cons_succ, List.getElem_cons_zero]); go_simp; try with_reducible rfl)
              try simp only [Act.put, List.getElem_toArray, List.getElem_cons_succ, List.getElem_cons_zero, List.setIfInBounds_toArray, List.set_cons_zero, List.set_cons_succ]
              refine wpAnyH_take (i := 1) (v := .agg (ev (s.c))) rfl (by kernel_rfl) (by kernel_rfl) (by kernel_rfl) (fun _ _ _ h => h) (yields_sv (by rfl) (.tmp 29) rfl (w.heap.size) 2 (by omega) rfl 109 s (fun W (h : Fn _ W _) => h.get (by simp))) hHeld ?_
              try simp only [Act.put, List.getElem_toArray, List.getElem_cons_succ, List.getElem_cons_zero, List.setIfInBounds_toArray, List.set_cons_zero, List.set_cons_succ]
              refine wpAnyH_take (i := 2) (v := ?_) rfl (by kernel_rfl) (by kernel_rfl) (by kernel_rfl) (fun _ _ _ h => h) (Or.inl ⟨by rfl, ?_⟩) hHeld ?_
              rotate_left
              · (intro W hSw; (try dsimp only at hSw); (try simp only [List.getElem_toArray, List.getElem_cons_succ, List.getElem_cons_zero]); go_simp; try with_reducible rfl)
              try simp only [Act.put, List.getElem_toArray, List.getElem_cons_succ, List.getElem_cons_zero, List.setIfInBounds_toArray, List.set_cons_zero, List.set_cons_succ]
              refine wpAnyH_take (i := 3) (v := .agg (ev (s.d))) rfl (by kernel_rfl) (by kernel_rfl) (by kernel_rfl) (fun _ _ _ h => h) (yields_sv (by rfl) (.tmp 31) rfl (w.heap.size) 3 (by omega) rfl 109 s (fun W (h : Fn _ W _) => h.get (by simp))) hHeld ?_
              try simp only [Act.put, List.getElem_toArray, List.getElem_cons_succ, List.getElem_cons_zero, List.setIfInBounds_toArray, List.set_cons_zero, List.set_cons_succ]
              refine wpAnyH_take (i := 5) (v := .agg (ev le)) rfl (by kernel_rfl) (by kernel_rfl) (by kernel_rfl) (fun _ _ _ h => h) (yields_row (by rfl) 27 (.tmp 6) rfl (g6) rfl 27 (ev le) _ (fun W (h : Fn _ W _) => h.get (by simp)) Tryd.underlying27 rfl (info_ev _)) hHeld ?_
              try simp only [Act.put, List.getElem_toArray, List.getElem_cons_succ, List.getElem_cons_zero, List.setIfInBounds_toArray, List.set_cons_zero, List.set_cons_succ]
              refine wpAnyH_take (i := 7) (v := ?_) rfl (by kernel_rfl) (by kernel_rfl) (by kernel_rfl) (fun _ _ _ h => h) (Or.inl ⟨by rfl, ?_⟩) hHeld ?_
              rotate_left
              · (intro W hSw; (try dsimp only at hSw); (try simp only [List.getElem_toArray, List.getElem_cons_succ, List.getElem_cons_zero]); go_simp; try with_reducible rfl)
              try simp only [Act.put, List.getElem_toArray, List.getElem_cons_succ, List.getElem_cons_zero, List.setIfInBounds_toArray, List.set_cons_zero, List.set_cons_succ]
              refine wpAnyH_take (i := 8) (v := .agg (ev (s.c))) rfl (by kernel_rfl) (by kernel_rfl) (by kernel_rfl) (fun _ _ _ h => h) (yields_sv (by rfl) (.tmp 36) rfl (w.heap.size) 2 (by omega) rfl 109 s (fun W (h : Fn _ W _) => h.get (by simp))) hHeld ?_
              try simp only [Act.put, List.getElem_toArray, List.getElem_cons_succ, List.getElem_cons_zero, List.setIfInBounds_toArray, List.set_cons_zero, List.set_cons_succ]
              refine wpAnyH_take (i := 9) (v := ?_) rfl (by kernel_rfl) (by kernel_rfl) (by kernel_rfl) (fun _ _ _ h => h) (Or.inl ⟨by rfl, ?_⟩) hHeld ?_
              rotate_left
              · (intro W hSw; (try dsimp only at hSw); (try simp only [List.getElem_toArray, List.getElem_cons_succ, List.getElem_cons_zero]); go_simp; try with_reducible rfl)
              try simp only [Act.put, List.getElem_toArray, List.getElem_cons_succ, List.getElem_cons_zero, List.setIfInBounds_toArray, List.set_cons_zero, List.set_cons_succ]
              refine wpAnyH_take (i := 10) (v := .agg (ev (s.d))) rfl (by kernel_rfl) (by kernel_rfl) (by kernel_rfl) (fun _ _ _ h => h) (yields_sv (by rfl) (.tmp 38) rfl (w.heap.size) 3 (by omega) rfl 109 s (fun W (h : Fn _ W _) => h.get (by simp))) hHeld ?_
              try simp only [Act.put, List.getElem_toArray, List.getElem_cons_succ, List.getElem_cons_zero, List.setIfInBounds_toArray, List.set_cons_zero, List.set_cons_succ]
              refine wpAnyH_take (i := 12) (v := .agg (ev su)) rfl (by kernel_rfl) (by kernel_rfl) (by kernel_rfl) (fun _ _ _ h => h) (yields_row (by rfl) 27 (.tmp 5) rfl (g5) rfl 27 (ev su) _ (fun W (h : Fn _ W _) => h.get (by simp)) Tryd.underlying27 rfl (info_ev _)) hHeld ?_
              try simp only [Act.put, List.getElem_toArray, List.getElem_cons_succ, List.getElem_cons_zero, List.setIfInBounds_toArray, List.set_cons_zero, List.set_cons_succ]
              refine wpAnyH_name ?_
              intro ops Q hops hQ
              have st4_1415 : ∀ (g10 g11 : Nat) (W : World), Fn wd W [(g9, 27, ev e), (g8, 27, ev v), (g7, 27, ev u), (g6, 27, ev le), (g5, 27, ev su), (w.heap.size + 1, 27, ev x), (w.heap.size, 109, sv s)] → Blk W g10 27 #[.int .u64 0, .int .u64 0, .int .u64 0, .int .u64 0] → wd.heap.size ≤ g10 → Blk W g11 27 #[.int .u64 0, .int .u64 0, .int .u64 0, .int .u64 0] → wd.heap.size ≤ g11 → g10 ≠ g11 → wpAnyH Tryd.prog .any ops Q (fun W => Fn wd W [(g9, 27, ev e), (g8, 27, ev v), (g7, 27, ev u), (g6, 27, ev le), (g5, 27, ev su), (w.heap.size + 1, 27, ev x), (w.heap.size, 109, sv s)]) 2 #[true, true, true, true, true, true, true, true, true, true, true, true, true, true, true, true, false, false] { tmps := #[.agg (sv s), .agg (ev x), .pointer (some ⟨w.heap.size, 0, none⟩), .pointer (some ⟨w.heap.size + 1, 0, none⟩), .pointer (some ⟨w.heap.size + 1 + 1, 0, none⟩), .pointer (some ⟨g5, 0, none⟩), .pointer (some ⟨g6, 0, none⟩), .pointer (some ⟨g7, 0, none⟩), .pointer (some ⟨g8, 0, none⟩), .pointer (some ⟨g9, 0, none⟩), .pointer (some ⟨g10, 0, none⟩), .pointer (some ⟨g11, 0, none⟩), u12, u13, u14, u15, u16, u17, u18, u19, u20, u21, u22, u23, u24, u25, .agg (ev u), .agg (ev v), .agg (ev e), .pointer (some ⟨w.heap.size, 8, none⟩), .agg (ev (s.c)), .pointer (some ⟨w.heap.size, 12, none⟩), .agg (ev (s.d)), .agg (ev cd), .agg (ev le), .agg (ev m), .pointer (some ⟨w.heap.size, 8, none⟩), .agg (ev (s.c)), .pointer (some ⟨w.heap.size, 12, none⟩), .agg (ev (s.d)), .agg (ev ce), .agg (ev su), .agg (ev k), u43, u44, u45, u46, u47, u48, u49, u50, u51, u52, u53, u54, u55, u56, u57, u58, u59, u60, u61, u62, u63], defers := [] } W := by
                as_aux_lemma =>
                  intro g10 g11 W hHeld K14 Z14 K15 Z15 n14_15
                  rw [← hops]
                  rw [← hQ]
                  have KK14 := Lib.hid K14
                  clear K14
                  have KK15 := Lib.hid K15
                  clear K15
                  refine wpAnyH_ready (rs := [16]) (by kernel_rfl) (by simp) (AllReadyH.cons rfl (fun K hK => ?_) AllReadyH.nil)
                  have h0 := hHeld
                  clear hHeld
                  try simp only [List.getElem_toArray, List.getElem_cons_succ, List.getElem_cons_zero]
                  rw [if_pos (by rfl)]
                  refine wp_store_row 27 (.tmp 10) (.tmp 35) rfl g10 (ev m) rfl rfl 27 _ KK14.out (info_ev _) rfl (ev_one _) ?_
                  refine hK.out _ _ (Fn.setFresh h0 Z14 _) (fun hHeld => ?_)
                  have J14 := Lib.hid (KK14.out.setRow_same (ev m))
                  clear KK14
                  have KK14 := J14
                  clear J14
                  have J15 := Lib.hid (KK15.out.setRow_other (Ne.symm n14_15) (ev m))
                  clear KK15
                  have KK15 := J15
                  clear J15
                  clear hK K h0
                  try simp only [Act.put, List.getElem_toArray, List.getElem_cons_succ, List.getElem_cons_zero, List.setIfInBounds_toArray, List.set_cons_zero, List.set_cons_succ]
                  refine wpAnyH_ready (rs := [17]) (by kernel_rfl) (by simp) (AllReadyH.cons rfl (fun K hK => ?_) AllReadyH.nil)
                  have h0 := hHeld
                  clear hHeld
                  try simp only [List.getElem_toArray, List.getElem_cons_succ, List.getElem_cons_zero]
                  rw [if_pos (by rfl)]
                  refine wp_store_row 27 (.tmp 11) (.tmp 42) rfl g11 (ev k) rfl rfl 27 _ KK15.out (info_ev _) rfl (ev_one _) ?_
                  refine hK.out _ _ (Fn.setFresh h0 Z15 _) (fun hHeld => ?_)
                  have J15 := Lib.hid (KK15.out.setRow_same (ev k))
                  clear KK15
                  have KK15 := J15
                  clear J15
                  have J14 := Lib.hid (KK14.out.setRow_other n14_15 (ev k))
                  clear KK14
                  have KK14 := J14
                  clear J14
                  clear hK K h0
                  try simp only [Act.put, List.getElem_toArray, List.getElem_cons_succ, List.getElem_cons_zero, List.setIfInBounds_toArray, List.set_cons_zero, List.set_cons_succ]
                  refine wpAnyH_done (by kernel_rfl) ?_ _
                  have HB := Lib.hid hHeld.below
                  clear hHeld
                  go_wp2_with (fail)
                  go_meet
                  exact ⟨g10, g11, rfl, rfl, KK14.out, KK15.out, HB.out⟩
              have st4_14 : ∀ (g10 : Nat) (W : World), Fn wd W [(g9, 27, ev e), (g8, 27, ev v), (g7, 27, ev u), (g6, 27, ev le), (g5, 27, ev su), (w.heap.size + 1, 27, ev x), (w.heap.size, 109, sv s)] → Blk W g10 27 #[.int .u64 0, .int .u64 0, .int .u64 0, .int .u64 0] → wd.heap.size ≤ g10 → wpAnyH Tryd.prog .any ops Q (fun W => Fn wd W [(g9, 27, ev e), (g8, 27, ev v), (g7, 27, ev u), (g6, 27, ev le), (g5, 27, ev su), (w.heap.size + 1, 27, ev x), (w.heap.size, 109, sv s)]) 3 #[true, true, true, true, true, true, true, true, true, true, true, true, true, true, true, false, false, false] { tmps := #[.agg (sv s), .agg (ev x), .pointer (some ⟨w.heap.size, 0, none⟩), .pointer (some ⟨w.heap.size + 1, 0, none⟩), .pointer (some ⟨w.heap.size + 1 + 1, 0, none⟩), .pointer (some ⟨g5, 0, none⟩), .pointer (some ⟨g6, 0, none⟩), .pointer (some ⟨g7, 0, none⟩), .pointer (some ⟨g8, 0, none⟩), .pointer (some ⟨g9, 0, none⟩), .pointer (some ⟨g10, 0, none⟩), undef, u12, u13, u14, u15, u16, u17, u18, u19, u20, u21, u22, u23, u24, u25, .agg (ev u), .agg (ev v), .agg (ev e), .pointer (some ⟨w.heap.size, 8, none⟩), .agg (ev (s.c)), .pointer (some ⟨w.heap.size, 12, none⟩), .agg (ev (s.d)), .agg (ev cd), .agg (ev le), .agg (ev m), .pointer (some ⟨w.heap.size, 8, none⟩), .agg (ev (s.c)), .pointer (some ⟨w.heap.size, 12, none⟩), .agg (ev (s.d)), .agg (ev ce), .agg (ev su), .agg (ev k), u43, u44, u45, u46, u47, u48, u49, u50, u51, u52, u53, u54, u55, u56, u57, u58, u59, u60, u61, u62, u63], defers := [] } W := by
                as_aux_lemma =>
                  intro g10 W hHeld K14 Z14
                  rw [← hops]
                  refine wpAnyH_ready (rs := [15]) (by kernel_rfl) (by simp) (AllReadyH.cons rfl (fun K hK => ?_) AllReadyH.nil)
                  have h0 := hHeld
                  clear hHeld
                  try simp only [List.getElem_toArray, List.getElem_cons_succ, List.getElem_cons_zero]
                  obtain ⟨kz, hg⟩ := Fn.fresh h0 27 #[.int .u64 0, .int .u64 0, .int .u64 0, .int .u64 0]
                  have KZ := Lib.hid kz
                  have HG := Lib.hid hg
                  have H0 := Lib.hid h0
                  clear kz hg h0
                  have KH14 := Lib.hid K14
                  go_simp
                  refine hK.out _ _ (Fn.pass H0.out _) (fun hHeld => ?_)
                  clear hK K H0
                  try simp only [Act.put, List.getElem_toArray, List.getElem_cons_succ, List.getElem_cons_zero, List.setIfInBounds_toArray, List.set_cons_zero, List.set_cons_succ]
                  have k14 := KH14.out.alloc (.cells #[.int .u64 0, .int .u64 0, .int .u64 0, .int .u64 0] 27)
                  have z14 := Z14
                  have k15 := KZ.out
                  have z15 := HG.out
                  refine wpAnyH_cast (n' := 2) (l' := #[true, true, true, true, true, true, true, true, true, true, true, true, true, true, true, true, false, false]) (by kernel_rfl) (by kernel_rfl) ?_
                  have hh := st4_1415 g10 _ _ hHeld k14 z14 k15 z15 (Nat.ne_of_lt K14.lt)
                  rw [← hops] at hh
                  exact hh
              have st4_15 : ∀ (g11 : Nat) (W : World), Fn wd W [(g9, 27, ev e), (g8, 27, ev v), (g7, 27, ev u), (g6, 27, ev le), (g5, 27, ev su), (w.heap.size + 1, 27, ev x), (w.heap.size, 109, sv s)] → Blk W g11 27 #[.int .u64 0, .int .u64 0, .int .u64 0, .int .u64 0] → wd.heap.size ≤ g11 → wpAnyH Tryd.prog .any ops Q (fun W => Fn wd W [(g9, 27, ev e), (g8, 27, ev v), (g7, 27, ev u), (g6, 27, ev le), (g5, 27, ev su), (w.heap.size + 1, 27, ev x), (w.heap.size, 109, sv s)]) 3 #[true, true, true, true, true, true, true, true, true, true, true, true, true, true, false, true, false, false] { tmps := #[.agg (sv s), .agg (ev x), .pointer (some ⟨w.heap.size, 0, none⟩), .pointer (some ⟨w.heap.size + 1, 0, none⟩), .pointer (some ⟨w.heap.size + 1 + 1, 0, none⟩), .pointer (some ⟨g5, 0, none⟩), .pointer (some ⟨g6, 0, none⟩), .pointer (some ⟨g7, 0, none⟩), .pointer (some ⟨g8, 0, none⟩), .pointer (some ⟨g9, 0, none⟩), undef, .pointer (some ⟨g11, 0, none⟩), u12, u13, u14, u15, u16, u17, u18, u19, u20, u21, u22, u23, u24, u25, .agg (ev u), .agg (ev v), .agg (ev e), .pointer (some ⟨w.heap.size, 8, none⟩), .agg (ev (s.c)), .pointer (some ⟨w.heap.size, 12, none⟩), .agg (ev (s.d)), .agg (ev cd), .agg (ev le), .agg (ev m), .pointer (some ⟨w.heap.size, 8, none⟩), .agg (ev (s.c)), .pointer (some ⟨w.heap.size, 12, none⟩), .agg (ev (s.d)), .agg (ev ce), .agg (ev su), .agg (ev k), u43, u44, u45, u46, u47, u48, u49, u50, u51, u52, u53, u54, u55, u56, u57, u58, u59, u60, u61, u62, u63], defers := [] } W := by
                as_aux_lemma =>
                  clear st4_14
                  intro g11 W hHeld K15 Z15
                  rw [← hops]
                  refine wpAnyH_ready (rs := [14]) (by kernel_rfl) (by simp) (AllReadyH.cons rfl (fun K hK => ?_) AllReadyH.nil)
                  have h0 := hHeld
                  clear hHeld
                  try simp only [List.getElem_toArray, List.getElem_cons_succ, List.getElem_cons_zero]
                  obtain ⟨kz, hg⟩ := Fn.fresh h0 27 #[.int .u64 0, .int .u64 0, .int .u64 0, .int .u64 0]
                  have KZ := Lib.hid kz
                  have HG := Lib.hid hg
                  have H0 := Lib.hid h0
                  clear kz hg h0
                  have KH15 := Lib.hid K15
                  go_simp
                  refine hK.out _ _ (Fn.pass H0.out _) (fun hHeld => ?_)
                  clear hK K H0
                  try simp only [Act.put, List.getElem_toArray, List.getElem_cons_succ, List.getElem_cons_zero, List.setIfInBounds_toArray, List.set_cons_zero, List.set_cons_succ]
                  have k15 := KH15.out.alloc (.cells #[.int .u64 0, .int .u64 0, .int .u64 0, .int .u64 0] 27)
                  have z15 := Z15
                  have k14 := KZ.out
                  have z14 := HG.out
                  refine wpAnyH_cast (n' := 2) (l' := #[true, true, true, true, true, true, true, true, true, true, true, true, true, true, true, true, false, false]) (by kernel_rfl) (by kernel_rfl) ?_
                  have hh := st4_1415 _ g11 _ hHeld k14 z14 k15 z15 (Ne.symm (Nat.ne_of_lt K15.lt))
                  rw [← hops] at hh
                  exact hh
              have st3_1415 : ∀ (g10 g11 : Nat) (W : World), Fn wd W [(g9, 27, ev e), (g8, 27, ev v), (g7, 27, ev u), (g6, 27, ev le), (g5, 27, ev su), (w.heap.size + 1, 27, ev x), (w.heap.size, 109, sv s)] → Blk W g10 27 #[.int .u64 0, .int .u64 0, .int .u64 0, .int .u64 0] → wd.heap.size ≤ g10 → Blk W g11 27 #[.int .u64 0, .int .u64 0, .int .u64 0, .int .u64 0] → wd.heap.size ≤ g11 → g10 ≠ g11 → wpAnyH Tryd.prog .any ops Q (fun W => Fn wd W [(g9, 27, ev e), (g8, 27, ev v), (g7, 27, ev u), (g6, 27, ev le), (g5, 27, ev su), (w.heap.size + 1, 27, ev x), (w.heap.size, 109, sv s)]) 3 #[true, true, true, true, true, true, true, true, true, true, true, true, true, false, true, true, false, false] { tmps := #[.agg (sv s), .agg (ev x), .pointer (some ⟨w.heap.size, 0, none⟩), .pointer (some ⟨w.heap.size + 1, 0, none⟩), .pointer (some ⟨w.heap.size + 1 + 1, 0, none⟩), .pointer (some ⟨g5, 0, none⟩), .pointer (some ⟨g6, 0, none⟩), .pointer (some ⟨g7, 0, none⟩), .pointer (some ⟨g8, 0, none⟩), .pointer (some ⟨g9, 0, none⟩), .pointer (some ⟨g10, 0, none⟩), .pointer (some ⟨g11, 0, none⟩), u12, u13, u14, u15, u16, u17, u18, u19, u20, u21, u22, u23, u24, u25, .agg (ev u), .agg (ev v), .agg (ev e), .pointer (some ⟨w.heap.size, 8, none⟩), .agg (ev (s.c)), .pointer (some ⟨w.heap.size, 12, none⟩), .agg (ev (s.d)), .agg (ev cd), .agg (ev le), .agg (ev m), .pointer (some ⟨w.heap.size, 8, none⟩), .agg (ev (s.c)), .pointer (some ⟨w.heap.size, 12, none⟩), .agg (ev (s.d)), .agg (ev ce), .agg (ev su), u42, u43, u44, u45, u46, u47, u48, u49, u50, u51, u52, u53, u54, u55, u56, u57, u58, u59, u60, u61, u62, u63], defers := [] } W := by
                as_aux_lemma =>
                  clear st4_15 st4_14
                  intro g10 g11 W hHeld K14 Z14 K15 Z15 n14_15
                  rw [← hops]
                  refine wpAnyH_ready (rs := [13]) (by kernel_rfl) (by simp) (AllReadyH.cons rfl (fun K hK => ?_) AllReadyH.nil)
                  have KH14 := Lib.hid K14
                  have KH15 := Lib.hid K15
                  have h0 := hHeld
                  clear hHeld
                  try simp only [List.getElem_toArray, List.getElem_cons_succ, List.getElem_cons_zero]
                  have H0 := Lib.hid h0
                  clear h0
                  go_simp
                  go_at_call 36
                  refine (mulR H_k.out _ (HPG.out.ext H0.out.below)).mono ?_
                  rintro e vv ⟨rfl, hb⟩
                  have KJ14 := Lib.hid (KH14.out.below hb KH14.out.lt)
                  have KJ15 := Lib.hid (KH15.out.below hb KH15.out.lt)
                  have h1 := H0.out.ext hb
                  clear hb H0
                  go_wp2_with (fail)
                  refine hK.out _ _ h1 (fun hHeld => ?_)
                  clear hK K h1
                  try simp only [Act.put, List.getElem_toArray, List.getElem_cons_succ, List.getElem_cons_zero, List.setIfInBounds_toArray, List.set_cons_zero, List.set_cons_succ]
                  have k14 := KJ14.out
                  have k15 := KJ15.out
                  have z14 := Z14
                  have z15 := Z15
                  refine wpAnyH_cast (n' := 2) (l' := #[true, true, true, true, true, true, true, true, true, true, true, true, true, true, true, true, false, false]) (by kernel_rfl) (by kernel_rfl) ?_
                  have hh := st4_1415 g10 g11 _ hHeld k14 z14 k15 z15 n14_15
                  rw [← hops] at hh
                  exact hh
              have st4_ : ∀ (W : World), Fn wd W [(g9, 27, ev e), (g8, 27, ev v), (g7, 27, ev u), (g6, 27, ev le), (g5, 27, ev su), (w.heap.size + 1, 27, ev x), (w.heap.size, 109, sv s)] → wpAnyH Tryd.prog .any ops Q (fun W => Fn wd W [(g9, 27, ev e), (g8, 27, ev v), (g7, 27, ev u), (g6, 27, ev le), (g5, 27, ev su), (w.heap.size + 1, 27, ev x), (w.heap.size, 109, sv s)]) 4 #[true, true, true, true, true, true, true, true, true, true, true, true, true, true, false, false, false, false] { tmps := #[.agg (sv s), .agg (ev x), .pointer (some ⟨w.heap.size, 0, none⟩), .pointer (some ⟨w.heap.size + 1, 0, none⟩), .pointer (some ⟨w.heap.size + 1 + 1, 0, none⟩), .pointer (some ⟨g5, 0, none⟩), .pointer (some ⟨g6, 0, none⟩), .pointer (some ⟨g7, 0, none⟩), .pointer (some ⟨g8, 0, none⟩), .pointer (some ⟨g9, 0, none⟩), undef, undef, u12, u13, u14, u15, u16, u17, u18, u19, u20, u21, u22, u23, u24, u25, .agg (ev u), .agg (ev v), .agg (ev e), .pointer (some ⟨w.heap.size, 8, none⟩), .agg (ev (s.c)), .pointer (some ⟨w.heap.size, 12, none⟩), .agg (ev (s.d)), .agg (ev cd), .agg (ev le), .agg (ev m), .pointer (some ⟨w.heap.size, 8, none⟩), .agg (ev (s.c)), .pointer (some ⟨w.heap.size, 12, none⟩), .agg (ev (s.d)), .agg (ev ce), .agg (ev su), .agg (ev k), u43, u44, u45, u46, u47, u48, u49, u50, u51, u52, u53, u54, u55, u56, u57, u58, u59, u60, u61, u62, u63], defers := [] } W := by
                as_aux_lemma =>
                  clear st3_1415 st4_1415
                  intro W hHeld
                  rw [← hops]
                  refine wpAnyH_ready (rs := [14, 15]) (by kernel_rfl) (by simp) (AllReadyH.cons rfl (fun K hK => ?_) (AllReadyH.cons rfl (fun K hK => ?_) AllReadyH.nil))
                  · have h0 := hHeld
                    clear hHeld
                    try simp only [List.getElem_toArray, List.getElem_cons_succ, List.getElem_cons_zero]
                    obtain ⟨kz, hg⟩ := Fn.fresh h0 27 #[.int .u64 0, .int .u64 0, .int .u64 0, .int .u64 0]
                    have KZ := Lib.hid kz
                    have HG := Lib.hid hg
                    have H0 := Lib.hid h0
                    clear kz hg h0
                    go_simp
                    refine hK.out _ _ (Fn.pass H0.out _) (fun hHeld => ?_)
                    clear hK K H0
                    try simp only [Act.put, List.getElem_toArray, List.getElem_cons_succ, List.getElem_cons_zero, List.setIfInBounds_toArray, List.set_cons_zero, List.set_cons_succ]
                    have k14 := KZ.out
                    have z14 := HG.out
                    refine wpAnyH_cast (n' := 3) (l' := #[true, true, true, true, true, true, true, true, true, true, true, true, true, true, true, false, false, false]) (by kernel_rfl) (by kernel_rfl) ?_
                    have hh := st4_14 _ _ hHeld k14 z14
                    rw [← hops] at hh
                    exact hh
                  · have h0 := hHeld
                    clear hHeld
                    try simp only [List.getElem_toArray, List.getElem_cons_succ, List.getElem_cons_zero]
                    obtain ⟨kz, hg⟩ := Fn.fresh h0 27 #[.int .u64 0, .int .u64 0, .int .u64 0, .int .u64 0]
                    have KZ := Lib.hid kz
                    have HG := Lib.hid hg
                    have H0 := Lib.hid h0
                    clear kz hg h0
                    go_simp
                    refine hK.out _ _ (Fn.pass H0.out _) (fun hHeld => ?_)
                    clear hK K H0
                    try simp only [Act.put, List.getElem_toArray, List.getElem_cons_succ, List.getElem_cons_zero, List.setIfInBounds_toArray, List.set_cons_zero, List.set_cons_succ]
                    have k15 := KZ.out
                    have z15 := HG.out
                    refine wpAnyH_cast (n' := 3) (l' := #[true, true, true, true, true, true, true, true, true, true, true, true, true, true, false, true, false, false]) (by kernel_rfl) (by kernel_rfl) ?_
                    have hh := st4_15 _ _ hHeld k15 z15
                    rw [← hops] at hh
                    exact hh
              have st3_14 : ∀ (g10 : Nat) (W : World), Fn wd W [(g9, 27, ev e), (g8, 27, ev v), (g7, 27, ev u), (g6, 27, ev le), (g5, 27, ev su), (w.heap.size + 1, 27, ev x), (w.heap.size, 109, sv s)] → Blk W g10 27 #[.int .u64 0, .int .u64 0, .int .u64 0, .int .u64 0] → wd.heap.size ≤ g10 → wpAnyH Tryd.prog .any ops Q (fun W => Fn wd W [(g9, 27, ev e), (g8, 27, ev v), (g7, 27, ev u), (g6, 27, ev le), (g5, 27, ev su), (w.heap.size + 1, 27, ev x), (w.heap.size, 109, sv s)]) 4 #[true, true, true, true, true, true, true, true, true, true, true, true, true, false, true, false, false, false] { tmps := #[.agg (sv s), .agg (ev x), .pointer (some ⟨w.heap.size, 0, none⟩), .pointer (some ⟨w.heap.size + 1, 0, none⟩), .pointer (some ⟨w.heap.size + 1 + 1, 0, none⟩), .pointer (some ⟨g5, 0, none⟩), .pointer (some ⟨g6, 0, none⟩), .pointer (some ⟨g7, 0, none⟩), .pointer (some ⟨g8, 0, none⟩), .pointer (some ⟨g9, 0, none⟩), .pointer (some ⟨g10, 0, none⟩), undef, u12, u13, u14, u15, u16, u17, u18, u19, u20, u21, u22, u23, u24, u25, .agg (ev u), .agg (ev v), .agg (ev e), .pointer (some ⟨w.heap.size, 8, none⟩), .agg (ev (s.c)), .pointer (some ⟨w.heap.size, 12, none⟩), .agg (ev (s.d)), .agg (ev cd), .agg (ev le), .agg (ev m), .pointer (some ⟨w.heap.size, 8, none⟩), .agg (ev (s.c)), .pointer (some ⟨w.heap.size, 12, none⟩), .agg (ev (s.d)), .agg (ev ce), .agg (ev su), u42, u43, u44, u45, u46, u47, u48, u49, u50, u51, u52, u53, u54, u55, u56, u57, u58, u59, u60, u61, u62, u63], defers := [] } W := by
                as_aux_lemma =>
                  clear st4_ st4_15 st4_1415
                  intro g10 W hHeld K14 Z14
                  rw [← hops]
                  refine wpAnyH_ready (rs := [13, 15]) (by kernel_rfl) (by simp) (AllReadyH.cons rfl (fun K hK => ?_) (AllReadyH.cons rfl (fun K hK => ?_) AllReadyH.nil))
                  · have KH14 := Lib.hid K14
                    have h0 := hHeld
                    clear hHeld
                    try simp only [List.getElem_toArray, List.getElem_cons_succ, List.getElem_cons_zero]
                    have H0 := Lib.hid h0
                    clear h0
                    go_simp
                    go_at_call 36
                    refine (mulR H_k.out _ (HPG.out.ext H0.out.below)).mono ?_
                    rintro e vv ⟨rfl, hb⟩
                    have KJ14 := Lib.hid (KH14.out.below hb KH14.out.lt)
                    have h1 := H0.out.ext hb
                    clear hb H0
                    go_wp2_with (fail)
                    refine hK.out _ _ h1 (fun hHeld => ?_)
                    clear hK K h1
                    try simp only [Act.put, List.getElem_toArray, List.getElem_cons_succ, List.getElem_cons_zero, List.setIfInBounds_toArray, List.set_cons_zero, List.set_cons_succ]
                    have k14 := KJ14.out
                    have z14 := Z14
                    refine wpAnyH_cast (n' := 3) (l' := #[true, true, true, true, true, true, true, true, true, true, true, true, true, true, true, false, false, false]) (by kernel_rfl) (by kernel_rfl) ?_
                    have hh := st4_14 g10 _ hHeld k14 z14
                    rw [← hops] at hh
                    exact hh
                  · have h0 := hHeld
                    clear hHeld
                    try simp only [List.getElem_toArray, List.getElem_cons_succ, List.getElem_cons_zero]
                    obtain ⟨kz, hg⟩ := Fn.fresh h0 27 #[.int .u64 0, .int .u64 0, .int .u64 0, .int .u64 0]
                    have KZ := Lib.hid kz
                    have HG := Lib.hid hg
                    have H0 := Lib.hid h0
                    clear kz hg h0
                    have KH14 := Lib.hid K14
                    go_simp
                    refine hK.out _ _ (Fn.pass H0.out _) (fun hHeld => ?_)
                    clear hK K H0
                    try simp only [Act.put, List.getElem_toArray, List.getElem_cons_succ, List.getElem_cons_zero, List.setIfInBounds_toArray, List.set_cons_zero, List.set_cons_succ]
                    have k14 := KH14.out.alloc (.cells #[.int .u64 0, .int .u64 0, .int .u64 0, .int .u64 0] 27)
                    have z14 := Z14
                    have k15 := KZ.out
                    have z15 := HG.out
                    refine wpAnyH_cast (n' := 3) (l' := #[true, true, true, true, true, true, true, true, true, true, true, true, true, false, true, true, false, false]) (by kernel_rfl) (by kernel_rfl) ?_
                    have hh := st3_1415 g10 _ _ hHeld k14 z14 k15 z15 (Nat.ne_of_lt K14.lt)
                    rw [← hops] at hh
                    exact hh
              have st3_15 : ∀ (g11 : Nat) (W : World), Fn wd W [(g9, 27, ev e), (g8, 27, ev v), (g7, 27, ev u), (g6, 27, ev le), (g5, 27, ev su), (w.heap.size + 1, 27, ev x), (w.heap.size, 109, sv s)] → Blk W g11 27 #[.int .u64 0, .int .u64 0, .int .u64 0, .int .u64 0] → wd.heap.size ≤ g11 → wpAnyH Tryd.prog .any ops Q (fun W => Fn wd W [(g9, 27, ev e), (g8, 27, ev v), (g7, 27, ev u), (g6, 27, ev le), (g5, 27, ev su), (w.heap.size + 1, 27, ev x), (w.heap.size, 109, sv s)]) 4 #[true, true, true, true, true, true, true, true, true, true, true, true, true, false, false, true, false, false] { tmps := #[.agg (sv s), .agg (ev x), .pointer (some ⟨w.heap.size, 0, none⟩), .pointer (some ⟨w.heap.size + 1, 0, none⟩), .pointer (some ⟨w.heap.size + 1 + 1, 0, none⟩), .pointer (some ⟨g5, 0, none⟩), .pointer (some ⟨g6, 0, none⟩), .pointer (some ⟨g7, 0, none⟩), .pointer (some ⟨g8, 0, none⟩), .pointer (some ⟨g9, 0, none⟩), undef, .pointer (some ⟨g11, 0, none⟩), u12, u13, u14, u15, u16, u17, u18, u19, u20, u21, u22, u23, u24, u25, .agg (ev u), .agg (ev v), .agg (ev e), .pointer (some ⟨w.heap.size, 8, none⟩), .agg (ev (s.c)), .pointer (some ⟨w.heap.size, 12, none⟩), .agg (ev (s.d)), .agg (ev cd), .agg (ev le), .agg (ev m), .pointer (some ⟨w.heap.size, 8, none⟩), .agg (ev (s.c)), .pointer (some ⟨w.heap.size, 12, none⟩), .agg (ev (s.d)), .agg (ev ce), .agg (ev su), u42, u43, u44, u45, u46, u47, u48, u49, u50, u51, u52, u53, u54, u55, u56, u57, u58, u59, u60, u61, u62, u63], defers := [] } W := by
                as_aux_lemma =>
                  clear st3_14 st4_ st4_14 st4_1415
                  intro g11 W hHeld K15 Z15
                  rw [← hops]
                  refine wpAnyH_ready (rs := [13, 14]) (by kernel_rfl) (by simp) (AllReadyH.cons rfl (fun K hK => ?_) (AllReadyH.cons rfl (fun K hK => ?_) AllReadyH.nil))
                  · have KH15 := Lib.hid K15
                    have h0 := hHeld
                    clear hHeld
                    try simp only [List.getElem_toArray, List.getElem_cons_succ, List.getElem_cons_zero]
                    have H0 := Lib.hid h0
                    clear h0
                    go_simp
                    go_at_call 36
                    refine (mulR H_k.out _ (HPG.out.ext H0.out.below)).mono ?_
                    rintro e vv ⟨rfl, hb⟩
                    have KJ15 := Lib.hid (KH15.out.below hb KH15.out.lt)
                    have h1 := H0.out.ext hb
                    clear hb H0
                    go_wp2_with (fail)
                    refine hK.out _ _ h1 (fun hHeld => ?_)
                    clear hK K h1
                    try simp only [Act.put, List.getElem_toArray, List.getElem_cons_succ, List.getElem_cons_zero, List.setIfInBounds_toArray, List.set_cons_zero, List.set_cons_succ]
                    have k15 := KJ15.out
                    have z15 := Z15
                    refine wpAnyH_cast (n' := 3) (l' := #[true, true, true, true, true, true, true, true, true, true, true, true, true, true, false, true, false, false]) (by kernel_rfl) (by kernel_rfl) ?_
                    have hh := st4_15 g11 _ hHeld k15 z15
                    rw [← hops] at hh
                    exact hh
                  · have h0 := hHeld
                    clear hHeld
                    try simp only [List.getElem_toArray, List.getElem_cons_succ, List.getElem_cons_zero]
                    obtain ⟨kz, hg⟩ := Fn.fresh h0 27 #[.int .u64 0, .int .u64 0, .int .u64 0, .int .u64 0]
                    have KZ := Lib.hid kz
                    have HG := Lib.hid hg
                    have H0 := Lib.hid h0
                    clear kz hg h0
                    have KH15 := Lib.hid K15
                    go_simp
                    refine hK.out _ _ (Fn.pass H0.out _) (fun hHeld => ?_)
                    clear hK K H0
                    try simp only [Act.put, List.getElem_toArray, List.getElem_cons_succ, List.getElem_cons_zero, List.setIfInBounds_toArray, List.set_cons_zero, List.set_cons_succ]
                    have k15 := KH15.out.alloc (.cells #[.int .u64 0, .int .u64 0, .int .u64 0, .int .u64 0] 27)
                    have z15 := Z15
                    have k14 := KZ.out
                    have z14 := HG.out
                    refine wpAnyH_cast (n' := 3) (l' := #[true, true, true, true, true, true, true, true, true, true, true, true, true, false, true, true, false, false]) (by kernel_rfl) (by kernel_rfl) ?_
                    have hh := st3_1415 _ g11 _ hHeld k14 z14 k15 z15 (Ne.symm (Nat.ne_of_lt K15.lt))
                    rw [← hops] at hh
                    exact hh
              have st2_1415 : ∀ (g10 g11 : Nat) (W : World), Fn wd W [(g9, 27, ev e), (g8, 27, ev v), (g7, 27, ev u), (g6, 27, ev le), (g5, 27, ev su), (w.heap.size + 1, 27, ev x), (w.heap.size, 109, sv s)] → Blk W g10 27 #[.int .u64 0, .int .u64 0, .int .u64 0, .int .u64 0] → wd.heap.size ≤ g10 → Blk W g11 27 #[.int .u64 0, .int .u64 0, .int .u64 0, .int .u64 0] → wd.heap.size ≤ g11 → g10 ≠ g11 → wpAnyH Tryd.prog .any ops Q (fun W => Fn wd W [(g9, 27, ev e), (g8, 27, ev v), (g7, 27, ev u), (g6, 27, ev le), (g5, 27, ev su), (w.heap.size + 1, 27, ev x), (w.heap.size, 109, sv s)]) 4 #[true, true, true, true, true, true, true, true, true, true, true, false, true, false, true, true, false, false] { tmps := #[.agg (sv s), .agg (ev x), .pointer (some ⟨w.heap.size, 0, none⟩), .pointer (some ⟨w.heap.size + 1, 0, none⟩), .pointer (some ⟨w.heap.size + 1 + 1, 0, none⟩), .pointer (some ⟨g5, 0, none⟩), .pointer (some ⟨g6, 0, none⟩), .pointer (some ⟨g7, 0, none⟩), .pointer (some ⟨g8, 0, none⟩), .pointer (some ⟨g9, 0, none⟩), .pointer (some ⟨g10, 0, none⟩), .pointer (some ⟨g11, 0, none⟩), u12, u13, u14, u15, u16, u17, u18, u19, u20, u21, u22, u23, u24, u25, .agg (ev u), .agg (ev v), .agg (ev e), .pointer (some ⟨w.heap.size, 8, none⟩), .agg (ev (s.c)), .pointer (some ⟨w.heap.size, 12, none⟩), .agg (ev (s.d)), .agg (ev cd), .agg (ev le), .agg (ev m), .pointer (some ⟨w.heap.size, 8, none⟩), .agg (ev (s.c)), .pointer (some ⟨w.heap.size, 12, none⟩), .agg (ev (s.d)), u40, .agg (ev su), u42, u43, u44, u45, u46, u47, u48, u49, u50, u51, u52, u53, u54, u55, u56, u57, u58, u59, u60, u61, u62, u63], defers := [] } W := by
                as_aux_lemma =>
                  clear st3_15 st3_14 st4_ st4_15 st4_14 st4_1415
                  intro g10 g11 W hHeld K14 Z14 K15 Z15 n14_15
                  rw [← hops]
                  refine wpAnyH_ready (rs := [11]) (by kernel_rfl) (by simp) (AllReadyH.cons rfl (fun K hK => ?_) AllReadyH.nil)
                  have KH14 := Lib.hid K14
                  have KH15 := Lib.hid K15
                  have h0 := hHeld
                  clear hHeld
                  try simp only [List.getElem_toArray, List.getElem_cons_succ, List.getElem_cons_zero]
                  have H0 := Lib.hid h0
                  clear h0
                  go_simp
                  go_at_call 37
                  refine (subR H_ce.out _ (HPG.out.ext H0.out.below)).mono ?_
                  rintro e vv ⟨rfl, hb⟩
                  have KJ14 := Lib.hid (KH14.out.below hb KH14.out.lt)
                  have KJ15 := Lib.hid (KH15.out.below hb KH15.out.lt)
                  have h1 := H0.out.ext hb
                  clear hb H0
                  go_wp2_with (fail)
                  refine hK.out _ _ h1 (fun hHeld => ?_)
                  clear hK K h1
                  try simp only [Act.put, List.getElem_toArray, List.getElem_cons_succ, List.getElem_cons_zero, List.setIfInBounds_toArray, List.set_cons_zero, List.set_cons_succ]
                  have k14 := KJ14.out
                  have k15 := KJ15.out
                  have z14 := Z14
                  have z15 := Z15
                  refine wpAnyH_cast (n' := 3) (l' := #[true, true, true, true, true, true, true, true, true, true, true, true, true, false, true, true, false, false]) (by kernel_rfl) (by kernel_rfl) ?_
                  have hh := st3_1415 g10 g11 _ hHeld k14 z14 k15 z15 n14_15
                  rw [← hops] at hh
                  exact hh
              have st3_ : ∀ (W : World), Fn wd W [(g9, 27, ev e), (g8, 27, ev v), (g7, 27, ev u), (g6, 27, ev le), (g5, 27, ev su), (w.heap.size + 1, 27, ev x), (w.heap.size, 109, sv s)] → wpAnyH Tryd.prog .any ops Q (fun W => Fn wd W [(g9, 27, ev e), (g8, 27, ev v), (g7, 27, ev u), (g6, 27, ev le), (g5, 27, ev su), (w.heap.size + 1, 27, ev x), (w.heap.size, 109, sv s)]) 5 #[true, true, true, true, true, true, true, true, true, true, true, true, true, false, false, false, false, false] { tmps := #[.agg (sv s), .agg (ev x), .pointer (some ⟨w.heap.size, 0, none⟩), .pointer (some ⟨w.heap.size + 1, 0, none⟩), .pointer (some ⟨w.heap.size + 1 + 1, 0, none⟩), .pointer (some ⟨g5, 0, none⟩), .pointer (some ⟨g6, 0, none⟩), .pointer (some ⟨g7, 0, none⟩), .pointer (some ⟨g8, 0, none⟩), .pointer (some ⟨g9, 0, none⟩), undef, undef, u12, u13, u14, u15, u16, u17, u18, u19, u20, u21, u22, u23, u24, u25, .agg (ev u), .agg (ev v), .agg (ev e), .pointer (some ⟨w.heap.size, 8, none⟩), .agg (ev (s.c)), .pointer (some ⟨w.heap.size, 12, none⟩), .agg (ev (s.d)), .agg (ev cd), .agg (ev le), .agg (ev m), .pointer (some ⟨w.heap.size, 8, none⟩), .agg (ev (s.c)), .pointer (some ⟨w.heap.size, 12, none⟩), .agg (ev (s.d)), .agg (ev ce), .agg (ev su), u42, u43, u44, u45, u46, u47, u48, u49, u50, u51, u52, u53, u54, u55, u56, u57, u58, u59, u60, u61, u62, u63], defers := [] } W := by
                as_aux_lemma =>
                  clear st2_1415 st3_1415 st4_15 st4_14 st4_1415
                  intro W hHeld
                  rw [← hops]
                  refine wpAnyH_ready (rs := [13, 14, 15]) (by kernel_rfl) (by simp) (AllReadyH.cons rfl (fun K hK => ?_) (AllReadyH.cons rfl (fun K hK => ?_) (AllReadyH.cons rfl (fun K hK => ?_) AllReadyH.nil)))
                  · have h0 := hHeld
                    clear hHeld
                    try simp only [List.getElem_toArray, List.getElem_cons_succ, List.getElem_cons_zero]
                    have H0 := Lib.hid h0
                    clear h0
                    go_simp
                    go_at_call 36
                    refine (mulR H_k.out _ (HPG.out.ext H0.out.below)).mono ?_
                    rintro e vv ⟨rfl, hb⟩
                    have h1 := H0.out.ext hb
                    clear hb H0
                    go_wp2_with (fail)
                    refine hK.out _ _ h1 (fun hHeld => ?_)
                    clear hK K h1
                    try simp only [Act.put, List.getElem_toArray, List.getElem_cons_succ, List.getElem_cons_zero, List.setIfInBounds_toArray, List.set_cons_zero, List.set_cons_succ]
                    refine wpAnyH_cast (n' := 4) (l' := #[true, true, true, true, true, true, true, true, true, true, true, true, true, true, false, false, false, false]) (by kernel_rfl) (by kernel_rfl) ?_
                    have hh := st4_ _ hHeld
                    rw [← hops] at hh
                    exact hh
                  · have h0 := hHeld
                    clear hHeld
                    try simp only [List.getElem_toArray, List.getElem_cons_succ, List.getElem_cons_zero]
                    obtain ⟨kz, hg⟩ := Fn.fresh h0 27 #[.int .u64 0, .int .u64 0, .int .u64 0, .int .u64 0]
                    have KZ := Lib.hid kz
                    have HG := Lib.hid hg
                    have H0 := Lib.hid h0
                    clear kz hg h0
                    go_simp
                    refine hK.out _ _ (Fn.pass H0.out _) (fun hHeld => ?_)
                    clear hK K H0
                    try simp only [Act.put, List.getElem_toArray, List.getElem_cons_succ, List.getElem_cons_zero, List.setIfInBounds_toArray, List.set_cons_zero, List.set_cons_succ]
                    have k14 := KZ.out
                    have z14 := HG.out
                    refine wpAnyH_cast (n' := 4) (l' := #[true, true, true, true, true, true, true, true, true, true, true, true, true, false, true, false, false, false]) (by kernel_rfl) (by kernel_rfl) ?_
                    have hh := st3_14 _ _ hHeld k14 z14
                    rw [← hops] at hh
                    exact hh
                  · have h0 := hHeld
                    clear hHeld
                    try simp only [List.getElem_toArray, List.getElem_cons_succ, List.getElem_cons_zero]
                    obtain ⟨kz, hg⟩ := Fn.fresh h0 27 #[.int .u64 0, .int .u64 0, .int .u64 0, .int .u64 0]
                    have KZ := Lib.hid kz
                    have HG := Lib.hid hg
                    have H0 := Lib.hid h0
                    clear kz hg h0
                    go_simp
                    refine hK.out _ _ (Fn.pass H0.out _) (fun hHeld => ?_)
                    clear hK K H0
                    try simp only [Act.put, List.getElem_toArray, List.getElem_cons_succ, List.getElem_cons_zero, List.setIfInBounds_toArray, List.set_cons_zero, List.set_cons_succ]
                    have k15 := KZ.out
                    have z15 := HG.out
                    refine wpAnyH_cast (n' := 4) (l' := #[true, true, true, true, true, true, true, true, true, true, true, true, true, false, false, true, false, false]) (by kernel_rfl) (by kernel_rfl) ?_
                    have hh := st3_15 _ _ hHeld k15 z15
                    rw [← hops] at hh
                    exact hh
              have st2_14 : ∀ (g10 : Nat) (W : World), Fn wd W [(g9, 27, ev e), (g8, 27, ev v), (g7, 27, ev u), (g6, 27, ev le), (g5, 27, ev su), (w.heap.size + 1, 27, ev x), (w.heap.size, 109, sv s)] → Blk W g10 27 #[.int .u64 0, .int .u64 0, .int .u64 0, .int .u64 0] → wd.heap.size ≤ g10 → wpAnyH Tryd.prog .any ops Q (fun W => Fn wd W [(g9, 27, ev e), (g8, 27, ev v), (g7, 27, ev u), (g6, 27, ev le), (g5, 27, ev su), (w.heap.size + 1, 27, ev x), (w.heap.size, 109, sv s)]) 5 #[true, true, true, true, true, true, true, true, true, true, true, false, true, false, true, false, false, false] { tmps := #[.agg (sv s), .agg (ev x), .pointer (some ⟨w.heap.size, 0, none⟩), .pointer (some ⟨w.heap.size + 1, 0, none⟩), .pointer (some ⟨w.heap.size + 1 + 1, 0, none⟩), .pointer (some ⟨g5, 0, none⟩), .pointer (some ⟨g6, 0, none⟩), .pointer (some ⟨g7, 0, none⟩), .pointer (some ⟨g8, 0, none⟩), .pointer (some ⟨g9, 0, none⟩), .pointer (some ⟨g10, 0, none⟩), undef, u12, u13, u14, u15, u16, u17, u18, u19, u20, u21, u22, u23, u24, u25, .agg (ev u), .agg (ev v), .agg (ev e), .pointer (some ⟨w.heap.size, 8, none⟩), .agg (ev (s.c)), .pointer (some ⟨w.heap.size, 12, none⟩), .agg (ev (s.d)), .agg (ev cd), .agg (ev le), .agg (ev m), .pointer (some ⟨w.heap.size, 8, none⟩), .agg (ev (s.c)), .pointer (some ⟨w.heap.size, 12, none⟩), .agg (ev (s.d)), u40, .agg (ev su), u42, u43, u44, u45, u46, u47, u48, u49, u50, u51, u52, u53, u54, u55, u56, u57, u58, u59, u60, u61, u62, u63], defers := [] } W := by
                as_aux_lemma =>
                  clear st3_ st3_15 st4_ st3_1415 st4_15 st4_14 st4_1415
                  intro g10 W hHeld K14 Z14
                  rw [← hops]
                  refine wpAnyH_ready (rs := [11, 15]) (by kernel_rfl) (by simp) (AllReadyH.cons rfl (fun K hK => ?_) (AllReadyH.cons rfl (fun K hK => ?_) AllReadyH.nil))
                  · have KH14 := Lib.hid K14
                    have h0 := hHeld
                    clear hHeld
                    try simp only [List.getElem_toArray, List.getElem_cons_succ, List.getElem_cons_zero]
                    have H0 := Lib.hid h0
                    clear h0
                    go_simp
                    go_at_call 37
                    refine (subR H_ce.out _ (HPG.out.ext H0.out.below)).mono ?_
                    rintro e vv ⟨rfl, hb⟩
                    have KJ14 := Lib.hid (KH14.out.below hb KH14.out.lt)
                    have h1 := H0.out.ext hb
                    clear hb H0
                    go_wp2_with (fail)
                    refine hK.out _ _ h1 (fun hHeld => ?_)
                    clear hK K h1
                    try simp only [Act.put, List.getElem_toArray, List.getElem_cons_succ, List.getElem_cons_zero, List.setIfInBounds_toArray, List.set_cons_zero, List.set_cons_succ]
                    have k14 := KJ14.out
                    have z14 := Z14
                    refine wpAnyH_cast (n' := 4) (l' := #[true, true, true, true, true, true, true, true, true, true, true, true, true, false, true, false, false, false]) (by kernel_rfl) (by kernel_rfl) ?_
                    have hh := st3_14 g10 _ hHeld k14 z14
                    rw [← hops] at hh
                    exact hh
                  · have h0 := hHeld
                    clear hHeld
                    try simp only [List.getElem_toArray, List.getElem_cons_succ, List.getElem_cons_zero]
                    obtain ⟨kz, hg⟩ := Fn.fresh h0 27 #[.int .u64 0, .int .u64 0, .int .u64 0, .int .u64 0]
                    have KZ := Lib.hid kz
                    have HG := Lib.hid hg
                    have H0 := Lib.hid h0
                    clear kz hg h0
                    have KH14 := Lib.hid K14
                    go_simp
                    refine hK.out _ _ (Fn.pass H0.out _) (fun hHeld => ?_)
                    clear hK K H0
                    try simp only [Act.put, List.getElem_toArray, List.getElem_cons_succ, List.getElem_cons_zero, List.setIfInBounds_toArray, List.set_cons_zero, List.set_cons_succ]
                    have k14 := KH14.out.alloc (.cells #[.int .u64 0, .int .u64 0, .int .u64 0, .int .u64 0] 27)
                    have z14 := Z14
                    have k15 := KZ.out
                    have z15 := HG.out
                    refine wpAnyH_cast (n' := 4) (l' := #[true, true, true, true, true, true, true, true, true, true, true, false, true, false, true, true, false, false]) (by kernel_rfl) (by kernel_rfl) ?_
                    have hh := st2_1415 g10 _ _ hHeld k14 z14 k15 z15 (Nat.ne_of_lt K14.lt)
                    rw [← hops] at hh
                    exact hh
              have st2_15 : ∀ (g11 : Nat) (W : World), Fn wd W [(g9, 27, ev e), (g8, 27, ev v), (g7, 27, ev u), (g6, 27, ev le), (g5, 27, ev su), (w.heap.size + 1, 27, ev x), (w.heap.size, 109, sv s)] → Blk W g11 27 #[.int .u64 0, .int .u64 0, .int .u64 0, .int .u64 0] → wd.heap.size ≤ g11 → wpAnyH Tryd.prog .any ops Q (fun W => Fn wd W [(g9, 27, ev e), (g8, 27, ev v), (g7, 27, ev u), (g6, 27, ev le), (g5, 27, ev su), (w.heap.size + 1, 27, ev x), (w.heap.size, 109, sv s)]) 5 #[true, true, true, true, true, true, true, true, true, true, true, false, true, false, false, true, false, false] { tmps := #[.agg (sv s), .agg (ev x), .pointer (some ⟨w.heap.size, 0, none⟩), .pointer (some ⟨w.heap.size + 1, 0, none⟩), .pointer (some ⟨w.heap.size + 1 + 1, 0, none⟩), .pointer (some ⟨g5, 0, none⟩), .pointer (some ⟨g6, 0, none⟩), .pointer (some ⟨g7, 0, none⟩), .pointer (some ⟨g8, 0, none⟩), .pointer (some ⟨g9, 0, none⟩), undef, .pointer (some ⟨g11, 0, none⟩), u12, u13, u14, u15, u16, u17, u18, u19, u20, u21, u22, u23, u24, u25, .agg (ev u), .agg (ev v), .agg (ev e), .pointer (some ⟨w.heap.size, 8, none⟩), .agg (ev (s.c)), .pointer (some ⟨w.heap.size, 12, none⟩), .agg (ev (s.d)), .agg (ev cd), .agg (ev le), .agg (ev m), .pointer (some ⟨w.heap.size, 8, none⟩), .agg (ev (s.c)), .pointer (some ⟨w.heap.size, 12, none⟩), .agg (ev (s.d)), u40, .agg (ev su), u42, u43, u44, u45, u46, u47, u48, u49, u50, u51, u52, u53, u54, u55, u56, u57, u58, u59, u60, u61, u62, u63], defers := [] } W := by
                as_aux_lemma =>
                  clear st2_14 st3_ st3_14 st4_ st3_1415 st4_15 st4_14 st4_1415
                  intro g11 W hHeld K15 Z15
                  rw [← hops]
                  refine wpAnyH_ready (rs := [11, 14]) (by kernel_rfl) (by simp) (AllReadyH.cons rfl (fun K hK => ?_) (AllReadyH.cons rfl (fun K hK => ?_) AllReadyH.nil))
                  · have KH15 := Lib.hid K15
                    have h0 := hHeld
                    clear hHeld
                    try simp only [List.getElem_toArray, List.getElem_cons_succ, List.getElem_cons_zero]
                    have H0 := Lib.hid h0
                    clear h0
                    go_simp
                    go_at_call 37
                    refine (subR H_ce.out _ (HPG.out.ext H0.out.below)).mono ?_
                    rintro e vv ⟨rfl, hb⟩
                    have KJ15 := Lib.hid (KH15.out.below hb KH15.out.lt)
                    have h1 := H0.out.ext hb
                    clear hb H0
                    go_wp2_with (fail)
                    refine hK.out _ _ h1 (fun hHeld => ?_)
                    clear hK K h1
                    try simp only [Act.put, List.getElem_toArray, List.getElem_cons_succ, List.getElem_cons_zero, List.setIfInBounds_toArray, List.set_cons_zero, List.set_cons_succ]
                    have k15 := KJ15.out
                    have z15 := Z15
                    refine wpAnyH_cast (n' := 4) (l' := #[true, true, true, true, true, true, true, true, true, true, true, true, true, false, false, true, false, false]) (by kernel_rfl) (by kernel_rfl) ?_
                    have hh := st3_15 g11 _ hHeld k15 z15
                    rw [← hops] at hh
                    exact hh
                  · have h0 := hHeld
                    clear hHeld
                    try simp only [List.getElem_toArray, List.getElem_cons_succ, List.getElem_cons_zero]
                    obtain ⟨kz, hg⟩ := Fn.fresh h0 27 #[.int .u64 0, .int .u64 0, .int .u64 0, .int .u64 0]
                    have KZ := Lib.hid kz
                    have HG := Lib.hid hg
                    have H0 := Lib.hid h0
                    clear kz hg h0
                    have KH15 := Lib.hid K15
                    go_simp
                    refine hK.out _ _ (Fn.pass H0.out _) (fun hHeld => ?_)
                    clear hK K H0
                    try simp only [Act.put, List.getElem_toArray, List.getElem_cons_succ, List.getElem_cons_zero, List.setIfInBounds_toArray, List.set_cons_zero, List.set_cons_succ]
                    have k15 := KH15.out.alloc (.cells #[.int .u64 0, .int .u64 0, .int .u64 0, .int .u64 0] 27)
                    have z15 := Z15
                    have k14 := KZ.out
                    have z14 := HG.out
                    refine wpAnyH_cast (n' := 4) (l' := #[true, true, true, true, true, true, true, true, true, true, true, false, true, false, true, true, false, false]) (by kernel_rfl) (by kernel_rfl) ?_
                    have hh := st2_1415 _ g11 _ hHeld k14 z14 k15 z15 (Ne.symm (Nat.ne_of_lt K15.lt))
                    rw [← hops] at hh
                    exact hh
              have st1_1415 : ∀ (g10 g11 : Nat) (W : World), Fn wd W [(g9, 27, ev e), (g8, 27, ev v), (g7, 27, ev u), (g6, 27, ev le), (g5, 27, ev su), (w.heap.size + 1, 27, ev x), (w.heap.size, 109, sv s)] → Blk W g10 27 #[.int .u64 0, .int .u64 0, .int .u64 0, .int .u64 0] → wd.heap.size ≤ g10 → Blk W g11 27 #[.int .u64 0, .int .u64 0, .int .u64 0, .int .u64 0] → wd.heap.size ≤ g11 → g10 ≠ g11 → wpAnyH Tryd.prog .any ops Q (fun W => Fn wd W [(g9, 27, ev e), (g8, 27, ev v), (g7, 27, ev u), (g6, 27, ev le), (g5, 27, ev su), (w.heap.size + 1, 27, ev x), (w.heap.size, 109, sv s)]) 5 #[true, true, true, true, true, true, false, true, true, true, true, false, true, false, true, true, false, false] { tmps := #[.agg (sv s), .agg (ev x), .pointer (some ⟨w.heap.size, 0, none⟩), .pointer (some ⟨w.heap.size + 1, 0, none⟩), .pointer (some ⟨w.heap.size + 1 + 1, 0, none⟩), .pointer (some ⟨g5, 0, none⟩), .pointer (some ⟨g6, 0, none⟩), .pointer (some ⟨g7, 0, none⟩), .pointer (some ⟨g8, 0, none⟩), .pointer (some ⟨g9, 0, none⟩), .pointer (some ⟨g10, 0, none⟩), .pointer (some ⟨g11, 0, none⟩), u12, u13, u14, u15, u16, u17, u18, u19, u20, u21, u22, u23, u24, u25, .agg (ev u), .agg (ev v), .agg (ev e), .pointer (some ⟨w.heap.size, 8, none⟩), .agg (ev (s.c)), .pointer (some ⟨w.heap.size, 12, none⟩), .agg (ev (s.d)), .agg (ev cd), .agg (ev le), u35, .pointer (some ⟨w.heap.size, 8, none⟩), .agg (ev (s.c)), .pointer (some ⟨w.heap.size, 12, none⟩), .agg (ev (s.d)), u40, .agg (ev su), u42, u43, u44, u45, u46, u47, u48, u49, u50, u51, u52, u53, u54, u55, u56, u57, u58, u59, u60, u61, u62, u63], defers := [] } W := by
                as_aux_lemma =>
                  clear st2_15 st2_14 st3_ st3_15 st3_14 st4_ st3_1415 st4_15 st4_14 st4_1415
                  intro g10 g11 W hHeld K14 Z14 K15 Z15 n14_15
                  rw [← hops]
                  refine wpAnyH_ready (rs := [6]) (by kernel_rfl) (by simp) (AllReadyH.cons rfl (fun K hK => ?_) AllReadyH.nil)
                  have KH14 := Lib.hid K14
                  have KH15 := Lib.hid K15
                  have h0 := hHeld
                  clear hHeld
                  try simp only [List.getElem_toArray, List.getElem_cons_succ, List.getElem_cons_zero]
                  have H0 := Lib.hid h0
                  clear h0
                  go_simp
                  go_at_call 36
                  refine (mulR H_m.out _ (HPG.out.ext H0.out.below)).mono ?_
                  rintro e vv ⟨rfl, hb⟩
                  have KJ14 := Lib.hid (KH14.out.below hb KH14.out.lt)
                  have KJ15 := Lib.hid (KH15.out.below hb KH15.out.lt)
                  have h1 := H0.out.ext hb
                  clear hb H0
                  go_wp2_with (fail)
                  refine hK.out _ _ h1 (fun hHeld => ?_)
                  clear hK K h1
                  try simp only [Act.put, List.getElem_toArray, List.getElem_cons_succ, List.getElem_cons_zero, List.setIfInBounds_toArray, List.set_cons_zero, List.set_cons_succ]
                  have k14 := KJ14.out
                  have k15 := KJ15.out
                  have z14 := Z14
                  have z15 := Z15
                  refine wpAnyH_cast (n' := 4) (l' := #[true, true, true, true, true, true, true, true, true, true, true, false, true, false, true, true, false, false]) (by kernel_rfl) (by kernel_rfl) ?_
                  have hh := st2_1415 g10 g11 _ hHeld k14 z14 k15 z15 n14_15
                  rw [← hops] at hh
                  exact hh
              have st2_ : ∀ (W : World), Fn wd W [(g9, 27, ev e), (g8, 27, ev v), (g7, 27, ev u), (g6, 27, ev le), (g5, 27, ev su), (w.heap.size + 1, 27, ev x), (w.heap.size, 109, sv s)] → wpAnyH Tryd.prog .any ops Q (fun W => Fn wd W [(g9, 27, ev e), (g8, 27, ev v), (g7, 27, ev u), (g6, 27, ev le), (g5, 27, ev su), (w.heap.size + 1, 27, ev x), (w.heap.size, 109, sv s)]) 6 #[true, true, true, true, true, true, true, true, true, true, true, false, true, false, false, false, false, false] { tmps := #[.agg (sv s), .agg (ev x), .pointer (some ⟨w.heap.size, 0, none⟩), .pointer (some ⟨w.heap.size + 1, 0, none⟩), .pointer (some ⟨w.heap.size + 1 + 1, 0, none⟩), .pointer (some ⟨g5, 0, none⟩), .pointer (some ⟨g6, 0, none⟩), .pointer (some ⟨g7, 0, none⟩), .pointer (some ⟨g8, 0, none⟩), .pointer (some ⟨g9, 0, none⟩), undef, undef, u12, u13, u14, u15, u16, u17, u18, u19, u20, u21, u22, u23, u24, u25, .agg (ev u), .agg (ev v), .agg (ev e), .pointer (some ⟨w.heap.size, 8, none⟩), .agg (ev (s.c)), .pointer (some ⟨w.heap.size, 12, none⟩), .agg (ev (s.d)), .agg (ev cd), .agg (ev le), .agg (ev m), .pointer (some ⟨w.heap.size, 8, none⟩), .agg (ev (s.c)), .pointer (some ⟨w.heap.size, 12, none⟩), .agg (ev (s.d)), u40, .agg (ev su), u42, u43, u44, u45, u46, u47, u48, u49, u50, u51, u52, u53, u54, u55, u56, u57, u58, u59, u60, u61, u62, u63], defers := [] } W := by
                as_aux_lemma =>
                  clear st1_1415 st2_1415 st3_15 st3_14 st4_ st3_1415 st4_15 st4_14 st4_1415
                  intro W hHeld
                  rw [← hops]
                  refine wpAnyH_ready (rs := [11, 14, 15]) (by kernel_rfl) (by simp) (AllReadyH.cons rfl (fun K hK => ?_) (AllReadyH.cons rfl (fun K hK => ?_) (AllReadyH.cons rfl (fun K hK => ?_) AllReadyH.nil)))
                  · have h0 := hHeld
                    clear hHeld
                    try simp only [List.getElem_toArray, List.getElem_cons_succ, List.getElem_cons_zero]
                    have H0 := Lib.hid h0
                    clear h0
                    go_simp
                    go_at_call 37
                    refine (subR H_ce.out _ (HPG.out.ext H0.out.below)).mono ?_
                    rintro e vv ⟨rfl, hb⟩
                    have h1 := H0.out.ext hb
                    clear hb H0
                    go_wp2_with (fail)
                    refine hK.out _ _ h1 (fun hHeld => ?_)
                    clear hK K h1
                    try simp only [Act.put, List.getElem_toArray, List.getElem_cons_succ, List.getElem_cons_zero, List.setIfInBounds_toArray, List.set_cons_zero, List.set_cons_succ]
                    refine wpAnyH_cast (n' := 5) (l' := #[true, true, true, true, true, true, true, true, true, true, true, true, true, false, false, false, false, false]) (by kernel_rfl) (by kernel_rfl) ?_
                    have hh := st3_ _ hHeld
                    rw [← hops] at hh
                    exact hh
                  · have h0 := hHeld
                    clear hHeld
                    try simp only [List.getElem_toArray, List.getElem_cons_succ, List.getElem_cons_zero]
                    obtain ⟨kz, hg⟩ := Fn.fresh h0 27 #[.int .u64 0, .int .u64 0, .int .u64 0, .int .u64 0]
                    have KZ := Lib.hid kz
                    have HG := Lib.hid hg
                    have H0 := Lib.hid h0
                    clear kz hg h0
                    go_simp
                    refine hK.out _ _ (Fn.pass H0.out _) (fun hHeld => ?_)
                    clear hK K H0
                    try simp only [Act.put, List.getElem_toArray, List.getElem_cons_succ, List.getElem_cons_zero, List.setIfInBounds_toArray, List.set_cons_zero, List.set_cons_succ]
                    have k14 := KZ.out
                    have z14 := HG.out
                    refine wpAnyH_cast (n' := 5) (l' := #[true, true, true, true, true, true, true, true, true, true, true, false, true, false, true, false, false, false]) (by kernel_rfl) (by kernel_rfl) ?_
                    have hh := st2_14 _ _ hHeld k14 z14
                    rw [← hops] at hh
                    exact hh
                  · have h0 := hHeld
                    clear hHeld
                    try simp only [List.getElem_toArray, List.getElem_cons_succ, List.getElem_cons_zero]
                    obtain ⟨kz, hg⟩ := Fn.fresh h0 27 #[.int .u64 0, .int .u64 0, .int .u64 0, .int .u64 0]
                    have KZ := Lib.hid kz
                    have HG := Lib.hid hg
                    have H0 := Lib.hid h0
                    clear kz hg h0
                    go_simp
                    refine hK.out _ _ (Fn.pass H0.out _) (fun hHeld => ?_)
                    clear hK K H0
                    try simp only [Act.put, List.getElem_toArray, List.getElem_cons_succ, List.getElem_cons_zero, List.setIfInBounds_toArray, List.set_cons_zero, List.set_cons_succ]
                    have k15 := KZ.out
                    have z15 := HG.out
                    refine wpAnyH_cast (n' := 5) (l' := #[true, true, true, true, true, true, true, true, true, true, true, false, true, false, false, true, false, false]) (by kernel_rfl) (by kernel_rfl) ?_
                    have hh := st2_15 _ _ hHeld k15 z15
                    rw [← hops] at hh
                    exact hh
              have st1_14 : ∀ (g10 : Nat) (W : World), Fn wd W [(g9, 27, ev e), (g8, 27, ev v), (g7, 27, ev u), (g6, 27, ev le), (g5, 27, ev su), (w.heap.size + 1, 27, ev x), (w.heap.size, 109, sv s)] → Blk W g10 27 #[.int .u64 0, .int .u64 0, .int .u64 0, .int .u64 0] → wd.heap.size ≤ g10 → wpAnyH Tryd.prog .any ops Q (fun W => Fn wd W [(g9, 27, ev e), (g8, 27, ev v), (g7, 27, ev u), (g6, 27, ev le), (g5, 27, ev su), (w.heap.size + 1, 27, ev x), (w.heap.size, 109, sv s)]) 6 #[true, true, true, true, true, true, false, true, true, true, true, false, true, false, true, false, false, false] { tmps := #[.agg (sv s), .agg (ev x), .pointer (some ⟨w.heap.size, 0, none⟩), .pointer (some ⟨w.heap.size + 1, 0, none⟩), .pointer (some ⟨w.heap.size + 1 + 1, 0, none⟩), .pointer (some ⟨g5, 0, none⟩), .pointer (some ⟨g6, 0, none⟩), .pointer (some ⟨g7, 0, none⟩), .pointer (some ⟨g8, 0, none⟩), .pointer (some ⟨g9, 0, none⟩), .pointer (some ⟨g10, 0, none⟩), undef, u12, u13, u14, u15, u16, u17, u18, u19, u20, u21, u22, u23, u24, u25, .agg (ev u), .agg (ev v), .agg (ev e), .pointer (some ⟨w.heap.size, 8, none⟩), .agg (ev (s.c)), .pointer (some ⟨w.heap.size, 12, none⟩), .agg (ev (s.d)), .agg (ev cd), .agg (ev le), u35, .pointer (some ⟨w.heap.size, 8, none⟩), .agg (ev (s.c)), .pointer (some ⟨w.heap.size, 12, none⟩), .agg (ev (s.d)), u40, .agg (ev su), u42, u43, u44, u45, u46, u47, u48, u49, u50, u51, u52, u53, u54, u55, u56, u57, u58, u59, u60, u61, u62, u63], defers := [] } W := by
                as_aux_lemma =>
                  clear st2_ st2_15 st3_ st2_1415 st3_15 st3_14 st4_ st3_1415 st4_15 st4_14 st4_1415
                  intro g10 W hHeld K14 Z14
                  rw [← hops]
                  refine wpAnyH_ready (rs := [6, 15]) (by kernel_rfl) (by simp) (AllReadyH.cons rfl (fun K hK => ?_) (AllReadyH.cons rfl (fun K hK => ?_) AllReadyH.nil))
                  · have KH14 := Lib.hid K14
                    have h0 := hHeld
                    clear hHeld
                    try simp only [List.getElem_toArray, List.getElem_cons_succ, List.getElem_cons_zero]
                    have H0 := Lib.hid h0
                    clear h0
                    go_simp
                    go_at_call 36
                    refine (mulR H_m.out _ (HPG.out.ext H0.out.below)).mono ?_
                    rintro e vv ⟨rfl, hb⟩
                    have KJ14 := Lib.hid (KH14.out.below hb KH14.out.lt)
                    have h1 := H0.out.ext hb
                    clear hb H0
                    go_wp2_with (fail)
                    refine hK.out _ _ h1 (fun hHeld => ?_)
                    clear hK K h1
                    try simp only [Act.put, List.getElem_toArray, List.getElem_cons_succ, List.getElem_cons_zero, List.setIfInBounds_toArray, List.set_cons_zero, List.set_cons_succ]
                    have k14 := KJ14.out
                    have z14 := Z14
                    refine wpAnyH_cast (n' := 5) (l' := #[true, true, true, true, true, true, true, true, true, true, true, false, true, false, true, false, false, false]) (by kernel_rfl) (by kernel_rfl) ?_
                    have hh := st2_14 g10 _ hHeld k14 z14
                    rw [← hops] at hh
                    exact hh
                  · have h0 := hHeld
                    clear hHeld
                    try simp only [List.getElem_toArray, List.getElem_cons_succ, List.getElem_cons_zero]
                    obtain ⟨kz, hg⟩ := Fn.fresh h0 27 #[.int .u64 0, .int .u64 0, .int .u64 0, .int .u64 0]
                    have KZ := Lib.hid kz
                    have HG := Lib.hid hg
                    have H0 := Lib.hid h0
                    clear kz hg h0
                    have KH14 := Lib.hid K14
                    go_simp
                    refine hK.out _ _ (Fn.pass H0.out _) (fun hHeld => ?_)
                    clear hK K H0
                    try simp only [Act.put, List.getElem_toArray, List.getElem_cons_succ, List.getElem_cons_zero, List.setIfInBounds_toArray, List.set_cons_zero, List.set_cons_succ]
                    have k14 := KH14.out.alloc (.cells #[.int .u64 0, .int .u64 0, .int .u64 0, .int .u64 0] 27)
                    have z14 := Z14
                    have k15 := KZ.out
                    have z15 := HG.out
                    refine wpAnyH_cast (n' := 5) (l' := #[true, true, true, true, true, true, false, true, true, true, true, false, true, false, true, true, false, false]) (by kernel_rfl) (by kernel_rfl) ?_
                    have hh := st1_1415 g10 _ _ hHeld k14 z14 k15 z15 (Nat.ne_of_lt K14.lt)
                    rw [← hops] at hh
                    exact hh
              have st1_15 : ∀ (g11 : Nat) (W : World), Fn wd W [(g9, 27, ev e), (g8, 27, ev v), (g7, 27, ev u), (g6, 27, ev le), (g5, 27, ev su), (w.heap.size + 1, 27, ev x), (w.heap.size, 109, sv s)] → Blk W g11 27 #[.int .u64 0, .int .u64 0, .int .u64 0, .int .u64 0] → wd.heap.size ≤ g11 → wpAnyH Tryd.prog .any ops Q (fun W => Fn wd W [(g9, 27, ev e), (g8, 27, ev v), (g7, 27, ev u), (g6, 27, ev le), (g5, 27, ev su), (w.heap.size + 1, 27, ev x), (w.heap.size, 109, sv s)]) 6 #[true, true, true, true, true, true, false, true, true, true, true, false, true, false, false, true, false, false] { tmps := #[.agg (sv s), .agg (ev x), .pointer (some ⟨w.heap.size, 0, none⟩), .pointer (some ⟨w.heap.size + 1, 0, none⟩), .pointer (some ⟨w.heap.size + 1 + 1, 0, none⟩), .pointer (some ⟨g5, 0, none⟩), .pointer (some ⟨g6, 0, none⟩), .pointer (some ⟨g7, 0, none⟩), .pointer (some ⟨g8, 0, none⟩), .pointer (some ⟨g9, 0, none⟩), undef, .pointer (some ⟨g11, 0, none⟩), u12, u13, u14, u15, u16, u17, u18, u19, u20, u21, u22, u23, u24, u25, .agg (ev u), .agg (ev v), .agg (ev e), .pointer (some ⟨w.heap.size, 8, none⟩), .agg (ev (s.c)), .pointer (some ⟨w.heap.size, 12, none⟩), .agg (ev (s.d)), .agg (ev cd), .agg (ev le), u35, .pointer (some ⟨w.heap.size, 8, none⟩), .agg (ev (s.c)), .pointer (some ⟨w.heap.size, 12, none⟩), .agg (ev (s.d)), u40, .agg (ev su), u42, u43, u44, u45, u46, u47, u48, u49, u50, u51, u52, u53, u54, u55, u56, u57, u58, u59, u60, u61, u62, u63], defers := [] } W := by
                as_aux_lemma =>
                  clear st1_14 st2_ st2_14 st3_ st2_1415 st3_15 st3_14 st4_ st3_1415 st4_15 st4_14 st4_1415
                  intro g11 W hHeld K15 Z15
                  rw [← hops]
                  refine wpAnyH_ready (rs := [6, 14]) (by kernel_rfl) (by simp) (AllReadyH.cons rfl (fun K hK => ?_) (AllReadyH.cons rfl (fun K hK => ?_) AllReadyH.nil))
                  · have KH15 := Lib.hid K15
                    have h0 := hHeld
                    clear hHeld
                    try simp only [List.getElem_toArray, List.getElem_cons_succ, List.getElem_cons_zero]
                    have H0 := Lib.hid h0
                    clear h0
                    go_simp
                    go_at_call 36
                    refine (mulR H_m.out _ (HPG.out.ext H0.out.below)).mono ?_
                    rintro e vv ⟨rfl, hb⟩
                    have KJ15 := Lib.hid (KH15.out.below hb KH15.out.lt)
                    have h1 := H0.out.ext hb
                    clear hb H0
                    go_wp2_with (fail)
                    refine hK.out _ _ h1 (fun hHeld => ?_)
                    clear hK K h1
                    try simp only [Act.put, List.getElem_toArray, List.getElem_cons_succ, List.getElem_cons_zero, List.setIfInBounds_toArray, List.set_cons_zero, List.set_cons_succ]
                    have k15 := KJ15.out
                    have z15 := Z15
                    refine wpAnyH_cast (n' := 5) (l' := #[true, true, true, true, true, true, true, true, true, true, true, false, true, false, false, true, false, false]) (by kernel_rfl) (by kernel_rfl) ?_
                    have hh := st2_15 g11 _ hHeld k15 z15
                    rw [← hops] at hh
                    exact hh
                  · have h0 := hHeld
                    clear hHeld
                    try simp only [List.getElem_toArray, List.getElem_cons_succ, List.getElem_cons_zero]
                    obtain ⟨kz, hg⟩ := Fn.fresh h0 27 #[.int .u64 0, .int .u64 0, .int .u64 0, .int .u64 0]
                    have KZ := Lib.hid kz
                    have HG := Lib.hid hg
                    have H0 := Lib.hid h0
                    clear kz hg h0
                    have KH15 := Lib.hid K15
                    go_simp
                    refine hK.out _ _ (Fn.pass H0.out _) (fun hHeld => ?_)
                    clear hK K H0
                    try simp only [Act.put, List.getElem_toArray, List.getElem_cons_succ, List.getElem_cons_zero, List.setIfInBounds_toArray, List.set_cons_zero, List.set_cons_succ]
                    have k15 := KH15.out.alloc (.cells #[.int .u64 0, .int .u64 0, .int .u64 0, .int .u64 0] 27)
                    have z15 := Z15
                    have k14 := KZ.out
                    have z14 := HG.out
                    refine wpAnyH_cast (n' := 5) (l' := #[true, true, true, true, true, true, false, true, true, true, true, false, true, false, true, true, false, false]) (by kernel_rfl) (by kernel_rfl) ?_
                    have hh := st1_1415 _ g11 _ hHeld k14 z14 k15 z15 (Ne.symm (Nat.ne_of_lt K15.lt))
                    rw [← hops] at hh
                    exact hh
              have st0_1415 : ∀ (g10 g11 : Nat) (W : World), Fn wd W [(g9, 27, ev e), (g8, 27, ev v), (g7, 27, ev u), (g6, 27, ev le), (g5, 27, ev su), (w.heap.size + 1, 27, ev x), (w.heap.size, 109, sv s)] → Blk W g10 27 #[.int .u64 0, .int .u64 0, .int .u64 0, .int .u64 0] → wd.heap.size ≤ g10 → Blk W g11 27 #[.int .u64 0, .int .u64 0, .int .u64 0, .int .u64 0] → wd.heap.size ≤ g11 → g10 ≠ g11 → wpAnyH Tryd.prog .any ops Q (fun W => Fn wd W [(g9, 27, ev e), (g8, 27, ev v), (g7, 27, ev u), (g6, 27, ev le), (g5, 27, ev su), (w.heap.size + 1, 27, ev x), (w.heap.size, 109, sv s)]) 6 #[true, true, true, true, false, true, false, true, true, true, true, false, true, false, true, true, false, false] { tmps := #[.agg (sv s), .agg (ev x), .pointer (some ⟨w.heap.size, 0, none⟩), .pointer (some ⟨w.heap.size + 1, 0, none⟩), .pointer (some ⟨w.heap.size + 1 + 1, 0, none⟩), .pointer (some ⟨g5, 0, none⟩), .pointer (some ⟨g6, 0, none⟩), .pointer (some ⟨g7, 0, none⟩), .pointer (some ⟨g8, 0, none⟩), .pointer (some ⟨g9, 0, none⟩), .pointer (some ⟨g10, 0, none⟩), .pointer (some ⟨g11, 0, none⟩), u12, u13, u14, u15, u16, u17, u18, u19, u20, u21, u22, u23, u24, u25, .agg (ev u), .agg (ev v), .agg (ev e), .pointer (some ⟨w.heap.size, 8, none⟩), .agg (ev (s.c)), .pointer (some ⟨w.heap.size, 12, none⟩), .agg (ev (s.d)), u33, .agg (ev le), u35, .pointer (some ⟨w.heap.size, 8, none⟩), .agg (ev (s.c)), .pointer (some ⟨w.heap.size, 12, none⟩), .agg (ev (s.d)), u40, .agg (ev su), u42, u43, u44, u45, u46, u47, u48, u49, u50, u51, u52, u53, u54, u55, u56, u57, u58, u59, u60, u61, u62, u63], defers := [] } W := by
                as_aux_lemma =>
                  clear st1_15 st1_14 st2_ st2_15 st2_14 st3_ st2_1415 st3_15 st3_14 st4_ st3_1415 st4_15 st4_14 st4_1415
                  intro g10 g11 W hHeld K14 Z14 K15 Z15 n14_15
                  rw [← hops]
                  refine wpAnyH_ready (rs := [4]) (by kernel_rfl) (by simp) (AllReadyH.cons rfl (fun K hK => ?_) AllReadyH.nil)
                  have KH14 := Lib.hid K14
                  have KH15 := Lib.hid K15
                  have h0 := hHeld
                  clear hHeld
                  try simp only [List.getElem_toArray, List.getElem_cons_succ, List.getElem_cons_zero]
                  have H0 := Lib.hid h0
                  clear h0
                  go_simp
                  go_at_call 35
                  refine (addR H_cd.out _ (HPG.out.ext H0.out.below)).mono ?_
                  rintro e vv ⟨rfl, hb⟩
                  have KJ14 := Lib.hid (KH14.out.below hb KH14.out.lt)
                  have KJ15 := Lib.hid (KH15.out.below hb KH15.out.lt)
                  have h1 := H0.out.ext hb
                  clear hb H0
                  go_wp2_with (fail)
                  refine hK.out _ _ h1 (fun hHeld => ?_)
                  clear hK K h1
                  try simp only [Act.put, List.getElem_toArray, List.getElem_cons_succ, List.getElem_cons_zero, List.setIfInBounds_toArray, List.set_cons_zero, List.set_cons_succ]
                  have k14 := KJ14.out
                  have k15 := KJ15.out
                  have z14 := Z14
                  have z15 := Z15
                  refine wpAnyH_cast (n' := 5) (l' := #[true, true, true, true, true, true, false, true, true, true, true, false, true, false, true, true, false, false]) (by kernel_rfl) (by kernel_rfl) ?_
                  have hh := st1_1415 g10 g11 _ hHeld k14 z14 k15 z15 n14_15
                  rw [← hops] at hh
                  exact hh
              have st1_ : ∀ (W : World), Fn wd W [(g9, 27, ev e), (g8, 27, ev v), (g7, 27, ev u), (g6, 27, ev le), (g5, 27, ev su), (w.heap.size + 1, 27, ev x), (w.heap.size, 109, sv s)] → wpAnyH Tryd.prog .any ops Q (fun W => Fn wd W [(g9, 27, ev e), (g8, 27, ev v), (g7, 27, ev u), (g6, 27, ev le), (g5, 27, ev su), (w.heap.size + 1, 27, ev x), (w.heap.size, 109, sv s)]) 7 #[true, true, true, true, true, true, false, true, true, true, true, false, true, false, false, false, false, false] { tmps := #[.agg (sv s), .agg (ev x), .pointer (some ⟨w.heap.size, 0, none⟩), .pointer (some ⟨w.heap.size + 1, 0, none⟩), .pointer (some ⟨w.heap.size + 1 + 1, 0, none⟩), .pointer (some ⟨g5, 0, none⟩), .pointer (some ⟨g6, 0, none⟩), .pointer (some ⟨g7, 0, none⟩), .pointer (some ⟨g8, 0, none⟩), .pointer (some ⟨g9, 0, none⟩), undef, undef, u12, u13, u14, u15, u16, u17, u18, u19, u20, u21, u22, u23, u24, u25, .agg (ev u), .agg (ev v), .agg (ev e), .pointer (some ⟨w.heap.size, 8, none⟩), .agg (ev (s.c)), .pointer (some ⟨w.heap.size, 12, none⟩), .agg (ev (s.d)), .agg (ev cd), .agg (ev le), u35, .pointer (some ⟨w.heap.size, 8, none⟩), .agg (ev (s.c)), .pointer (some ⟨w.heap.size, 12, none⟩), .agg (ev (s.d)), u40, .agg (ev su), u42, u43, u44, u45, u46, u47, u48, u49, u50, u51, u52, u53, u54, u55, u56, u57, u58, u59, u60, u61, u62, u63], defers := [] } W := by
                as_aux_lemma =>
                  clear st0_1415 st1_1415 st2_15 st2_14 st3_ st2_1415 st3_15 st3_14 st4_ st3_1415 st4_15 st4_14 st4_1415
                  intro W hHeld
                  rw [← hops]
                  refine wpAnyH_ready (rs := [6, 14, 15]) (by kernel_rfl) (by simp) (AllReadyH.cons rfl (fun K hK => ?_) (AllReadyH.cons rfl (fun K hK => ?_) (AllReadyH.cons rfl (fun K hK => ?_) AllReadyH.nil)))
                  · have h0 := hHeld
                    clear hHeld
                    try simp only [List.getElem_toArray, List.getElem_cons_succ, List.getElem_cons_zero]
                    have H0 := Lib.hid h0
                    clear h0
                    go_simp
                    go_at_call 36
                    refine (mulR H_m.out _ (HPG.out.ext H0.out.below)).mono ?_
                    rintro e vv ⟨rfl, hb⟩
                    have h1 := H0.out.ext hb
                    clear hb H0
                    go_wp2_with (fail)
                    refine hK.out _ _ h1 (fun hHeld => ?_)
                    clear hK K h1
                    try simp only [Act.put, List.getElem_toArray, List.getElem_cons_succ, List.getElem_cons_zero, List.setIfInBounds_toArray, List.set_cons_zero, List.set_cons_succ]
                    refine wpAnyH_cast (n' := 6) (l' := #[true, true, true, true, true, true, true, true, true, true, true, false, true, false, false, false, false, false]) (by kernel_rfl) (by kernel_rfl) ?_
                    have hh := st2_ _ hHeld
                    rw [← hops] at hh
                    exact hh
                  · have h0 := hHeld
                    clear hHeld
                    try simp only [List.getElem_toArray, List.getElem_cons_succ, List.getElem_cons_zero]
                    obtain ⟨kz, hg⟩ := Fn.fresh h0 27 #[.int .u64 0, .int .u64 0, .int .u64 0, .int .u64 0]
                    have KZ := Lib.hid kz
                    have HG := Lib.hid hg
                    have H0 := Lib.hid h0
                    clear kz hg h0
                    go_simp
                    refine hK.out _ _ (Fn.pass H0.out _) (fun hHeld => ?_)
                    clear hK K H0
                    try simp only [Act.put, List.getElem_toArray, List.getElem_cons_succ, List.getElem_cons_zero, List.setIfInBounds_toArray, List.set_cons_zero, List.set_cons_succ]
                    have k14 := KZ.out
                    have z14 := HG.out
                    refine wpAnyH_cast (n' := 6) (l' := #[true, true, true, true, true, true, false, true, true, true, true, false, true, false, true, false, false, false]) (by kernel_rfl) (by kernel_rfl) ?_
                    have hh := st1_14 _ _ hHeld k14 z14
                    rw [← hops] at hh
                    exact hh
                  · have h0 := hHeld
                    clear hHeld
                    try simp only [List.getElem_toArray, List.getElem_cons_succ, List.getElem_cons_zero]
                    obtain ⟨kz, hg⟩ := Fn.fresh h0 27 #[.int .u64 0, .int .u64 0, .int .u64 0, .int .u64 0]
                    have KZ := Lib.hid kz
                    have HG := Lib.hid hg
                    have H0 := Lib.hid h0
                    clear kz hg h0
                    go_simp
                    refine hK.out _ _ (Fn.pass H0.out _) (fun hHeld => ?_)
                    clear hK K H0
                    try simp only [Act.put, List.getElem_toArray, List.getElem_cons_succ, List.getElem_cons_zero, List.setIfInBounds_toArray, List.set_cons_zero, List.set_cons_succ]
                    have k15 := KZ.out
                    have z15 := HG.out
                    refine wpAnyH_cast (n' := 6) (l' := #[true, true, true, true, true, true, false, true, true, true, true, false, true, false, false, true, false, false]) (by kernel_rfl) (by kernel_rfl) ?_
                    have hh := st1_15 _ _ hHeld k15 z15
                    rw [← hops] at hh
                    exact hh
              have st0_14 : ∀ (g10 : Nat) (W : World), Fn wd W [(g9, 27, ev e), (g8, 27, ev v), (g7, 27, ev u), (g6, 27, ev le), (g5, 27, ev su), (w.heap.size + 1, 27, ev x), (w.heap.size, 109, sv s)] → Blk W g10 27 #[.int .u64 0, .int .u64 0, .int .u64 0, .int .u64 0] → wd.heap.size ≤ g10 → wpAnyH Tryd.prog .any ops Q (fun W => Fn wd W [(g9, 27, ev e), (g8, 27, ev v), (g7, 27, ev u), (g6, 27, ev le), (g5, 27, ev su), (w.heap.size + 1, 27, ev x), (w.heap.size, 109, sv s)]) 7 #[true, true, true, true, false, true, false, true, true, true, true, false, true, false, true, false, false, false] { tmps := #[.agg (sv s), .agg (ev x), .pointer (some ⟨w.heap.size, 0, none⟩), .pointer (some ⟨w.heap.size + 1, 0, none⟩), .pointer (some ⟨w.heap.size + 1 + 1, 0, none⟩), .pointer (some ⟨g5, 0, none⟩), .pointer (some ⟨g6, 0, none⟩), .pointer (some ⟨g7, 0, none⟩), .pointer (some ⟨g8, 0, none⟩), .pointer (some ⟨g9, 0, none⟩), .pointer (some ⟨g10, 0, none⟩), undef, u12, u13, u14, u15, u16, u17, u18, u19, u20, u21, u22, u23, u24, u25, .agg (ev u), .agg (ev v), .agg (ev e), .pointer (some ⟨w.heap.size, 8, none⟩), .agg (ev (s.c)), .pointer (some ⟨w.heap.size, 12, none⟩), .agg (ev (s.d)), u33, .agg (ev le), u35, .pointer (some ⟨w.heap.size, 8, none⟩), .agg (ev (s.c)), .pointer (some ⟨w.heap.size, 12, none⟩), .agg (ev (s.d)), u40, .agg (ev su), u42, u43, u44, u45, u46, u47, u48, u49, u50, u51, u52, u53, u54, u55, u56, u57, u58, u59, u60, u61, u62, u63], defers := [] } W := by
                as_aux_lemma =>
                  clear st1_ st1_15 st2_ st1_1415 st2_15 st2_14 st3_ st2_1415 st3_15 st3_14 st4_ st3_1415 st4_15 st4_14 st4_1415
                  intro g10 W hHeld K14 Z14
                  rw [← hops]
                  refine wpAnyH_ready (rs := [4, 15]) (by kernel_rfl) (by simp) (AllReadyH.cons rfl (fun K hK => ?_) (AllReadyH.cons rfl (fun K hK => ?_) AllReadyH.nil))
                  · have KH14 := Lib.hid K14
                    have h0 := hHeld
                    clear hHeld
                    try simp only [List.getElem_toArray, List.getElem_cons_succ, List.getElem_cons_zero]
                    have H0 := Lib.hid h0
                    clear h0
                    go_simp
                    go_at_call 35
                    refine (addR H_cd.out _ (HPG.out.ext H0.out.below)).mono ?_
                    rintro e vv ⟨rfl, hb⟩
                    have KJ14 := Lib.hid (KH14.out.below hb KH14.out.lt)
                    have h1 := H0.out.ext hb
                    clear hb H0
                    go_wp2_with (fail)
                    refine hK.out _ _ h1 (fun hHeld => ?_)
                    clear hK K h1
                    try simp only [Act.put, List.getElem_toArray, List.getElem_cons_succ, List.getElem_cons_zero, List.setIfInBounds_toArray, List.set_cons_zero, List.set_cons_succ]
                    have k14 := KJ14.out
                    have z14 := Z14
                    refine wpAnyH_cast (n' := 6) (l' := #[true, true, true, true, true, true, false, true, true, true, true, false, true, false, true, false, false, false]) (by kernel_rfl) (by kernel_rfl) ?_
                    have hh := st1_14 g10 _ hHeld k14 z14
                    rw [← hops] at hh
                    exact hh
                  · have h0 := hHeld
                    clear hHeld
                    try simp only [List.getElem_toArray, List.getElem_cons_succ, List.getElem_cons_zero]
                    obtain ⟨kz, hg⟩ := Fn.fresh h0 27 #[.int .u64 0, .int .u64 0, .int .u64 0, .int .u64 0]
                    have KZ := Lib.hid kz
                    have HG := Lib.hid hg
                    have H0 := Lib.hid h0
                    clear kz hg h0
                    have KH14 := Lib.hid K14
                    go_simp
                    refine hK.out _ _ (Fn.pass H0.out _) (fun hHeld => ?_)
                    clear hK K H0
                    try simp only [Act.put, List.getElem_toArray, List.getElem_cons_succ, List.getElem_cons_zero, List.setIfInBounds_toArray, List.set_cons_zero, List.set_cons_succ]
                    have k14 := KH14.out.alloc (.cells #[.int .u64 0, .int .u64 0, .int .u64 0, .int .u64 0] 27)
                    have z14 := Z14
                    have k15 := KZ.out
                    have z15 := HG.out
                    refine wpAnyH_cast (n' := 6) (l' := #[true, true, true, true, false, true, false, true, true, true, true, false, true, false, true, true, false, false]) (by kernel_rfl) (by kernel_rfl) ?_
                    have hh := st0_1415 g10 _ _ hHeld k14 z14 k15 z15 (Nat.ne_of_lt K14.lt)
                    rw [← hops] at hh
                    exact hh
              have st0_15 : ∀ (g11 : Nat) (W : World), Fn wd W [(g9, 27, ev e), (g8, 27, ev v), (g7, 27, ev u), (g6, 27, ev le), (g5, 27, ev su), (w.heap.size + 1, 27, ev x), (w.heap.size, 109, sv s)] → Blk W g11 27 #[.int .u64 0, .int .u64 0, .int .u64 0, .int .u64 0] → wd.heap.size ≤ g11 → wpAnyH Tryd.prog .any ops Q (fun W => Fn wd W [(g9, 27, ev e), (g8, 27, ev v), (g7, 27, ev u), (g6, 27, ev le), (g5, 27, ev su), (w.heap.size + 1, 27, ev x), (w.heap.size, 109, sv s)]) 7 #[true, true, true, true, false, true, false, true, true, true, true, false, true, false, false, true, false, false] { tmps := #[.agg (sv s), .agg (ev x), .pointer (some ⟨w.heap.size, 0, none⟩), .pointer (some ⟨w.heap.size + 1, 0, none⟩), .pointer (some ⟨w.heap.size + 1 + 1, 0, none⟩), .pointer (some ⟨g5, 0, none⟩), .pointer (some ⟨g6, 0, none⟩), .pointer (some ⟨g7, 0, none⟩), .pointer (some ⟨g8, 0, none⟩), .pointer (some ⟨g9, 0, none⟩), undef, .pointer (some ⟨g11, 0, none⟩), u12, u13, u14, u15, u16, u17, u18, u19, u20, u21, u22, u23, u24, u25, .agg (ev u), .agg (ev v), .agg (ev e), .pointer (some ⟨w.heap.size, 8, none⟩), .agg (ev (s.c)), .pointer (some ⟨w.heap.size, 12, none⟩), .agg (ev (s.d)), u33, .agg (ev le), u35, .pointer (some ⟨w.heap.size, 8, none⟩), .agg (ev (s.c)), .pointer (some ⟨w.heap.size, 12, none⟩), .agg (ev (s.d)), u40, .agg (ev su), u42, u43, u44, u45, u46, u47, u48, u49, u50, u51, u52, u53, u54, u55, u56, u57, u58, u59, u60, u61, u62, u63], defers := [] } W := by
                as_aux_lemma =>
                  clear st0_14 st1_ st1_14 st2_ st1_1415 st2_15 st2_14 st3_ st2_1415 st3_15 st3_14 st4_ st3_1415 st4_15 st4_14 st4_1415
                  intro g11 W hHeld K15 Z15
                  rw [← hops]
                  refine wpAnyH_ready (rs := [4, 14]) (by kernel_rfl) (by simp) (AllReadyH.cons rfl (fun K hK => ?_) (AllReadyH.cons rfl (fun K hK => ?_) AllReadyH.nil))
                  · have KH15 := Lib.hid K15
                    have h0 := hHeld
                    clear hHeld
                    try simp only [List.getElem_toArray, List.getElem_cons_succ, List.getElem_cons_zero]
                    have H0 := Lib.hid h0
                    clear h0
                    go_simp
                    go_at_call 35
                    refine (addR H_cd.out _ (HPG.out.ext H0.out.below)).mono ?_
                    rintro e vv ⟨rfl, hb⟩
                    have KJ15 := Lib.hid (KH15.out.below hb KH15.out.lt)
                    have h1 := H0.out.ext hb
                    clear hb H0
                    go_wp2_with (fail)
                    refine hK.out _ _ h1 (fun hHeld => ?_)
                    clear hK K h1
                    try simp only [Act.put, List.getElem_toArray, List.getElem_cons_succ, List.getElem_cons_zero, List.setIfInBounds_toArray, List.set_cons_zero, List.set_cons_succ]
                    have k15 := KJ15.out
                    have z15 := Z15
                    refine wpAnyH_cast (n' := 6) (l' := #[true, true, true, true, true, true, false, true, true, true, true, false, true, false, false, true, false, false]) (by kernel_rfl) (by kernel_rfl) ?_
                    have hh := st1_15 g11 _ hHeld k15 z15
                    rw [← hops] at hh
                    exact hh
                  · have h0 := hHeld
                    clear hHeld
                    try simp only [List.getElem_toArray, List.getElem_cons_succ, List.getElem_cons_zero]
                    obtain ⟨kz, hg⟩ := Fn.fresh h0 27 #[.int .u64 0, .int .u64 0, .int .u64 0, .int .u64 0]
                    have KZ := Lib.hid kz
                    have HG := Lib.hid hg
                    have H0 := Lib.hid h0
                    clear kz hg h0
                    have KH15 := Lib.hid K15
                    go_simp
                    refine hK.out _ _ (Fn.pass H0.out _) (fun hHeld => ?_)
                    clear hK K H0
                    try simp only [Act.put, List.getElem_toArray, List.getElem_cons_succ, List.getElem_cons_zero, List.setIfInBounds_toArray, List.set_cons_zero, List.set_cons_succ]
                    have k15 := KH15.out.alloc (.cells #[.int .u64 0, .int .u64 0, .int .u64 0, .int .u64 0] 27)
                    have z15 := Z15
                    have k14 := KZ.out
                    have z14 := HG.out
                    refine wpAnyH_cast (n' := 6) (l' := #[true, true, true, true, false, true, false, true, true, true, true, false, true, false, true, true, false, false]) (by kernel_rfl) (by kernel_rfl) ?_
                    have hh := st0_1415 _ g11 _ hHeld k14 z14 k15 z15 (Ne.symm (Nat.ne_of_lt K15.lt))
                    rw [← hops] at hh
                    exact hh
              have st0_ : ∀ (W : World), Fn wd W [(g9, 27, ev e), (g8, 27, ev v), (g7, 27, ev u), (g6, 27, ev le), (g5, 27, ev su), (w.heap.size + 1, 27, ev x), (w.heap.size, 109, sv s)] → wpAnyH Tryd.prog .any ops Q (fun W => Fn wd W [(g9, 27, ev e), (g8, 27, ev v), (g7, 27, ev u), (g6, 27, ev le), (g5, 27, ev su), (w.heap.size + 1, 27, ev x), (w.heap.size, 109, sv s)]) 8 #[true, true, true, true, false, true, false, true, true, true, true, false, true, false, false, false, false, false] { tmps := #[.agg (sv s), .agg (ev x), .pointer (some ⟨w.heap.size, 0, none⟩), .pointer (some ⟨w.heap.size + 1, 0, none⟩), .pointer (some ⟨w.heap.size + 1 + 1, 0, none⟩), .pointer (some ⟨g5, 0, none⟩), .pointer (some ⟨g6, 0, none⟩), .pointer (some ⟨g7, 0, none⟩), .pointer (some ⟨g8, 0, none⟩), .pointer (some ⟨g9, 0, none⟩), undef, undef, u12, u13, u14, u15, u16, u17, u18, u19, u20, u21, u22, u23, u24, u25, .agg (ev u), .agg (ev v), .agg (ev e), .pointer (some ⟨w.heap.size, 8, none⟩), .agg (ev (s.c)), .pointer (some ⟨w.heap.size, 12, none⟩), .agg (ev (s.d)), u33, .agg (ev le), u35, .pointer (some ⟨w.heap.size, 8, none⟩), .agg (ev (s.c)), .pointer (some ⟨w.heap.size, 12, none⟩), .agg (ev (s.d)), u40, .agg (ev su), u42, u43, u44, u45, u46, u47, u48, u49, u50, u51, u52, u53, u54, u55, u56, u57, u58, u59, u60, u61, u62, u63], defers := [] } W := by
                as_aux_lemma =>
                  clear st0_1415 st1_15 st1_14 st2_ st1_1415 st2_15 st2_14 st3_ st2_1415 st3_15 st3_14 st4_ st3_1415 st4_15 st4_14 st4_1415
                  intro W hHeld
                  rw [← hops]
                  refine wpAnyH_ready (rs := [4, 14, 15]) (by kernel_rfl) (by simp) (AllReadyH.cons rfl (fun K hK => ?_) (AllReadyH.cons rfl (fun K hK => ?_) (AllReadyH.cons rfl (fun K hK => ?_) AllReadyH.nil)))
                  · have h0 := hHeld
                    clear hHeld
                    try simp only [List.getElem_toArray, List.getElem_cons_succ, List.getElem_cons_zero]
                    have H0 := Lib.hid h0
                    clear h0
                    go_simp
                    go_at_call 35
                    refine (addR H_cd.out _ (HPG.out.ext H0.out.below)).mono ?_
                    rintro e vv ⟨rfl, hb⟩
                    have h1 := H0.out.ext hb
                    clear hb H0
                    go_wp2_with (fail)
                    refine hK.out _ _ h1 (fun hHeld => ?_)
                    clear hK K h1
                    try simp only [Act.put, List.getElem_toArray, List.getElem_cons_succ, List.getElem_cons_zero, List.setIfInBounds_toArray, List.set_cons_zero, List.set_cons_succ]
                    refine wpAnyH_cast (n' := 7) (l' := #[true, true, true, true, true, true, false, true, true, true, true, false, true, false, false, false, false, false]) (by kernel_rfl) (by kernel_rfl) ?_
                    have hh := st1_ _ hHeld
                    rw [← hops] at hh
                    exact hh
                  · have h0 := hHeld
                    clear hHeld
                    try simp only [List.getElem_toArray, List.getElem_cons_succ, List.getElem_cons_zero]
                    obtain ⟨kz, hg⟩ := Fn.fresh h0 27 #[.int .u64 0, .int .u64 0, .int .u64 0, .int .u64 0]
                    have KZ := Lib.hid kz
                    have HG := Lib.hid hg
                    have H0 := Lib.hid h0
                    clear kz hg h0
                    go_simp
                    refine hK.out _ _ (Fn.pass H0.out _) (fun hHeld => ?_)
                    clear hK K H0
                    try simp only [Act.put, List.getElem_toArray, List.getElem_cons_succ, List.getElem_cons_zero, List.setIfInBounds_toArray, List.set_cons_zero, List.set_cons_succ]
                    have k14 := KZ.out
                    have z14 := HG.out
                    refine wpAnyH_cast (n' := 7) (l' := #[true, true, true, true, false, true, false, true, true, true, true, false, true, false, true, false, false, false]) (by kernel_rfl) (by kernel_rfl) ?_
                    have hh := st0_14 _ _ hHeld k14 z14
                    rw [← hops] at hh
                    exact hh
                  · have h0 := hHeld
                    clear hHeld
                    try simp only [List.getElem_toArray, List.getElem_cons_succ, List.getElem_cons_zero]
                    obtain ⟨kz, hg⟩ := Fn.fresh h0 27 #[.int .u64 0, .int .u64 0, .int .u64 0, .int .u64 0]
                    have KZ := Lib.hid kz
                    have HG := Lib.hid hg
                    have H0 := Lib.hid h0
                    clear kz hg h0
                    go_simp
                    refine hK.out _ _ (Fn.pass H0.out _) (fun hHeld => ?_)
                    clear hK K H0
                    try simp only [Act.put, List.getElem_toArray, List.getElem_cons_succ, List.getElem_cons_zero, List.setIfInBounds_toArray, List.set_cons_zero, List.set_cons_succ]
                    have k15 := KZ.out
                    have z15 := HG.out
                    refine wpAnyH_cast (n' := 7) (l' := #[true, true, true, true, false, true, false, true, true, true, true, false, true, false, false, true, false, false]) (by kernel_rfl) (by kernel_rfl) ?_
                    have hh := st0_15 _ _ hHeld k15 z15
                    rw [← hops] at hh
                    exact hh
              refine wpAnyH_cast (n' := 8) (l' := #[true, true, true, true, false, true, false, true, true, true, true, false, true, false, false, false, false, false]) (by kernel_rfl) (by kernel_rfl) ?_
              exact st0_ _ hHeld
          case rest =>
            as_aux_lemma =>
              obtain ⟨g10, g11, rfl, rfl, k10, k11, hb⟩ := hcut
              have n10 : g10 ≠ w.heap.size + 1 + 1 := by
                intro e
                obtain ⟨cs, _, kk⟩ := (HF.out.ext hb).old (g := w.heap.size + 1 + 1) (t := 109) (n := 16) (by simp)
                rw [← e] at kk
                exact absurd (k10.inj kk).1 (by decide)
              have n11 : g11 ≠ w.heap.size + 1 + 1 := by
                intro e
                obtain ⟨cs, _, kk⟩ := (HF.out.ext hb).old (g := w.heap.size + 1 + 1) (t := 109) (n := 16) (by simp)
                rw [← e] at kk
                exact absurd (k11.inj kk).1 (by decide)
              have hf2 := (((HF.out.ext hb).more k10).more k11)
              have hpg2 := HPG.out.ext hb
              clear HF HPG hb k10 k11
              have HF := Lib.hid hf2
              have HPG := Lib.hid hpg2
              clear hf2 hpg2
              obtain ⟨wf, hwc0⟩ : ∃ wz : World, wz = wc := ⟨_, rfl⟩
              rw [← hwc0] at HF HPG ⊢
              clear hwc0
              go_wp2_with (fail)
              refine wp_region_held_drew (S := fun W => Fr w W [(g11, 27, ev k), (g10, 27, ev m), (g9, 27, ev e), (g8, 27, ev v), (g7, 27, ev u), (g6, 27, ev le), (g5, 27, ev su), (w.heap.size + 1, 27, ev x), (w.heap.size, 109, sv s)] [(w.heap.size + 1 + 1, 109, 16)]) (by kernel_rfl) ?_ (fun hHeld => ?_)
              · exact HF.out.drew
              refine wpAnyH_take (i := 0) (v := .agg (ev u)) rfl (by kernel_rfl) (by kernel_rfl) (by kernel_rfl) (fun _ _ _ h => h) (yields_row (by rfl) 27 (.tmp 7) rfl (g7) rfl 27 (ev u) _ (fun W (h : Fr _ W _ _) => h.get (by simp)) Tryd.underlying27 rfl (info_ev _)) hHeld ?_
              try simp only [Act.put, List.getElem_toArray, List.getElem_cons_succ, List.getElem_cons_zero, List.setIfInBounds_toArray, List.set_cons_zero, List.set_cons_succ]
              refine wpAnyH_take (i := 1) (v := .agg (ev v)) rfl (by kernel_rfl) (by kernel_rfl) (by kernel_rfl) (fun _ _ _ h => h) (yields_row (by rfl) 27 (.tmp 8) rfl (g8) rfl 27 (ev v) _ (fun W (h : Fr _ W _ _) => h.get (by simp)) Tryd.underlying27 rfl (info_ev _)) hHeld ?_
              try simp only [Act.put, List.getElem_toArray, List.getElem_cons_succ, List.getElem_cons_zero, List.setIfInBounds_toArray, List.set_cons_zero, List.set_cons_succ]
              refine wpAnyH_take (i := 3) (v := .agg (ev e)) rfl (by kernel_rfl) (by kernel_rfl) (by kernel_rfl) (fun _ _ _ h => h) (yields_row (by rfl) 27 (.tmp 9) rfl (g9) rfl 27 (ev e) _ (fun W (h : Fr _ W _ _) => h.get (by simp)) Tryd.underlying27 rfl (info_ev _)) hHeld ?_
              try simp only [Act.put, List.getElem_toArray, List.getElem_cons_succ, List.getElem_cons_zero, List.setIfInBounds_toArray, List.set_cons_zero, List.set_cons_succ]
              refine wpAnyH_take (i := 4) (v := .agg (ev u)) rfl (by kernel_rfl) (by kernel_rfl) (by kernel_rfl) (fun _ _ _ h => h) (yields_row (by rfl) 27 (.tmp 7) rfl (g7) rfl 27 (ev u) _ (fun W (h : Fr _ W _ _) => h.get (by simp)) Tryd.underlying27 rfl (info_ev _)) hHeld ?_
              try simp only [Act.put, List.getElem_toArray, List.getElem_cons_succ, List.getElem_cons_zero, List.setIfInBounds_toArray, List.set_cons_zero, List.set_cons_succ]
              refine wpAnyH_take (i := 5) (v := .agg (ev e)) rfl (by kernel_rfl) (by kernel_rfl) (by kernel_rfl) (fun _ _ _ h => h) (yields_row (by rfl) 27 (.tmp 9) rfl (g9) rfl 27 (ev e) _ (fun W (h : Fr _ W _ _) => h.get (by simp)) Tryd.underlying27 rfl (info_ev _)) hHeld ?_
              try simp only [Act.put, List.getElem_toArray, List.getElem_cons_succ, List.getElem_cons_zero, List.setIfInBounds_toArray, List.set_cons_zero, List.set_cons_succ]
              refine wpAnyH_take (i := 10) (v := .agg (ev m)) rfl (by kernel_rfl) (by kernel_rfl) (by kernel_rfl) (fun _ _ _ h => h) (yields_row (by rfl) 27 (.tmp 10) rfl (g10) rfl 27 (ev m) _ (fun W (h : Fr _ W _ _) => h.get (by simp)) Tryd.underlying27 rfl (info_ev _)) hHeld ?_
              try simp only [Act.put, List.getElem_toArray, List.getElem_cons_succ, List.getElem_cons_zero, List.setIfInBounds_toArray, List.set_cons_zero, List.set_cons_succ]
              refine wpAnyH_take (i := 11) (v := .agg (ev k)) rfl (by kernel_rfl) (by kernel_rfl) (by kernel_rfl) (fun _ _ _ h => h) (yields_row (by rfl) 27 (.tmp 11) rfl (g11) rfl 27 (ev k) _ (fun W (h : Fr _ W _ _) => h.get (by simp)) Tryd.underlying27 rfl (info_ev _)) hHeld ?_
              try simp only [Act.put, List.getElem_toArray, List.getElem_cons_succ, List.getElem_cons_zero, List.setIfInBounds_toArray, List.set_cons_zero, List.set_cons_succ]
              refine wpAnyH_take (i := 14) (v := .agg (ev x)) rfl (by kernel_rfl) (by kernel_rfl) (by kernel_rfl) (fun _ _ _ h => h) (yields_row (by rfl) 27 (.tmp 3) rfl (w.heap.size + 1) rfl 27 (ev x) _ (fun W (h : Fr _ W _ _) => h.get (by simp)) Tryd.underlying27 rfl (info_ev _)) hHeld ?_
              try simp only [Act.put, List.getElem_toArray, List.getElem_cons_succ, List.getElem_cons_zero, List.setIfInBounds_toArray, List.set_cons_zero, List.set_cons_succ]
              refine wpAnyH_take (i := 15) (v := .agg (ev m)) rfl (by kernel_rfl) (by kernel_rfl) (by kernel_rfl) (fun _ _ _ h => h) (yields_row (by rfl) 27 (.tmp 10) rfl (g10) rfl 27 (ev m) _ (fun W (h : Fr _ W _ _) => h.get (by simp)) Tryd.underlying27 rfl (info_ev _)) hHeld ?_
              try simp only [Act.put, List.getElem_toArray, List.getElem_cons_succ, List.getElem_cons_zero, List.setIfInBounds_toArray, List.set_cons_zero, List.set_cons_succ]
              refine wpAnyH_take (i := 16) (v := .agg (ev k)) rfl (by kernel_rfl) (by kernel_rfl) (by kernel_rfl) (fun _ _ _ h => h) (yields_row (by rfl) 27 (.tmp 11) rfl (g11) rfl 27 (ev k) _ (fun W (h : Fr _ W _ _) => h.get (by simp)) Tryd.underlying27 rfl (info_ev _)) hHeld ?_
              try simp only [Act.put, List.getElem_toArray, List.getElem_cons_succ, List.getElem_cons_zero, List.setIfInBounds_toArray, List.set_cons_zero, List.set_cons_succ]
              refine wpAnyH_ready (rs := [2]) (by kernel_rfl) (by simp) (AllReadyH.cons rfl (fun K hK => ?_) AllReadyH.nil)
              have h0 := hHeld
              clear hHeld
              try simp only [List.getElem_toArray, List.getElem_cons_succ, List.getElem_cons_zero]
              have H0 := Lib.hid h0
              clear h0
              go_simp
              go_at_call 36
              refine (mulR H_za.out _ (Fr.pg H0.out HP.out)).mono ?_
              rintro e vv ⟨rfl, hb⟩
              have h1 := H0.out.ext hb
              clear hb H0
              go_wp2_with (fail)
              refine hK.out _ _ h1 (fun hHeld => ?_)
              clear hK K h1
              try simp only [Act.put, List.getElem_toArray, List.getElem_cons_succ, List.getElem_cons_zero, List.setIfInBounds_toArray, List.set_cons_zero, List.set_cons_succ]
              refine wpAnyH_ready (rs := [6]) (by kernel_rfl) (by simp) (AllReadyH.cons rfl (fun K hK => ?_) AllReadyH.nil)
              have h0 := hHeld
              clear hHeld
              try simp only [List.getElem_toArray, List.getElem_cons_succ, List.getElem_cons_zero]
              have H0 := Lib.hid h0
              clear h0
              go_simp
              go_at_call 34
              refine (smallR 121665 H_qq.out (by omega) _).mono ?_
              rintro e vv ⟨rfl, hb⟩
              have h1 := H0.out.ext hb
              clear hb H0
              go_wp2_with (fail)
              refine hK.out _ _ h1 (fun hHeld => ?_)
              clear hK K h1
              try simp only [Act.put, List.getElem_toArray, List.getElem_cons_succ, List.getElem_cons_zero, List.setIfInBounds_toArray, List.set_cons_zero, List.set_cons_succ]
              refine wpAnyH_ready (rs := [7]) (by kernel_rfl) (by simp) (AllReadyH.cons rfl (fun K hK => ?_) AllReadyH.nil)
              have h0 := hHeld
              clear hHeld
              try simp only [List.getElem_toArray, List.getElem_cons_succ, List.getElem_cons_zero]
              have H0 := Lib.hid h0
              clear h0
              go_simp
              go_at_call 36
              refine (mulR H_eq.out _ (Fr.pg H0.out HP.out)).mono ?_
              rintro e vv ⟨rfl, hb⟩
              have h1 := H0.out.ext hb
              clear hb H0
              go_wp2_with (fail)
              refine hK.out _ _ h1 (fun hHeld => ?_)
              clear hK K h1
              try simp only [Act.put, List.getElem_toArray, List.getElem_cons_succ, List.getElem_cons_zero, List.setIfInBounds_toArray, List.set_cons_zero, List.set_cons_succ]
              refine wpAnyH_ready (rs := [8]) (by kernel_rfl) (by simp) (AllReadyH.cons rfl (fun K hK => ?_) AllReadyH.nil)
              have h0 := hHeld
              clear hHeld
              try simp only [List.getElem_toArray, List.getElem_cons_succ, List.getElem_cons_zero]
              have H0 := Lib.hid h0
              clear h0
              go_simp
              go_at_call 35
              refine (addR H_ue.out _ (Fr.pg H0.out HP.out)).mono ?_
              rintro e vv ⟨rfl, hb⟩
              have h1 := H0.out.ext hb
              clear hb H0
              go_wp2_with (fail)
              refine hK.out _ _ h1 (fun hHeld => ?_)
              clear hK K h1
              try simp only [Act.put, List.getElem_toArray, List.getElem_cons_succ, List.getElem_cons_zero, List.setIfInBounds_toArray, List.set_cons_zero, List.set_cons_succ]
              refine wpAnyH_ready (rs := [9]) (by kernel_rfl) (by simp) (AllReadyH.cons rfl (fun K hK => ?_) AllReadyH.nil)
              have h0 := hHeld
              clear hHeld
              try simp only [List.getElem_toArray, List.getElem_cons_succ, List.getElem_cons_zero]
              have H0 := Lib.hid h0
              clear h0
              go_simp
              go_at_call 36
              refine (mulR H_zb.out _ (Fr.pg H0.out HP.out)).mono ?_
              rintro e vv ⟨rfl, hb⟩
              have h1 := H0.out.ext hb
              clear hb H0
              go_wp2_with (fail)
              refine hK.out _ _ h1 (fun hHeld => ?_)
              clear hK K h1
              try simp only [Act.put, List.getElem_toArray, List.getElem_cons_succ, List.getElem_cons_zero, List.setIfInBounds_toArray, List.set_cons_zero, List.set_cons_succ]
              refine wpAnyH_ready (rs := [12]) (by kernel_rfl) (by simp) (AllReadyH.cons rfl (fun K hK => ?_) AllReadyH.nil)
              have h0 := hHeld
              clear hHeld
              try simp only [List.getElem_toArray, List.getElem_cons_succ, List.getElem_cons_zero]
              have H0 := Lib.hid h0
              clear h0
              go_simp
              go_at_call 35
              refine (addR H_mk.out _ (Fr.pg H0.out HP.out)).mono ?_
              rintro e vv ⟨rfl, hb⟩
              have h1 := H0.out.ext hb
              clear hb H0
              go_wp2_with (fail)
              refine hK.out _ _ h1 (fun hHeld => ?_)
              clear hK K h1
              try simp only [Act.put, List.getElem_toArray, List.getElem_cons_succ, List.getElem_cons_zero, List.setIfInBounds_toArray, List.set_cons_zero, List.set_cons_succ]
              refine wpAnyH_ready (rs := [13]) (by kernel_rfl) (by simp) (AllReadyH.cons rfl (fun K hK => ?_) AllReadyH.nil)
              have h0 := hHeld
              clear hHeld
              try simp only [List.getElem_toArray, List.getElem_cons_succ, List.getElem_cons_zero]
              have H0 := Lib.hid h0
              clear h0
              go_simp
              go_at_call 75
              refine (squareR H_zc.out _ (Fr.pg H0.out HP.out)).mono ?_
              rintro e vv ⟨rfl, hb⟩
              have h1 := H0.out.ext hb
              clear hb H0
              go_wp2_with (fail)
              refine hK.out _ _ h1 (fun hHeld => ?_)
              clear hK K h1
              try simp only [Act.put, List.getElem_toArray, List.getElem_cons_succ, List.getElem_cons_zero, List.setIfInBounds_toArray, List.set_cons_zero, List.set_cons_succ]
              refine wpAnyH_ready (rs := [17]) (by kernel_rfl) (by simp) (AllReadyH.cons rfl (fun K hK => ?_) AllReadyH.nil)
              have h0 := hHeld
              clear hHeld
              try simp only [List.getElem_toArray, List.getElem_cons_succ, List.getElem_cons_zero]
              have H0 := Lib.hid h0
              clear h0
              go_simp
              go_at_call 37
              refine (subR H_ml.out _ (Fr.pg H0.out HP.out)).mono ?_
              rintro e vv ⟨rfl, hb⟩
              have h1 := H0.out.ext hb
              clear hb H0
              go_wp2_with (fail)
              refine hK.out _ _ h1 (fun hHeld => ?_)
              clear hK K h1
              try simp only [Act.put, List.getElem_toArray, List.getElem_cons_succ, List.getElem_cons_zero, List.setIfInBounds_toArray, List.set_cons_zero, List.set_cons_succ]
              refine wpAnyH_ready (rs := [18]) (by kernel_rfl) (by simp) (AllReadyH.cons rfl (fun K hK => ?_) AllReadyH.nil)
              have h0 := hHeld
              clear hHeld
              try simp only [List.getElem_toArray, List.getElem_cons_succ, List.getElem_cons_zero]
              have H0 := Lib.hid h0
              clear h0
              go_simp
              go_at_call 75
              refine (squareR H_m2.out _ (Fr.pg H0.out HP.out)).mono ?_
              rintro e vv ⟨rfl, hb⟩
              have h1 := H0.out.ext hb
              clear hb H0
              go_wp2_with (fail)
              refine hK.out _ _ h1 (fun hHeld => ?_)
              clear hK K h1
              try simp only [Act.put, List.getElem_toArray, List.getElem_cons_succ, List.getElem_cons_zero, List.setIfInBounds_toArray, List.set_cons_zero, List.set_cons_succ]
              refine wpAnyH_ready (rs := [19]) (by kernel_rfl) (by simp) (AllReadyH.cons rfl (fun K hK => ?_) AllReadyH.nil)
              have h0 := hHeld
              clear hHeld
              try simp only [List.getElem_toArray, List.getElem_cons_succ, List.getElem_cons_zero]
              have H0 := Lib.hid h0
              clear h0
              go_simp
              go_at_call 36
              refine (mulR H_zd.out _ (Fr.pg H0.out HP.out)).mono ?_
              rintro e vv ⟨rfl, hb⟩
              have h1 := H0.out.ext hb
              clear hb H0
              go_wp2_with (fail)
              refine hK.out _ _ h1 (fun hHeld => ?_)
              clear hK K h1
              try simp only [Act.put, List.getElem_toArray, List.getElem_cons_succ, List.getElem_cons_zero, List.setIfInBounds_toArray, List.set_cons_zero, List.set_cons_succ]
              refine wpAnyH_take (i := 20) (v := .agg (sv z)) rfl (by kernel_rfl) (by kernel_rfl) (by kernel_rfl) (fun _ _ _ h => h) (yields_build (by rfl) 109 _ rfl [(0, .agg (ev za)), (1, .agg (ev zb)), (2, .agg (ev zc)), (3, .agg (ev zd))] (by kernel_rfl) _ HBLT.out) hHeld ?_
              try simp only [Act.put, List.getElem_toArray, List.getElem_cons_succ, List.getElem_cons_zero, List.setIfInBounds_toArray, List.set_cons_zero, List.set_cons_succ]
              refine wpAnyH_ready (rs := [21]) (by kernel_rfl) (by simp) (AllReadyH.cons rfl (fun K hK => ?_) AllReadyH.nil)
              have h0 := hHeld
              clear hHeld
              try simp only [List.getElem_toArray, List.getElem_cons_succ, List.getElem_cons_zero]
              rw [if_pos (by rfl)]
              obtain ⟨old, hold, kold⟩ := Fr.old h0 (g := w.heap.size + 1 + 1) (t := 109) (n := 16) (by simp)
              refine wp_store_row 109 (.tmp 4) (.tmp 63) rfl (w.heap.size + 1 + 1) (sv z) rfl rfl 109 old kold (info_sv _) hold (sv_one _) ?_
              refine hK.out _ _ (Fr.setAny h0 (g := w.heap.size + 1 + 1) (t := 109) (sv_size _) (by simp) (by simp <;> omega)) (fun hHeld => ?_)
              have kb := kold.setRow_same (sv z)
              clear hK K h0 hold
              try simp only [Act.put, List.getElem_toArray, List.getElem_cons_succ, List.getElem_cons_zero, List.setIfInBounds_toArray, List.set_cons_zero, List.set_cons_succ]
              refine wpAnyH_done (by kernel_rfl) ?_ _
              have HK := Lib.hid kb
              have HB := Lib.hid hHeld.below
              clear kb hHeld
              go_wp2_with (fail)
              exact bodyPost_ret (results_cell_row rfl _ _ (w.heap.size + 1 + 1) 109 (sv z) (0, 0) _ rfl HK.out Tryd.underlying109 rfl (info_sv z)) rfl ⟨by rw [HEND.out], HB.out⟩
end Go.Proofs.YtcijaoihcckofaaDoor
namespace Go.Proofs.YtcijaoihcckofaaDoor
set_option linter.unusedVariables false
set_option linter.unusedSimpArgs false
open Go.RowKit
set_option maxHeartbeats 1000000 in
theorem lbit_any (e i : Nat) (w : World) (hi : i < 256) :
    Calls Tryd.prog 91 #[.agg (ks e), .int .i64 (i : Int)] w fun r w' => r = .returned (.bool (bitB e i)) ∧ Below w.heap.size w w' := by
  have hc : (w.alloc (.cells (ks e) 23)).cell? ⟨w.heap.size, i / 8, none⟩ = some (.int .u8 ((e / 256 ^ (i / 8) % 256 : Nat) : Int)) := by
    rw [(Blk.new w 23 (ks e)).cell, ks_get _ (by omega)]
  have hx : e / 256 ^ (i / 8) % 256 < 256 := Nat.mod_lt _ (by omega)
  have hb := bit_at e i
  have ha := and_one8 (e / 256 ^ (i / 8) % 256 / 2 ^ (i % 8)) (Nat.lt_of_le_of_lt (Nat.div_le_self _ _) hx)
  rw [hb, Int.natCast_ediv, Int.natCast_pow] at ha
  have HA := Lib.hid ha
  clear hb ha
  generalize e / 256 ^ (i / 8) % 256 = x at *
  have b1 : (0 : Int) ≤ (i : Int) / 8 := by omega
  have b2 : (i : Int) / 8 < 32 := by omega
  have b3 : ((i : Int) % 8) < 65 := by omega
  go_enter Tryd.func91, Tryd.ntmps91
  go_wp2
  go_ret
  refine ⟨?_, (Below.refl _ _).alloc (Nat.le_refl _) _⟩
  show Ending.returned (.bool (bits .and .u8 ((x : Int) / 2 ^ (i % 8)) 1 == 1)) = _
  have := HA.out
  rw [show ((2 : Nat) : Int) = 2 from rfl] at this
  rw [this]
  rfl
def clampN (n : Nat) : Nat := putd 256 (putd 256 n 0 (n / 256 ^ 0 % 256 / 8 * 8)) 31 (n / 256 ^ 31 % 256 % 64 + 64)
theorem clamp_row (n : Nat) : ((ks n).setIfInBounds 0 (.int .u8 ((n / 256 ^ 0 % 256 / 8 * 8 : Nat) : Int))).setIfInBounds 31 (.int .u8 ((n / 256 ^ 31 % 256 % 64 + 64 : Nat) : Int)) = ks (clampN n) := by
  rw [ks_put (by omega) (by omega), ks_put (by omega) (by omega)]
  rfl
theorem low3 : ∀ x : Fin 256, bits .andNot .u8 (x.val : Int) 7 = (x.val : Int) / 8 * 8 := by decide +kernel
theorem top1 : ∀ x : Fin 256, bits .andNot .u8 (x.val : Int) 128 = (x.val : Int) % 128 := by decide +kernel
theorem top2 : ∀ x : Fin 256, bits .or .u8 ((x.val : Int) % 128) 64 = (x.val : Int) % 64 + 64 := by decide +kernel
theorem bits_low3 (x : Nat) (h : x < 256) : bits .andNot .u8 (x : Int) 7 = (x : Int) / 8 * 8 := low3 ⟨x, h⟩
theorem bits_top1 (x : Nat) (h : x < 256) : bits .andNot .u8 (x : Int) 128 = (x : Int) % 128 := top1 ⟨x, h⟩
theorem bits_top2 (x : Nat) (h : x < 256) : bits .or .u8 ((x : Int) % 128) 64 = (x : Int) % 64 + 64 := top2 ⟨x, h⟩
theorem clamp_row2 {n x y : Nat} {v : Value} (hx : x = n / 256 ^ 0 % 256) (hy : y = n / 256 ^ 31 % 256) : (((ks n).setIfInBounds 0 (.int .u8 ((x : Int) / 8 * 8))).setIfInBounds 31 v).setIfInBounds 31 (.int .u8 ((y : Int) % 64 + 64)) = ks (clampN n) := by
  have h := clamp_row n
  rw [← hx, ← hy] at h
  rw [← h, Array.setIfInBounds_setIfInBounds]
  congr 2
theorem clamp_row1 {n x y : Nat} (hx : x = n / 256 ^ 0 % 256) (hy : y = n / 256 ^ 31 % 256) : ((ks n).setIfInBounds 0 (.int .u8 ((x : Int) / 8 * 8))).setIfInBounds 31 (.int .u8 ((y : Int) % 64 + 64)) = ks (clampN n) := by
  have h := clamp_row n
  rw [← hx, ← hy] at h
  rw [← h]
  congr 2
set_option maxRecDepth 100000 in
set_option maxHeartbeats 1000000 in
theorem lclamp_any (n : Nat) (w : World) : Calls Tryd.prog 90 #[.agg (ks n)] w (KeyPost (clampN n) w) := by
  have hfr := ((Fr.start w).row (ks n) 23 (g := w.heap.size) rfl).any (ks 0) 23 32 (ks_size 0) (g := w.heap.size + 1) (by simp)
  rw [ks_zero] at hfr
  have hk := hfr.get (g := w.heap.size) (t := 23) (cs := ks n) (by simp)
  obtain ⟨x, hx⟩ : ∃ x, x = n / 256 ^ 0 % 256 := ⟨_, rfl⟩
  obtain ⟨y, hy⟩ : ∃ y, y = n / 256 ^ 31 % 256 := ⟨_, rfl⟩
  have hxl : x < 256 := by rw [hx]; exact Nat.mod_lt _ (by omega)
  have hyl : y < 256 := by rw [hy]; exact Nat.mod_lt _ (by omega)
  have c0 := hk.cell 0
  have c31 := hk.cell 31
  rw [ks_get n (by omega), ← hx] at c0
  rw [ks_get n (by omega), ← hy] at c31
  have f0 := hk.frozen 0
  have f31 := hk.frozen 31
  have hrow := clamp_row2 (v := .int .u8 ((y : Int) % 128)) hx hy
  have hf := ((Fr.start w).row (ks (clampN n)) 23 (g := w.heap.size) rfl).any (ks 0) 23 32 (ks_size 0) (g := w.heap.size + 1) (by simp)
  rw [ks_zero] at hf
  have KT := Lib.hid (hf.get (g := w.heap.size) (t := 23) (cs := ks (clampN n)) (by simp))
  have a31 : ((ks n).setIfInBounds 0 (.int .u8 ((x : Int) / 8 * 8)))[31]? = some (.int .u8 (y : Int)) := by rw [Array.getElem?_setIfInBounds_ne (by omega), ks_get n (by omega), ← hy]
  have b31 : (((ks n).setIfInBounds 0 (.int .u8 ((x : Int) / 8 * 8))).setIfInBounds 31 (.int .u8 ((y : Int) % 128)))[31]? = some (.int .u8 ((y : Int) % 128)) := by rw [Array.getElem?_setIfInBounds_self, if_pos (by rw [Array.size_setIfInBounds, ks_size]; omega)]
  obtain ⟨old, hold, kR⟩ := hf.old (g := w.heap.size + 1) (t := 23) (n := 32) (by simp)
  have HS := Lib.hid (kR.setRow_same (ks (clampN n)))
  have HB := Lib.hid (below_setRow hf.below (show w.heap.size ≤ w.heap.size + 1 by omega) (ks (clampN n)))
  have KR := Lib.hid kR
  have HO := Lib.hid (show old.size = (ks (clampN n)).size by rw [hold, ks_size])
  clear hfr hk hx hy hf hold kR
  have h1 := bits_low3 x hxl
  have h2 := bits_top1 y hyl
  have h3 := bits_top2 y hyl
  go_enter Tryd.func90, Tryd.ntmps90
  go_wp2_with (first | (refine wpList_load_row rfl 23 (.tmp 1) rfl w.heap.size rfl 23 (ks (clampN n)) (0, 0) _ KT.out Tryd.underlying23 rfl (info_ks _) ?_) | (refine wpList_store_row rfl 23 (.tmp 2) (.tmp 15) rfl (w.heap.size + 1) (ks (clampN n)) rfl rfl 23 old KR.out (info_ks _) HO.out (ks_one _) ?_))
  exact key_end (g := w.heap.size + 1) rfl rfl rfl HS.out HB.out
set_option maxRecDepth 100000 in
set_option maxHeartbeats 1000000 in
theorem rclamp_any (n : Nat) (w : World) : Calls Tryd.prog 33 #[.agg (ks n)] w (KeyPost (clampN n) w) := by
  have hfr := ((Fr.start w).row (ks n) 23 (g := w.heap.size) rfl).any (ks 0) 23 32 (ks_size 0) (g := w.heap.size + 1) (by simp)
  rw [ks_zero] at hfr
  have hk := hfr.get (g := w.heap.size) (t := 23) (cs := ks n) (by simp)
  obtain ⟨x, hx⟩ : ∃ x, x = n / 256 ^ 0 % 256 := ⟨_, rfl⟩
  obtain ⟨y, hy⟩ : ∃ y, y = n / 256 ^ 31 % 256 := ⟨_, rfl⟩
  have hxl : x < 256 := by rw [hx]; exact Nat.mod_lt _ (by omega)
  have hyl : y < 256 := by rw [hy]; exact Nat.mod_lt _ (by omega)
  have c0 := hk.cell 0
  have c31 := hk.cell 31
  rw [ks_get n (by omega), ← hx] at c0
  rw [ks_get n (by omega), ← hy] at c31
  have f0 := hk.frozen 0
  have f31 := hk.frozen 31
  have hrow := clamp_row1 hx hy
  have hf := ((Fr.start w).row (ks (clampN n)) 23 (g := w.heap.size) rfl).any (ks 0) 23 32 (ks_size 0) (g := w.heap.size + 1) (by simp)
  rw [ks_zero] at hf
  have KT := Lib.hid (hf.get (g := w.heap.size) (t := 23) (cs := ks (clampN n)) (by simp))
  have a31 : ((ks n).setIfInBounds 0 (.int .u8 ((x : Int) / 8 * 8)))[31]? = some (.int .u8 (y : Int)) := by rw [Array.getElem?_setIfInBounds_ne (by omega), ks_get n (by omega), ← hy]
  obtain ⟨old, hold, kR⟩ := hf.old (g := w.heap.size + 1) (t := 23) (n := 32) (by simp)
  have HS := Lib.hid (kR.setRow_same (ks (clampN n)))
  have HB := Lib.hid (below_setRow hf.below (show w.heap.size ≤ w.heap.size + 1 by omega) (ks (clampN n)))
  have KR := Lib.hid kR
  have HO := Lib.hid (show old.size = (ks (clampN n)).size by rw [hold, ks_size])
  clear hfr hk hx hy hf hold kR
  go_enter Tryd.func33, Tryd.ntmps33
  go_wp2_with (first | (refine wpList_load_row rfl 23 (.tmp 1) rfl w.heap.size rfl 23 (ks (clampN n)) (0, 0) _ KT.out Tryd.underlying23 rfl (info_ks _) ?_) | (refine wpList_store_row rfl 23 (.tmp 2) (.tmp 13) rfl (w.heap.size + 1) (ks (clampN n)) rfl rfl 23 old KR.out (info_ks _) HO.out (ks_one _) ?_))
  exact key_end (g := w.heap.size + 1) rfl rfl rfl HS.out HB.out
/-- What is clamped. -/
theorem clampN_eq {n : Nat} (hn : n < 115792089237316195423570985008687907853269984665640564039457584007913129639936) : clampN n = n % 28948022309329048855892746252171976963317496166410141009864396001978282409984 / 8 * 8 + 28948022309329048855892746252171976963317496166410141009864396001978282409984 := by
  unfold clampN
  have h1 := putd_eq 256 n 0 (n / 256 ^ 0 % 256 / 8 * 8)
  rw [Nat.pow_zero, Nat.div_one] at h1 ⊢
  generalize hm : putd 256 n 0 (n % 256 / 8 * 8) = m at *
  have h2 := putd_eq 256 m 31 (n / 256 ^ 31 % 256 % 64 + 64)
  have e : (256 : Nat) ^ 31 = 452312848583266388373324160190187140051835877600158453279131187530910662656 := by decide
  rw [e] at h2 ⊢
  omega
theorem clampN_lt {n : Nat} (hn : n < 115792089237316195423570985008687907853269984665640564039457584007913129639936) : clampN n < 2 ^ 255 := by
  rw [clampN_eq hn, show (2 : Nat) ^ 255 = 57896044618658097711785492504343953926634992332820282019728792003956564819968 by decide]
  omega
end Go.Proofs.YtcijaoihcckofaaDoor
namespace Go.Proofs.YtcijaoihcckofaaDoor
set_option linter.unusedVariables false
set_option linter.unusedSimpArgs false
set_option maxRecDepth 100000
open Go Go.RowKit
theorem yields_ev {ops : Array Oper} {S : World → Prop} {op : Oper} {a : Act} (hw : Region.wanted op (yielded ops a.tmps) = true) (x : Operand) (ho : op.op = .load 27 x)
    (g k o : Nat) (hko : o = 4 * k) (hk : k < 4) (hx : a.eval x = .pointer (some ⟨g, o, none⟩)) (t : TypeId) (s : L4 PP) (v : Fin PP) (hv : v = s.at4 k) (hS : ∀ w, S w → Blk w g t (sv s)) : YieldsIf Tryd.prog ops S op (.agg (ev v)) a := by
  subst hko hv
  exact yields_sv hw x ho g k hk hx t s hS
theorem invL {x y : Fin PP} (h : y = x ^ (PP - 2)) (w : World) (hp : PG w) : Calls Tryd.prog 38 #[.agg (ev x)] w (EPost y w) := by
  have h2 := inv_any x w hp
  rw [← h] at h2
  exact h2
theorem lgo_step (x : Fin PP) (K j : Nat) {t : Bool} (h : bitB K (254 - j) = t) : lsw t (lnx Q0 x (lsw t (lgo Q0 x K j))) = lgo Q0 x K (j + 1) := by
  subst h
  rfl
theorem lgo_zero (x : Fin PP) (K : Nat) : (⟨sm 1, 0, x, sm 1⟩ : L4 PP) = lgo Q0 x K 0 := rfl
attribute [local irreducible] lad lgo sv
theorem small_one (w : World) : Calls Tryd.prog 34 #[.int .u64 1] w (EPost (sm 1) w) := smallF 1 w (by omega)
set_option maxRecDepth 100000 in
set_option maxHeartbeats 8000000 in
theorem lmul_any {k n : Nat} {y : Fin PP} (hy0 : y = lad Q0 (clampN k) (ofK n)) (w : World) (hpg : PG w) (hk : k < 115792089237316195423570985008687907853269984665640564039457584007913129639936) (hn : n < 115792089237316195423570985008687907853269984665640564039457584007913129639936) : Calls Tryd.prog 74 #[.agg (ks k), .agg (ks n)] w (KeyPost y.val w) := by
  obtain ⟨K, hK⟩ : ∃ K, K = clampN k := ⟨_, rfl⟩
  obtain ⟨x, hx⟩ : ∃ x, x = ofK n := ⟨_, rfl⟩
  rw [← hK, ← hx] at hy0
  have HY0 := Lib.hid hy0
  have hcl := fun W => lclamp_any k W
  rw [← hK] at hcl
  have hof := fun W hp => ofF n W hp hn
  rw [← hx] at hof
  have HCL := Lib.hid hcl
  have HOF := Lib.hid hof
  clear hcl hof hy0 hK hx hn
  have hfr := (((Fr.start w).row (ks k) 23 (g := w.heap.size) rfl).row (ks n) 23 (g := w.heap.size + 1) (by simp)).any (ks 0) 23 32 (ks_size 0) (g := w.heap.size + 1 + 1) (by simp)
  rw [ks_zero] at hfr
  have k0 := hfr.get (g := w.heap.size) (t := 23) (cs := ks k) (by simp)
  have HP := Lib.hid hpg
  have HF := Lib.hid hfr
  have K0 := Lib.hid k0
  clear hfr hpg k0
  go_enter Tryd.func74, Tryd.ntmps74
  go_wp2_with (first | (refine wpList_load_row rfl 23 (.tmp 2) rfl (w.heap.size) rfl 23 (ks k) (0, 0) _ K0.out Tryd.underlying23 rfl (info_ks _) ?_))
  clear K0
  refine (HCL.out _).mono ?_
  rintro e v1 ⟨rfl, hb⟩
  have hf := HF.out.ext hb
  have k0 := hf.get (g := w.heap.size) (t := 23) (cs := ks k) (by simp)
  have f1 := ((hf.sub (L' := [(w.heap.size + 1, 23, ks n)]) (R' := [(w.heap.size + 1 + 1, 23, 32)]) (by simp) (by simp)).setOut (g := w.heap.size) (Nat.le_refl _) (by simp <;> omega) (by simp <;> omega) (ks K)).more (k0.setRow_same (ks K))
  have k1 := f1.get (g := w.heap.size + 1) (t := 23) (cs := ks n) (by simp)
  have hsz : (ks k).size = (ks K).size := by rw [ks_size, ks_size]
  have K0 := Lib.hid k0
  have K1 := Lib.hid k1
  have HF1 := Lib.hid f1
  have HSZ := Lib.hid hsz
  clear hb hf k0 f1 k1 hsz HF
  go_wp2_with (first | (refine wpList_store_row rfl 23 (.tmp 2) (.tmp 10) rfl (w.heap.size) (ks K) rfl rfl 23 (ks k) K0.out (info_ks _) HSZ.out (ks_one _) ?_) | (refine wpList_load_row rfl 23 (.tmp 3) rfl (w.heap.size + 1) rfl 23 (ks n) (0, 0) _ K1.out Tryd.underlying23 rfl (info_ks _) ?_))
  clear K0 K1 HSZ
  refine (HOF.out _ (Fr.pg HF1.out HP.out)).mono ?_
  rintro e v2 ⟨rfl, hb⟩
  have hf := HF1.out.ext hb
  have hr2 : w.heap.size + 1 + 1 < v2.heap.size := by obtain ⟨cs, _, k⟩ := hf.old (g := w.heap.size + 1 + 1) (t := 23) (n := 32) (by simp); exact k.lt
  have ka : Blk (v2.alloc (.cells #[.int .u64 0, .int .u64 0, .int .u64 0, .int .u64 0] 27)) v2.heap.size 27 #[.int .u64 0, .int .u64 0, .int .u64 0, .int .u64 0] := Blk.new _ _ _
  have kc := ka.setRow_same (ev x)
  have hf3 := ((hf.pass (.cells #[.int .u64 0, .int .u64 0, .int .u64 0, .int .u64 0] 27)).setOut (g := v2.heap.size) (by omega) (by simp <;> omega) (by simp <;> omega) (ev x)).more kc
  have KA := Lib.hid ka
  have HF2 := Lib.hid hf3
  clear hb hf ka kc hf3 HF1
  go_wp2_with (first | (refine wpList_store_row rfl 27 (.tmp 5) (.tmp 12) rfl (v2.heap.size) (ev x) rfl rfl 27 _ KA.out (info_ev _) (ev_size _).symm (ev_one _) ?_))
  clear KA
  obtain ⟨wx, hwx⟩ : ∃ wz : World, wz = (v2.alloc (.cells #[.int .u64 0, .int .u64 0, .int .u64 0, .int .u64 0] 27)).setRow v2.heap.size (ev x) := ⟨_, rfl⟩
  have hsx : wx.heap.size = v2.heap.size + 1 := by rw [hwx]; simp
  rw [← hwx] at HF2 ⊢
  clear hwx
  obtain ⟨g5, hg5⟩ : ∃ g5, g5 = v2.heap.size := ⟨_, rfl⟩
  rw [← hg5] at HF2 hr2 hsx ⊢
  clear hg5
  simp only [Act.put]
  obtain ⟨s0, hs0⟩ : ∃ s0, s0 = lgo Q0 x K 0 := ⟨_, rfl⟩
  have hblt : Tryd.prog.built 109 [(0, .agg (ev (sm 1))), (2, .agg (ev x)), (3, .agg (ev (sm 1)))] = some (sv s0) := by rw [hs0, ← lgo_zero]; exact built_sv3 (sm 1) x (sm 1)
  have HSX := Lib.hid hsx
  clear hsx
  have HBLT := Lib.hid hblt
  have HS0 := Lib.hid hs0
  clear hblt hs0
  go_cut [6] (fun s6 wz => ∃ g6 : Nat, s6 = .pointer (some ⟨g6, 0, none⟩) ∧ wx.heap.size ≤ g6 ∧ Blk wz g6 109 (sv s0) ∧ Below wx.heap.size wx wz)
  case first =>
    as_aux_lemma =>
      have hn := (HF2.out.now.sub (L' := [(g5, 27, ev x), (w.heap.size, 23, ks K), (w.heap.size + 1, 23, ks n)]) (by simp))
      have hpgx := Fr.pg HF2.out HP.out
      have HN := Lib.hid hn
      have HPX := Lib.hid hpgx
      clear hn hpgx
      refine wp_region_held_drew (S := fun W => Fn wx W [(g5, 27, ev x), (w.heap.size, 23, ks K), (w.heap.size + 1, 23, ks n)]) (by kernel_rfl) ?_ (fun hHeld => ?_)
      · exact HN.out.drew
      refine wpAnyH_take (i := 1) (v := .agg (ev x)) rfl (by kernel_rfl) (by kernel_rfl) (by kernel_rfl) (fun _ _ _ h => h) (yields_row (by rfl) 27 (.tmp 5) rfl (g5) rfl 27 (ev x) _ (fun W (h : Fn _ W _) => h.get (by simp)) Tryd.underlying27 rfl (info_ev _)) hHeld ?_
      try simp only [Act.put, List.getElem_toArray, List.getElem_cons_succ, List.getElem_cons_zero, List.setIfInBounds_toArray, List.set_cons_zero, List.set_cons_succ]
      refine wpAnyH_ready (rs := [0, 4]) (by kernel_rfl) (by simp) (AllReadyH.cons rfl (fun K hK => ?_) (AllReadyH.cons rfl (fun K hK => ?_) AllReadyH.nil))
      · have h0 := hHeld
        clear hHeld
        try simp only [List.getElem_toArray, List.getElem_cons_succ, List.getElem_cons_zero]
        have H0 := Lib.hid h0
        clear h0
        go_simp
        go_at_call 34
        refine (small_one _).mono ?_
        rintro e vv ⟨rfl, hb⟩
        have h1 := H0.out.ext hb
        clear hb H0
        go_wp2_with (fail)
        refine hK.out _ _ h1 (fun hHeld => ?_)
        clear hK K h1
        try simp only [Act.put, List.getElem_toArray, List.getElem_cons_succ, List.getElem_cons_zero, List.setIfInBounds_toArray, List.set_cons_zero, List.set_cons_succ]
        refine wpAnyH_ready (rs := [2, 4]) (by kernel_rfl) (by simp) (AllReadyH.cons rfl (fun K hK => ?_) (AllReadyH.cons rfl (fun K hK => ?_) AllReadyH.nil))
        · have h0 := hHeld
          clear hHeld
          try simp only [List.getElem_toArray, List.getElem_cons_succ, List.getElem_cons_zero]
          have H0 := Lib.hid h0
          clear h0
          go_simp
          go_at_call 34
          refine (small_one _).mono ?_
          rintro e vv ⟨rfl, hb⟩
          have h1 := H0.out.ext hb
          clear hb H0
          go_wp2_with (fail)
          refine hK.out _ _ h1 (fun hHeld => ?_)
          clear hK K h1
          try simp only [Act.put, List.getElem_toArray, List.getElem_cons_succ, List.getElem_cons_zero, List.setIfInBounds_toArray, List.set_cons_zero, List.set_cons_succ]
          refine wpAnyH_take (i := 3) (v := .agg (sv s0)) rfl (by kernel_rfl) (by kernel_rfl) (by kernel_rfl) (fun _ _ _ h => h) (yields_build (by rfl) 109 _ rfl [(0, .agg (ev (sm 1))), (2, .agg (ev x)), (3, .agg (ev (sm 1)))] (by kernel_rfl) _ HBLT.out) hHeld ?_
          try simp only [Act.put, List.getElem_toArray, List.getElem_cons_succ, List.getElem_cons_zero, List.setIfInBounds_toArray, List.set_cons_zero, List.set_cons_succ]
          refine wpAnyH_ready (rs := [4]) (by kernel_rfl) (by simp) (AllReadyH.cons rfl (fun K hK => ?_) AllReadyH.nil)
          have h0 := hHeld
          clear hHeld
          try simp only [List.getElem_toArray, List.getElem_cons_succ, List.getElem_cons_zero]
          obtain ⟨kz, hg⟩ := Fn.fresh h0 109 #[.int .u64 0, .int .u64 0, .int .u64 0, .int .u64 0, .int .u64 0, .int .u64 0, .int .u64 0, .int .u64 0, .int .u64 0, .int .u64 0, .int .u64 0, .int .u64 0, .int .u64 0, .int .u64 0, .int .u64 0, .int .u64 0]
          have KZ := Lib.hid kz
          have HG := Lib.hid hg
          have H0 := Lib.hid h0
          clear kz hg h0
          go_simp
          refine hK.out _ _ (Fn.pass H0.out _) (fun hHeld => ?_)
          clear hK K H0
          try simp only [Act.put, List.getElem_toArray, List.getElem_cons_succ, List.getElem_cons_zero, List.setIfInBounds_toArray, List.set_cons_zero, List.set_cons_succ]
          refine wpAnyH_ready (rs := [5]) (by kernel_rfl) (by simp) (AllReadyH.cons rfl (fun K hK => ?_) AllReadyH.nil)
          have h0 := hHeld
          clear hHeld
          try simp only [List.getElem_toArray, List.getElem_cons_succ, List.getElem_cons_zero]
          rw [if_pos (by rfl)]
          refine wp_store_row 109 (.tmp 6) (.tmp 16) rfl _ (sv s0) rfl rfl 109 _ KZ.out (info_sv s0) (sv_size s0).symm (sv_one s0) ?_
          refine hK.out _ _ (Fn.setFresh h0 HG.out _) (fun hHeld => ?_)
          have kb := KZ.out.setRow_same (sv s0)
          clear hK K h0
          try simp only [Act.put, List.getElem_toArray, List.getElem_cons_succ, List.getElem_cons_zero, List.setIfInBounds_toArray, List.set_cons_zero, List.set_cons_succ]
          refine wpAnyH_done (by kernel_rfl) ?_ _
          have HB := Lib.hid hHeld.below
          clear hHeld
          go_wp2_with (fail)
          go_meet
          exact ⟨_, rfl, HG.out, kb, HB.out⟩
        · have h0 := hHeld
          clear hHeld
          try simp only [List.getElem_toArray, List.getElem_cons_succ, List.getElem_cons_zero]
          obtain ⟨kz, hg⟩ := Fn.fresh h0 109 #[.int .u64 0, .int .u64 0, .int .u64 0, .int .u64 0, .int .u64 0, .int .u64 0, .int .u64 0, .int .u64 0, .int .u64 0, .int .u64 0, .int .u64 0, .int .u64 0, .int .u64 0, .int .u64 0, .int .u64 0, .int .u64 0]
          have KZ := Lib.hid kz
          have HG := Lib.hid hg
          have H0 := Lib.hid h0
          clear kz hg h0
          go_simp
          refine hK.out _ _ (Fn.pass H0.out _) (fun hHeld => ?_)
          clear hK K H0
          try simp only [Act.put, List.getElem_toArray, List.getElem_cons_succ, List.getElem_cons_zero, List.setIfInBounds_toArray, List.set_cons_zero, List.set_cons_succ]
          refine wpAnyH_ready (rs := [2]) (by kernel_rfl) (by simp) (AllReadyH.cons rfl (fun K hK => ?_) AllReadyH.nil)
          have h0 := hHeld
          clear hHeld
          try simp only [List.getElem_toArray, List.getElem_cons_succ, List.getElem_cons_zero]
          have H0 := Lib.hid h0
          clear h0
          go_simp
          go_at_call 34
          refine (small_one _).mono ?_
          rintro e vv ⟨rfl, hb⟩
          have kz := KZ.out.below hb KZ.out.lt
          clear KZ
          have KZ := Lib.hid kz
          clear kz
          have h1 := H0.out.ext hb
          clear hb H0
          go_wp2_with (fail)
          refine hK.out _ _ h1 (fun hHeld => ?_)
          clear hK K h1
          try simp only [Act.put, List.getElem_toArray, List.getElem_cons_succ, List.getElem_cons_zero, List.setIfInBounds_toArray, List.set_cons_zero, List.set_cons_succ]
          refine wpAnyH_take (i := 3) (v := .agg (sv s0)) rfl (by kernel_rfl) (by kernel_rfl) (by kernel_rfl) (fun _ _ _ h => h) (yields_build (by rfl) 109 _ rfl [(0, .agg (ev (sm 1))), (2, .agg (ev x)), (3, .agg (ev (sm 1)))] (by kernel_rfl) _ HBLT.out) hHeld ?_
          try simp only [Act.put, List.getElem_toArray, List.getElem_cons_succ, List.getElem_cons_zero, List.setIfInBounds_toArray, List.set_cons_zero, List.set_cons_succ]
          refine wpAnyH_ready (rs := [5]) (by kernel_rfl) (by simp) (AllReadyH.cons rfl (fun K hK => ?_) AllReadyH.nil)
          have h0 := hHeld
          clear hHeld
          try simp only [List.getElem_toArray, List.getElem_cons_succ, List.getElem_cons_zero]
          rw [if_pos (by rfl)]
          refine wp_store_row 109 (.tmp 6) (.tmp 16) rfl _ (sv s0) rfl rfl 109 _ KZ.out (info_sv s0) (sv_size s0).symm (sv_one s0) ?_
          refine hK.out _ _ (Fn.setFresh h0 HG.out _) (fun hHeld => ?_)
          have kb := KZ.out.setRow_same (sv s0)
          clear hK K h0
          try simp only [Act.put, List.getElem_toArray, List.getElem_cons_succ, List.getElem_cons_zero, List.setIfInBounds_toArray, List.set_cons_zero, List.set_cons_succ]
          refine wpAnyH_done (by kernel_rfl) ?_ _
          have HB := Lib.hid hHeld.below
          clear hHeld
          go_wp2_with (fail)
          go_meet
          exact ⟨_, rfl, HG.out, kb, HB.out⟩
      · have h0 := hHeld
        clear hHeld
        try simp only [List.getElem_toArray, List.getElem_cons_succ, List.getElem_cons_zero]
        obtain ⟨kz, hg⟩ := Fn.fresh h0 109 #[.int .u64 0, .int .u64 0, .int .u64 0, .int .u64 0, .int .u64 0, .int .u64 0, .int .u64 0, .int .u64 0, .int .u64 0, .int .u64 0, .int .u64 0, .int .u64 0, .int .u64 0, .int .u64 0, .int .u64 0, .int .u64 0]
        have KZ := Lib.hid kz
        have HG := Lib.hid hg
        have H0 := Lib.hid h0
        clear kz hg h0
        go_simp
        refine hK.out _ _ (Fn.pass H0.out _) (fun hHeld => ?_)
        clear hK K H0
        try simp only [Act.put, List.getElem_toArray, List.getElem_cons_succ, List.getElem_cons_zero, List.setIfInBounds_toArray, List.set_cons_zero, List.set_cons_succ]
        refine wpAnyH_ready (rs := [0]) (by kernel_rfl) (by simp) (AllReadyH.cons rfl (fun K hK => ?_) AllReadyH.nil)
        have h0 := hHeld
        clear hHeld
        try simp only [List.getElem_toArray, List.getElem_cons_succ, List.getElem_cons_zero]
        have H0 := Lib.hid h0
        clear h0
        go_simp
        go_at_call 34
        refine (small_one _).mono ?_
        rintro e vv ⟨rfl, hb⟩
        have kz := KZ.out.below hb KZ.out.lt
        clear KZ
        have KZ := Lib.hid kz
        clear kz
        have h1 := H0.out.ext hb
        clear hb H0
        go_wp2_with (fail)
        refine hK.out _ _ h1 (fun hHeld => ?_)
        clear hK K h1
        try simp only [Act.put, List.getElem_toArray, List.getElem_cons_succ, List.getElem_cons_zero, List.setIfInBounds_toArray, List.set_cons_zero, List.set_cons_succ]
        refine wpAnyH_ready (rs := [2]) (by kernel_rfl) (by simp) (AllReadyH.cons rfl (fun K hK => ?_) AllReadyH.nil)
        have h0 := hHeld
        clear hHeld
        try simp only [List.getElem_toArray, List.getElem_cons_succ, List.getElem_cons_zero]
        have H0 := Lib.hid h0
        clear h0
        go_simp
        go_at_call 34
        refine (small_one _).mono ?_
        rintro e vv ⟨rfl, hb⟩
        have kz := KZ.out.below hb KZ.out.lt
        clear KZ
        have KZ := Lib.hid kz
        clear kz
        have h1 := H0.out.ext hb
        clear hb H0
        go_wp2_with (fail)
        refine hK.out _ _ h1 (fun hHeld => ?_)
        clear hK K h1
        try simp only [Act.put, List.getElem_toArray, List.getElem_cons_succ, List.getElem_cons_zero, List.setIfInBounds_toArray, List.set_cons_zero, List.set_cons_succ]
        refine wpAnyH_take (i := 3) (v := .agg (sv s0)) rfl (by kernel_rfl) (by kernel_rfl) (by kernel_rfl) (fun _ _ _ h => h) (yields_build (by rfl) 109 _ rfl [(0, .agg (ev (sm 1))), (2, .agg (ev x)), (3, .agg (ev (sm 1)))] (by kernel_rfl) _ HBLT.out) hHeld ?_
        try simp only [Act.put, List.getElem_toArray, List.getElem_cons_succ, List.getElem_cons_zero, List.setIfInBounds_toArray, List.set_cons_zero, List.set_cons_succ]
        refine wpAnyH_ready (rs := [5]) (by kernel_rfl) (by simp) (AllReadyH.cons rfl (fun K hK => ?_) AllReadyH.nil)
        have h0 := hHeld
        clear hHeld
        try simp only [List.getElem_toArray, List.getElem_cons_succ, List.getElem_cons_zero]
        rw [if_pos (by rfl)]
        refine wp_store_row 109 (.tmp 6) (.tmp 16) rfl _ (sv s0) rfl rfl 109 _ KZ.out (info_sv s0) (sv_size s0).symm (sv_one s0) ?_
        refine hK.out _ _ (Fn.setFresh h0 HG.out _) (fun hHeld => ?_)
        have kb := KZ.out.setRow_same (sv s0)
        clear hK K h0
        try simp only [Act.put, List.getElem_toArray, List.getElem_cons_succ, List.getElem_cons_zero, List.setIfInBounds_toArray, List.set_cons_zero, List.set_cons_succ]
        refine wpAnyH_done (by kernel_rfl) ?_ _
        have HB := Lib.hid hHeld.below
        clear hHeld
        go_wp2_with (fail)
        go_meet
        exact ⟨_, rfl, HG.out, kb, HB.out⟩
  case rest =>
    as_aux_lemma =>
      obtain ⟨g6, rfl, hg6, k6, hb⟩ := hcut
      have hf := ((HF2.out.ext hb).more k6).sub (L' := [(g6, 109, sv s0), (g5, 27, ev x), (w.heap.size, 23, ks K)]) (R' := [(w.heap.size + 1 + 1, 23, 32)]) (by simp) (by simp)
      rw [HS0.out] at hf
      have HF := Lib.hid hf
      clear hf hb k6 HF2 HBLT HS0
      have hg65 : g5 < g6 := by have := HSX.out; omega
      go_wp2_with (fail)
      go_loopw [17] (fun i wr => ∃ j : Nat, j ≤ 255 ∧ i = .int .i64 j ∧ Fr w wr [(g6, 109, sv (lgo Q0 x K j)), (g5, 27, ev x), (w.heap.size, 23, ks K)] [(w.heap.size + 1 + 1, 23, 32)]) (fun i _ => 255 - (intOf i).toNat)
      case atStart => exact ⟨0, by omega, rfl, HF.out⟩
      case round =>
        obtain ⟨j, hj, rfl, hF⟩ := hrel
        clear HF
        by_cases hlt : j < 255
        · obtain ⟨t, ht⟩ : ∃ t, t = bitB K (254 - j) := ⟨_, rfl⟩
          have hbit := fun W => lbit_any K (254 - j) W (by omega)
          rw [← ht, show ((254 - j : Nat) : Int) = 254 - (j : Int) by omega] at hbit
          have hstep := lgo_step x K j ht.symm
          obtain ⟨s1, hs1⟩ : ∃ s1, s1 = lgo Q0 x K j := ⟨_, rfl⟩
          rw [← hs1] at hF hstep
          obtain ⟨s2, hs2⟩ : ∃ s2, s2 = lsw t s1 := ⟨_, rfl⟩
          rw [← hs2] at hstep
          obtain ⟨s3, hs3⟩ : ∃ s3, s3 = lnx Q0 x s2 := ⟨_, rfl⟩
          rw [← hs3] at hstep
          obtain ⟨s4, hs4⟩ : ∃ s4, s4 = lsw t s3 := ⟨_, rfl⟩
          rw [← hs4] at hstep
          have hsw1 := fun W => swapped_any t s1 W
          rw [← hs2] at hsw1
          have hnx := fun W hp => next_any s2 x W hp
          rw [← hs3] at hnx
          have hsw2 := fun W => swapped_any t s3 W
          rw [← hs4] at hsw2
          have kk := hF.get (g := w.heap.size) (t := 23) (cs := ks K) (by simp)
          have HB := Lib.hid hbit
          have HST := Lib.hid hstep
          have HW1 := Lib.hid hsw1
          have HNX := Lib.hid hnx
          have HW2 := Lib.hid hsw2
          have HF := Lib.hid hF
          clear hbit hstep hsw1 hnx hsw2 hF hs1 hs2 hs3 hs4 ht
          have hdt : decide ((j : Int) < 255) = true := decide_eq_true (by omega)
          have hwr : IntKind.i64.wrap (254 - (j : Int)) = 254 - (j : Int) := by rw [IntKind.wrap_i64]; omega
          go_wp2_with (first | (refine wpList_load_row rfl 23 (.tmp 2) rfl (w.heap.size) rfl 23 (ks K) (0, 0) _ kk Tryd.underlying23 rfl (info_ks _) ?_))
          clear kk
          refine (HB.out _).mono ?_
          rintro e v3 ⟨rfl, hb⟩
          have hf := HF.out.ext hb
          have kz := hf.get (g := g6) (t := 109) (cs := sv s1) (by simp)
          have hf2 := hf.sub (L' := [(g5, 27, ev x), (w.heap.size, 23, ks K)]) (R' := [(w.heap.size + 1 + 1, 23, 32)]) (by simp) (by simp)
          have HF3 := Lib.hid hf2
          have KZ := Lib.hid kz.drew
          clear hb hf kz hf2 HF
          go_wp2_with (fail)
          refine wp_region_held_drew (S := fun W => Fr w W [(g5, 27, ev x), (w.heap.size, 23, ks K)] [(w.heap.size + 1 + 1, 23, 32)]) (by kernel_rfl) ?_ (fun hHeld => ?_)
          · exact HF3.out.drew
          refine wpAnyH_take (i := 1) (v := ?_) rfl (by kernel_rfl) (by kernel_rfl) (by kernel_rfl) (fun _ _ _ h => h) (Or.inl ⟨by rfl, ?_⟩) hHeld ?_
          rotate_left
          · (intro W hSw; (try dsimp only at hSw); (try simp only [List.getElem_toArray, List.getElem_cons_succ, List.getElem_cons_zero]); go_simp; try with_reducible rfl)
          try simp only [Act.put, List.getElem_toArray, List.getElem_cons_succ, List.getElem_cons_zero, List.setIfInBounds_toArray, List.set_cons_zero, List.set_cons_succ]
          refine wpAnyH_take (i := 5) (v := ?_) rfl (by kernel_rfl) (by kernel_rfl) (by kernel_rfl) (fun _ _ _ h => h) (Or.inl ⟨by rfl, ?_⟩) hHeld ?_
          rotate_left
          · (intro W hSw; (try dsimp only at hSw); (try simp only [List.getElem_toArray, List.getElem_cons_succ, List.getElem_cons_zero]); go_simp; try with_reducible rfl)
          try simp only [Act.put, List.getElem_toArray, List.getElem_cons_succ, List.getElem_cons_zero, List.setIfInBounds_toArray, List.set_cons_zero, List.set_cons_succ]
          refine wpAnyH_take (i := 3) (v := .agg (ev x)) rfl (by kernel_rfl) (by kernel_rfl) (by kernel_rfl) (fun _ _ _ h => h) (yields_row (by rfl) 27 (.tmp 5) rfl (g5) rfl 27 (ev x) _ (fun W (h : Fr _ W _ _) => h.get (by simp)) Tryd.underlying27 rfl (info_ev _)) hHeld ?_
          try simp only [Act.put, List.getElem_toArray, List.getElem_cons_succ, List.getElem_cons_zero, List.setIfInBounds_toArray, List.set_cons_zero, List.set_cons_succ]
          refine wpAnyH_ready (rs := [0]) (by kernel_rfl) (by simp) (AllReadyH.cons rfl (fun K hK => ?_) AllReadyH.nil)
          have h0 := hHeld
          clear hHeld
          try simp only [List.getElem_toArray, List.getElem_cons_succ, List.getElem_cons_zero]
          rw [if_pos (by rfl)]
          refine wp_load_row 109 (.tmp 6) rfl (g6) rfl 109 (sv s1) (0, 0) _ KZ.out Tryd.underlying109 rfl (info_sv _) ?_
          refine hK.out _ _ h0 (fun hHeld => ?_)
          clear hK K h0
          try simp only [Act.put, List.getElem_toArray, List.getElem_cons_succ, List.getElem_cons_zero, List.setIfInBounds_toArray, List.set_cons_zero, List.set_cons_succ]
          refine wpAnyH_ready (rs := [2]) (by kernel_rfl) (by simp) (AllReadyH.cons rfl (fun K hK => ?_) AllReadyH.nil)
          have h0 := hHeld
          clear hHeld
          try simp only [List.getElem_toArray, List.getElem_cons_succ, List.getElem_cons_zero]
          have H0 := Lib.hid h0
          clear h0
          go_simp
          go_at_call 92
          refine (HW1.out _).mono ?_
          rintro e vv ⟨rfl, hb⟩
          have kz := KZ.out.below hb KZ.out.lt
          clear KZ
          have KZ := Lib.hid kz
          clear kz
          have h1 := H0.out.ext hb
          clear hb H0
          go_wp2_with (fail)
          refine hK.out _ _ h1 (fun hHeld => ?_)
          clear hK K h1
          try simp only [Act.put, List.getElem_toArray, List.getElem_cons_succ, List.getElem_cons_zero, List.setIfInBounds_toArray, List.set_cons_zero, List.set_cons_succ]
          refine wpAnyH_ready (rs := [4]) (by kernel_rfl) (by simp) (AllReadyH.cons rfl (fun K hK => ?_) AllReadyH.nil)
          have h0 := hHeld
          clear hHeld
          try simp only [List.getElem_toArray, List.getElem_cons_succ, List.getElem_cons_zero]
          have H0 := Lib.hid h0
          clear h0
          go_simp
          go_at_call 93
          refine (HNX.out _ (Fr.pg H0.out HP.out)).mono ?_
          rintro e vv ⟨rfl, hb⟩
          have kz := KZ.out.below hb KZ.out.lt
          clear KZ
          have KZ := Lib.hid kz
          clear kz
          have h1 := H0.out.ext hb
          clear hb H0
          go_wp2_with (fail)
          refine hK.out _ _ h1 (fun hHeld => ?_)
          clear hK K h1
          try simp only [Act.put, List.getElem_toArray, List.getElem_cons_succ, List.getElem_cons_zero, List.setIfInBounds_toArray, List.set_cons_zero, List.set_cons_succ]
          refine wpAnyH_ready (rs := [6]) (by kernel_rfl) (by simp) (AllReadyH.cons rfl (fun K hK => ?_) AllReadyH.nil)
          have h0 := hHeld
          clear hHeld
          try simp only [List.getElem_toArray, List.getElem_cons_succ, List.getElem_cons_zero]
          have H0 := Lib.hid h0
          clear h0
          go_simp
          go_at_call 92
          refine (HW2.out _).mono ?_
          rintro e vv ⟨rfl, hb⟩
          have kz := KZ.out.below hb KZ.out.lt
          clear KZ
          have KZ := Lib.hid kz
          clear kz
          have h1 := H0.out.ext hb
          clear hb H0
          go_wp2_with (fail)
          refine hK.out _ _ h1 (fun hHeld => ?_)
          clear hK K h1
          try simp only [Act.put, List.getElem_toArray, List.getElem_cons_succ, List.getElem_cons_zero, List.setIfInBounds_toArray, List.set_cons_zero, List.set_cons_succ]
          refine wpAnyH_ready (rs := [7]) (by kernel_rfl) (by simp) (AllReadyH.cons rfl (fun K hK => ?_) AllReadyH.nil)
          have h0 := hHeld
          clear hHeld
          try simp only [List.getElem_toArray, List.getElem_cons_succ, List.getElem_cons_zero]
          rw [if_pos (by rfl)]
          refine wp_store_row 109 (.tmp 6) (.tmp 30) rfl (g6) (sv s4) rfl rfl 109 _ KZ.out (info_sv _) (by rw [sv_size, sv_size]) (sv_one _) ?_
          refine hK.out _ _ (Fr.setOut h0 (g := g6) (by omega) (by simp <;> omega) (by simp <;> omega) _) (fun hHeld => ?_)
          have kb := KZ.out.setRow_same (sv s4)
          clear hK K h0
          try simp only [Act.put, List.getElem_toArray, List.getElem_cons_succ, List.getElem_cons_zero, List.setIfInBounds_toArray, List.set_cons_zero, List.set_cons_succ]
          refine wpAnyH_done (by kernel_rfl) ?_ _
          have hff := hHeld.more kb
          have HFF := Lib.hid hff
          clear hHeld hff kb
          go_wp2_with (fail)
          go_roundw
          case rel => exact ⟨j + 1, by omega, by go_num, by rw [← HST.out]; exact HFF.out⟩
          case measure => simp [intOf] <;> omega
        · obtain rfl : j = 255 := by omega
          simp only [show ((255 : Nat) : Int) = 255 from rfl]
          obtain ⟨sf, hsf⟩ : ∃ sf, sf = lgo Q0 x K 255 := ⟨_, rfl⟩
          rw [← hsf] at hF
          obtain ⟨ib, hib⟩ : ∃ ib, ib = sf.b ^ (PP - 2) := ⟨_, rfl⟩
          have hy : y = sf.a * ib := by rw [HY0.out, lad_eq hsf, hib]
          have HIB := Lib.hid hib
          have HY := Lib.hid hy
          have HF := Lib.hid hF
          clear hsf hib hy hF HY0
          obtain ⟨m, hm⟩ : ∃ m, m = y.val := ⟨_, rfl⟩
          have hby := fun W => bytesF y W
          rw [← hm] at hby
          have HBY := Lib.hid hby
          have HM := Lib.hid hm
          clear hby hm
          have hdf : decide ((255 : Int) < 255) = false := by decide
          go_wp2_with (fail)
          refine wp_region_held_drew (S := fun W => Fr w W [(g6, 109, sv sf), (g5, 27, ev x), (w.heap.size, 23, ks K)] [(w.heap.size + 1 + 1, 23, 32)]) (by kernel_rfl) ?_ (fun hHeld => ?_)
          · exact HF.out.drew
          refine wpAnyH_take (i := 0) (v := ?_) rfl (by kernel_rfl) (by kernel_rfl) (by kernel_rfl) (fun _ _ _ h => h) (Or.inl ⟨by rfl, ?_⟩) hHeld ?_
          rotate_left
          · (intro W hSw; (try dsimp only at hSw); (try simp only [List.getElem_toArray, List.getElem_cons_succ, List.getElem_cons_zero]); go_simp; try with_reducible rfl)
          try simp only [Act.put, List.getElem_toArray, List.getElem_cons_succ, List.getElem_cons_zero, List.setIfInBounds_toArray, List.set_cons_zero, List.set_cons_succ]
          refine wpAnyH_take (i := 1) (v := .agg (ev sf.a)) rfl (by kernel_rfl) (by kernel_rfl) (by kernel_rfl) (fun _ _ _ h => h) (yields_ev (by rfl) (.tmp 32) rfl g6 0 0 rfl (by omega) rfl 109 sf sf.a rfl (fun W (h : Fr _ W _ _) => h.get (by simp))) hHeld ?_
          try simp only [Act.put, List.getElem_toArray, List.getElem_cons_succ, List.getElem_cons_zero, List.setIfInBounds_toArray, List.set_cons_zero, List.set_cons_succ]
          refine wpAnyH_take (i := 2) (v := ?_) rfl (by kernel_rfl) (by kernel_rfl) (by kernel_rfl) (fun _ _ _ h => h) (Or.inl ⟨by rfl, ?_⟩) hHeld ?_
          rotate_left
          · (intro W hSw; (try dsimp only at hSw); (try simp only [List.getElem_toArray, List.getElem_cons_succ, List.getElem_cons_zero]); go_simp; try with_reducible rfl)
          try simp only [Act.put, List.getElem_toArray, List.getElem_cons_succ, List.getElem_cons_zero, List.setIfInBounds_toArray, List.set_cons_zero, List.set_cons_succ]
          refine wpAnyH_take (i := 3) (v := .agg (ev sf.b)) rfl (by kernel_rfl) (by kernel_rfl) (by kernel_rfl) (fun _ _ _ h => h) (yields_ev (by rfl) (.tmp 34) rfl g6 1 4 rfl (by omega) rfl 109 sf sf.b rfl (fun W (h : Fr _ W _ _) => h.get (by simp))) hHeld ?_
          try simp only [Act.put, List.getElem_toArray, List.getElem_cons_succ, List.getElem_cons_zero, List.setIfInBounds_toArray, List.set_cons_zero, List.set_cons_succ]
          refine wpAnyH_ready (rs := [4]) (by kernel_rfl) (by simp) (AllReadyH.cons rfl (fun K hK => ?_) AllReadyH.nil)
          have h0 := hHeld
          clear hHeld
          try simp only [List.getElem_toArray, List.getElem_cons_succ, List.getElem_cons_zero]
          have H0 := Lib.hid h0
          clear h0
          go_simp
          go_at_call 38
          refine (invL HIB.out _ (Fr.pg H0.out HP.out)).mono ?_
          rintro e vv ⟨rfl, hb⟩
          have h1 := H0.out.ext hb
          clear hb H0
          go_wp2_with (fail)
          refine hK.out _ _ h1 (fun hHeld => ?_)
          clear hK K h1
          try simp only [Act.put, List.getElem_toArray, List.getElem_cons_succ, List.getElem_cons_zero, List.setIfInBounds_toArray, List.set_cons_zero, List.set_cons_succ]
          refine wpAnyH_ready (rs := [5]) (by kernel_rfl) (by simp) (AllReadyH.cons rfl (fun K hK => ?_) AllReadyH.nil)
          have h0 := hHeld
          clear hHeld
          try simp only [List.getElem_toArray, List.getElem_cons_succ, List.getElem_cons_zero]
          have H0 := Lib.hid h0
          clear h0
          go_simp
          go_at_call 36
          refine (mulR HY.out _ (Fr.pg H0.out HP.out)).mono ?_
          rintro e vv ⟨rfl, hb⟩
          have h1 := H0.out.ext hb
          clear hb H0
          go_wp2_with (fail)
          refine hK.out _ _ h1 (fun hHeld => ?_)
          clear hK K h1
          try simp only [Act.put, List.getElem_toArray, List.getElem_cons_succ, List.getElem_cons_zero, List.setIfInBounds_toArray, List.set_cons_zero, List.set_cons_succ]
          refine wpAnyH_ready (rs := [6]) (by kernel_rfl) (by simp) (AllReadyH.cons rfl (fun K hK => ?_) AllReadyH.nil)
          have h0 := hHeld
          clear hHeld
          try simp only [List.getElem_toArray, List.getElem_cons_succ, List.getElem_cons_zero]
          have H0 := Lib.hid h0
          clear h0
          go_simp
          go_at_call 39
          refine (HBY.out _).mono ?_
          rintro e vv ⟨rfl, hb⟩
          have h1 := H0.out.ext hb
          clear hb H0
          go_wp2_with (fail)
          refine hK.out _ _ h1 (fun hHeld => ?_)
          clear hK K h1
          try simp only [Act.put, List.getElem_toArray, List.getElem_cons_succ, List.getElem_cons_zero, List.setIfInBounds_toArray, List.set_cons_zero, List.set_cons_succ]
          refine wpAnyH_ready (rs := [7]) (by kernel_rfl) (by simp) (AllReadyH.cons rfl (fun K hK => ?_) AllReadyH.nil)
          have h0 := hHeld
          clear hHeld
          try simp only [List.getElem_toArray, List.getElem_cons_succ, List.getElem_cons_zero]
          rw [if_pos (by rfl)]
          obtain ⟨old, hold, kold⟩ := Fr.old h0 (g := w.heap.size + 1 + 1) (t := 23) (n := 32) (by simp)
          refine wp_store_row 23 (.tmp 4) (.tmp 38) rfl (w.heap.size + 1 + 1) (ks m) rfl rfl 23 old kold (info_ks _) hold (ks_one _) ?_
          refine hK.out _ _ (Fr.setAny h0 (g := w.heap.size + 1 + 1) (t := 23) (ks_size _) (by simp) (by simp <;> omega)) (fun hHeld => ?_)
          have kb := kold.setRow_same (ks m)
          clear hK K h0 hold
          try simp only [Act.put, List.getElem_toArray, List.getElem_cons_succ, List.getElem_cons_zero, List.setIfInBounds_toArray, List.set_cons_zero, List.set_cons_succ]
          refine wpAnyH_done (by kernel_rfl) ?_ _
          have HK := Lib.hid kb
          have HBL := Lib.hid hHeld.below
          clear kb hHeld
          go_wp2_with (fail)
          rw [← HM.out]
          exact key_end (g := w.heap.size + 1 + 1) rfl rfl rfl HK.out HBL.out
end Go.Proofs.YtcijaoihcckofaaDoor
namespace Go.Proofs.YtcijaoihcckofaaDoor
set_option linter.unusedVariables false
set_option linter.unusedSimpArgs false
set_option maxRecDepth 100000
open Go Go.RowKit
attribute [local irreducible] lad lgo
theorem lmulR {k n m : Nat} {y : Fin PP} (hy : y = lad Q0 (clampN k) (ofK n)) (h : m = y.val) (hk : k < 115792089237316195423570985008687907853269984665640564039457584007913129639936) (hn : n < 115792089237316195423570985008687907853269984665640564039457584007913129639936) (w : World) (hp : PG w) : Calls Tryd.prog 74 #[.agg (ks k), .agg (ks n)] w (KeyPost m w) := by
  rw [h]
  exact lmul_any hy w hp hk hn
theorem lit9 : ks 9 = #[.int .u8 9, .int .u8 0, .int .u8 0, .int .u8 0, .int .u8 0, .int .u8 0, .int .u8 0, .int .u8 0, .int .u8 0, .int .u8 0, .int .u8 0, .int .u8 0, .int .u8 0, .int .u8 0, .int .u8 0, .int .u8 0, .int .u8 0, .int .u8 0, .int .u8 0, .int .u8 0, .int .u8 0, .int .u8 0, .int .u8 0, .int .u8 0, .int .u8 0, .int .u8 0, .int .u8 0, .int .u8 0, .int .u8 0, .int .u8 0, .int .u8 0, .int .u8 0] := by kernel_rfl
set_option maxRecDepth 100000 in
set_option maxHeartbeats 2000000 in
theorem public_any {k m : Nat} {y : Fin PP} (hy : y = lad Q0 (clampN k) (ofK 9)) (h : m = y.val) (hk : k < 115792089237316195423570985008687907853269984665640564039457584007913129639936) (w : World) (hpg : PG w) : Calls Tryd.prog 40 #[.agg (ks k)] w (KeyPost m w) := by
  have hmu := fun W hp => lmulR hy h hk (show 9 < 115792089237316195423570985008687907853269984665640564039457584007913129639936 by omega) W hp
  rw [lit9] at hmu
  have hfr := ((Fr.start w).row (ks k) 23 (g := w.heap.size) rfl).any (ks 0) 23 32 (ks_size 0) (g := w.heap.size + 1) (by simp)
  rw [ks_zero] at hfr
  have k0 := hfr.get (g := w.heap.size) (t := 23) (cs := ks k) (by simp)
  have HMU := Lib.hid hmu
  have HF := Lib.hid hfr
  have K0 := Lib.hid k0
  have HP := Lib.hid hpg
  clear hmu hfr k0 hpg hy h hk
  go_enter Tryd.func40, Tryd.ntmps40
  go_wp2_with (first | (refine wpList_load_row rfl 23 (.tmp 1) rfl (w.heap.size) rfl 23 (ks k) (0, 0) _ K0.out Tryd.underlying23 rfl (info_ks _) ?_))
  clear K0
  refine (HMU.out _ (Fr.pg HF.out HP.out)).mono ?_
  rintro e v1 ⟨rfl, hb⟩
  have hf := HF.out.ext hb
  obtain ⟨old, hold, kR⟩ := hf.old (g := w.heap.size + 1) (t := 23) (n := 32) (by simp)
  have kS := kR.setRow_same (ks m)
  have hB2 := below_setRow hf.below (show w.heap.size ≤ w.heap.size + 1 by omega) (ks m)
  have hold' : old.size = (ks m).size := by rw [hold, ks_size]
  have HS := Lib.hid kS
  have HB2 := Lib.hid hB2
  have HO := Lib.hid hold'
  clear hb hf kS hB2 hold hold' HF
  go_wp2_with (first | (refine wpList_store_row rfl 23 (.tmp 2) (.tmp 5) rfl (w.heap.size + 1) (ks m) rfl rfl 23 old kR (info_ks _) HO.out (ks_one _) ?_))
  exact key_end (g := w.heap.size + 1) rfl rfl rfl HS.out HB2.out
end Go.Proofs.YtcijaoihcckofaaDoor
namespace Go.Proofs.YtcijaoihcckofaaDoor
set_option linter.unusedVariables false
set_option linter.unusedSimpArgs false
set_option maxRecDepth 100000
open Go Go.RowKit
attribute [local irreducible] ev sv ks fx dv tv cv ds ptSet ptAdd ptMul rpAdd rpMul rootC EE II TD BX BY BP Pt.add Pt.mul Pt.nil pbn LL lad PZ
theorem clampN_lim {n : Nat} (hn : n < 115792089237316195423570985008687907853269984665640564039457584007913129639936) : clampN n < 115792089237316195423570985008687907853269984665640564039457584007913129639936 := by
  have h := clampN_lt hn
  rw [show (2 : Nat) ^ 255 = 57896044618658097711785492504343953926634992332820282019728792003956564819968 by decide] at h
  omega
theorem val_lim (x : Fin PP) : x.val < 115792089237316195423570985008687907853269984665640564039457584007913129639936 := by have := PP_lt255 x; omega
theorem rclamp_nm {n z : Nat} (hz : z = clampN n) (w : World) : Calls Tryd.prog 33 #[.agg (ks n)] w (KeyPost z w) := by rw [hz]; exact rclamp_any n w
theorem nine_ofK : ofK 9 = Fin.ofNat PP 9 := by decide +kernel
theorem ladder_eq {n k yn : Nat} {y a b i u v one : Fin PP} (hk : k = clampN n) (hn : n < 115792089237316195423570985008687907853269984665640564039457584007913129639936) (hyn : yn = (BP.mul k).y.val) (hy : y = ofK yn) (h1 : one = sm 1) (ha : a = one + y) (hb : b = one - y) (hi : i = b ^ (PP - 2)) (hu : u = a * i) (hv : v = lad Q0 (clampN n) (ofK 9)) : u = v := by
  have h := ladder_base (k := clampN n) (clampN_lt hn)
  have e : y = (BP.mul k).y := by rw [hy]; exact ofK_of (by rw [hyn]; exact Nat.mod_eq_of_lt (PP_lt255 _))
  rw [hv, nine_ofK, h, hu, hi, ha, hb, h1, sm_one, e, hk]
set_option maxHeartbeats 8000000 in
theorem law_ladder0 {n : Nat} (hn : n < 115792089237316195423570985008687907853269984665640564039457584007913129639936) (w : World) (hpg : PG w) : Calls Tryd.prog 9 #[.agg (ks n)] w (fun rr w' => rr = .returned (.bool true) ∧ Below w.heap.size w w') := by
  obtain ⟨z1, hz1⟩ : ∃ z : Nat, z = clampN n := ⟨_, rfl⟩
  have lz1 : z1 < 115792089237316195423570985008687907853269984665640564039457584007913129639936 := by rw [hz1]; exact clampN_lim hn
  obtain ⟨z2, hz2⟩ : ∃ z : L4 PP, z = ptMul BE z1 256 := ⟨_, rfl⟩
  have rz2 : RepS (Pt.mul BP z1) z2 := by rw [hz2]; exact RepS.mul BE_rep lz1
  obtain ⟨z3, hz3⟩ : ∃ z : Nat, z = (Pt.mul BP z1).y.val := ⟨_, rfl⟩
  obtain ⟨z4, hz4⟩ : ∃ z : Fin PP, z = ofK z3 := ⟨_, rfl⟩
  have lz3 : z3 < 115792089237316195423570985008687907853269984665640564039457584007913129639936 := by rw [hz3]; exact val_lim _
  obtain ⟨z5, hz5⟩ : ∃ z : Fin PP, z = sm 1 := ⟨_, rfl⟩
  obtain ⟨z6, hz6⟩ : ∃ z : Fin PP, z = z5 + z4 := ⟨_, rfl⟩
  obtain ⟨z7, hz7⟩ : ∃ z : Fin PP, z = z5 - z4 := ⟨_, rfl⟩
  obtain ⟨z8, hz8⟩ : ∃ z : Fin PP, z = z7 ^ (PP - 2) := ⟨_, rfl⟩
  obtain ⟨z9, hz9⟩ : ∃ z : Fin PP, z = z6 * z8 := ⟨_, rfl⟩
  obtain ⟨z10, hz10⟩ : ∃ z : Nat, z = z9.val := ⟨_, rfl⟩
  obtain ⟨z11, hz11⟩ : ∃ z : Fin PP, z = lad Q0 (clampN n) (ofK 9) := ⟨_, rfl⟩
  obtain ⟨z12, hz12⟩ : ∃ z : Nat, z = z11.val := ⟨_, rfl⟩
  refine calls_st (vs := [.agg (ks n)]) 28 Tryd.func9 rfl Tryd.ntmps9 rfl (fun a W H => ?_)
  replace H : St 28 w a W [(0, .agg (ks n))] [] := H
  refine wp_seq_k (fun K1 hK1 => ?_)
  refine rg_plain ?_
  refine pl_box rfl rfl (bx_keyr n) rfl rfl rfl rfl H ?_
  clear H a W
  intro g1 a W H
  refine pl_does (does_assign rfl rfl) rfl rfl rfl rfl H ?_
  clear H a W
  intro a W H
  refine pl_end ?_
  replace H : St 28 w a W [(2, .bool false), (1, .pointer (some ⟨g1, 0, none⟩))] [(g1, 23, ks n)] := H.pick [0, 1] [0] rfl
  refine hK1 _ _ ?_
  clear hK1
  refine wp_seq_k (fun K2 hK2 => ?_)
  refine rg_plain ?_
  refine pl_does (does_load rfl rfl (k := 0) rfl Tryd.underlying23 rfl (info_ks _)) rfl rfl rfl rfl H ?_
  clear H a W
  intro a W H
  refine pl_does (does_call rfl ⟨_, Tryd.func33, by kernel_rfl⟩ rfl (fun W hb => rclamp_nm hz1 W)) rfl rfl rfl rfl H ?_
  clear H a W
  intro a W H
  refine pl_does (does_call rfl ⟨_, Tryd.func29, by kernel_rfl⟩ rfl (fun W hb => base_pt hz2 W (hpg.ext hb))) rfl rfl rfl rfl H ?_
  clear H a W
  intro a W H
  refine pl_does (does_call rfl ⟨_, Tryd.func18, by kernel_rfl⟩ rfl (fun W hb => ptY_nm rz2 hz3 W (hpg.ext hb))) rfl rfl rfl rfl H ?_
  clear H a W
  intro a W H
  refine pl_does (does_call rfl ⟨_, Tryd.func32, by kernel_rfl⟩ rfl (fun W hb => ofR_nm hz4 W (hpg.ext hb) lz3)) rfl rfl rfl rfl H ?_
  clear H a W
  intro a W H
  refine pl_new (news_of rfl al_elem) rfl rfl rfl rfl H ?_
  clear H a W
  intro g2 a W H
  refine pl_store rfl rfl rfl (k := 0) rfl (info_ev _) (by simp only [sv_size, ev_size, ks_size, fx_size, dv_size, ds_size, tv_size, cv_size] <;> rfl) (ev_one _) rfl rfl H ?_
  clear H a W
  intro a W H
  refine pl_end ?_
  replace H : St 28 w a W [(3, .pointer (some ⟨g2, 0, none⟩)), (2, .bool false), (1, .pointer (some ⟨g1, 0, none⟩))] [(g2, 27, ev z4), (g1, 23, ks n)] := H.pick [0, 6, 7] [0, 1] rfl
  refine hK2 _ _ ?_
  clear hK2
  refine wp_seq_k (fun K3 hK3 => ?_)
  refine rg_plain ?_
  refine pl_does (does_call rfl ⟨_, Tryd.func34, by kernel_rfl⟩ rfl (fun W hb => smallP 1 hz5 (by omega) W)) rfl rfl rfl rfl H ?_
  clear H a W
  intro a W H
  refine pl_new (news_of rfl al_elem) rfl rfl rfl rfl H ?_
  clear H a W
  intro g3 a W H
  refine pl_store rfl rfl rfl (k := 0) rfl (info_ev _) (by simp only [sv_size, ev_size, ks_size, fx_size, dv_size, ds_size, tv_size, cv_size] <;> rfl) (ev_one _) rfl rfl H ?_
  clear H a W
  intro a W H
  refine pl_end ?_
  replace H : St 28 w a W [(4, .pointer (some ⟨g3, 0, none⟩)), (3, .pointer (some ⟨g2, 0, none⟩)), (2, .bool false), (1, .pointer (some ⟨g1, 0, none⟩))] [(g3, 27, ev z5), (g2, 27, ev z4), (g1, 23, ks n)] := H.pick [0, 2, 3, 4] [0, 1, 2] rfl
  refine hK3 _ _ ?_
  clear hK3
  refine wp_seq_k (fun K4 hK4 => ?_)
  refine drawnS [.val 12 (.agg (ev z5)) [] [0], .val 13 (.agg (ev z4)) [] [1], .val 14 (.agg (ev z6)) [0, 1] [], .val 15 (.agg (ev z5)) [] [0], .val 16 (.agg (ev z4)) [] [1], .val 17 (.agg (ev z7)) [3, 4] [], .val 18 (.agg (ev z8)) [5] [], .val 19 (.agg (ev z9)) [2, 6] [], .new 5 27 (#[.int .u64 0, .int .u64 0, .int .u64 0, .int .u64 0]), .ston 8 5 27 (#[.int .u64 0, .int .u64 0, .int .u64 0, .int .u64 0]) (ev z9) [7]] [0, 0, 3, 0, 0, 28, 32, 68, 0, 511] (by kernel_rfl) (by kernel_rfl) (by kernel_rfl) H ⟨⟨does_load rfl rfl (k := 0) rfl Tryd.underlying27 rfl (info_ev _), wanted_none rfl⟩, ⟨does_load rfl rfl (k := 0) rfl Tryd.underlying27 rfl (info_ev _), wanted_none rfl⟩, ⟨does_call rfl ⟨_, Tryd.func35, by kernel_rfl⟩ rfl (fun W hb => addP hz6 W (hpg.ext hb)), wanted_none rfl⟩, ⟨does_load rfl rfl (k := 0) rfl Tryd.underlying27 rfl (info_ev _), wanted_none rfl⟩, ⟨does_load rfl rfl (k := 0) rfl Tryd.underlying27 rfl (info_ev _), wanted_none rfl⟩, ⟨does_call rfl ⟨_, Tryd.func37, by kernel_rfl⟩ rfl (fun W hb => subP hz7 W (hpg.ext hb)), wanted_none rfl⟩, ⟨does_call rfl ⟨_, Tryd.func38, by kernel_rfl⟩ rfl (fun W hb => invR hz8 W (hpg.ext hb)), wanted_none rfl⟩, ⟨does_call rfl ⟨_, Tryd.func36, by kernel_rfl⟩ rfl (fun W hb => mulP hz9 W (hpg.ext hb)), wanted_none rfl⟩, ⟨news_of rfl al_elem, rfl⟩, ⟨rfl, rfl, fun g => sto_row rfl rfl rfl (info_ev _) (by simp only [sv_size, ev_size, ks_size, fx_size, dv_size, ds_size, tv_size, cv_size] <;> rfl) (ev_one _)⟩, trivial⟩ ?_
  clear H a W
  intro G4 a W H
  replace H : St 28 w a W [(12, .agg (ev z5)), (13, .agg (ev z4)), (14, .agg (ev z6)), (15, .agg (ev z5)), (16, .agg (ev z4)), (17, .agg (ev z7)), (18, .agg (ev z8)), (19, .agg (ev z9)), (5, .pointer (some ⟨(G4 8), 0, none⟩)), (4, .pointer (some ⟨g3, 0, none⟩)), (3, .pointer (some ⟨g2, 0, none⟩)), (2, .bool false), (1, .pointer (some ⟨g1, 0, none⟩))] [((G4 8), 27, ev z9), (g3, 27, ev z5), (g2, 27, ev z4), (g1, 23, ks n)] := H
  replace H : St 28 w a W [(5, .pointer (some ⟨(G4 8), 0, none⟩)), (2, .bool false), (1, .pointer (some ⟨g1, 0, none⟩))] [((G4 8), 27, ev z9), (g1, 23, ks n)] := H.pick [8, 11, 12] [0, 3] rfl
  refine hK4 _ _ ?_
  clear hK4
  refine wp_seq_k (fun K5 hK5 => ?_)
  replace H : St 28 w a W [(5, .pointer (some ⟨(G4 8), 0, none⟩)), (1, .pointer (some ⟨g1, 0, none⟩))] [((G4 8), 27, ev z9), (g1, 23, ks n)] := H.pick [0, 2] [0, 1] rfl
  refine drawnS [.val 20 (.agg (ev z9)) [] [0], .val 21 (.agg (ks z10)) [0] [], .val 22 (.agg (ks n)) [] [1], .val 23 (.agg (ks z12)) [2] [], .val 24 (.bool true) [1, 3] [], .val 25 (.bool true) [4] [], .val 26 (.bool true) [5] [], .val 27 (.bool true) [5, 6] [], .val 2 (.bool true) [7] []] [0, 1, 0, 6, 10, 24, 32, 96, 255] (by kernel_rfl) (by kernel_rfl) (by kernel_rfl) H ⟨⟨does_load rfl rfl (k := 0) rfl Tryd.underlying27 rfl (info_ev _), wanted_none rfl⟩, ⟨does_call rfl ⟨_, Tryd.func39, by kernel_rfl⟩ rfl (fun W hb => bytes_nm hz10 W (hpg.ext hb)), wanted_none rfl⟩, ⟨does_load rfl rfl (k := 0) rfl Tryd.underlying23 rfl (info_ks _), wanted_none rfl⟩, ⟨does_call rfl ⟨_, Tryd.func40, by kernel_rfl⟩ rfl (fun W hb => public_any hz11 hz12 hn W (hpg.ext hb)), wanted_none rfl⟩, ⟨does_binOp rfl rfl rfl (eq_key_same (hz10.trans ((congrArg Fin.val (ladder_eq hz1 hn hz3 hz4 hz5 hz6 hz7 hz8 hz9 hz11)).trans hz12.symm)) _ _), wanted_none rfl⟩, ⟨does_move rfl rfl, wanted_none rfl⟩, ⟨does_call rfl ⟨_, Tryd.func14, by kernel_rfl⟩ rfl (fun W hb => known6 W (hpg.ext hb)), wanted_some rfl rfl rfl rfl rfl⟩, ⟨does_pick rfl rfl (fun _ => rfl) (fun hb => by cases hb), wanted_none rfl⟩, ⟨does_assign rfl rfl, wanted_none rfl⟩, trivial⟩ ?_
  clear H a W
  intro G5 a W H
  replace H : St 28 w a W [(20, .agg (ev z9)), (21, .agg (ks z10)), (22, .agg (ks n)), (23, .agg (ks z12)), (24, .bool true), (25, .bool true), (26, .bool true), (27, .bool true), (2, .bool true), (5, .pointer (some ⟨(G4 8), 0, none⟩)), (1, .pointer (some ⟨g1, 0, none⟩))] [((G4 8), 27, ev z9), (g1, 23, ks n)] := H
  replace H : St 28 w a W [(2, .bool true)] [] := H.pick [8] [] rfl
  refine hK5 _ _ ?_
  clear hK5
  refine wp_ret ?_
  repeat (first | (with_reducible refine then_ret ?_) | (with_reducible refine blk_ret ?_))
  refine end_tmp (p := 2) rfl rfl H (fun hb => ?_)
  exact ⟨rfl, hb⟩
theorem law_ladder (n : Nat) (w : World) (hpg : PG w) (hn : n < 115792089237316195423570985008687907853269984665640564039457584007913129639936) : Calls Tryd.prog 9 #[.agg (ks n)] w (BPost true w) := law_ladder0 hn w hpg
end Go.Proofs.YtcijaoihcckofaaDoor
