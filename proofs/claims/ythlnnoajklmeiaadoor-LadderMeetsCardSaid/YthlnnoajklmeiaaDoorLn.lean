/- The ladder's next: one step. -/
import Derived.Test.YthlnnoajklmeiaaDoorLs
import Derived.Deep.DeepCutAuto
import Derived.Deep.CutBlock
namespace Go.Proofs.YthlnnoajklmeiaaDoor
set_option linter.unusedVariables false
set_option linter.unusedSimpArgs false
open Go.RowKit

theorem addR {x y z : Fin PP} (h : z = x + y) (w : World) (hp : PG w) : Calls Tryd.prog 40 #[.agg (ev x), .agg (ev y)] w (EPost z w) := by rw [h]; exact addF x y w hp
theorem subR {x y z : Fin PP} (h : z = x - y) (w : World) (hp : PG w) : Calls Tryd.prog 41 #[.agg (ev x), .agg (ev y)] w (EPost z w) := by rw [h]; exact subF x y w hp
theorem mulR {x y z : Fin PP} (h : z = x * y) (w : World) (hp : PG w) : Calls Tryd.prog 29 #[.agg (ev x), .agg (ev y)] w (EPost z w) := by rw [h]; exact mulF x y w hp
theorem squareR {x z : Fin PP} (h : z = x * x) (w : World) (hp : PG w) : Calls Tryd.prog 42 #[.agg (ev x)] w (EPost z w) := by rw [h]; exact squareF x w hp
theorem smallR {z : Fin PP} (n : Nat) (h : z = sm n) (hn : n < 18446744073709551616) (w : World) : Calls Tryd.prog 25 #[.int .u64 (n : Int)] w (EPost z w) := by rw [h]; exact smallF n w hn
theorem yields_build {P : Program} {ops : Array Oper} {S : World → Prop} {o : Oper} {a : Act} (hw : Region.wanted o (yielded ops a.tmps) = true) (t : TypeId) (parts : Array (Nat × Operand)) (ho : o.op = .build t parts) (l : List (Nat × Value)) (hl : (parts.map fun (i, x) => (i, a.eval x)).toList = l) (cells : Array Value)
    (hc : P.built t l = some cells) : YieldsIf P ops S o (.agg cells) a :=
  Or.inl ⟨hw, fun w hS => by
    unfold execOp
    subst hl
    simp only [ho, Sem.run_bind, run_build w t _ cells hc, Result.andThen_ok]
    rfl⟩
theorem built_sv (a b c d : Fin PP) : Tryd.prog.built 50 [(0, .agg (ev a)), (1, .agg (ev b)), (2, .agg (ev c)), (3, .agg (ev d))] = some (sv ⟨a, b, c, d⟩) := by kernel_rfl
theorem built_sv3 (a c d : Fin PP) : Tryd.prog.built 50 [(0, .agg (ev a)), (2, .agg (ev c)), (3, .agg (ev d))] = some (sv ⟨a, 0, c, d⟩) := by kernel_rfl
set_option maxRecDepth 100000 in
set_option maxHeartbeats 16000000 in
theorem next_any (s : L4 PP) (x : Fin PP) (w : World) (hpg : PG w) : Calls Tryd.prog 28 #[.agg (sv s), .agg (ev x)] w (SPost (lnx Q0 x s) w) := by
  obtain ⟨su, h_su⟩ : ∃ z, z = s.a + s.b := ⟨_, rfl⟩
  obtain ⟨le, h_le⟩ : ∃ z, z = s.a - s.b := ⟨_, rfl⟩
  obtain ⟨u, h_u⟩ : ∃ z, z = su * su := ⟨_, rfl⟩
  obtain ⟨v, h_v⟩ : ∃ z, z = le * le := ⟨_, rfl⟩
  obtain ⟨e, h_e⟩ : ∃ z, z = u - v := ⟨_, rfl⟩
  obtain ⟨cd, h_cd⟩ : ∃ z, z = s.c + s.d := ⟨_, rfl⟩
  obtain ⟨m, h_m⟩ : ∃ z, z = cd * le := ⟨_, rfl⟩
  obtain ⟨ce, h_ce⟩ : ∃ z, z = s.c - s.d := ⟨_, rfl⟩
  obtain ⟨k, h_k⟩ : ∃ z, z = ce * su := ⟨_, rfl⟩
  obtain ⟨za, h_za⟩ : ∃ z, z = u * v := ⟨_, rfl⟩
  obtain ⟨qq, h_qq⟩ : ∃ z, z = sm 121665 := ⟨_, rfl⟩
  obtain ⟨eq, h_eq⟩ : ∃ z, z = e * qq := ⟨_, rfl⟩
  obtain ⟨ue, h_ue⟩ : ∃ z, z = u + eq := ⟨_, rfl⟩
  obtain ⟨zb, h_zb⟩ : ∃ z, z = e * ue := ⟨_, rfl⟩
  obtain ⟨mk, h_mk⟩ : ∃ z, z = m + k := ⟨_, rfl⟩
  obtain ⟨zc, h_zc⟩ : ∃ z, z = mk * mk := ⟨_, rfl⟩
  obtain ⟨ml, h_ml⟩ : ∃ z, z = m - k := ⟨_, rfl⟩
  obtain ⟨m2, h_m2⟩ : ∃ z, z = ml * ml := ⟨_, rfl⟩
  obtain ⟨zd, h_zd⟩ : ∃ z, z = x * m2 := ⟨_, rfl⟩
  obtain ⟨z, h_z⟩ : ∃ z, z = (⟨za, zb, zc, zd⟩ : L4 PP) := ⟨_, rfl⟩
  have hblt : Tryd.prog.built 50 [(0, .agg (ev za)), (1, .agg (ev zb)), (2, .agg (ev zc)), (3, .agg (ev zd))] = some (sv z) := by rw [h_z]; exact built_sv za zb zc zd
  have HBLT := Lib.hid hblt
  have hend : z = lnx Q0 x s := by
    rw [h_z]
    have hq : qq = Q0 := h_qq
    subst h_zd h_m2 h_ml h_zc h_mk h_zb h_ue h_eq h_za h_k h_ce h_m h_cd h_e h_v h_u h_le h_su
    rw [hq]
    rfl
  have H_su := Lib.hid h_su
  have H_le := Lib.hid h_le
  have H_u := Lib.hid h_u
  have H_v := Lib.hid h_v
  have H_e := Lib.hid h_e
  have H_cd := Lib.hid h_cd
  have H_m := Lib.hid h_m
  have H_ce := Lib.hid h_ce
  have H_k := Lib.hid h_k
  have H_za := Lib.hid h_za
  have H_qq := Lib.hid h_qq
  have H_eq := Lib.hid h_eq
  have H_ue := Lib.hid h_ue
  have H_zb := Lib.hid h_zb
  have H_mk := Lib.hid h_mk
  have H_zc := Lib.hid h_zc
  have H_ml := Lib.hid h_ml
  have H_m2 := Lib.hid h_m2
  have H_zd := Lib.hid h_zd
  have HEND := Lib.hid hend
  clear hend hblt h_z h_zd h_m2 h_ml h_zc h_mk h_zb h_ue h_eq h_qq h_za h_k h_ce h_m h_cd h_e h_v h_u h_le h_su
  have hfr := (((Fr.start w).row (sv s) 50 (g := w.heap.size) rfl).row (ev x) 46 (g := w.heap.size + 1) (by simp)).any (sv ZS) 50 16 (sv_size _) (g := w.heap.size + 1 + 1) (by simp)
  rw [sv_zero] at hfr
  have HP := Lib.hid hpg
  have hpg0 := Fr.pg hfr hpg
  clear hpg
  go_enter Tryd.func28, Tryd.ntmps28
  go_wp2_with (fail)
  obtain ⟨wx, hwx⟩ : ∃ wx : World, wx = (((w.alloc (.cells (sv s) 50)).alloc (.cells (ev x) 46)).alloc (.cells #[.int .u64 0, .int .u64 0, .int .u64 0, .int .u64 0, .int .u64 0, .int .u64 0, .int .u64 0, .int .u64 0, .int .u64 0, .int .u64 0, .int .u64 0, .int .u64 0, .int .u64 0, .int .u64 0, .int .u64 0, .int .u64 0] 50)) := ⟨_, rfl⟩
  rw [← hwx] at hfr hpg0 ⊢
  clear hwx
  have HF := Lib.hid hfr
  have HPG := Lib.hid hpg0
  clear hfr hpg0
  go_cut [5, 6] (fun s5 s6 wz => ∃ g5 g6 : Nat, s5 = .pointer (some ⟨g5, 0, none⟩) ∧ s6 = .pointer (some ⟨g6, 0, none⟩) ∧ Blk wz g5 46 (ev su) ∧ Blk wz g6 46 (ev le) ∧ Below wx.heap.size wx wz)
  case first =>
    as_aux_lemma =>
      have hn := (HF.out.now.sub (L' := [(w.heap.size + 1, 46, ev x), (w.heap.size, 50, sv s)]) (by simp))
      have HN := Lib.hid hn
      clear hn
      refine wp_region_held_drew (S := fun W => Fn wx W [(w.heap.size + 1, 46, ev x), (w.heap.size, 50, sv s)]) (by kernel_rfl) ?_ (fun hHeld => ?_)
      · exact HN.out.drew
      refine wpAnyH_take (i := 0) (v := ?_) rfl (by kernel_rfl) (by kernel_rfl) (by kernel_rfl) (fun _ _ _ h => h) (Or.inl ⟨by rfl, ?_⟩) hHeld ?_
      rotate_left
      · (intro W hSw; (try dsimp only at hSw); (try simp only [List.getElem_toArray, List.getElem_cons_succ, List.getElem_cons_zero]); go_simp; try with_reducible rfl)
      try simp only [Act.put, List.getElem_toArray, List.getElem_cons_succ, List.getElem_cons_zero, List.setIfInBounds_toArray, List.set_cons_zero, List.set_cons_succ]
      refine wpAnyH_take (i := 1) (v := .agg (ev (s.a))) rfl (by kernel_rfl) (by kernel_rfl) (by kernel_rfl) (fun _ _ _ h => h) (yields_sv (by rfl) (.tmp 12) rfl (w.heap.size) 0 (by omega) rfl 50 s (fun W (h : Fn _ W _) => h.get (by simp))) hHeld ?_
      try simp only [Act.put, List.getElem_toArray, List.getElem_cons_succ, List.getElem_cons_zero, List.setIfInBounds_toArray, List.set_cons_zero, List.set_cons_succ]
      refine wpAnyH_take (i := 2) (v := ?_) rfl (by kernel_rfl) (by kernel_rfl) (by kernel_rfl) (fun _ _ _ h => h) (Or.inl ⟨by rfl, ?_⟩) hHeld ?_
      rotate_left
      · (intro W hSw; (try dsimp only at hSw); (try simp only [List.getElem_toArray, List.getElem_cons_succ, List.getElem_cons_zero]); go_simp; try with_reducible rfl)
      try simp only [Act.put, List.getElem_toArray, List.getElem_cons_succ, List.getElem_cons_zero, List.setIfInBounds_toArray, List.set_cons_zero, List.set_cons_succ]
      refine wpAnyH_take (i := 3) (v := .agg (ev (s.b))) rfl (by kernel_rfl) (by kernel_rfl) (by kernel_rfl) (fun _ _ _ h => h) (yields_sv (by rfl) (.tmp 14) rfl (w.heap.size) 1 (by omega) rfl 50 s (fun W (h : Fn _ W _) => h.get (by simp))) hHeld ?_
      try simp only [Act.put, List.getElem_toArray, List.getElem_cons_succ, List.getElem_cons_zero, List.setIfInBounds_toArray, List.set_cons_zero, List.set_cons_succ]
      refine wpAnyH_take (i := 5) (v := ?_) rfl (by kernel_rfl) (by kernel_rfl) (by kernel_rfl) (fun _ _ _ h => h) (Or.inl ⟨by rfl, ?_⟩) hHeld ?_
      rotate_left
      · (intro W hSw; (try dsimp only at hSw); (try simp only [List.getElem_toArray, List.getElem_cons_succ, List.getElem_cons_zero]); go_simp; try with_reducible rfl)
      try simp only [Act.put, List.getElem_toArray, List.getElem_cons_succ, List.getElem_cons_zero, List.setIfInBounds_toArray, List.set_cons_zero, List.set_cons_succ]
      refine wpAnyH_take (i := 6) (v := .agg (ev (s.a))) rfl (by kernel_rfl) (by kernel_rfl) (by kernel_rfl) (fun _ _ _ h => h) (yields_sv (by rfl) (.tmp 17) rfl (w.heap.size) 0 (by omega) rfl 50 s (fun W (h : Fn _ W _) => h.get (by simp))) hHeld ?_
      try simp only [Act.put, List.getElem_toArray, List.getElem_cons_succ, List.getElem_cons_zero, List.setIfInBounds_toArray, List.set_cons_zero, List.set_cons_succ]
      refine wpAnyH_take (i := 7) (v := ?_) rfl (by kernel_rfl) (by kernel_rfl) (by kernel_rfl) (fun _ _ _ h => h) (Or.inl ⟨by rfl, ?_⟩) hHeld ?_
      rotate_left
      · (intro W hSw; (try dsimp only at hSw); (try simp only [List.getElem_toArray, List.getElem_cons_succ, List.getElem_cons_zero]); go_simp; try with_reducible rfl)
      try simp only [Act.put, List.getElem_toArray, List.getElem_cons_succ, List.getElem_cons_zero, List.setIfInBounds_toArray, List.set_cons_zero, List.set_cons_succ]
      refine wpAnyH_take (i := 8) (v := .agg (ev (s.b))) rfl (by kernel_rfl) (by kernel_rfl) (by kernel_rfl) (fun _ _ _ h => h) (yields_sv (by rfl) (.tmp 19) rfl (w.heap.size) 1 (by omega) rfl 50 s (fun W (h : Fn _ W _) => h.get (by simp))) hHeld ?_
      try simp only [Act.put, List.getElem_toArray, List.getElem_cons_succ, List.getElem_cons_zero, List.setIfInBounds_toArray, List.set_cons_zero, List.set_cons_succ]
      refine wpAnyH_name ?_
      intro ops Q hops hQ
      have st2_1011 : ∀ (g5 g6 : Nat) (W : World), Fn wx W [(w.heap.size + 1, 46, ev x), (w.heap.size, 50, sv s)] → Blk W g5 46 #[.int .u64 0, .int .u64 0, .int .u64 0, .int .u64 0] → wx.heap.size ≤ g5 → Blk W g6 46 #[.int .u64 0, .int .u64 0, .int .u64 0, .int .u64 0] → wx.heap.size ≤ g6 → g5 ≠ g6 → wpAnyH Tryd.prog .any ops Q (fun W => Fn wx W [(w.heap.size + 1, 46, ev x), (w.heap.size, 50, sv s)]) 2 #[true, true, true, true, true, true, true, true, true, true, true, true, false, false] { tmps := #[.agg (sv s), .agg (ev x), .pointer (some ⟨w.heap.size, 0, none⟩), .pointer (some ⟨w.heap.size + 1, 0, none⟩), .pointer (some ⟨w.heap.size + 1 + 1, 0, none⟩), .pointer (some ⟨g5, 0, none⟩), .pointer (some ⟨g6, 0, none⟩), undef, undef, undef, undef, undef, .pointer (some ⟨w.heap.size, 0, none⟩), .agg (ev (s.a)), .pointer (some ⟨w.heap.size, 4, none⟩), .agg (ev (s.b)), .agg (ev su), .pointer (some ⟨w.heap.size, 0, none⟩), .agg (ev (s.a)), .pointer (some ⟨w.heap.size, 4, none⟩), .agg (ev (s.b)), .agg (ev le), undef, undef, undef, undef, undef, undef, undef, undef, undef, undef, undef, undef, undef, undef, undef, undef, undef, undef, undef, undef, undef, undef, undef, undef, undef, undef, undef, undef, undef, undef, undef, undef, undef, undef, undef, undef, undef, undef, undef, undef, undef, undef], defers := [] } W := by
        as_aux_lemma =>
          intro g5 g6 W hHeld K10 Z10 K11 Z11 n10_11
          rw [← hops]
          rw [← hQ]
          have KK10 := Lib.hid K10
          clear K10
          have KK11 := Lib.hid K11
          clear K11
          refine wpAnyH_ready (rs := [12]) (by kernel_rfl) (by simp) (AllReadyH.cons rfl (fun K hK => ?_) AllReadyH.nil)
          have h0 := hHeld
          clear hHeld
          try simp only [List.getElem_toArray, List.getElem_cons_succ, List.getElem_cons_zero]
          rw [if_pos (by rfl)]
          refine wp_store_row 46 (.tmp 5) (.tmp 16) rfl g5 (ev su) rfl rfl 46 _ KK10.out (info_ev _) rfl (ev_one _) ?_
          refine hK.out _ _ (Fn.setFresh h0 Z10 _) (fun hHeld => ?_)
          have J10 := Lib.hid (KK10.out.setRow_same (ev su))
          clear KK10
          have KK10 := J10
          clear J10
          have J11 := Lib.hid (KK11.out.setRow_other (Ne.symm n10_11) (ev su))
          clear KK11
          have KK11 := J11
          clear J11
          clear hK K h0
          try simp only [Act.put, List.getElem_toArray, List.getElem_cons_succ, List.getElem_cons_zero, List.setIfInBounds_toArray, List.set_cons_zero, List.set_cons_succ]
          refine wpAnyH_ready (rs := [13]) (by kernel_rfl) (by simp) (AllReadyH.cons rfl (fun K hK => ?_) AllReadyH.nil)
          have h0 := hHeld
          clear hHeld
          try simp only [List.getElem_toArray, List.getElem_cons_succ, List.getElem_cons_zero]
          rw [if_pos (by rfl)]
          refine wp_store_row 46 (.tmp 6) (.tmp 21) rfl g6 (ev le) rfl rfl 46 _ KK11.out (info_ev _) rfl (ev_one _) ?_
          refine hK.out _ _ (Fn.setFresh h0 Z11 _) (fun hHeld => ?_)
          have J11 := Lib.hid (KK11.out.setRow_same (ev le))
          clear KK11
          have KK11 := J11
          clear J11
          have J10 := Lib.hid (KK10.out.setRow_other n10_11 (ev le))
          clear KK10
          have KK10 := J10
          clear J10
          clear hK K h0
          try simp only [Act.put, List.getElem_toArray, List.getElem_cons_succ, List.getElem_cons_zero, List.setIfInBounds_toArray, List.set_cons_zero, List.set_cons_succ]
          refine wpAnyH_done (by kernel_rfl) ?_ _
          have HB := Lib.hid hHeld.below
          clear hHeld
          go_wp2_with (fail)
          go_meet
          exact ⟨g5, g6, rfl, rfl, KK10.out, KK11.out, HB.out⟩
      have st2_10 : ∀ (g5 : Nat) (W : World), Fn wx W [(w.heap.size + 1, 46, ev x), (w.heap.size, 50, sv s)] → Blk W g5 46 #[.int .u64 0, .int .u64 0, .int .u64 0, .int .u64 0] → wx.heap.size ≤ g5 → wpAnyH Tryd.prog .any ops Q (fun W => Fn wx W [(w.heap.size + 1, 46, ev x), (w.heap.size, 50, sv s)]) 3 #[true, true, true, true, true, true, true, true, true, true, true, false, false, false] { tmps := #[.agg (sv s), .agg (ev x), .pointer (some ⟨w.heap.size, 0, none⟩), .pointer (some ⟨w.heap.size + 1, 0, none⟩), .pointer (some ⟨w.heap.size + 1 + 1, 0, none⟩), .pointer (some ⟨g5, 0, none⟩), undef, undef, undef, undef, undef, undef, .pointer (some ⟨w.heap.size, 0, none⟩), .agg (ev (s.a)), .pointer (some ⟨w.heap.size, 4, none⟩), .agg (ev (s.b)), .agg (ev su), .pointer (some ⟨w.heap.size, 0, none⟩), .agg (ev (s.a)), .pointer (some ⟨w.heap.size, 4, none⟩), .agg (ev (s.b)), .agg (ev le), undef, undef, undef, undef, undef, undef, undef, undef, undef, undef, undef, undef, undef, undef, undef, undef, undef, undef, undef, undef, undef, undef, undef, undef, undef, undef, undef, undef, undef, undef, undef, undef, undef, undef, undef, undef, undef, undef, undef, undef, undef, undef], defers := [] } W := by
        as_aux_lemma =>
          intro g5 W hHeld K10 Z10
          rw [← hops]
          refine wpAnyH_ready (rs := [11]) (by kernel_rfl) (by simp) (AllReadyH.cons rfl (fun K hK => ?_) AllReadyH.nil)
          have h0 := hHeld
          clear hHeld
          try simp only [List.getElem_toArray, List.getElem_cons_succ, List.getElem_cons_zero]
          obtain ⟨kz, hg⟩ := Fn.fresh h0 46 #[.int .u64 0, .int .u64 0, .int .u64 0, .int .u64 0]
          have KZ := Lib.hid kz
          have HG := Lib.hid hg
          have H0 := Lib.hid h0
          clear kz hg h0
          have KH10 := Lib.hid K10
          go_simp
          refine hK.out _ _ (Fn.pass H0.out _) (fun hHeld => ?_)
          clear hK K H0
          try simp only [Act.put, List.getElem_toArray, List.getElem_cons_succ, List.getElem_cons_zero, List.setIfInBounds_toArray, List.set_cons_zero, List.set_cons_succ]
          have k10 := KH10.out.alloc (.cells #[.int .u64 0, .int .u64 0, .int .u64 0, .int .u64 0] 46)
          have z10 := Z10
          have k11 := KZ.out
          have z11 := HG.out
          refine wpAnyH_cast (n' := 2) (l' := #[true, true, true, true, true, true, true, true, true, true, true, true, false, false]) (by kernel_rfl) (by kernel_rfl) ?_
          have hh := st2_1011 g5 _ _ hHeld k10 z10 k11 z11 (Nat.ne_of_lt K10.lt)
          rw [← hops] at hh
          exact hh
      have st2_11 : ∀ (g6 : Nat) (W : World), Fn wx W [(w.heap.size + 1, 46, ev x), (w.heap.size, 50, sv s)] → Blk W g6 46 #[.int .u64 0, .int .u64 0, .int .u64 0, .int .u64 0] → wx.heap.size ≤ g6 → wpAnyH Tryd.prog .any ops Q (fun W => Fn wx W [(w.heap.size + 1, 46, ev x), (w.heap.size, 50, sv s)]) 3 #[true, true, true, true, true, true, true, true, true, true, false, true, false, false] { tmps := #[.agg (sv s), .agg (ev x), .pointer (some ⟨w.heap.size, 0, none⟩), .pointer (some ⟨w.heap.size + 1, 0, none⟩), .pointer (some ⟨w.heap.size + 1 + 1, 0, none⟩), undef, .pointer (some ⟨g6, 0, none⟩), undef, undef, undef, undef, undef, .pointer (some ⟨w.heap.size, 0, none⟩), .agg (ev (s.a)), .pointer (some ⟨w.heap.size, 4, none⟩), .agg (ev (s.b)), .agg (ev su), .pointer (some ⟨w.heap.size, 0, none⟩), .agg (ev (s.a)), .pointer (some ⟨w.heap.size, 4, none⟩), .agg (ev (s.b)), .agg (ev le), undef, undef, undef, undef, undef, undef, undef, undef, undef, undef, undef, undef, undef, undef, undef, undef, undef, undef, undef, undef, undef, undef, undef, undef, undef, undef, undef, undef, undef, undef, undef, undef, undef, undef, undef, undef, undef, undef, undef, undef, undef, undef], defers := [] } W := by
        as_aux_lemma =>
          clear st2_10
          intro g6 W hHeld K11 Z11
          rw [← hops]
          refine wpAnyH_ready (rs := [10]) (by kernel_rfl) (by simp) (AllReadyH.cons rfl (fun K hK => ?_) AllReadyH.nil)
          have h0 := hHeld
          clear hHeld
          try simp only [List.getElem_toArray, List.getElem_cons_succ, List.getElem_cons_zero]
          obtain ⟨kz, hg⟩ := Fn.fresh h0 46 #[.int .u64 0, .int .u64 0, .int .u64 0, .int .u64 0]
          have KZ := Lib.hid kz
          have HG := Lib.hid hg
          have H0 := Lib.hid h0
          clear kz hg h0
          have KH11 := Lib.hid K11
          go_simp
          refine hK.out _ _ (Fn.pass H0.out _) (fun hHeld => ?_)
          clear hK K H0
          try simp only [Act.put, List.getElem_toArray, List.getElem_cons_succ, List.getElem_cons_zero, List.setIfInBounds_toArray, List.set_cons_zero, List.set_cons_succ]
          have k11 := KH11.out.alloc (.cells #[.int .u64 0, .int .u64 0, .int .u64 0, .int .u64 0] 46)
          have z11 := Z11
          have k10 := KZ.out
          have z10 := HG.out
          refine wpAnyH_cast (n' := 2) (l' := #[true, true, true, true, true, true, true, true, true, true, true, true, false, false]) (by kernel_rfl) (by kernel_rfl) ?_
          have hh := st2_1011 _ g6 _ hHeld k10 z10 k11 z11 (Ne.symm (Nat.ne_of_lt K11.lt))
          rw [← hops] at hh
          exact hh
      have st1_1011 : ∀ (g5 g6 : Nat) (W : World), Fn wx W [(w.heap.size + 1, 46, ev x), (w.heap.size, 50, sv s)] → Blk W g5 46 #[.int .u64 0, .int .u64 0, .int .u64 0, .int .u64 0] → wx.heap.size ≤ g5 → Blk W g6 46 #[.int .u64 0, .int .u64 0, .int .u64 0, .int .u64 0] → wx.heap.size ≤ g6 → g5 ≠ g6 → wpAnyH Tryd.prog .any ops Q (fun W => Fn wx W [(w.heap.size + 1, 46, ev x), (w.heap.size, 50, sv s)]) 3 #[true, true, true, true, true, true, true, true, true, false, true, true, false, false] { tmps := #[.agg (sv s), .agg (ev x), .pointer (some ⟨w.heap.size, 0, none⟩), .pointer (some ⟨w.heap.size + 1, 0, none⟩), .pointer (some ⟨w.heap.size + 1 + 1, 0, none⟩), .pointer (some ⟨g5, 0, none⟩), .pointer (some ⟨g6, 0, none⟩), undef, undef, undef, undef, undef, .pointer (some ⟨w.heap.size, 0, none⟩), .agg (ev (s.a)), .pointer (some ⟨w.heap.size, 4, none⟩), .agg (ev (s.b)), .agg (ev su), .pointer (some ⟨w.heap.size, 0, none⟩), .agg (ev (s.a)), .pointer (some ⟨w.heap.size, 4, none⟩), .agg (ev (s.b)), undef, undef, undef, undef, undef, undef, undef, undef, undef, undef, undef, undef, undef, undef, undef, undef, undef, undef, undef, undef, undef, undef, undef, undef, undef, undef, undef, undef, undef, undef, undef, undef, undef, undef, undef, undef, undef, undef, undef, undef, undef, undef, undef], defers := [] } W := by
        as_aux_lemma =>
          clear st2_11 st2_10
          intro g5 g6 W hHeld K10 Z10 K11 Z11 n10_11
          rw [← hops]
          refine wpAnyH_ready (rs := [9]) (by kernel_rfl) (by simp) (AllReadyH.cons rfl (fun K hK => ?_) AllReadyH.nil)
          have KH10 := Lib.hid K10
          have KH11 := Lib.hid K11
          have h0 := hHeld
          clear hHeld
          try simp only [List.getElem_toArray, List.getElem_cons_succ, List.getElem_cons_zero]
          have H0 := Lib.hid h0
          clear h0
          go_simp
          go_at_call 41
          refine (subR H_le.out _ (HPG.out.ext H0.out.below)).mono ?_
          rintro e vv ⟨rfl, hb⟩
          have KJ10 := Lib.hid (KH10.out.below hb KH10.out.lt)
          have KJ11 := Lib.hid (KH11.out.below hb KH11.out.lt)
          have h1 := H0.out.ext hb
          clear hb H0
          go_wp2_with (fail)
          refine hK.out _ _ h1 (fun hHeld => ?_)
          clear hK K h1
          try simp only [Act.put, List.getElem_toArray, List.getElem_cons_succ, List.getElem_cons_zero, List.setIfInBounds_toArray, List.set_cons_zero, List.set_cons_succ]
          have k10 := KJ10.out
          have k11 := KJ11.out
          have z10 := Z10
          have z11 := Z11
          refine wpAnyH_cast (n' := 2) (l' := #[true, true, true, true, true, true, true, true, true, true, true, true, false, false]) (by kernel_rfl) (by kernel_rfl) ?_
          have hh := st2_1011 g5 g6 _ hHeld k10 z10 k11 z11 n10_11
          rw [← hops] at hh
          exact hh
      have st2_ : ∀ (W : World), Fn wx W [(w.heap.size + 1, 46, ev x), (w.heap.size, 50, sv s)] → wpAnyH Tryd.prog .any ops Q (fun W => Fn wx W [(w.heap.size + 1, 46, ev x), (w.heap.size, 50, sv s)]) 4 #[true, true, true, true, true, true, true, true, true, true, false, false, false, false] { tmps := #[.agg (sv s), .agg (ev x), .pointer (some ⟨w.heap.size, 0, none⟩), .pointer (some ⟨w.heap.size + 1, 0, none⟩), .pointer (some ⟨w.heap.size + 1 + 1, 0, none⟩), undef, undef, undef, undef, undef, undef, undef, .pointer (some ⟨w.heap.size, 0, none⟩), .agg (ev (s.a)), .pointer (some ⟨w.heap.size, 4, none⟩), .agg (ev (s.b)), .agg (ev su), .pointer (some ⟨w.heap.size, 0, none⟩), .agg (ev (s.a)), .pointer (some ⟨w.heap.size, 4, none⟩), .agg (ev (s.b)), .agg (ev le), undef, undef, undef, undef, undef, undef, undef, undef, undef, undef, undef, undef, undef, undef, undef, undef, undef, undef, undef, undef, undef, undef, undef, undef, undef, undef, undef, undef, undef, undef, undef, undef, undef, undef, undef, undef, undef, undef, undef, undef, undef, undef], defers := [] } W := by
        as_aux_lemma =>
          clear st1_1011 st2_1011
          intro W hHeld
          rw [← hops]
          refine wpAnyH_ready (rs := [10, 11]) (by kernel_rfl) (by simp) (AllReadyH.cons rfl (fun K hK => ?_) (AllReadyH.cons rfl (fun K hK => ?_) AllReadyH.nil))
          · have h0 := hHeld
            clear hHeld
            try simp only [List.getElem_toArray, List.getElem_cons_succ, List.getElem_cons_zero]
            obtain ⟨kz, hg⟩ := Fn.fresh h0 46 #[.int .u64 0, .int .u64 0, .int .u64 0, .int .u64 0]
            have KZ := Lib.hid kz
            have HG := Lib.hid hg
            have H0 := Lib.hid h0
            clear kz hg h0
            go_simp
            refine hK.out _ _ (Fn.pass H0.out _) (fun hHeld => ?_)
            clear hK K H0
            try simp only [Act.put, List.getElem_toArray, List.getElem_cons_succ, List.getElem_cons_zero, List.setIfInBounds_toArray, List.set_cons_zero, List.set_cons_succ]
            have k10 := KZ.out
            have z10 := HG.out
            refine wpAnyH_cast (n' := 3) (l' := #[true, true, true, true, true, true, true, true, true, true, true, false, false, false]) (by kernel_rfl) (by kernel_rfl) ?_
            have hh := st2_10 _ _ hHeld k10 z10
            rw [← hops] at hh
            exact hh
          · have h0 := hHeld
            clear hHeld
            try simp only [List.getElem_toArray, List.getElem_cons_succ, List.getElem_cons_zero]
            obtain ⟨kz, hg⟩ := Fn.fresh h0 46 #[.int .u64 0, .int .u64 0, .int .u64 0, .int .u64 0]
            have KZ := Lib.hid kz
            have HG := Lib.hid hg
            have H0 := Lib.hid h0
            clear kz hg h0
            go_simp
            refine hK.out _ _ (Fn.pass H0.out _) (fun hHeld => ?_)
            clear hK K H0
            try simp only [Act.put, List.getElem_toArray, List.getElem_cons_succ, List.getElem_cons_zero, List.setIfInBounds_toArray, List.set_cons_zero, List.set_cons_succ]
            have k11 := KZ.out
            have z11 := HG.out
            refine wpAnyH_cast (n' := 3) (l' := #[true, true, true, true, true, true, true, true, true, true, false, true, false, false]) (by kernel_rfl) (by kernel_rfl) ?_
            have hh := st2_11 _ _ hHeld k11 z11
            rw [← hops] at hh
            exact hh
      have st1_10 : ∀ (g5 : Nat) (W : World), Fn wx W [(w.heap.size + 1, 46, ev x), (w.heap.size, 50, sv s)] → Blk W g5 46 #[.int .u64 0, .int .u64 0, .int .u64 0, .int .u64 0] → wx.heap.size ≤ g5 → wpAnyH Tryd.prog .any ops Q (fun W => Fn wx W [(w.heap.size + 1, 46, ev x), (w.heap.size, 50, sv s)]) 4 #[true, true, true, true, true, true, true, true, true, false, true, false, false, false] { tmps := #[.agg (sv s), .agg (ev x), .pointer (some ⟨w.heap.size, 0, none⟩), .pointer (some ⟨w.heap.size + 1, 0, none⟩), .pointer (some ⟨w.heap.size + 1 + 1, 0, none⟩), .pointer (some ⟨g5, 0, none⟩), undef, undef, undef, undef, undef, undef, .pointer (some ⟨w.heap.size, 0, none⟩), .agg (ev (s.a)), .pointer (some ⟨w.heap.size, 4, none⟩), .agg (ev (s.b)), .agg (ev su), .pointer (some ⟨w.heap.size, 0, none⟩), .agg (ev (s.a)), .pointer (some ⟨w.heap.size, 4, none⟩), .agg (ev (s.b)), undef, undef, undef, undef, undef, undef, undef, undef, undef, undef, undef, undef, undef, undef, undef, undef, undef, undef, undef, undef, undef, undef, undef, undef, undef, undef, undef, undef, undef, undef, undef, undef, undef, undef, undef, undef, undef, undef, undef, undef, undef, undef, undef], defers := [] } W := by
        as_aux_lemma =>
          clear st2_ st2_11 st2_1011
          intro g5 W hHeld K10 Z10
          rw [← hops]
          refine wpAnyH_ready (rs := [9, 11]) (by kernel_rfl) (by simp) (AllReadyH.cons rfl (fun K hK => ?_) (AllReadyH.cons rfl (fun K hK => ?_) AllReadyH.nil))
          · have KH10 := Lib.hid K10
            have h0 := hHeld
            clear hHeld
            try simp only [List.getElem_toArray, List.getElem_cons_succ, List.getElem_cons_zero]
            have H0 := Lib.hid h0
            clear h0
            go_simp
            go_at_call 41
            refine (subR H_le.out _ (HPG.out.ext H0.out.below)).mono ?_
            rintro e vv ⟨rfl, hb⟩
            have KJ10 := Lib.hid (KH10.out.below hb KH10.out.lt)
            have h1 := H0.out.ext hb
            clear hb H0
            go_wp2_with (fail)
            refine hK.out _ _ h1 (fun hHeld => ?_)
            clear hK K h1
            try simp only [Act.put, List.getElem_toArray, List.getElem_cons_succ, List.getElem_cons_zero, List.setIfInBounds_toArray, List.set_cons_zero, List.set_cons_succ]
            have k10 := KJ10.out
            have z10 := Z10
            refine wpAnyH_cast (n' := 3) (l' := #[true, true, true, true, true, true, true, true, true, true, true, false, false, false]) (by kernel_rfl) (by kernel_rfl) ?_
            have hh := st2_10 g5 _ hHeld k10 z10
            rw [← hops] at hh
            exact hh
          · have h0 := hHeld
            clear hHeld
            try simp only [List.getElem_toArray, List.getElem_cons_succ, List.getElem_cons_zero]
            obtain ⟨kz, hg⟩ := Fn.fresh h0 46 #[.int .u64 0, .int .u64 0, .int .u64 0, .int .u64 0]
            have KZ := Lib.hid kz
            have HG := Lib.hid hg
            have H0 := Lib.hid h0
            clear kz hg h0
            have KH10 := Lib.hid K10
            go_simp
            refine hK.out _ _ (Fn.pass H0.out _) (fun hHeld => ?_)
            clear hK K H0
            try simp only [Act.put, List.getElem_toArray, List.getElem_cons_succ, List.getElem_cons_zero, List.setIfInBounds_toArray, List.set_cons_zero, List.set_cons_succ]
            have k10 := KH10.out.alloc (.cells #[.int .u64 0, .int .u64 0, .int .u64 0, .int .u64 0] 46)
            have z10 := Z10
            have k11 := KZ.out
            have z11 := HG.out
            refine wpAnyH_cast (n' := 3) (l' := #[true, true, true, true, true, true, true, true, true, false, true, true, false, false]) (by kernel_rfl) (by kernel_rfl) ?_
            have hh := st1_1011 g5 _ _ hHeld k10 z10 k11 z11 (Nat.ne_of_lt K10.lt)
            rw [← hops] at hh
            exact hh
      have st1_11 : ∀ (g6 : Nat) (W : World), Fn wx W [(w.heap.size + 1, 46, ev x), (w.heap.size, 50, sv s)] → Blk W g6 46 #[.int .u64 0, .int .u64 0, .int .u64 0, .int .u64 0] → wx.heap.size ≤ g6 → wpAnyH Tryd.prog .any ops Q (fun W => Fn wx W [(w.heap.size + 1, 46, ev x), (w.heap.size, 50, sv s)]) 4 #[true, true, true, true, true, true, true, true, true, false, false, true, false, false] { tmps := #[.agg (sv s), .agg (ev x), .pointer (some ⟨w.heap.size, 0, none⟩), .pointer (some ⟨w.heap.size + 1, 0, none⟩), .pointer (some ⟨w.heap.size + 1 + 1, 0, none⟩), undef, .pointer (some ⟨g6, 0, none⟩), undef, undef, undef, undef, undef, .pointer (some ⟨w.heap.size, 0, none⟩), .agg (ev (s.a)), .pointer (some ⟨w.heap.size, 4, none⟩), .agg (ev (s.b)), .agg (ev su), .pointer (some ⟨w.heap.size, 0, none⟩), .agg (ev (s.a)), .pointer (some ⟨w.heap.size, 4, none⟩), .agg (ev (s.b)), undef, undef, undef, undef, undef, undef, undef, undef, undef, undef, undef, undef, undef, undef, undef, undef, undef, undef, undef, undef, undef, undef, undef, undef, undef, undef, undef, undef, undef, undef, undef, undef, undef, undef, undef, undef, undef, undef, undef, undef, undef, undef, undef], defers := [] } W := by
        as_aux_lemma =>
          clear st1_10 st2_ st2_10 st2_1011
          intro g6 W hHeld K11 Z11
          rw [← hops]
          refine wpAnyH_ready (rs := [9, 10]) (by kernel_rfl) (by simp) (AllReadyH.cons rfl (fun K hK => ?_) (AllReadyH.cons rfl (fun K hK => ?_) AllReadyH.nil))
          · have KH11 := Lib.hid K11
            have h0 := hHeld
            clear hHeld
            try simp only [List.getElem_toArray, List.getElem_cons_succ, List.getElem_cons_zero]
            have H0 := Lib.hid h0
            clear h0
            go_simp
            go_at_call 41
            refine (subR H_le.out _ (HPG.out.ext H0.out.below)).mono ?_
            rintro e vv ⟨rfl, hb⟩
            have KJ11 := Lib.hid (KH11.out.below hb KH11.out.lt)
            have h1 := H0.out.ext hb
            clear hb H0
            go_wp2_with (fail)
            refine hK.out _ _ h1 (fun hHeld => ?_)
            clear hK K h1
            try simp only [Act.put, List.getElem_toArray, List.getElem_cons_succ, List.getElem_cons_zero, List.setIfInBounds_toArray, List.set_cons_zero, List.set_cons_succ]
            have k11 := KJ11.out
            have z11 := Z11
            refine wpAnyH_cast (n' := 3) (l' := #[true, true, true, true, true, true, true, true, true, true, false, true, false, false]) (by kernel_rfl) (by kernel_rfl) ?_
            have hh := st2_11 g6 _ hHeld k11 z11
            rw [← hops] at hh
            exact hh
          · have h0 := hHeld
            clear hHeld
            try simp only [List.getElem_toArray, List.getElem_cons_succ, List.getElem_cons_zero]
            obtain ⟨kz, hg⟩ := Fn.fresh h0 46 #[.int .u64 0, .int .u64 0, .int .u64 0, .int .u64 0]
            have KZ := Lib.hid kz
            have HG := Lib.hid hg
            have H0 := Lib.hid h0
            clear kz hg h0
            have KH11 := Lib.hid K11
            go_simp
            refine hK.out _ _ (Fn.pass H0.out _) (fun hHeld => ?_)
            clear hK K H0
            try simp only [Act.put, List.getElem_toArray, List.getElem_cons_succ, List.getElem_cons_zero, List.setIfInBounds_toArray, List.set_cons_zero, List.set_cons_succ]
            have k11 := KH11.out.alloc (.cells #[.int .u64 0, .int .u64 0, .int .u64 0, .int .u64 0] 46)
            have z11 := Z11
            have k10 := KZ.out
            have z10 := HG.out
            refine wpAnyH_cast (n' := 3) (l' := #[true, true, true, true, true, true, true, true, true, false, true, true, false, false]) (by kernel_rfl) (by kernel_rfl) ?_
            have hh := st1_1011 _ g6 _ hHeld k10 z10 k11 z11 (Ne.symm (Nat.ne_of_lt K11.lt))
            rw [← hops] at hh
            exact hh
      have st0_1011 : ∀ (g5 g6 : Nat) (W : World), Fn wx W [(w.heap.size + 1, 46, ev x), (w.heap.size, 50, sv s)] → Blk W g5 46 #[.int .u64 0, .int .u64 0, .int .u64 0, .int .u64 0] → wx.heap.size ≤ g5 → Blk W g6 46 #[.int .u64 0, .int .u64 0, .int .u64 0, .int .u64 0] → wx.heap.size ≤ g6 → g5 ≠ g6 → wpAnyH Tryd.prog .any ops Q (fun W => Fn wx W [(w.heap.size + 1, 46, ev x), (w.heap.size, 50, sv s)]) 4 #[true, true, true, true, false, true, true, true, true, false, true, true, false, false] { tmps := #[.agg (sv s), .agg (ev x), .pointer (some ⟨w.heap.size, 0, none⟩), .pointer (some ⟨w.heap.size + 1, 0, none⟩), .pointer (some ⟨w.heap.size + 1 + 1, 0, none⟩), .pointer (some ⟨g5, 0, none⟩), .pointer (some ⟨g6, 0, none⟩), undef, undef, undef, undef, undef, .pointer (some ⟨w.heap.size, 0, none⟩), .agg (ev (s.a)), .pointer (some ⟨w.heap.size, 4, none⟩), .agg (ev (s.b)), undef, .pointer (some ⟨w.heap.size, 0, none⟩), .agg (ev (s.a)), .pointer (some ⟨w.heap.size, 4, none⟩), .agg (ev (s.b)), undef, undef, undef, undef, undef, undef, undef, undef, undef, undef, undef, undef, undef, undef, undef, undef, undef, undef, undef, undef, undef, undef, undef, undef, undef, undef, undef, undef, undef, undef, undef, undef, undef, undef, undef, undef, undef, undef, undef, undef, undef, undef, undef], defers := [] } W := by
        as_aux_lemma =>
          clear st1_11 st1_10 st2_ st2_11 st2_10 st2_1011
          intro g5 g6 W hHeld K10 Z10 K11 Z11 n10_11
          rw [← hops]
          refine wpAnyH_ready (rs := [4]) (by kernel_rfl) (by simp) (AllReadyH.cons rfl (fun K hK => ?_) AllReadyH.nil)
          have KH10 := Lib.hid K10
          have KH11 := Lib.hid K11
          have h0 := hHeld
          clear hHeld
          try simp only [List.getElem_toArray, List.getElem_cons_succ, List.getElem_cons_zero]
          have H0 := Lib.hid h0
          clear h0
          go_simp
          go_at_call 40
          refine (addR H_su.out _ (HPG.out.ext H0.out.below)).mono ?_
          rintro e vv ⟨rfl, hb⟩
          have KJ10 := Lib.hid (KH10.out.below hb KH10.out.lt)
          have KJ11 := Lib.hid (KH11.out.below hb KH11.out.lt)
          have h1 := H0.out.ext hb
          clear hb H0
          go_wp2_with (fail)
          refine hK.out _ _ h1 (fun hHeld => ?_)
          clear hK K h1
          try simp only [Act.put, List.getElem_toArray, List.getElem_cons_succ, List.getElem_cons_zero, List.setIfInBounds_toArray, List.set_cons_zero, List.set_cons_succ]
          have k10 := KJ10.out
          have k11 := KJ11.out
          have z10 := Z10
          have z11 := Z11
          refine wpAnyH_cast (n' := 3) (l' := #[true, true, true, true, true, true, true, true, true, false, true, true, false, false]) (by kernel_rfl) (by kernel_rfl) ?_
          have hh := st1_1011 g5 g6 _ hHeld k10 z10 k11 z11 n10_11
          rw [← hops] at hh
          exact hh
      have st1_ : ∀ (W : World), Fn wx W [(w.heap.size + 1, 46, ev x), (w.heap.size, 50, sv s)] → wpAnyH Tryd.prog .any ops Q (fun W => Fn wx W [(w.heap.size + 1, 46, ev x), (w.heap.size, 50, sv s)]) 5 #[true, true, true, true, true, true, true, true, true, false, false, false, false, false] { tmps := #[.agg (sv s), .agg (ev x), .pointer (some ⟨w.heap.size, 0, none⟩), .pointer (some ⟨w.heap.size + 1, 0, none⟩), .pointer (some ⟨w.heap.size + 1 + 1, 0, none⟩), undef, undef, undef, undef, undef, undef, undef, .pointer (some ⟨w.heap.size, 0, none⟩), .agg (ev (s.a)), .pointer (some ⟨w.heap.size, 4, none⟩), .agg (ev (s.b)), .agg (ev su), .pointer (some ⟨w.heap.size, 0, none⟩), .agg (ev (s.a)), .pointer (some ⟨w.heap.size, 4, none⟩), .agg (ev (s.b)), undef, undef, undef, undef, undef, undef, undef, undef, undef, undef, undef, undef, undef, undef, undef, undef, undef, undef, undef, undef, undef, undef, undef, undef, undef, undef, undef, undef, undef, undef, undef, undef, undef, undef, undef, undef, undef, undef, undef, undef, undef, undef, undef], defers := [] } W := by
        as_aux_lemma =>
          clear st0_1011 st1_1011 st2_11 st2_10 st2_1011
          intro W hHeld
          rw [← hops]
          refine wpAnyH_ready (rs := [9, 10, 11]) (by kernel_rfl) (by simp) (AllReadyH.cons rfl (fun K hK => ?_) (AllReadyH.cons rfl (fun K hK => ?_) (AllReadyH.cons rfl (fun K hK => ?_) AllReadyH.nil)))
          · have h0 := hHeld
            clear hHeld
            try simp only [List.getElem_toArray, List.getElem_cons_succ, List.getElem_cons_zero]
            have H0 := Lib.hid h0
            clear h0
            go_simp
            go_at_call 41
            refine (subR H_le.out _ (HPG.out.ext H0.out.below)).mono ?_
            rintro e vv ⟨rfl, hb⟩
            have h1 := H0.out.ext hb
            clear hb H0
            go_wp2_with (fail)
            refine hK.out _ _ h1 (fun hHeld => ?_)
            clear hK K h1
            try simp only [Act.put, List.getElem_toArray, List.getElem_cons_succ, List.getElem_cons_zero, List.setIfInBounds_toArray, List.set_cons_zero, List.set_cons_succ]
            refine wpAnyH_cast (n' := 4) (l' := #[true, true, true, true, true, true, true, true, true, true, false, false, false, false]) (by kernel_rfl) (by kernel_rfl) ?_
            have hh := st2_ _ hHeld
            rw [← hops] at hh
            exact hh
          · have h0 := hHeld
            clear hHeld
            try simp only [List.getElem_toArray, List.getElem_cons_succ, List.getElem_cons_zero]
            obtain ⟨kz, hg⟩ := Fn.fresh h0 46 #[.int .u64 0, .int .u64 0, .int .u64 0, .int .u64 0]
            have KZ := Lib.hid kz
            have HG := Lib.hid hg
            have H0 := Lib.hid h0
            clear kz hg h0
            go_simp
            refine hK.out _ _ (Fn.pass H0.out _) (fun hHeld => ?_)
            clear hK K H0
            try simp only [Act.put, List.getElem_toArray, List.getElem_cons_succ, List.getElem_cons_zero, List.setIfInBounds_toArray, List.set_cons_zero, List.set_cons_succ]
            have k10 := KZ.out
            have z10 := HG.out
            refine wpAnyH_cast (n' := 4) (l' := #[true, true, true, true, true, true, true, true, true, false, true, false, false, false]) (by kernel_rfl) (by kernel_rfl) ?_
            have hh := st1_10 _ _ hHeld k10 z10
            rw [← hops] at hh
            exact hh
          · have h0 := hHeld
            clear hHeld
            try simp only [List.getElem_toArray, List.getElem_cons_succ, List.getElem_cons_zero]
            obtain ⟨kz, hg⟩ := Fn.fresh h0 46 #[.int .u64 0, .int .u64 0, .int .u64 0, .int .u64 0]
            have KZ := Lib.hid kz
            have HG := Lib.hid hg
            have H0 := Lib.hid h0
            clear kz hg h0
            go_simp
            refine hK.out _ _ (Fn.pass H0.out _) (fun hHeld => ?_)
            clear hK K H0
            try simp only [Act.put, List.getElem_toArray, List.getElem_cons_succ, List.getElem_cons_zero, List.setIfInBounds_toArray, List.set_cons_zero, List.set_cons_succ]
            have k11 := KZ.out
            have z11 := HG.out
            refine wpAnyH_cast (n' := 4) (l' := #[true, true, true, true, true, true, true, true, true, false, false, true, false, false]) (by kernel_rfl) (by kernel_rfl) ?_
            have hh := st1_11 _ _ hHeld k11 z11
            rw [← hops] at hh
            exact hh
      have st0_10 : ∀ (g5 : Nat) (W : World), Fn wx W [(w.heap.size + 1, 46, ev x), (w.heap.size, 50, sv s)] → Blk W g5 46 #[.int .u64 0, .int .u64 0, .int .u64 0, .int .u64 0] → wx.heap.size ≤ g5 → wpAnyH Tryd.prog .any ops Q (fun W => Fn wx W [(w.heap.size + 1, 46, ev x), (w.heap.size, 50, sv s)]) 5 #[true, true, true, true, false, true, true, true, true, false, true, false, false, false] { tmps := #[.agg (sv s), .agg (ev x), .pointer (some ⟨w.heap.size, 0, none⟩), .pointer (some ⟨w.heap.size + 1, 0, none⟩), .pointer (some ⟨w.heap.size + 1 + 1, 0, none⟩), .pointer (some ⟨g5, 0, none⟩), undef, undef, undef, undef, undef, undef, .pointer (some ⟨w.heap.size, 0, none⟩), .agg (ev (s.a)), .pointer (some ⟨w.heap.size, 4, none⟩), .agg (ev (s.b)), undef, .pointer (some ⟨w.heap.size, 0, none⟩), .agg (ev (s.a)), .pointer (some ⟨w.heap.size, 4, none⟩), .agg (ev (s.b)), undef, undef, undef, undef, undef, undef, undef, undef, undef, undef, undef, undef, undef, undef, undef, undef, undef, undef, undef, undef, undef, undef, undef, undef, undef, undef, undef, undef, undef, undef, undef, undef, undef, undef, undef, undef, undef, undef, undef, undef, undef, undef, undef], defers := [] } W := by
        as_aux_lemma =>
          clear st1_ st1_11 st2_ st1_1011 st2_11 st2_10 st2_1011
          intro g5 W hHeld K10 Z10
          rw [← hops]
          refine wpAnyH_ready (rs := [4, 11]) (by kernel_rfl) (by simp) (AllReadyH.cons rfl (fun K hK => ?_) (AllReadyH.cons rfl (fun K hK => ?_) AllReadyH.nil))
          · have KH10 := Lib.hid K10
            have h0 := hHeld
            clear hHeld
            try simp only [List.getElem_toArray, List.getElem_cons_succ, List.getElem_cons_zero]
            have H0 := Lib.hid h0
            clear h0
            go_simp
            go_at_call 40
            refine (addR H_su.out _ (HPG.out.ext H0.out.below)).mono ?_
            rintro e vv ⟨rfl, hb⟩
            have KJ10 := Lib.hid (KH10.out.below hb KH10.out.lt)
            have h1 := H0.out.ext hb
            clear hb H0
            go_wp2_with (fail)
            refine hK.out _ _ h1 (fun hHeld => ?_)
            clear hK K h1
            try simp only [Act.put, List.getElem_toArray, List.getElem_cons_succ, List.getElem_cons_zero, List.setIfInBounds_toArray, List.set_cons_zero, List.set_cons_succ]
            have k10 := KJ10.out
            have z10 := Z10
            refine wpAnyH_cast (n' := 4) (l' := #[true, true, true, true, true, true, true, true, true, false, true, false, false, false]) (by kernel_rfl) (by kernel_rfl) ?_
            have hh := st1_10 g5 _ hHeld k10 z10
            rw [← hops] at hh
            exact hh
          · have h0 := hHeld
            clear hHeld
            try simp only [List.getElem_toArray, List.getElem_cons_succ, List.getElem_cons_zero]
            obtain ⟨kz, hg⟩ := Fn.fresh h0 46 #[.int .u64 0, .int .u64 0, .int .u64 0, .int .u64 0]
            have KZ := Lib.hid kz
            have HG := Lib.hid hg
            have H0 := Lib.hid h0
            clear kz hg h0
            have KH10 := Lib.hid K10
            go_simp
            refine hK.out _ _ (Fn.pass H0.out _) (fun hHeld => ?_)
            clear hK K H0
            try simp only [Act.put, List.getElem_toArray, List.getElem_cons_succ, List.getElem_cons_zero, List.setIfInBounds_toArray, List.set_cons_zero, List.set_cons_succ]
            have k10 := KH10.out.alloc (.cells #[.int .u64 0, .int .u64 0, .int .u64 0, .int .u64 0] 46)
            have z10 := Z10
            have k11 := KZ.out
            have z11 := HG.out
            refine wpAnyH_cast (n' := 4) (l' := #[true, true, true, true, false, true, true, true, true, false, true, true, false, false]) (by kernel_rfl) (by kernel_rfl) ?_
            have hh := st0_1011 g5 _ _ hHeld k10 z10 k11 z11 (Nat.ne_of_lt K10.lt)
            rw [← hops] at hh
            exact hh
      have st0_11 : ∀ (g6 : Nat) (W : World), Fn wx W [(w.heap.size + 1, 46, ev x), (w.heap.size, 50, sv s)] → Blk W g6 46 #[.int .u64 0, .int .u64 0, .int .u64 0, .int .u64 0] → wx.heap.size ≤ g6 → wpAnyH Tryd.prog .any ops Q (fun W => Fn wx W [(w.heap.size + 1, 46, ev x), (w.heap.size, 50, sv s)]) 5 #[true, true, true, true, false, true, true, true, true, false, false, true, false, false] { tmps := #[.agg (sv s), .agg (ev x), .pointer (some ⟨w.heap.size, 0, none⟩), .pointer (some ⟨w.heap.size + 1, 0, none⟩), .pointer (some ⟨w.heap.size + 1 + 1, 0, none⟩), undef, .pointer (some ⟨g6, 0, none⟩), undef, undef, undef, undef, undef, .pointer (some ⟨w.heap.size, 0, none⟩), .agg (ev (s.a)), .pointer (some ⟨w.heap.size, 4, none⟩), .agg (ev (s.b)), undef, .pointer (some ⟨w.heap.size, 0, none⟩), .agg (ev (s.a)), .pointer (some ⟨w.heap.size, 4, none⟩), .agg (ev (s.b)), undef, undef, undef, undef, undef, undef, undef, undef, undef, undef, undef, undef, undef, undef, undef, undef, undef, undef, undef, undef, undef, undef, undef, undef, undef, undef, undef, undef, undef, undef, undef, undef, undef, undef, undef, undef, undef, undef, undef, undef, undef, undef, undef], defers := [] } W := by
        as_aux_lemma =>
          clear st0_10 st1_ st1_10 st2_ st1_1011 st2_11 st2_10 st2_1011
          intro g6 W hHeld K11 Z11
          rw [← hops]
          refine wpAnyH_ready (rs := [4, 10]) (by kernel_rfl) (by simp) (AllReadyH.cons rfl (fun K hK => ?_) (AllReadyH.cons rfl (fun K hK => ?_) AllReadyH.nil))
          · have KH11 := Lib.hid K11
            have h0 := hHeld
            clear hHeld
            try simp only [List.getElem_toArray, List.getElem_cons_succ, List.getElem_cons_zero]
            have H0 := Lib.hid h0
            clear h0
            go_simp
            go_at_call 40
            refine (addR H_su.out _ (HPG.out.ext H0.out.below)).mono ?_
            rintro e vv ⟨rfl, hb⟩
            have KJ11 := Lib.hid (KH11.out.below hb KH11.out.lt)
            have h1 := H0.out.ext hb
            clear hb H0
            go_wp2_with (fail)
            refine hK.out _ _ h1 (fun hHeld => ?_)
            clear hK K h1
            try simp only [Act.put, List.getElem_toArray, List.getElem_cons_succ, List.getElem_cons_zero, List.setIfInBounds_toArray, List.set_cons_zero, List.set_cons_succ]
            have k11 := KJ11.out
            have z11 := Z11
            refine wpAnyH_cast (n' := 4) (l' := #[true, true, true, true, true, true, true, true, true, false, false, true, false, false]) (by kernel_rfl) (by kernel_rfl) ?_
            have hh := st1_11 g6 _ hHeld k11 z11
            rw [← hops] at hh
            exact hh
          · have h0 := hHeld
            clear hHeld
            try simp only [List.getElem_toArray, List.getElem_cons_succ, List.getElem_cons_zero]
            obtain ⟨kz, hg⟩ := Fn.fresh h0 46 #[.int .u64 0, .int .u64 0, .int .u64 0, .int .u64 0]
            have KZ := Lib.hid kz
            have HG := Lib.hid hg
            have H0 := Lib.hid h0
            clear kz hg h0
            have KH11 := Lib.hid K11
            go_simp
            refine hK.out _ _ (Fn.pass H0.out _) (fun hHeld => ?_)
            clear hK K H0
            try simp only [Act.put, List.getElem_toArray, List.getElem_cons_succ, List.getElem_cons_zero, List.setIfInBounds_toArray, List.set_cons_zero, List.set_cons_succ]
            have k11 := KH11.out.alloc (.cells #[.int .u64 0, .int .u64 0, .int .u64 0, .int .u64 0] 46)
            have z11 := Z11
            have k10 := KZ.out
            have z10 := HG.out
            refine wpAnyH_cast (n' := 4) (l' := #[true, true, true, true, false, true, true, true, true, false, true, true, false, false]) (by kernel_rfl) (by kernel_rfl) ?_
            have hh := st0_1011 _ g6 _ hHeld k10 z10 k11 z11 (Ne.symm (Nat.ne_of_lt K11.lt))
            rw [← hops] at hh
            exact hh
      have st0_ : ∀ (W : World), Fn wx W [(w.heap.size + 1, 46, ev x), (w.heap.size, 50, sv s)] → wpAnyH Tryd.prog .any ops Q (fun W => Fn wx W [(w.heap.size + 1, 46, ev x), (w.heap.size, 50, sv s)]) 6 #[true, true, true, true, false, true, true, true, true, false, false, false, false, false] { tmps := #[.agg (sv s), .agg (ev x), .pointer (some ⟨w.heap.size, 0, none⟩), .pointer (some ⟨w.heap.size + 1, 0, none⟩), .pointer (some ⟨w.heap.size + 1 + 1, 0, none⟩), undef, undef, undef, undef, undef, undef, undef, .pointer (some ⟨w.heap.size, 0, none⟩), .agg (ev (s.a)), .pointer (some ⟨w.heap.size, 4, none⟩), .agg (ev (s.b)), undef, .pointer (some ⟨w.heap.size, 0, none⟩), .agg (ev (s.a)), .pointer (some ⟨w.heap.size, 4, none⟩), .agg (ev (s.b)), undef, undef, undef, undef, undef, undef, undef, undef, undef, undef, undef, undef, undef, undef, undef, undef, undef, undef, undef, undef, undef, undef, undef, undef, undef, undef, undef, undef, undef, undef, undef, undef, undef, undef, undef, undef, undef, undef, undef, undef, undef, undef, undef], defers := [] } W := by
        as_aux_lemma =>
          clear st0_1011 st1_11 st1_10 st2_ st1_1011 st2_11 st2_10 st2_1011
          intro W hHeld
          rw [← hops]
          refine wpAnyH_ready (rs := [4, 10, 11]) (by kernel_rfl) (by simp) (AllReadyH.cons rfl (fun K hK => ?_) (AllReadyH.cons rfl (fun K hK => ?_) (AllReadyH.cons rfl (fun K hK => ?_) AllReadyH.nil)))
          · have h0 := hHeld
            clear hHeld
            try simp only [List.getElem_toArray, List.getElem_cons_succ, List.getElem_cons_zero]
            have H0 := Lib.hid h0
            clear h0
            go_simp
            go_at_call 40
            refine (addR H_su.out _ (HPG.out.ext H0.out.below)).mono ?_
            rintro e vv ⟨rfl, hb⟩
            have h1 := H0.out.ext hb
            clear hb H0
            go_wp2_with (fail)
            refine hK.out _ _ h1 (fun hHeld => ?_)
            clear hK K h1
            try simp only [Act.put, List.getElem_toArray, List.getElem_cons_succ, List.getElem_cons_zero, List.setIfInBounds_toArray, List.set_cons_zero, List.set_cons_succ]
            refine wpAnyH_cast (n' := 5) (l' := #[true, true, true, true, true, true, true, true, true, false, false, false, false, false]) (by kernel_rfl) (by kernel_rfl) ?_
            have hh := st1_ _ hHeld
            rw [← hops] at hh
            exact hh
          · have h0 := hHeld
            clear hHeld
            try simp only [List.getElem_toArray, List.getElem_cons_succ, List.getElem_cons_zero]
            obtain ⟨kz, hg⟩ := Fn.fresh h0 46 #[.int .u64 0, .int .u64 0, .int .u64 0, .int .u64 0]
            have KZ := Lib.hid kz
            have HG := Lib.hid hg
            have H0 := Lib.hid h0
            clear kz hg h0
            go_simp
            refine hK.out _ _ (Fn.pass H0.out _) (fun hHeld => ?_)
            clear hK K H0
            try simp only [Act.put, List.getElem_toArray, List.getElem_cons_succ, List.getElem_cons_zero, List.setIfInBounds_toArray, List.set_cons_zero, List.set_cons_succ]
            have k10 := KZ.out
            have z10 := HG.out
            refine wpAnyH_cast (n' := 5) (l' := #[true, true, true, true, false, true, true, true, true, false, true, false, false, false]) (by kernel_rfl) (by kernel_rfl) ?_
            have hh := st0_10 _ _ hHeld k10 z10
            rw [← hops] at hh
            exact hh
          · have h0 := hHeld
            clear hHeld
            try simp only [List.getElem_toArray, List.getElem_cons_succ, List.getElem_cons_zero]
            obtain ⟨kz, hg⟩ := Fn.fresh h0 46 #[.int .u64 0, .int .u64 0, .int .u64 0, .int .u64 0]
            have KZ := Lib.hid kz
            have HG := Lib.hid hg
            have H0 := Lib.hid h0
            clear kz hg h0
            go_simp
            refine hK.out _ _ (Fn.pass H0.out _) (fun hHeld => ?_)
            clear hK K H0
            try simp only [Act.put, List.getElem_toArray, List.getElem_cons_succ, List.getElem_cons_zero, List.setIfInBounds_toArray, List.set_cons_zero, List.set_cons_succ]
            have k11 := KZ.out
            have z11 := HG.out
            refine wpAnyH_cast (n' := 5) (l' := #[true, true, true, true, false, true, true, true, true, false, false, true, false, false]) (by kernel_rfl) (by kernel_rfl) ?_
            have hh := st0_11 _ _ hHeld k11 z11
            rw [← hops] at hh
            exact hh
      refine wpAnyH_cast (n' := 6) (l' := #[true, true, true, true, false, true, true, true, true, false, false, false, false, false]) (by kernel_rfl) (by kernel_rfl) ?_
      exact st0_ _ hHeld
  case rest =>
    as_aux_lemma =>
      obtain ⟨g5, g6, rfl, rfl, k5, k6, hb⟩ := hcut
      have n5 : g5 ≠ w.heap.size + 1 + 1 := by
        intro e
        obtain ⟨cs, _, kk⟩ := (HF.out.ext hb).old (g := w.heap.size + 1 + 1) (t := 50) (n := 16) (by simp)
        rw [← e] at kk
        exact absurd (k5.inj kk).1 (by decide)
      have n6 : g6 ≠ w.heap.size + 1 + 1 := by
        intro e
        obtain ⟨cs, _, kk⟩ := (HF.out.ext hb).old (g := w.heap.size + 1 + 1) (t := 50) (n := 16) (by simp)
        rw [← e] at kk
        exact absurd (k6.inj kk).1 (by decide)
      have hf2 := (((HF.out.ext hb).more k5).more k6)
      have hpg2 := HPG.out.ext hb
      clear HF HPG hb k5 k6
      have HF := Lib.hid hf2
      have HPG := Lib.hid hpg2
      clear hf2 hpg2
      obtain ⟨wy, hwc0⟩ : ∃ wz : World, wz = wc := ⟨_, rfl⟩
      rw [← hwc0] at HF HPG ⊢
      clear hwc0
      go_wp2_with (fail)
      go_cut [7, 8] (fun s7 s8 wz => ∃ g7 g8 : Nat, s7 = .pointer (some ⟨g7, 0, none⟩) ∧ s8 = .pointer (some ⟨g8, 0, none⟩) ∧ Blk wz g7 46 (ev u) ∧ Blk wz g8 46 (ev v) ∧ Below wy.heap.size wy wz)
      case first =>
        as_aux_lemma =>
          have hn := (HF.out.now.sub (L' := [(g6, 46, ev le), (g5, 46, ev su), (w.heap.size + 1, 46, ev x), (w.heap.size, 50, sv s)]) (by simp))
          have HN := Lib.hid hn
          clear hn
          refine wp_region_held_drew (S := fun W => Fn wy W [(g6, 46, ev le), (g5, 46, ev su), (w.heap.size + 1, 46, ev x), (w.heap.size, 50, sv s)]) (by kernel_rfl) ?_ (fun hHeld => ?_)
          · exact HN.out.drew
          refine wpAnyH_take (i := 0) (v := .agg (ev su)) rfl (by kernel_rfl) (by kernel_rfl) (by kernel_rfl) (fun _ _ _ h => h) (yields_row (by rfl) 46 (.tmp 5) rfl (g5) rfl 46 (ev su) _ (fun W (h : Fn _ W _) => h.get (by simp)) Tryd.underlying46 rfl (info_ev _)) hHeld ?_
          try simp only [Act.put, List.getElem_toArray, List.getElem_cons_succ, List.getElem_cons_zero, List.setIfInBounds_toArray, List.set_cons_zero, List.set_cons_succ]
          refine wpAnyH_take (i := 2) (v := .agg (ev le)) rfl (by kernel_rfl) (by kernel_rfl) (by kernel_rfl) (fun _ _ _ h => h) (yields_row (by rfl) 46 (.tmp 6) rfl (g6) rfl 46 (ev le) _ (fun W (h : Fn _ W _) => h.get (by simp)) Tryd.underlying46 rfl (info_ev _)) hHeld ?_
          try simp only [Act.put, List.getElem_toArray, List.getElem_cons_succ, List.getElem_cons_zero, List.setIfInBounds_toArray, List.set_cons_zero, List.set_cons_succ]
          refine wpAnyH_name ?_
          intro ops Q hops hQ
          have st2_45 : ∀ (g7 g8 : Nat) (W : World), Fn wy W [(g6, 46, ev le), (g5, 46, ev su), (w.heap.size + 1, 46, ev x), (w.heap.size, 50, sv s)] → Blk W g7 46 #[.int .u64 0, .int .u64 0, .int .u64 0, .int .u64 0] → wy.heap.size ≤ g7 → Blk W g8 46 #[.int .u64 0, .int .u64 0, .int .u64 0, .int .u64 0] → wy.heap.size ≤ g8 → g7 ≠ g8 → wpAnyH Tryd.prog .any ops Q (fun W => Fn wy W [(g6, 46, ev le), (g5, 46, ev su), (w.heap.size + 1, 46, ev x), (w.heap.size, 50, sv s)]) 2 #[true, true, true, true, true, true, false, false] { tmps := #[.agg (sv s), .agg (ev x), .pointer (some ⟨w.heap.size, 0, none⟩), .pointer (some ⟨w.heap.size + 1, 0, none⟩), .pointer (some ⟨w.heap.size + 1 + 1, 0, none⟩), .pointer (some ⟨g5, 0, none⟩), .pointer (some ⟨g6, 0, none⟩), .pointer (some ⟨g7, 0, none⟩), .pointer (some ⟨g8, 0, none⟩), undef, undef, undef, u12, u13, u14, u15, u16, u17, u18, u19, u20, u21, .agg (ev su), .agg (ev u), .agg (ev le), .agg (ev v), u26, u27, u28, u29, u30, u31, u32, u33, u34, u35, u36, u37, u38, u39, u40, u41, u42, u43, u44, u45, u46, u47, u48, u49, u50, u51, u52, u53, u54, u55, u56, u57, u58, u59, u60, u61, u62, u63], defers := [] } W := by
            as_aux_lemma =>
              intro g7 g8 W hHeld K4 Z4 K5 Z5 n4_5
              rw [← hops]
              rw [← hQ]
              have KK4 := Lib.hid K4
              clear K4
              have KK5 := Lib.hid K5
              clear K5
              refine wpAnyH_ready (rs := [6]) (by kernel_rfl) (by simp) (AllReadyH.cons rfl (fun K hK => ?_) AllReadyH.nil)
              have h0 := hHeld
              clear hHeld
              try simp only [List.getElem_toArray, List.getElem_cons_succ, List.getElem_cons_zero]
              rw [if_pos (by rfl)]
              refine wp_store_row 46 (.tmp 7) (.tmp 23) rfl g7 (ev u) rfl rfl 46 _ KK4.out (info_ev _) rfl (ev_one _) ?_
              refine hK.out _ _ (Fn.setFresh h0 Z4 _) (fun hHeld => ?_)
              have J4 := Lib.hid (KK4.out.setRow_same (ev u))
              clear KK4
              have KK4 := J4
              clear J4
              have J5 := Lib.hid (KK5.out.setRow_other (Ne.symm n4_5) (ev u))
              clear KK5
              have KK5 := J5
              clear J5
              clear hK K h0
              try simp only [Act.put, List.getElem_toArray, List.getElem_cons_succ, List.getElem_cons_zero, List.setIfInBounds_toArray, List.set_cons_zero, List.set_cons_succ]
              refine wpAnyH_ready (rs := [7]) (by kernel_rfl) (by simp) (AllReadyH.cons rfl (fun K hK => ?_) AllReadyH.nil)
              have h0 := hHeld
              clear hHeld
              try simp only [List.getElem_toArray, List.getElem_cons_succ, List.getElem_cons_zero]
              rw [if_pos (by rfl)]
              refine wp_store_row 46 (.tmp 8) (.tmp 25) rfl g8 (ev v) rfl rfl 46 _ KK5.out (info_ev _) rfl (ev_one _) ?_
              refine hK.out _ _ (Fn.setFresh h0 Z5 _) (fun hHeld => ?_)
              have J5 := Lib.hid (KK5.out.setRow_same (ev v))
              clear KK5
              have KK5 := J5
              clear J5
              have J4 := Lib.hid (KK4.out.setRow_other n4_5 (ev v))
              clear KK4
              have KK4 := J4
              clear J4
              clear hK K h0
              try simp only [Act.put, List.getElem_toArray, List.getElem_cons_succ, List.getElem_cons_zero, List.setIfInBounds_toArray, List.set_cons_zero, List.set_cons_succ]
              refine wpAnyH_done (by kernel_rfl) ?_ _
              have HB := Lib.hid hHeld.below
              clear hHeld
              go_wp2_with (fail)
              go_meet
              exact ⟨g7, g8, rfl, rfl, KK4.out, KK5.out, HB.out⟩
          have st2_4 : ∀ (g7 : Nat) (W : World), Fn wy W [(g6, 46, ev le), (g5, 46, ev su), (w.heap.size + 1, 46, ev x), (w.heap.size, 50, sv s)] → Blk W g7 46 #[.int .u64 0, .int .u64 0, .int .u64 0, .int .u64 0] → wy.heap.size ≤ g7 → wpAnyH Tryd.prog .any ops Q (fun W => Fn wy W [(g6, 46, ev le), (g5, 46, ev su), (w.heap.size + 1, 46, ev x), (w.heap.size, 50, sv s)]) 3 #[true, true, true, true, true, false, false, false] { tmps := #[.agg (sv s), .agg (ev x), .pointer (some ⟨w.heap.size, 0, none⟩), .pointer (some ⟨w.heap.size + 1, 0, none⟩), .pointer (some ⟨w.heap.size + 1 + 1, 0, none⟩), .pointer (some ⟨g5, 0, none⟩), .pointer (some ⟨g6, 0, none⟩), .pointer (some ⟨g7, 0, none⟩), undef, undef, undef, undef, u12, u13, u14, u15, u16, u17, u18, u19, u20, u21, .agg (ev su), .agg (ev u), .agg (ev le), .agg (ev v), u26, u27, u28, u29, u30, u31, u32, u33, u34, u35, u36, u37, u38, u39, u40, u41, u42, u43, u44, u45, u46, u47, u48, u49, u50, u51, u52, u53, u54, u55, u56, u57, u58, u59, u60, u61, u62, u63], defers := [] } W := by
            as_aux_lemma =>
              intro g7 W hHeld K4 Z4
              rw [← hops]
              refine wpAnyH_ready (rs := [5]) (by kernel_rfl) (by simp) (AllReadyH.cons rfl (fun K hK => ?_) AllReadyH.nil)
              have h0 := hHeld
              clear hHeld
              try simp only [List.getElem_toArray, List.getElem_cons_succ, List.getElem_cons_zero]
              obtain ⟨kz, hg⟩ := Fn.fresh h0 46 #[.int .u64 0, .int .u64 0, .int .u64 0, .int .u64 0]
              have KZ := Lib.hid kz
              have HG := Lib.hid hg
              have H0 := Lib.hid h0
              clear kz hg h0
              have KH4 := Lib.hid K4
              go_simp
              refine hK.out _ _ (Fn.pass H0.out _) (fun hHeld => ?_)
              clear hK K H0
              try simp only [Act.put, List.getElem_toArray, List.getElem_cons_succ, List.getElem_cons_zero, List.setIfInBounds_toArray, List.set_cons_zero, List.set_cons_succ]
              have k4 := KH4.out.alloc (.cells #[.int .u64 0, .int .u64 0, .int .u64 0, .int .u64 0] 46)
              have z4 := Z4
              have k5 := KZ.out
              have z5 := HG.out
              refine wpAnyH_cast (n' := 2) (l' := #[true, true, true, true, true, true, false, false]) (by kernel_rfl) (by kernel_rfl) ?_
              have hh := st2_45 g7 _ _ hHeld k4 z4 k5 z5 (Nat.ne_of_lt K4.lt)
              rw [← hops] at hh
              exact hh
          have st2_5 : ∀ (g8 : Nat) (W : World), Fn wy W [(g6, 46, ev le), (g5, 46, ev su), (w.heap.size + 1, 46, ev x), (w.heap.size, 50, sv s)] → Blk W g8 46 #[.int .u64 0, .int .u64 0, .int .u64 0, .int .u64 0] → wy.heap.size ≤ g8 → wpAnyH Tryd.prog .any ops Q (fun W => Fn wy W [(g6, 46, ev le), (g5, 46, ev su), (w.heap.size + 1, 46, ev x), (w.heap.size, 50, sv s)]) 3 #[true, true, true, true, false, true, false, false] { tmps := #[.agg (sv s), .agg (ev x), .pointer (some ⟨w.heap.size, 0, none⟩), .pointer (some ⟨w.heap.size + 1, 0, none⟩), .pointer (some ⟨w.heap.size + 1 + 1, 0, none⟩), .pointer (some ⟨g5, 0, none⟩), .pointer (some ⟨g6, 0, none⟩), undef, .pointer (some ⟨g8, 0, none⟩), undef, undef, undef, u12, u13, u14, u15, u16, u17, u18, u19, u20, u21, .agg (ev su), .agg (ev u), .agg (ev le), .agg (ev v), u26, u27, u28, u29, u30, u31, u32, u33, u34, u35, u36, u37, u38, u39, u40, u41, u42, u43, u44, u45, u46, u47, u48, u49, u50, u51, u52, u53, u54, u55, u56, u57, u58, u59, u60, u61, u62, u63], defers := [] } W := by
            as_aux_lemma =>
              clear st2_4
              intro g8 W hHeld K5 Z5
              rw [← hops]
              refine wpAnyH_ready (rs := [4]) (by kernel_rfl) (by simp) (AllReadyH.cons rfl (fun K hK => ?_) AllReadyH.nil)
              have h0 := hHeld
              clear hHeld
              try simp only [List.getElem_toArray, List.getElem_cons_succ, List.getElem_cons_zero]
              obtain ⟨kz, hg⟩ := Fn.fresh h0 46 #[.int .u64 0, .int .u64 0, .int .u64 0, .int .u64 0]
              have KZ := Lib.hid kz
              have HG := Lib.hid hg
              have H0 := Lib.hid h0
              clear kz hg h0
              have KH5 := Lib.hid K5
              go_simp
              refine hK.out _ _ (Fn.pass H0.out _) (fun hHeld => ?_)
              clear hK K H0
              try simp only [Act.put, List.getElem_toArray, List.getElem_cons_succ, List.getElem_cons_zero, List.setIfInBounds_toArray, List.set_cons_zero, List.set_cons_succ]
              have k5 := KH5.out.alloc (.cells #[.int .u64 0, .int .u64 0, .int .u64 0, .int .u64 0] 46)
              have z5 := Z5
              have k4 := KZ.out
              have z4 := HG.out
              refine wpAnyH_cast (n' := 2) (l' := #[true, true, true, true, true, true, false, false]) (by kernel_rfl) (by kernel_rfl) ?_
              have hh := st2_45 _ g8 _ hHeld k4 z4 k5 z5 (Ne.symm (Nat.ne_of_lt K5.lt))
              rw [← hops] at hh
              exact hh
          have st1_45 : ∀ (g7 g8 : Nat) (W : World), Fn wy W [(g6, 46, ev le), (g5, 46, ev su), (w.heap.size + 1, 46, ev x), (w.heap.size, 50, sv s)] → Blk W g7 46 #[.int .u64 0, .int .u64 0, .int .u64 0, .int .u64 0] → wy.heap.size ≤ g7 → Blk W g8 46 #[.int .u64 0, .int .u64 0, .int .u64 0, .int .u64 0] → wy.heap.size ≤ g8 → g7 ≠ g8 → wpAnyH Tryd.prog .any ops Q (fun W => Fn wy W [(g6, 46, ev le), (g5, 46, ev su), (w.heap.size + 1, 46, ev x), (w.heap.size, 50, sv s)]) 3 #[true, true, true, false, true, true, false, false] { tmps := #[.agg (sv s), .agg (ev x), .pointer (some ⟨w.heap.size, 0, none⟩), .pointer (some ⟨w.heap.size + 1, 0, none⟩), .pointer (some ⟨w.heap.size + 1 + 1, 0, none⟩), .pointer (some ⟨g5, 0, none⟩), .pointer (some ⟨g6, 0, none⟩), .pointer (some ⟨g7, 0, none⟩), .pointer (some ⟨g8, 0, none⟩), undef, undef, undef, u12, u13, u14, u15, u16, u17, u18, u19, u20, u21, .agg (ev su), .agg (ev u), .agg (ev le), u25, u26, u27, u28, u29, u30, u31, u32, u33, u34, u35, u36, u37, u38, u39, u40, u41, u42, u43, u44, u45, u46, u47, u48, u49, u50, u51, u52, u53, u54, u55, u56, u57, u58, u59, u60, u61, u62, u63], defers := [] } W := by
            as_aux_lemma =>
              clear st2_5 st2_4
              intro g7 g8 W hHeld K4 Z4 K5 Z5 n4_5
              rw [← hops]
              refine wpAnyH_ready (rs := [3]) (by kernel_rfl) (by simp) (AllReadyH.cons rfl (fun K hK => ?_) AllReadyH.nil)
              have KH4 := Lib.hid K4
              have KH5 := Lib.hid K5
              have h0 := hHeld
              clear hHeld
              try simp only [List.getElem_toArray, List.getElem_cons_succ, List.getElem_cons_zero]
              have H0 := Lib.hid h0
              clear h0
              go_simp
              go_at_call 42
              refine (squareR H_v.out _ (HPG.out.ext H0.out.below)).mono ?_
              rintro e vv ⟨rfl, hb⟩
              have KJ4 := Lib.hid (KH4.out.below hb KH4.out.lt)
              have KJ5 := Lib.hid (KH5.out.below hb KH5.out.lt)
              have h1 := H0.out.ext hb
              clear hb H0
              go_wp2_with (fail)
              refine hK.out _ _ h1 (fun hHeld => ?_)
              clear hK K h1
              try simp only [Act.put, List.getElem_toArray, List.getElem_cons_succ, List.getElem_cons_zero, List.setIfInBounds_toArray, List.set_cons_zero, List.set_cons_succ]
              have k4 := KJ4.out
              have k5 := KJ5.out
              have z4 := Z4
              have z5 := Z5
              refine wpAnyH_cast (n' := 2) (l' := #[true, true, true, true, true, true, false, false]) (by kernel_rfl) (by kernel_rfl) ?_
              have hh := st2_45 g7 g8 _ hHeld k4 z4 k5 z5 n4_5
              rw [← hops] at hh
              exact hh
          have st2_ : ∀ (W : World), Fn wy W [(g6, 46, ev le), (g5, 46, ev su), (w.heap.size + 1, 46, ev x), (w.heap.size, 50, sv s)] → wpAnyH Tryd.prog .any ops Q (fun W => Fn wy W [(g6, 46, ev le), (g5, 46, ev su), (w.heap.size + 1, 46, ev x), (w.heap.size, 50, sv s)]) 4 #[true, true, true, true, false, false, false, false] { tmps := #[.agg (sv s), .agg (ev x), .pointer (some ⟨w.heap.size, 0, none⟩), .pointer (some ⟨w.heap.size + 1, 0, none⟩), .pointer (some ⟨w.heap.size + 1 + 1, 0, none⟩), .pointer (some ⟨g5, 0, none⟩), .pointer (some ⟨g6, 0, none⟩), undef, undef, undef, undef, undef, u12, u13, u14, u15, u16, u17, u18, u19, u20, u21, .agg (ev su), .agg (ev u), .agg (ev le), .agg (ev v), u26, u27, u28, u29, u30, u31, u32, u33, u34, u35, u36, u37, u38, u39, u40, u41, u42, u43, u44, u45, u46, u47, u48, u49, u50, u51, u52, u53, u54, u55, u56, u57, u58, u59, u60, u61, u62, u63], defers := [] } W := by
            as_aux_lemma =>
              clear st1_45 st2_45
              intro W hHeld
              rw [← hops]
              refine wpAnyH_ready (rs := [4, 5]) (by kernel_rfl) (by simp) (AllReadyH.cons rfl (fun K hK => ?_) (AllReadyH.cons rfl (fun K hK => ?_) AllReadyH.nil))
              · have h0 := hHeld
                clear hHeld
                try simp only [List.getElem_toArray, List.getElem_cons_succ, List.getElem_cons_zero]
                obtain ⟨kz, hg⟩ := Fn.fresh h0 46 #[.int .u64 0, .int .u64 0, .int .u64 0, .int .u64 0]
                have KZ := Lib.hid kz
                have HG := Lib.hid hg
                have H0 := Lib.hid h0
                clear kz hg h0
                go_simp
                refine hK.out _ _ (Fn.pass H0.out _) (fun hHeld => ?_)
                clear hK K H0
                try simp only [Act.put, List.getElem_toArray, List.getElem_cons_succ, List.getElem_cons_zero, List.setIfInBounds_toArray, List.set_cons_zero, List.set_cons_succ]
                have k4 := KZ.out
                have z4 := HG.out
                refine wpAnyH_cast (n' := 3) (l' := #[true, true, true, true, true, false, false, false]) (by kernel_rfl) (by kernel_rfl) ?_
                have hh := st2_4 _ _ hHeld k4 z4
                rw [← hops] at hh
                exact hh
              · have h0 := hHeld
                clear hHeld
                try simp only [List.getElem_toArray, List.getElem_cons_succ, List.getElem_cons_zero]
                obtain ⟨kz, hg⟩ := Fn.fresh h0 46 #[.int .u64 0, .int .u64 0, .int .u64 0, .int .u64 0]
                have KZ := Lib.hid kz
                have HG := Lib.hid hg
                have H0 := Lib.hid h0
                clear kz hg h0
                go_simp
                refine hK.out _ _ (Fn.pass H0.out _) (fun hHeld => ?_)
                clear hK K H0
                try simp only [Act.put, List.getElem_toArray, List.getElem_cons_succ, List.getElem_cons_zero, List.setIfInBounds_toArray, List.set_cons_zero, List.set_cons_succ]
                have k5 := KZ.out
                have z5 := HG.out
                refine wpAnyH_cast (n' := 3) (l' := #[true, true, true, true, false, true, false, false]) (by kernel_rfl) (by kernel_rfl) ?_
                have hh := st2_5 _ _ hHeld k5 z5
                rw [← hops] at hh
                exact hh
          have st1_4 : ∀ (g7 : Nat) (W : World), Fn wy W [(g6, 46, ev le), (g5, 46, ev su), (w.heap.size + 1, 46, ev x), (w.heap.size, 50, sv s)] → Blk W g7 46 #[.int .u64 0, .int .u64 0, .int .u64 0, .int .u64 0] → wy.heap.size ≤ g7 → wpAnyH Tryd.prog .any ops Q (fun W => Fn wy W [(g6, 46, ev le), (g5, 46, ev su), (w.heap.size + 1, 46, ev x), (w.heap.size, 50, sv s)]) 4 #[true, true, true, false, true, false, false, false] { tmps := #[.agg (sv s), .agg (ev x), .pointer (some ⟨w.heap.size, 0, none⟩), .pointer (some ⟨w.heap.size + 1, 0, none⟩), .pointer (some ⟨w.heap.size + 1 + 1, 0, none⟩), .pointer (some ⟨g5, 0, none⟩), .pointer (some ⟨g6, 0, none⟩), .pointer (some ⟨g7, 0, none⟩), undef, undef, undef, undef, u12, u13, u14, u15, u16, u17, u18, u19, u20, u21, .agg (ev su), .agg (ev u), .agg (ev le), u25, u26, u27, u28, u29, u30, u31, u32, u33, u34, u35, u36, u37, u38, u39, u40, u41, u42, u43, u44, u45, u46, u47, u48, u49, u50, u51, u52, u53, u54, u55, u56, u57, u58, u59, u60, u61, u62, u63], defers := [] } W := by
            as_aux_lemma =>
              clear st2_ st2_5 st2_45
              intro g7 W hHeld K4 Z4
              rw [← hops]
              refine wpAnyH_ready (rs := [3, 5]) (by kernel_rfl) (by simp) (AllReadyH.cons rfl (fun K hK => ?_) (AllReadyH.cons rfl (fun K hK => ?_) AllReadyH.nil))
              · have KH4 := Lib.hid K4
                have h0 := hHeld
                clear hHeld
                try simp only [List.getElem_toArray, List.getElem_cons_succ, List.getElem_cons_zero]
                have H0 := Lib.hid h0
                clear h0
                go_simp
                go_at_call 42
                refine (squareR H_v.out _ (HPG.out.ext H0.out.below)).mono ?_
                rintro e vv ⟨rfl, hb⟩
                have KJ4 := Lib.hid (KH4.out.below hb KH4.out.lt)
                have h1 := H0.out.ext hb
                clear hb H0
                go_wp2_with (fail)
                refine hK.out _ _ h1 (fun hHeld => ?_)
                clear hK K h1
                try simp only [Act.put, List.getElem_toArray, List.getElem_cons_succ, List.getElem_cons_zero, List.setIfInBounds_toArray, List.set_cons_zero, List.set_cons_succ]
                have k4 := KJ4.out
                have z4 := Z4
                refine wpAnyH_cast (n' := 3) (l' := #[true, true, true, true, true, false, false, false]) (by kernel_rfl) (by kernel_rfl) ?_
                have hh := st2_4 g7 _ hHeld k4 z4
                rw [← hops] at hh
                exact hh
              · have h0 := hHeld
                clear hHeld
                try simp only [List.getElem_toArray, List.getElem_cons_succ, List.getElem_cons_zero]
                obtain ⟨kz, hg⟩ := Fn.fresh h0 46 #[.int .u64 0, .int .u64 0, .int .u64 0, .int .u64 0]
                have KZ := Lib.hid kz
                have HG := Lib.hid hg
                have H0 := Lib.hid h0
                clear kz hg h0
                have KH4 := Lib.hid K4
                go_simp
                refine hK.out _ _ (Fn.pass H0.out _) (fun hHeld => ?_)
                clear hK K H0
                try simp only [Act.put, List.getElem_toArray, List.getElem_cons_succ, List.getElem_cons_zero, List.setIfInBounds_toArray, List.set_cons_zero, List.set_cons_succ]
                have k4 := KH4.out.alloc (.cells #[.int .u64 0, .int .u64 0, .int .u64 0, .int .u64 0] 46)
                have z4 := Z4
                have k5 := KZ.out
                have z5 := HG.out
                refine wpAnyH_cast (n' := 3) (l' := #[true, true, true, false, true, true, false, false]) (by kernel_rfl) (by kernel_rfl) ?_
                have hh := st1_45 g7 _ _ hHeld k4 z4 k5 z5 (Nat.ne_of_lt K4.lt)
                rw [← hops] at hh
                exact hh
          have st1_5 : ∀ (g8 : Nat) (W : World), Fn wy W [(g6, 46, ev le), (g5, 46, ev su), (w.heap.size + 1, 46, ev x), (w.heap.size, 50, sv s)] → Blk W g8 46 #[.int .u64 0, .int .u64 0, .int .u64 0, .int .u64 0] → wy.heap.size ≤ g8 → wpAnyH Tryd.prog .any ops Q (fun W => Fn wy W [(g6, 46, ev le), (g5, 46, ev su), (w.heap.size + 1, 46, ev x), (w.heap.size, 50, sv s)]) 4 #[true, true, true, false, false, true, false, false] { tmps := #[.agg (sv s), .agg (ev x), .pointer (some ⟨w.heap.size, 0, none⟩), .pointer (some ⟨w.heap.size + 1, 0, none⟩), .pointer (some ⟨w.heap.size + 1 + 1, 0, none⟩), .pointer (some ⟨g5, 0, none⟩), .pointer (some ⟨g6, 0, none⟩), undef, .pointer (some ⟨g8, 0, none⟩), undef, undef, undef, u12, u13, u14, u15, u16, u17, u18, u19, u20, u21, .agg (ev su), .agg (ev u), .agg (ev le), u25, u26, u27, u28, u29, u30, u31, u32, u33, u34, u35, u36, u37, u38, u39, u40, u41, u42, u43, u44, u45, u46, u47, u48, u49, u50, u51, u52, u53, u54, u55, u56, u57, u58, u59, u60, u61, u62, u63], defers := [] } W := by
            as_aux_lemma =>
              clear st1_4 st2_ st2_4 st2_45
              intro g8 W hHeld K5 Z5
              rw [← hops]
              refine wpAnyH_ready (rs := [3, 4]) (by kernel_rfl) (by simp) (AllReadyH.cons rfl (fun K hK => ?_) (AllReadyH.cons rfl (fun K hK => ?_) AllReadyH.nil))
              · have KH5 := Lib.hid K5
                have h0 := hHeld
                clear hHeld
                try simp only [List.getElem_toArray, List.getElem_cons_succ, List.getElem_cons_zero]
                have H0 := Lib.hid h0
                clear h0
                go_simp
                go_at_call 42
                refine (squareR H_v.out _ (HPG.out.ext H0.out.below)).mono ?_
                rintro e vv ⟨rfl, hb⟩
                have KJ5 := Lib.hid (KH5.out.below hb KH5.out.lt)
                have h1 := H0.out.ext hb
                clear hb H0
                go_wp2_with (fail)
                refine hK.out _ _ h1 (fun hHeld => ?_)
                clear hK K h1
                try simp only [Act.put, List.getElem_toArray, List.getElem_cons_succ, List.getElem_cons_zero, List.setIfInBounds_toArray, List.set_cons_zero, List.set_cons_succ]
                have k5 := KJ5.out
                have z5 := Z5
                refine wpAnyH_cast (n' := 3) (l' := #[true, true, true, true, false, true, false, false]) (by kernel_rfl) (by kernel_rfl) ?_
                have hh := st2_5 g8 _ hHeld k5 z5
                rw [← hops] at hh
                exact hh
              · have h0 := hHeld
                clear hHeld
                try simp only [List.getElem_toArray, List.getElem_cons_succ, List.getElem_cons_zero]
                obtain ⟨kz, hg⟩ := Fn.fresh h0 46 #[.int .u64 0, .int .u64 0, .int .u64 0, .int .u64 0]
                have KZ := Lib.hid kz
                have HG := Lib.hid hg
                have H0 := Lib.hid h0
                clear kz hg h0
                have KH5 := Lib.hid K5
                go_simp
                refine hK.out _ _ (Fn.pass H0.out _) (fun hHeld => ?_)
                clear hK K H0
                try simp only [Act.put, List.getElem_toArray, List.getElem_cons_succ, List.getElem_cons_zero, List.setIfInBounds_toArray, List.set_cons_zero, List.set_cons_succ]
                have k5 := KH5.out.alloc (.cells #[.int .u64 0, .int .u64 0, .int .u64 0, .int .u64 0] 46)
                have z5 := Z5
                have k4 := KZ.out
                have z4 := HG.out
                refine wpAnyH_cast (n' := 3) (l' := #[true, true, true, false, true, true, false, false]) (by kernel_rfl) (by kernel_rfl) ?_
                have hh := st1_45 _ g8 _ hHeld k4 z4 k5 z5 (Ne.symm (Nat.ne_of_lt K5.lt))
                rw [← hops] at hh
                exact hh
          have st0_45 : ∀ (g7 g8 : Nat) (W : World), Fn wy W [(g6, 46, ev le), (g5, 46, ev su), (w.heap.size + 1, 46, ev x), (w.heap.size, 50, sv s)] → Blk W g7 46 #[.int .u64 0, .int .u64 0, .int .u64 0, .int .u64 0] → wy.heap.size ≤ g7 → Blk W g8 46 #[.int .u64 0, .int .u64 0, .int .u64 0, .int .u64 0] → wy.heap.size ≤ g8 → g7 ≠ g8 → wpAnyH Tryd.prog .any ops Q (fun W => Fn wy W [(g6, 46, ev le), (g5, 46, ev su), (w.heap.size + 1, 46, ev x), (w.heap.size, 50, sv s)]) 4 #[true, false, true, false, true, true, false, false] { tmps := #[.agg (sv s), .agg (ev x), .pointer (some ⟨w.heap.size, 0, none⟩), .pointer (some ⟨w.heap.size + 1, 0, none⟩), .pointer (some ⟨w.heap.size + 1 + 1, 0, none⟩), .pointer (some ⟨g5, 0, none⟩), .pointer (some ⟨g6, 0, none⟩), .pointer (some ⟨g7, 0, none⟩), .pointer (some ⟨g8, 0, none⟩), undef, undef, undef, u12, u13, u14, u15, u16, u17, u18, u19, u20, u21, .agg (ev su), u23, .agg (ev le), u25, u26, u27, u28, u29, u30, u31, u32, u33, u34, u35, u36, u37, u38, u39, u40, u41, u42, u43, u44, u45, u46, u47, u48, u49, u50, u51, u52, u53, u54, u55, u56, u57, u58, u59, u60, u61, u62, u63], defers := [] } W := by
            as_aux_lemma =>
              clear st1_5 st1_4 st2_ st2_5 st2_4 st2_45
              intro g7 g8 W hHeld K4 Z4 K5 Z5 n4_5
              rw [← hops]
              refine wpAnyH_ready (rs := [1]) (by kernel_rfl) (by simp) (AllReadyH.cons rfl (fun K hK => ?_) AllReadyH.nil)
              have KH4 := Lib.hid K4
              have KH5 := Lib.hid K5
              have h0 := hHeld
              clear hHeld
              try simp only [List.getElem_toArray, List.getElem_cons_succ, List.getElem_cons_zero]
              have H0 := Lib.hid h0
              clear h0
              go_simp
              go_at_call 42
              refine (squareR H_u.out _ (HPG.out.ext H0.out.below)).mono ?_
              rintro e vv ⟨rfl, hb⟩
              have KJ4 := Lib.hid (KH4.out.below hb KH4.out.lt)
              have KJ5 := Lib.hid (KH5.out.below hb KH5.out.lt)
              have h1 := H0.out.ext hb
              clear hb H0
              go_wp2_with (fail)
              refine hK.out _ _ h1 (fun hHeld => ?_)
              clear hK K h1
              try simp only [Act.put, List.getElem_toArray, List.getElem_cons_succ, List.getElem_cons_zero, List.setIfInBounds_toArray, List.set_cons_zero, List.set_cons_succ]
              have k4 := KJ4.out
              have k5 := KJ5.out
              have z4 := Z4
              have z5 := Z5
              refine wpAnyH_cast (n' := 3) (l' := #[true, true, true, false, true, true, false, false]) (by kernel_rfl) (by kernel_rfl) ?_
              have hh := st1_45 g7 g8 _ hHeld k4 z4 k5 z5 n4_5
              rw [← hops] at hh
              exact hh
          have st1_ : ∀ (W : World), Fn wy W [(g6, 46, ev le), (g5, 46, ev su), (w.heap.size + 1, 46, ev x), (w.heap.size, 50, sv s)] → wpAnyH Tryd.prog .any ops Q (fun W => Fn wy W [(g6, 46, ev le), (g5, 46, ev su), (w.heap.size + 1, 46, ev x), (w.heap.size, 50, sv s)]) 5 #[true, true, true, false, false, false, false, false] { tmps := #[.agg (sv s), .agg (ev x), .pointer (some ⟨w.heap.size, 0, none⟩), .pointer (some ⟨w.heap.size + 1, 0, none⟩), .pointer (some ⟨w.heap.size + 1 + 1, 0, none⟩), .pointer (some ⟨g5, 0, none⟩), .pointer (some ⟨g6, 0, none⟩), undef, undef, undef, undef, undef, u12, u13, u14, u15, u16, u17, u18, u19, u20, u21, .agg (ev su), .agg (ev u), .agg (ev le), u25, u26, u27, u28, u29, u30, u31, u32, u33, u34, u35, u36, u37, u38, u39, u40, u41, u42, u43, u44, u45, u46, u47, u48, u49, u50, u51, u52, u53, u54, u55, u56, u57, u58, u59, u60, u61, u62, u63], defers := [] } W := by
            as_aux_lemma =>
              clear st0_45 st1_45 st2_5 st2_4 st2_45
              intro W hHeld
              rw [← hops]
              refine wpAnyH_ready (rs := [3, 4, 5]) (by kernel_rfl) (by simp) (AllReadyH.cons rfl (fun K hK => ?_) (AllReadyH.cons rfl (fun K hK => ?_) (AllReadyH.cons rfl (fun K hK => ?_) AllReadyH.nil)))
              · have h0 := hHeld
                clear hHeld
                try simp only [List.getElem_toArray, List.getElem_cons_succ, List.getElem_cons_zero]
                have H0 := Lib.hid h0
                clear h0
                go_simp
                go_at_call 42
                refine (squareR H_v.out _ (HPG.out.ext H0.out.below)).mono ?_
                rintro e vv ⟨rfl, hb⟩
                have h1 := H0.out.ext hb
                clear hb H0
                go_wp2_with (fail)
                refine hK.out _ _ h1 (fun hHeld => ?_)
                clear hK K h1
                try simp only [Act.put, List.getElem_toArray, List.getElem_cons_succ, List.getElem_cons_zero, List.setIfInBounds_toArray, List.set_cons_zero, List.set_cons_succ]
                refine wpAnyH_cast (n' := 4) (l' := #[true, true, true, true, false, false, false, false]) (by kernel_rfl) (by kernel_rfl) ?_
                have hh := st2_ _ hHeld
                rw [← hops] at hh
                exact hh
              · have h0 := hHeld
                clear hHeld
                try simp only [List.getElem_toArray, List.getElem_cons_succ, List.getElem_cons_zero]
                obtain ⟨kz, hg⟩ := Fn.fresh h0 46 #[.int .u64 0, .int .u64 0, .int .u64 0, .int .u64 0]
                have KZ := Lib.hid kz
                have HG := Lib.hid hg
                have H0 := Lib.hid h0
                clear kz hg h0
                go_simp
                refine hK.out _ _ (Fn.pass H0.out _) (fun hHeld => ?_)
                clear hK K H0
                try simp only [Act.put, List.getElem_toArray, List.getElem_cons_succ, List.getElem_cons_zero, List.setIfInBounds_toArray, List.set_cons_zero, List.set_cons_succ]
                have k4 := KZ.out
                have z4 := HG.out
                refine wpAnyH_cast (n' := 4) (l' := #[true, true, true, false, true, false, false, false]) (by kernel_rfl) (by kernel_rfl) ?_
                have hh := st1_4 _ _ hHeld k4 z4
                rw [← hops] at hh
                exact hh
              · have h0 := hHeld
                clear hHeld
                try simp only [List.getElem_toArray, List.getElem_cons_succ, List.getElem_cons_zero]
                obtain ⟨kz, hg⟩ := Fn.fresh h0 46 #[.int .u64 0, .int .u64 0, .int .u64 0, .int .u64 0]
                have KZ := Lib.hid kz
                have HG := Lib.hid hg
                have H0 := Lib.hid h0
                clear kz hg h0
                go_simp
                refine hK.out _ _ (Fn.pass H0.out _) (fun hHeld => ?_)
                clear hK K H0
                try simp only [Act.put, List.getElem_toArray, List.getElem_cons_succ, List.getElem_cons_zero, List.setIfInBounds_toArray, List.set_cons_zero, List.set_cons_succ]
                have k5 := KZ.out
                have z5 := HG.out
                refine wpAnyH_cast (n' := 4) (l' := #[true, true, true, false, false, true, false, false]) (by kernel_rfl) (by kernel_rfl) ?_
                have hh := st1_5 _ _ hHeld k5 z5
                rw [← hops] at hh
                exact hh
          have st0_4 : ∀ (g7 : Nat) (W : World), Fn wy W [(g6, 46, ev le), (g5, 46, ev su), (w.heap.size + 1, 46, ev x), (w.heap.size, 50, sv s)] → Blk W g7 46 #[.int .u64 0, .int .u64 0, .int .u64 0, .int .u64 0] → wy.heap.size ≤ g7 → wpAnyH Tryd.prog .any ops Q (fun W => Fn wy W [(g6, 46, ev le), (g5, 46, ev su), (w.heap.size + 1, 46, ev x), (w.heap.size, 50, sv s)]) 5 #[true, false, true, false, true, false, false, false] { tmps := #[.agg (sv s), .agg (ev x), .pointer (some ⟨w.heap.size, 0, none⟩), .pointer (some ⟨w.heap.size + 1, 0, none⟩), .pointer (some ⟨w.heap.size + 1 + 1, 0, none⟩), .pointer (some ⟨g5, 0, none⟩), .pointer (some ⟨g6, 0, none⟩), .pointer (some ⟨g7, 0, none⟩), undef, undef, undef, undef, u12, u13, u14, u15, u16, u17, u18, u19, u20, u21, .agg (ev su), u23, .agg (ev le), u25, u26, u27, u28, u29, u30, u31, u32, u33, u34, u35, u36, u37, u38, u39, u40, u41, u42, u43, u44, u45, u46, u47, u48, u49, u50, u51, u52, u53, u54, u55, u56, u57, u58, u59, u60, u61, u62, u63], defers := [] } W := by
            as_aux_lemma =>
              clear st1_ st1_5 st2_ st1_45 st2_5 st2_4 st2_45
              intro g7 W hHeld K4 Z4
              rw [← hops]
              refine wpAnyH_ready (rs := [1, 5]) (by kernel_rfl) (by simp) (AllReadyH.cons rfl (fun K hK => ?_) (AllReadyH.cons rfl (fun K hK => ?_) AllReadyH.nil))
              · have KH4 := Lib.hid K4
                have h0 := hHeld
                clear hHeld
                try simp only [List.getElem_toArray, List.getElem_cons_succ, List.getElem_cons_zero]
                have H0 := Lib.hid h0
                clear h0
                go_simp
                go_at_call 42
                refine (squareR H_u.out _ (HPG.out.ext H0.out.below)).mono ?_
                rintro e vv ⟨rfl, hb⟩
                have KJ4 := Lib.hid (KH4.out.below hb KH4.out.lt)
                have h1 := H0.out.ext hb
                clear hb H0
                go_wp2_with (fail)
                refine hK.out _ _ h1 (fun hHeld => ?_)
                clear hK K h1
                try simp only [Act.put, List.getElem_toArray, List.getElem_cons_succ, List.getElem_cons_zero, List.setIfInBounds_toArray, List.set_cons_zero, List.set_cons_succ]
                have k4 := KJ4.out
                have z4 := Z4
                refine wpAnyH_cast (n' := 4) (l' := #[true, true, true, false, true, false, false, false]) (by kernel_rfl) (by kernel_rfl) ?_
                have hh := st1_4 g7 _ hHeld k4 z4
                rw [← hops] at hh
                exact hh
              · have h0 := hHeld
                clear hHeld
                try simp only [List.getElem_toArray, List.getElem_cons_succ, List.getElem_cons_zero]
                obtain ⟨kz, hg⟩ := Fn.fresh h0 46 #[.int .u64 0, .int .u64 0, .int .u64 0, .int .u64 0]
                have KZ := Lib.hid kz
                have HG := Lib.hid hg
                have H0 := Lib.hid h0
                clear kz hg h0
                have KH4 := Lib.hid K4
                go_simp
                refine hK.out _ _ (Fn.pass H0.out _) (fun hHeld => ?_)
                clear hK K H0
                try simp only [Act.put, List.getElem_toArray, List.getElem_cons_succ, List.getElem_cons_zero, List.setIfInBounds_toArray, List.set_cons_zero, List.set_cons_succ]
                have k4 := KH4.out.alloc (.cells #[.int .u64 0, .int .u64 0, .int .u64 0, .int .u64 0] 46)
                have z4 := Z4
                have k5 := KZ.out
                have z5 := HG.out
                refine wpAnyH_cast (n' := 4) (l' := #[true, false, true, false, true, true, false, false]) (by kernel_rfl) (by kernel_rfl) ?_
                have hh := st0_45 g7 _ _ hHeld k4 z4 k5 z5 (Nat.ne_of_lt K4.lt)
                rw [← hops] at hh
                exact hh
          have st0_5 : ∀ (g8 : Nat) (W : World), Fn wy W [(g6, 46, ev le), (g5, 46, ev su), (w.heap.size + 1, 46, ev x), (w.heap.size, 50, sv s)] → Blk W g8 46 #[.int .u64 0, .int .u64 0, .int .u64 0, .int .u64 0] → wy.heap.size ≤ g8 → wpAnyH Tryd.prog .any ops Q (fun W => Fn wy W [(g6, 46, ev le), (g5, 46, ev su), (w.heap.size + 1, 46, ev x), (w.heap.size, 50, sv s)]) 5 #[true, false, true, false, false, true, false, false] { tmps := #[.agg (sv s), .agg (ev x), .pointer (some ⟨w.heap.size, 0, none⟩), .pointer (some ⟨w.heap.size + 1, 0, none⟩), .pointer (some ⟨w.heap.size + 1 + 1, 0, none⟩), .pointer (some ⟨g5, 0, none⟩), .pointer (some ⟨g6, 0, none⟩), undef, .pointer (some ⟨g8, 0, none⟩), undef, undef, undef, u12, u13, u14, u15, u16, u17, u18, u19, u20, u21, .agg (ev su), u23, .agg (ev le), u25, u26, u27, u28, u29, u30, u31, u32, u33, u34, u35, u36, u37, u38, u39, u40, u41, u42, u43, u44, u45, u46, u47, u48, u49, u50, u51, u52, u53, u54, u55, u56, u57, u58, u59, u60, u61, u62, u63], defers := [] } W := by
            as_aux_lemma =>
              clear st0_4 st1_ st1_4 st2_ st1_45 st2_5 st2_4 st2_45
              intro g8 W hHeld K5 Z5
              rw [← hops]
              refine wpAnyH_ready (rs := [1, 4]) (by kernel_rfl) (by simp) (AllReadyH.cons rfl (fun K hK => ?_) (AllReadyH.cons rfl (fun K hK => ?_) AllReadyH.nil))
              · have KH5 := Lib.hid K5
                have h0 := hHeld
                clear hHeld
                try simp only [List.getElem_toArray, List.getElem_cons_succ, List.getElem_cons_zero]
                have H0 := Lib.hid h0
                clear h0
                go_simp
                go_at_call 42
                refine (squareR H_u.out _ (HPG.out.ext H0.out.below)).mono ?_
                rintro e vv ⟨rfl, hb⟩
                have KJ5 := Lib.hid (KH5.out.below hb KH5.out.lt)
                have h1 := H0.out.ext hb
                clear hb H0
                go_wp2_with (fail)
                refine hK.out _ _ h1 (fun hHeld => ?_)
                clear hK K h1
                try simp only [Act.put, List.getElem_toArray, List.getElem_cons_succ, List.getElem_cons_zero, List.setIfInBounds_toArray, List.set_cons_zero, List.set_cons_succ]
                have k5 := KJ5.out
                have z5 := Z5
                refine wpAnyH_cast (n' := 4) (l' := #[true, true, true, false, false, true, false, false]) (by kernel_rfl) (by kernel_rfl) ?_
                have hh := st1_5 g8 _ hHeld k5 z5
                rw [← hops] at hh
                exact hh
              · have h0 := hHeld
                clear hHeld
                try simp only [List.getElem_toArray, List.getElem_cons_succ, List.getElem_cons_zero]
                obtain ⟨kz, hg⟩ := Fn.fresh h0 46 #[.int .u64 0, .int .u64 0, .int .u64 0, .int .u64 0]
                have KZ := Lib.hid kz
                have HG := Lib.hid hg
                have H0 := Lib.hid h0
                clear kz hg h0
                have KH5 := Lib.hid K5
                go_simp
                refine hK.out _ _ (Fn.pass H0.out _) (fun hHeld => ?_)
                clear hK K H0
                try simp only [Act.put, List.getElem_toArray, List.getElem_cons_succ, List.getElem_cons_zero, List.setIfInBounds_toArray, List.set_cons_zero, List.set_cons_succ]
                have k5 := KH5.out.alloc (.cells #[.int .u64 0, .int .u64 0, .int .u64 0, .int .u64 0] 46)
                have z5 := Z5
                have k4 := KZ.out
                have z4 := HG.out
                refine wpAnyH_cast (n' := 4) (l' := #[true, false, true, false, true, true, false, false]) (by kernel_rfl) (by kernel_rfl) ?_
                have hh := st0_45 _ g8 _ hHeld k4 z4 k5 z5 (Ne.symm (Nat.ne_of_lt K5.lt))
                rw [← hops] at hh
                exact hh
          have st0_ : ∀ (W : World), Fn wy W [(g6, 46, ev le), (g5, 46, ev su), (w.heap.size + 1, 46, ev x), (w.heap.size, 50, sv s)] → wpAnyH Tryd.prog .any ops Q (fun W => Fn wy W [(g6, 46, ev le), (g5, 46, ev su), (w.heap.size + 1, 46, ev x), (w.heap.size, 50, sv s)]) 6 #[true, false, true, false, false, false, false, false] { tmps := #[.agg (sv s), .agg (ev x), .pointer (some ⟨w.heap.size, 0, none⟩), .pointer (some ⟨w.heap.size + 1, 0, none⟩), .pointer (some ⟨w.heap.size + 1 + 1, 0, none⟩), .pointer (some ⟨g5, 0, none⟩), .pointer (some ⟨g6, 0, none⟩), undef, undef, undef, undef, undef, u12, u13, u14, u15, u16, u17, u18, u19, u20, u21, .agg (ev su), u23, .agg (ev le), u25, u26, u27, u28, u29, u30, u31, u32, u33, u34, u35, u36, u37, u38, u39, u40, u41, u42, u43, u44, u45, u46, u47, u48, u49, u50, u51, u52, u53, u54, u55, u56, u57, u58, u59, u60, u61, u62, u63], defers := [] } W := by
            as_aux_lemma =>
              clear st0_45 st1_5 st1_4 st2_ st1_45 st2_5 st2_4 st2_45
              intro W hHeld
              rw [← hops]
              refine wpAnyH_ready (rs := [1, 4, 5]) (by kernel_rfl) (by simp) (AllReadyH.cons rfl (fun K hK => ?_) (AllReadyH.cons rfl (fun K hK => ?_) (AllReadyH.cons rfl (fun K hK => ?_) AllReadyH.nil)))
              · have h0 := hHeld
                clear hHeld
                try simp only [List.getElem_toArray, List.getElem_cons_succ, List.getElem_cons_zero]
                have H0 := Lib.hid h0
                clear h0
                go_simp
                go_at_call 42
                refine (squareR H_u.out _ (HPG.out.ext H0.out.below)).mono ?_
                rintro e vv ⟨rfl, hb⟩
                have h1 := H0.out.ext hb
                clear hb H0
                go_wp2_with (fail)
                refine hK.out _ _ h1 (fun hHeld => ?_)
                clear hK K h1
                try simp only [Act.put, List.getElem_toArray, List.getElem_cons_succ, List.getElem_cons_zero, List.setIfInBounds_toArray, List.set_cons_zero, List.set_cons_succ]
                refine wpAnyH_cast (n' := 5) (l' := #[true, true, true, false, false, false, false, false]) (by kernel_rfl) (by kernel_rfl) ?_
                have hh := st1_ _ hHeld
                rw [← hops] at hh
                exact hh
              · have h0 := hHeld
                clear hHeld
                try simp only [List.getElem_toArray, List.getElem_cons_succ, List.getElem_cons_zero]
                obtain ⟨kz, hg⟩ := Fn.fresh h0 46 #[.int .u64 0, .int .u64 0, .int .u64 0, .int .u64 0]
                have KZ := Lib.hid kz
                have HG := Lib.hid hg
                have H0 := Lib.hid h0
                clear kz hg h0
                go_simp
                refine hK.out _ _ (Fn.pass H0.out _) (fun hHeld => ?_)
                clear hK K H0
                try simp only [Act.put, List.getElem_toArray, List.getElem_cons_succ, List.getElem_cons_zero, List.setIfInBounds_toArray, List.set_cons_zero, List.set_cons_succ]
                have k4 := KZ.out
                have z4 := HG.out
                refine wpAnyH_cast (n' := 5) (l' := #[true, false, true, false, true, false, false, false]) (by kernel_rfl) (by kernel_rfl) ?_
                have hh := st0_4 _ _ hHeld k4 z4
                rw [← hops] at hh
                exact hh
              · have h0 := hHeld
                clear hHeld
                try simp only [List.getElem_toArray, List.getElem_cons_succ, List.getElem_cons_zero]
                obtain ⟨kz, hg⟩ := Fn.fresh h0 46 #[.int .u64 0, .int .u64 0, .int .u64 0, .int .u64 0]
                have KZ := Lib.hid kz
                have HG := Lib.hid hg
                have H0 := Lib.hid h0
                clear kz hg h0
                go_simp
                refine hK.out _ _ (Fn.pass H0.out _) (fun hHeld => ?_)
                clear hK K H0
                try simp only [Act.put, List.getElem_toArray, List.getElem_cons_succ, List.getElem_cons_zero, List.setIfInBounds_toArray, List.set_cons_zero, List.set_cons_succ]
                have k5 := KZ.out
                have z5 := HG.out
                refine wpAnyH_cast (n' := 5) (l' := #[true, false, true, false, false, true, false, false]) (by kernel_rfl) (by kernel_rfl) ?_
                have hh := st0_5 _ _ hHeld k5 z5
                rw [← hops] at hh
                exact hh
          refine wpAnyH_cast (n' := 6) (l' := #[true, false, true, false, false, false, false, false]) (by kernel_rfl) (by kernel_rfl) ?_
          exact st0_ _ hHeld
      case rest =>
        as_aux_lemma =>
          obtain ⟨g7, g8, rfl, rfl, k7, k8, hb⟩ := hcut
          have n7 : g7 ≠ w.heap.size + 1 + 1 := by
            intro e
            obtain ⟨cs, _, kk⟩ := (HF.out.ext hb).old (g := w.heap.size + 1 + 1) (t := 50) (n := 16) (by simp)
            rw [← e] at kk
            exact absurd (k7.inj kk).1 (by decide)
          have n8 : g8 ≠ w.heap.size + 1 + 1 := by
            intro e
            obtain ⟨cs, _, kk⟩ := (HF.out.ext hb).old (g := w.heap.size + 1 + 1) (t := 50) (n := 16) (by simp)
            rw [← e] at kk
            exact absurd (k8.inj kk).1 (by decide)
          have hf2 := (((HF.out.ext hb).more k7).more k8)
          have hpg2 := HPG.out.ext hb
          clear HF HPG hb k7 k8
          have HF := Lib.hid hf2
          have HPG := Lib.hid hpg2
          clear hf2 hpg2
          obtain ⟨wu, hwc0⟩ : ∃ wz : World, wz = wc := ⟨_, rfl⟩
          rw [← hwc0] at HF HPG ⊢
          clear hwc0
          have l7 := HF.out.get (g := g7) (t := 46) (cs := ev u) (by simp)
          have l8 := HF.out.get (g := g8) (t := 46) (cs := ev v) (by simp)
          go_wp2_with (first | (refine wpList_load_row rfl 46 (.tmp 7) rfl (g7) rfl 46 (ev u) (0, 0) _ l7 Tryd.underlying46 rfl (info_ev _) ?_) | (refine wpList_load_row rfl 46 (.tmp 8) rfl (g8) rfl 46 (ev v) (0, 0) _ l8 Tryd.underlying46 rfl (info_ev _) ?_))
          clear l7 l8
          refine (subR H_e.out _ HPG.out).mono ?_
          rintro e0 v1 ⟨rfl, hb⟩
          have hf := HF.out.ext hb
          have hpgb := HPG.out.ext hb
          have ka : Blk (v1.alloc (.cells #[.int .u64 0, .int .u64 0, .int .u64 0, .int .u64 0] 46)) v1.heap.size 46 #[.int .u64 0, .int .u64 0, .int .u64 0, .int .u64 0] := Blk.new _ _ _
          have kc := ka.setRow_same (ev e)
          have hf3 := ((hf.pass (.cells #[.int .u64 0, .int .u64 0, .int .u64 0, .int .u64 0] 46)).setOut (g := v1.heap.size) (by have := hf.size; omega) (by intro p hp; exact Nat.ne_of_lt (hf.rows p hp).lt) (by intro p hp; obtain ⟨cs, _, k⟩ := hf.some_ p hp; exact Nat.ne_of_lt k.lt) (ev e)).more kc
          have hres : w.heap.size + 1 + 1 < v1.heap.size := by obtain ⟨cs, _, k⟩ := hf.old (g := w.heap.size + 1 + 1) (t := 50) (n := 16) (by simp); exact k.lt
          have hpg3 : PG ((v1.alloc (.cells #[.int .u64 0, .int .u64 0, .int .u64 0, .int .u64 0] 46)).setRow v1.heap.size (ev e)) := hpgb.ext (below_setRow ((Below.refl _ v1).alloc (Nat.le_refl _) _) (Nat.le_refl _) _)
          have KA := Lib.hid ka
          have HF4 := Lib.hid hf3
          have HPG4 := Lib.hid hpg3
          clear hb hf hpgb ka kc hf3 hpg3 HF HPG
          go_wp2_with (first | (refine wpList_store_row rfl 46 (.tmp 9) (.tmp 28) rfl (v1.heap.size) (ev e) rfl rfl 46 _ KA.out (info_ev _) (ev_size _).symm (ev_one _) ?_))
          clear KA
          obtain ⟨wd, hwd⟩ : ∃ wz : World, wz = (v1.alloc (.cells #[.int .u64 0, .int .u64 0, .int .u64 0, .int .u64 0] 46)).setRow v1.heap.size (ev e) := ⟨_, rfl⟩
          rw [← hwd] at HF4 HPG4 ⊢
          clear hwd
          obtain ⟨g9, hg9⟩ : ∃ g9, g9 = v1.heap.size := ⟨_, rfl⟩
          have n9 : v1.heap.size ≠ w.heap.size + 1 + 1 := Ne.symm (Nat.ne_of_lt hres)
          rw [← hg9] at HF4 n9 ⊢
          clear hg9 hres
          have HF := HF4
          have HPG := HPG4
          clear HF4 HPG4
          simp only [Act.put]
          go_cut [10, 11] (fun s10 s11 wz => ∃ g10 g11 : Nat, s10 = .pointer (some ⟨g10, 0, none⟩) ∧ s11 = .pointer (some ⟨g11, 0, none⟩) ∧ Blk wz g10 46 (ev m) ∧ Blk wz g11 46 (ev k) ∧ Below wd.heap.size wd wz)
          case first =>
            as_aux_lemma =>
              have hn := (HF.out.now.sub (L' := [(g9, 46, ev e), (g8, 46, ev v), (g7, 46, ev u), (g6, 46, ev le), (g5, 46, ev su), (w.heap.size + 1, 46, ev x), (w.heap.size, 50, sv s)]) (by simp))
              have HN := Lib.hid hn
              clear hn
              refine wp_region_held_drew (S := fun W => Fn wd W [(g9, 46, ev e), (g8, 46, ev v), (g7, 46, ev u), (g6, 46, ev le), (g5, 46, ev su), (w.heap.size + 1, 46, ev x), (w.heap.size, 50, sv s)]) (by kernel_rfl) ?_ (fun hHeld => ?_)
              · exact HN.out.drew
              refine wpAnyH_take (i := 0) (v := ?_) rfl (by kernel_rfl) (by kernel_rfl) (by kernel_rfl) (fun _ _ _ h => h) (Or.inl ⟨by rfl, ?_⟩) hHeld ?_
              rotate_left
              · (intro W hSw; (try dsimp only at hSw); (try simp only [List.getElem_toArray, List.getElem_cons_succ, List.getElem_cons_zero]); go_simp; try with_reducible rfl)
              try simp only [Act.put, List.getElem_toArray, List.getElem_cons_succ, List.getElem_cons_zero, List.setIfInBounds_toArray, List.set_cons_zero, List.set_cons_succ]
              refine wpAnyH_take (i := 1) (v := .agg (ev (s.c))) rfl (by kernel_rfl) (by kernel_rfl) (by kernel_rfl) (fun _ _ _ h => h) (yields_sv (by rfl) (.tmp 29) rfl (w.heap.size) 2 (by omega) rfl 50 s (fun W (h : Fn _ W _) => h.get (by simp))) hHeld ?_
              try simp only [Act.put, List.getElem_toArray, List.getElem_cons_succ, List.getElem_cons_zero, List.setIfInBounds_toArray, List.set_cons_zero, List.set_cons_succ]
              refine wpAnyH_take (i := 2) (v := ?_) rfl (by kernel_rfl) (by kernel_rfl) (by kernel_rfl) (fun _ _ _ h => h) (Or.inl ⟨by rfl, ?_⟩) hHeld ?_
              rotate_left
              · (intro W hSw; (try dsimp only at hSw); (try simp only [List.getElem_toArray, List.getElem_cons_succ, List.getElem_cons_zero]); go_simp; try with_reducible rfl)
              try simp only [Act.put, List.getElem_toArray, List.getElem_cons_succ, List.getElem_cons_zero, List.setIfInBounds_toArray, List.set_cons_zero, List.set_cons_succ]
              refine wpAnyH_take (i := 3) (v := .agg (ev (s.d))) rfl (by kernel_rfl) (by kernel_rfl) (by kernel_rfl) (fun _ _ _ h => h) (yields_sv (by rfl) (.tmp 31) rfl (w.heap.size) 3 (by omega) rfl 50 s (fun W (h : Fn _ W _) => h.get (by simp))) hHeld ?_
              try simp only [Act.put, List.getElem_toArray, List.getElem_cons_succ, List.getElem_cons_zero, List.setIfInBounds_toArray, List.set_cons_zero, List.set_cons_succ]
              refine wpAnyH_take (i := 5) (v := .agg (ev le)) rfl (by kernel_rfl) (by kernel_rfl) (by kernel_rfl) (fun _ _ _ h => h) (yields_row (by rfl) 46 (.tmp 6) rfl (g6) rfl 46 (ev le) _ (fun W (h : Fn _ W _) => h.get (by simp)) Tryd.underlying46 rfl (info_ev _)) hHeld ?_
              try simp only [Act.put, List.getElem_toArray, List.getElem_cons_succ, List.getElem_cons_zero, List.setIfInBounds_toArray, List.set_cons_zero, List.set_cons_succ]
              refine wpAnyH_take (i := 7) (v := ?_) rfl (by kernel_rfl) (by kernel_rfl) (by kernel_rfl) (fun _ _ _ h => h) (Or.inl ⟨by rfl, ?_⟩) hHeld ?_
              rotate_left
              · (intro W hSw; (try dsimp only at hSw); (try simp only [List.getElem_toArray, List.getElem_cons_succ, List.getElem_cons_zero]); go_simp; try with_reducible rfl)
              try simp only [Act.put, List.getElem_toArray, List.getElem_cons_succ, List.getElem_cons_zero, List.setIfInBounds_toArray, List.set_cons_zero, List.set_cons_succ]
              refine wpAnyH_take (i := 8) (v := .agg (ev (s.c))) rfl (by kernel_rfl) (by kernel_rfl) (by kernel_rfl) (fun _ _ _ h => h) (yields_sv (by rfl) (.tmp 36) rfl (w.heap.size) 2 (by omega) rfl 50 s (fun W (h : Fn _ W _) => h.get (by simp))) hHeld ?_
              try simp only [Act.put, List.getElem_toArray, List.getElem_cons_succ, List.getElem_cons_zero, List.setIfInBounds_toArray, List.set_cons_zero, List.set_cons_succ]
              refine wpAnyH_take (i := 9) (v := ?_) rfl (by kernel_rfl) (by kernel_rfl) (by kernel_rfl) (fun _ _ _ h => h) (Or.inl ⟨by rfl, ?_⟩) hHeld ?_
              rotate_left
              · (intro W hSw; (try dsimp only at hSw); (try simp only [List.getElem_toArray, List.getElem_cons_succ, List.getElem_cons_zero]); go_simp; try with_reducible rfl)
              try simp only [Act.put, List.getElem_toArray, List.getElem_cons_succ, List.getElem_cons_zero, List.setIfInBounds_toArray, List.set_cons_zero, List.set_cons_succ]
              refine wpAnyH_take (i := 10) (v := .agg (ev (s.d))) rfl (by kernel_rfl) (by kernel_rfl) (by kernel_rfl) (fun _ _ _ h => h) (yields_sv (by rfl) (.tmp 38) rfl (w.heap.size) 3 (by omega) rfl 50 s (fun W (h : Fn _ W _) => h.get (by simp))) hHeld ?_
              try simp only [Act.put, List.getElem_toArray, List.getElem_cons_succ, List.getElem_cons_zero, List.setIfInBounds_toArray, List.set_cons_zero, List.set_cons_succ]
              refine wpAnyH_take (i := 12) (v := .agg (ev su)) rfl (by kernel_rfl) (by kernel_rfl) (by kernel_rfl) (fun _ _ _ h => h) (yields_row (by rfl) 46 (.tmp 5) rfl (g5) rfl 46 (ev su) _ (fun W (h : Fn _ W _) => h.get (by simp)) Tryd.underlying46 rfl (info_ev _)) hHeld ?_
              try simp only [Act.put, List.getElem_toArray, List.getElem_cons_succ, List.getElem_cons_zero, List.setIfInBounds_toArray, List.set_cons_zero, List.set_cons_succ]
              refine wpAnyH_name ?_
              intro ops Q hops hQ
              have st4_1415 : ∀ (g10 g11 : Nat) (W : World), Fn wd W [(g9, 46, ev e), (g8, 46, ev v), (g7, 46, ev u), (g6, 46, ev le), (g5, 46, ev su), (w.heap.size + 1, 46, ev x), (w.heap.size, 50, sv s)] → Blk W g10 46 #[.int .u64 0, .int .u64 0, .int .u64 0, .int .u64 0] → wd.heap.size ≤ g10 → Blk W g11 46 #[.int .u64 0, .int .u64 0, .int .u64 0, .int .u64 0] → wd.heap.size ≤ g11 → g10 ≠ g11 → wpAnyH Tryd.prog .any ops Q (fun W => Fn wd W [(g9, 46, ev e), (g8, 46, ev v), (g7, 46, ev u), (g6, 46, ev le), (g5, 46, ev su), (w.heap.size + 1, 46, ev x), (w.heap.size, 50, sv s)]) 2 #[true, true, true, true, true, true, true, true, true, true, true, true, true, true, true, true, false, false] { tmps := #[.agg (sv s), .agg (ev x), .pointer (some ⟨w.heap.size, 0, none⟩), .pointer (some ⟨w.heap.size + 1, 0, none⟩), .pointer (some ⟨w.heap.size + 1 + 1, 0, none⟩), .pointer (some ⟨g5, 0, none⟩), .pointer (some ⟨g6, 0, none⟩), .pointer (some ⟨g7, 0, none⟩), .pointer (some ⟨g8, 0, none⟩), .pointer (some ⟨g9, 0, none⟩), .pointer (some ⟨g10, 0, none⟩), .pointer (some ⟨g11, 0, none⟩), u12, u13, u14, u15, u16, u17, u18, u19, u20, u21, u22, u23, u24, u25, .agg (ev u), .agg (ev v), .agg (ev e), .pointer (some ⟨w.heap.size, 8, none⟩), .agg (ev (s.c)), .pointer (some ⟨w.heap.size, 12, none⟩), .agg (ev (s.d)), .agg (ev cd), .agg (ev le), .agg (ev m), .pointer (some ⟨w.heap.size, 8, none⟩), .agg (ev (s.c)), .pointer (some ⟨w.heap.size, 12, none⟩), .agg (ev (s.d)), .agg (ev ce), .agg (ev su), .agg (ev k), u43, u44, u45, u46, u47, u48, u49, u50, u51, u52, u53, u54, u55, u56, u57, u58, u59, u60, u61, u62, u63], defers := [] } W := by
                as_aux_lemma =>
                  intro g10 g11 W hHeld K14 Z14 K15 Z15 n14_15
                  rw [← hops]
                  rw [← hQ]
                  have KK14 := Lib.hid K14
                  clear K14
                  have KK15 := Lib.hid K15
                  clear K15
                  refine wpAnyH_ready (rs := [16]) (by kernel_rfl) (by simp) (AllReadyH.cons rfl (fun K hK => ?_) AllReadyH.nil)
                  have h0 := hHeld
                  clear hHeld
                  try simp only [List.getElem_toArray, List.getElem_cons_succ, List.getElem_cons_zero]
                  rw [if_pos (by rfl)]
                  refine wp_store_row 46 (.tmp 10) (.tmp 35) rfl g10 (ev m) rfl rfl 46 _ KK14.out (info_ev _) rfl (ev_one _) ?_
                  refine hK.out _ _ (Fn.setFresh h0 Z14 _) (fun hHeld => ?_)
                  have J14 := Lib.hid (KK14.out.setRow_same (ev m))
                  clear KK14
                  have KK14 := J14
                  clear J14
                  have J15 := Lib.hid (KK15.out.setRow_other (Ne.symm n14_15) (ev m))
                  clear KK15
                  have KK15 := J15
                  clear J15
                  clear hK K h0
                  try simp only [Act.put, List.getElem_toArray, List.getElem_cons_succ, List.getElem_cons_zero, List.setIfInBounds_toArray, List.set_cons_zero, List.set_cons_succ]
                  refine wpAnyH_ready (rs := [17]) (by kernel_rfl) (by simp) (AllReadyH.cons rfl (fun K hK => ?_) AllReadyH.nil)
                  have h0 := hHeld
                  clear hHeld
                  try simp only [List.getElem_toArray, List.getElem_cons_succ, List.getElem_cons_zero]
                  rw [if_pos (by rfl)]
                  refine wp_store_row 46 (.tmp 11) (.tmp 42) rfl g11 (ev k) rfl rfl 46 _ KK15.out (info_ev _) rfl (ev_one _) ?_
                  refine hK.out _ _ (Fn.setFresh h0 Z15 _) (fun hHeld => ?_)
                  have J15 := Lib.hid (KK15.out.setRow_same (ev k))
                  clear KK15
                  have KK15 := J15
                  clear J15
                  have J14 := Lib.hid (KK14.out.setRow_other n14_15 (ev k))
                  clear KK14
                  have KK14 := J14
                  clear J14
                  clear hK K h0
                  try simp only [Act.put, List.getElem_toArray, List.getElem_cons_succ, List.getElem_cons_zero, List.setIfInBounds_toArray, List.set_cons_zero, List.set_cons_succ]
                  refine wpAnyH_done (by kernel_rfl) ?_ _
                  have HB := Lib.hid hHeld.below
                  clear hHeld
                  go_wp2_with (fail)
                  go_meet
                  exact ⟨g10, g11, rfl, rfl, KK14.out, KK15.out, HB.out⟩
              have st4_14 : ∀ (g10 : Nat) (W : World), Fn wd W [(g9, 46, ev e), (g8, 46, ev v), (g7, 46, ev u), (g6, 46, ev le), (g5, 46, ev su), (w.heap.size + 1, 46, ev x), (w.heap.size, 50, sv s)] → Blk W g10 46 #[.int .u64 0, .int .u64 0, .int .u64 0, .int .u64 0] → wd.heap.size ≤ g10 → wpAnyH Tryd.prog .any ops Q (fun W => Fn wd W [(g9, 46, ev e), (g8, 46, ev v), (g7, 46, ev u), (g6, 46, ev le), (g5, 46, ev su), (w.heap.size + 1, 46, ev x), (w.heap.size, 50, sv s)]) 3 #[true, true, true, true, true, true, true, true, true, true, true, true, true, true, true, false, false, false] { tmps := #[.agg (sv s), .agg (ev x), .pointer (some ⟨w.heap.size, 0, none⟩), .pointer (some ⟨w.heap.size + 1, 0, none⟩), .pointer (some ⟨w.heap.size + 1 + 1, 0, none⟩), .pointer (some ⟨g5, 0, none⟩), .pointer (some ⟨g6, 0, none⟩), .pointer (some ⟨g7, 0, none⟩), .pointer (some ⟨g8, 0, none⟩), .pointer (some ⟨g9, 0, none⟩), .pointer (some ⟨g10, 0, none⟩), undef, u12, u13, u14, u15, u16, u17, u18, u19, u20, u21, u22, u23, u24, u25, .agg (ev u), .agg (ev v), .agg (ev e), .pointer (some ⟨w.heap.size, 8, none⟩), .agg (ev (s.c)), .pointer (some ⟨w.heap.size, 12, none⟩), .agg (ev (s.d)), .agg (ev cd), .agg (ev le), .agg (ev m), .pointer (some ⟨w.heap.size, 8, none⟩), .agg (ev (s.c)), .pointer (some ⟨w.heap.size, 12, none⟩), .agg (ev (s.d)), .agg (ev ce), .agg (ev su), .agg (ev k), u43, u44, u45, u46, u47, u48, u49, u50, u51, u52, u53, u54, u55, u56, u57, u58, u59, u60, u61, u62, u63], defers := [] } W := by
                as_aux_lemma =>
                  intro g10 W hHeld K14 Z14
                  rw [← hops]
                  refine wpAnyH_ready (rs := [15]) (by kernel_rfl) (by simp) (AllReadyH.cons rfl (fun K hK => ?_) AllReadyH.nil)
                  have h0 := hHeld
                  clear hHeld
                  try simp only [List.getElem_toArray, List.getElem_cons_succ, List.getElem_cons_zero]
                  obtain ⟨kz, hg⟩ := Fn.fresh h0 46 #[.int .u64 0, .int .u64 0, .int .u64 0, .int .u64 0]
                  have KZ := Lib.hid kz
                  have HG := Lib.hid hg
                  have H0 := Lib.hid h0
                  clear kz hg h0
                  have KH14 := Lib.hid K14
                  go_simp
                  refine hK.out _ _ (Fn.pass H0.out _) (fun hHeld => ?_)
                  clear hK K H0
                  try simp only [Act.put, List.getElem_toArray, List.getElem_cons_succ, List.getElem_cons_zero, List.setIfInBounds_toArray, List.set_cons_zero, List.set_cons_succ]
                  have k14 := KH14.out.alloc (.cells #[.int .u64 0, .int .u64 0, .int .u64 0, .int .u64 0] 46)
                  have z14 := Z14
                  have k15 := KZ.out
                  have z15 := HG.out
                  refine wpAnyH_cast (n' := 2) (l' := #[true, true, true, true, true, true, true, true, true, true, true, true, true, true, true, true, false, false]) (by kernel_rfl) (by kernel_rfl) ?_
                  have hh := st4_1415 g10 _ _ hHeld k14 z14 k15 z15 (Nat.ne_of_lt K14.lt)
                  rw [← hops] at hh
                  exact hh
              have st4_15 : ∀ (g11 : Nat) (W : World), Fn wd W [(g9, 46, ev e), (g8, 46, ev v), (g7, 46, ev u), (g6, 46, ev le), (g5, 46, ev su), (w.heap.size + 1, 46, ev x), (w.heap.size, 50, sv s)] → Blk W g11 46 #[.int .u64 0, .int .u64 0, .int .u64 0, .int .u64 0] → wd.heap.size ≤ g11 → wpAnyH Tryd.prog .any ops Q (fun W => Fn wd W [(g9, 46, ev e), (g8, 46, ev v), (g7, 46, ev u), (g6, 46, ev le), (g5, 46, ev su), (w.heap.size + 1, 46, ev x), (w.heap.size, 50, sv s)]) 3 #[true, true, true, true, true, true, true, true, true, true, true, true, true, true, false, true, false, false] { tmps := #[.agg (sv s), .agg (ev x), .pointer (some ⟨w.heap.size, 0, none⟩), .pointer (some ⟨w.heap.size + 1, 0, none⟩), .pointer (some ⟨w.heap.size + 1 + 1, 0, none⟩), .pointer (some ⟨g5, 0, none⟩), .pointer (some ⟨g6, 0, none⟩), .pointer (some ⟨g7, 0, none⟩), .pointer (some ⟨g8, 0, none⟩), .pointer (some ⟨g9, 0, none⟩), undef, .pointer (some ⟨g11, 0, none⟩), u12, u13, u14, u15, u16, u17, u18, u19, u20, u21, u22, u23, u24, u25, .agg (ev u), .agg (ev v), .agg (ev e), .pointer (some ⟨w.heap.size, 8, none⟩), .agg (ev (s.c)), .pointer (some ⟨w.heap.size, 12, none⟩), .agg (ev (s.d)), .agg (ev cd), .agg (ev le), .agg (ev m), .pointer (some ⟨w.heap.size, 8, none⟩), .agg (ev (s.c)), .pointer (some ⟨w.heap.size, 12, none⟩), .agg (ev (s.d)), .agg (ev ce), .agg (ev su), .agg (ev k), u43, u44, u45, u46, u47, u48, u49, u50, u51, u52, u53, u54, u55, u56, u57, u58, u59, u60, u61, u62, u63], defers := [] } W := by
                as_aux_lemma =>
                  clear st4_14
                  intro g11 W hHeld K15 Z15
                  rw [← hops]
                  refine wpAnyH_ready (rs := [14]) (by kernel_rfl) (by simp) (AllReadyH.cons rfl (fun K hK => ?_) AllReadyH.nil)
                  have h0 := hHeld
                  clear hHeld
                  try simp only [List.getElem_toArray, List.getElem_cons_succ, List.getElem_cons_zero]
                  obtain ⟨kz, hg⟩ := Fn.fresh h0 46 #[.int .u64 0, .int .u64 0, .int .u64 0, .int .u64 0]
                  have KZ := Lib.hid kz
                  have HG := Lib.hid hg
                  have H0 := Lib.hid h0
                  clear kz hg h0
                  have KH15 := Lib.hid K15
                  go_simp
                  refine hK.out _ _ (Fn.pass H0.out _) (fun hHeld => ?_)
                  clear hK K H0
                  try simp only [Act.put, List.getElem_toArray, List.getElem_cons_succ, List.getElem_cons_zero, List.setIfInBounds_toArray, List.set_cons_zero, List.set_cons_succ]
                  have k15 := KH15.out.alloc (.cells #[.int .u64 0, .int .u64 0, .int .u64 0, .int .u64 0] 46)
                  have z15 := Z15
                  have k14 := KZ.out
                  have z14 := HG.out
                  refine wpAnyH_cast (n' := 2) (l' := #[true, true, true, true, true, true, true, true, true, true, true, true, true, true, true, true, false, false]) (by kernel_rfl) (by kernel_rfl) ?_
                  have hh := st4_1415 _ g11 _ hHeld k14 z14 k15 z15 (Ne.symm (Nat.ne_of_lt K15.lt))
                  rw [← hops] at hh
                  exact hh
              have st3_1415 : ∀ (g10 g11 : Nat) (W : World), Fn wd W [(g9, 46, ev e), (g8, 46, ev v), (g7, 46, ev u), (g6, 46, ev le), (g5, 46, ev su), (w.heap.size + 1, 46, ev x), (w.heap.size, 50, sv s)] → Blk W g10 46 #[.int .u64 0, .int .u64 0, .int .u64 0, .int .u64 0] → wd.heap.size ≤ g10 → Blk W g11 46 #[.int .u64 0, .int .u64 0, .int .u64 0, .int .u64 0] → wd.heap.size ≤ g11 → g10 ≠ g11 → wpAnyH Tryd.prog .any ops Q (fun W => Fn wd W [(g9, 46, ev e), (g8, 46, ev v), (g7, 46, ev u), (g6, 46, ev le), (g5, 46, ev su), (w.heap.size + 1, 46, ev x), (w.heap.size, 50, sv s)]) 3 #[true, true, true, true, true, true, true, true, true, true, true, true, true, false, true, true, false, false] { tmps := #[.agg (sv s), .agg (ev x), .pointer (some ⟨w.heap.size, 0, none⟩), .pointer (some ⟨w.heap.size + 1, 0, none⟩), .pointer (some ⟨w.heap.size + 1 + 1, 0, none⟩), .pointer (some ⟨g5, 0, none⟩), .pointer (some ⟨g6, 0, none⟩), .pointer (some ⟨g7, 0, none⟩), .pointer (some ⟨g8, 0, none⟩), .pointer (some ⟨g9, 0, none⟩), .pointer (some ⟨g10, 0, none⟩), .pointer (some ⟨g11, 0, none⟩), u12, u13, u14, u15, u16, u17, u18, u19, u20, u21, u22, u23, u24, u25, .agg (ev u), .agg (ev v), .agg (ev e), .pointer (some ⟨w.heap.size, 8, none⟩), .agg (ev (s.c)), .pointer (some ⟨w.heap.size, 12, none⟩), .agg (ev (s.d)), .agg (ev cd), .agg (ev le), .agg (ev m), .pointer (some ⟨w.heap.size, 8, none⟩), .agg (ev (s.c)), .pointer (some ⟨w.heap.size, 12, none⟩), .agg (ev (s.d)), .agg (ev ce), .agg (ev su), u42, u43, u44, u45, u46, u47, u48, u49, u50, u51, u52, u53, u54, u55, u56, u57, u58, u59, u60, u61, u62, u63], defers := [] } W := by
                as_aux_lemma =>
                  clear st4_15 st4_14
                  intro g10 g11 W hHeld K14 Z14 K15 Z15 n14_15
                  rw [← hops]
                  refine wpAnyH_ready (rs := [13]) (by kernel_rfl) (by simp) (AllReadyH.cons rfl (fun K hK => ?_) AllReadyH.nil)
                  have KH14 := Lib.hid K14
                  have KH15 := Lib.hid K15
                  have h0 := hHeld
                  clear hHeld
                  try simp only [List.getElem_toArray, List.getElem_cons_succ, List.getElem_cons_zero]
                  have H0 := Lib.hid h0
                  clear h0
                  go_simp
                  go_at_call 29
                  refine (mulR H_k.out _ (HPG.out.ext H0.out.below)).mono ?_
                  rintro e vv ⟨rfl, hb⟩
                  have KJ14 := Lib.hid (KH14.out.below hb KH14.out.lt)
                  have KJ15 := Lib.hid (KH15.out.below hb KH15.out.lt)
                  have h1 := H0.out.ext hb
                  clear hb H0
                  go_wp2_with (fail)
                  refine hK.out _ _ h1 (fun hHeld => ?_)
                  clear hK K h1
                  try simp only [Act.put, List.getElem_toArray, List.getElem_cons_succ, List.getElem_cons_zero, List.setIfInBounds_toArray, List.set_cons_zero, List.set_cons_succ]
                  have k14 := KJ14.out
                  have k15 := KJ15.out
                  have z14 := Z14
                  have z15 := Z15
                  refine wpAnyH_cast (n' := 2) (l' := #[true, true, true, true, true, true, true, true, true, true, true, true, true, true, true, true, false, false]) (by kernel_rfl) (by kernel_rfl) ?_
                  have hh := st4_1415 g10 g11 _ hHeld k14 z14 k15 z15 n14_15
                  rw [← hops] at hh
                  exact hh
              have st4_ : ∀ (W : World), Fn wd W [(g9, 46, ev e), (g8, 46, ev v), (g7, 46, ev u), (g6, 46, ev le), (g5, 46, ev su), (w.heap.size + 1, 46, ev x), (w.heap.size, 50, sv s)] → wpAnyH Tryd.prog .any ops Q (fun W => Fn wd W [(g9, 46, ev e), (g8, 46, ev v), (g7, 46, ev u), (g6, 46, ev le), (g5, 46, ev su), (w.heap.size + 1, 46, ev x), (w.heap.size, 50, sv s)]) 4 #[true, true, true, true, true, true, true, true, true, true, true, true, true, true, false, false, false, false] { tmps := #[.agg (sv s), .agg (ev x), .pointer (some ⟨w.heap.size, 0, none⟩), .pointer (some ⟨w.heap.size + 1, 0, none⟩), .pointer (some ⟨w.heap.size + 1 + 1, 0, none⟩), .pointer (some ⟨g5, 0, none⟩), .pointer (some ⟨g6, 0, none⟩), .pointer (some ⟨g7, 0, none⟩), .pointer (some ⟨g8, 0, none⟩), .pointer (some ⟨g9, 0, none⟩), undef, undef, u12, u13, u14, u15, u16, u17, u18, u19, u20, u21, u22, u23, u24, u25, .agg (ev u), .agg (ev v), .agg (ev e), .pointer (some ⟨w.heap.size, 8, none⟩), .agg (ev (s.c)), .pointer (some ⟨w.heap.size, 12, none⟩), .agg (ev (s.d)), .agg (ev cd), .agg (ev le), .agg (ev m), .pointer (some ⟨w.heap.size, 8, none⟩), .agg (ev (s.c)), .pointer (some ⟨w.heap.size, 12, none⟩), .agg (ev (s.d)), .agg (ev ce), .agg (ev su), .agg (ev k), u43, u44, u45, u46, u47, u48, u49, u50, u51, u52, u53, u54, u55, u56, u57, u58, u59, u60, u61, u62, u63], defers := [] } W := by
                as_aux_lemma =>
                  clear st3_1415 st4_1415
                  intro W hHeld
                  rw [← hops]
                  refine wpAnyH_ready (rs := [14, 15]) (by kernel_rfl) (by simp) (AllReadyH.cons rfl (fun K hK => ?_) (AllReadyH.cons rfl (fun K hK => ?_) AllReadyH.nil))
                  · have h0 := hHeld
                    clear hHeld
                    try simp only [List.getElem_toArray, List.getElem_cons_succ, List.getElem_cons_zero]
                    obtain ⟨kz, hg⟩ := Fn.fresh h0 46 #[.int .u64 0, .int .u64 0, .int .u64 0, .int .u64 0]
                    have KZ := Lib.hid kz
                    have HG := Lib.hid hg
                    have H0 := Lib.hid h0
                    clear kz hg h0
                    go_simp
                    refine hK.out _ _ (Fn.pass H0.out _) (fun hHeld => ?_)
                    clear hK K H0
                    try simp only [Act.put, List.getElem_toArray, List.getElem_cons_succ, List.getElem_cons_zero, List.setIfInBounds_toArray, List.set_cons_zero, List.set_cons_succ]
                    have k14 := KZ.out
                    have z14 := HG.out
                    refine wpAnyH_cast (n' := 3) (l' := #[true, true, true, true, true, true, true, true, true, true, true, true, true, true, true, false, false, false]) (by kernel_rfl) (by kernel_rfl) ?_
                    have hh := st4_14 _ _ hHeld k14 z14
                    rw [← hops] at hh
                    exact hh
                  · have h0 := hHeld
                    clear hHeld
                    try simp only [List.getElem_toArray, List.getElem_cons_succ, List.getElem_cons_zero]
                    obtain ⟨kz, hg⟩ := Fn.fresh h0 46 #[.int .u64 0, .int .u64 0, .int .u64 0, .int .u64 0]
                    have KZ := Lib.hid kz
                    have HG := Lib.hid hg
                    have H0 := Lib.hid h0
                    clear kz hg h0
                    go_simp
                    refine hK.out _ _ (Fn.pass H0.out _) (fun hHeld => ?_)
                    clear hK K H0
                    try simp only [Act.put, List.getElem_toArray, List.getElem_cons_succ, List.getElem_cons_zero, List.setIfInBounds_toArray, List.set_cons_zero, List.set_cons_succ]
                    have k15 := KZ.out
                    have z15 := HG.out
                    refine wpAnyH_cast (n' := 3) (l' := #[true, true, true, true, true, true, true, true, true, true, true, true, true, true, false, true, false, false]) (by kernel_rfl) (by kernel_rfl) ?_
                    have hh := st4_15 _ _ hHeld k15 z15
                    rw [← hops] at hh
                    exact hh
              have st3_14 : ∀ (g10 : Nat) (W : World), Fn wd W [(g9, 46, ev e), (g8, 46, ev v), (g7, 46, ev u), (g6, 46, ev le), (g5, 46, ev su), (w.heap.size + 1, 46, ev x), (w.heap.size, 50, sv s)] → Blk W g10 46 #[.int .u64 0, .int .u64 0, .int .u64 0, .int .u64 0] → wd.heap.size ≤ g10 → wpAnyH Tryd.prog .any ops Q (fun W => Fn wd W [(g9, 46, ev e), (g8, 46, ev v), (g7, 46, ev u), (g6, 46, ev le), (g5, 46, ev su), (w.heap.size + 1, 46, ev x), (w.heap.size, 50, sv s)]) 4 #[true, true, true, true, true, true, true, true, true, true, true, true, true, false, true, false, false, false] { tmps := #[.agg (sv s), .agg (ev x), .pointer (some ⟨w.heap.size, 0, none⟩), .pointer (some ⟨w.heap.size + 1, 0, none⟩), .pointer (some ⟨w.heap.size + 1 + 1, 0, none⟩), .pointer (some ⟨g5, 0, none⟩), .pointer (some ⟨g6, 0, none⟩), .pointer (some ⟨g7, 0, none⟩), .pointer (some ⟨g8, 0, none⟩), .pointer (some ⟨g9, 0, none⟩), .pointer (some ⟨g10, 0, none⟩), undef, u12, u13, u14, u15, u16, u17, u18, u19, u20, u21, u22, u23, u24, u25, .agg (ev u), .agg (ev v), .agg (ev e), .pointer (some ⟨w.heap.size, 8, none⟩), .agg (ev (s.c)), .pointer (some ⟨w.heap.size, 12, none⟩), .agg (ev (s.d)), .agg (ev cd), .agg (ev le), .agg (ev m), .pointer (some ⟨w.heap.size, 8, none⟩), .agg (ev (s.c)), .pointer (some ⟨w.heap.size, 12, none⟩), .agg (ev (s.d)), .agg (ev ce), .agg (ev su), u42, u43, u44, u45, u46, u47, u48, u49, u50, u51, u52, u53, u54, u55, u56, u57, u58, u59, u60, u61, u62, u63], defers := [] } W := by
                as_aux_lemma =>
                  clear st4_ st4_15 st4_1415
                  intro g10 W hHeld K14 Z14
                  rw [← hops]
                  refine wpAnyH_ready (rs := [13, 15]) (by kernel_rfl) (by simp) (AllReadyH.cons rfl (fun K hK => ?_) (AllReadyH.cons rfl (fun K hK => ?_) AllReadyH.nil))
                  · have KH14 := Lib.hid K14
                    have h0 := hHeld
                    clear hHeld
                    try simp only [List.getElem_toArray, List.getElem_cons_succ, List.getElem_cons_zero]
                    have H0 := Lib.hid h0
                    clear h0
                    go_simp
                    go_at_call 29
                    refine (mulR H_k.out _ (HPG.out.ext H0.out.below)).mono ?_
                    rintro e vv ⟨rfl, hb⟩
                    have KJ14 := Lib.hid (KH14.out.below hb KH14.out.lt)
                    have h1 := H0.out.ext hb
                    clear hb H0
                    go_wp2_with (fail)
                    refine hK.out _ _ h1 (fun hHeld => ?_)
                    clear hK K h1
                    try simp only [Act.put, List.getElem_toArray, List.getElem_cons_succ, List.getElem_cons_zero, List.setIfInBounds_toArray, List.set_cons_zero, List.set_cons_succ]
                    have k14 := KJ14.out
                    have z14 := Z14
                    refine wpAnyH_cast (n' := 3) (l' := #[true, true, true, true, true, true, true, true, true, true, true, true, true, true, true, false, false, false]) (by kernel_rfl) (by kernel_rfl) ?_
                    have hh := st4_14 g10 _ hHeld k14 z14
                    rw [← hops] at hh
                    exact hh
                  · have h0 := hHeld
                    clear hHeld
                    try simp only [List.getElem_toArray, List.getElem_cons_succ, List.getElem_cons_zero]
                    obtain ⟨kz, hg⟩ := Fn.fresh h0 46 #[.int .u64 0, .int .u64 0, .int .u64 0, .int .u64 0]
                    have KZ := Lib.hid kz
                    have HG := Lib.hid hg
                    have H0 := Lib.hid h0
                    clear kz hg h0
                    have KH14 := Lib.hid K14
                    go_simp
                    refine hK.out _ _ (Fn.pass H0.out _) (fun hHeld => ?_)
                    clear hK K H0
                    try simp only [Act.put, List.getElem_toArray, List.getElem_cons_succ, List.getElem_cons_zero, List.setIfInBounds_toArray, List.set_cons_zero, List.set_cons_succ]
                    have k14 := KH14.out.alloc (.cells #[.int .u64 0, .int .u64 0, .int .u64 0, .int .u64 0] 46)
                    have z14 := Z14
                    have k15 := KZ.out
                    have z15 := HG.out
                    refine wpAnyH_cast (n' := 3) (l' := #[true, true, true, true, true, true, true, true, true, true, true, true, true, false, true, true, false, false]) (by kernel_rfl) (by kernel_rfl) ?_
                    have hh := st3_1415 g10 _ _ hHeld k14 z14 k15 z15 (Nat.ne_of_lt K14.lt)
                    rw [← hops] at hh
                    exact hh
              have st3_15 : ∀ (g11 : Nat) (W : World), Fn wd W [(g9, 46, ev e), (g8, 46, ev v), (g7, 46, ev u), (g6, 46, ev le), (g5, 46, ev su), (w.heap.size + 1, 46, ev x), (w.heap.size, 50, sv s)] → Blk W g11 46 #[.int .u64 0, .int .u64 0, .int .u64 0, .int .u64 0] → wd.heap.size ≤ g11 → wpAnyH Tryd.prog .any ops Q (fun W => Fn wd W [(g9, 46, ev e), (g8, 46, ev v), (g7, 46, ev u), (g6, 46, ev le), (g5, 46, ev su), (w.heap.size + 1, 46, ev x), (w.heap.size, 50, sv s)]) 4 #[true, true, true, true, true, true, true, true, true, true, true, true, true, false, false, true, false, false] { tmps := #[.agg (sv s), .agg (ev x), .pointer (some ⟨w.heap.size, 0, none⟩), .pointer (some ⟨w.heap.size + 1, 0, none⟩), .pointer (some ⟨w.heap.size + 1 + 1, 0, none⟩), .pointer (some ⟨g5, 0, none⟩), .pointer (some ⟨g6, 0, none⟩), .pointer (some ⟨g7, 0, none⟩), .pointer (some ⟨g8, 0, none⟩), .pointer (some ⟨g9, 0, none⟩), undef, .pointer (some ⟨g11, 0, none⟩), u12, u13, u14, u15, u16, u17, u18, u19, u20, u21, u22, u23, u24, u25, .agg (ev u), .agg (ev v), .agg (ev e), .pointer (some ⟨w.heap.size, 8, none⟩), .agg (ev (s.c)), .pointer (some ⟨w.heap.size, 12, none⟩), .agg (ev (s.d)), .agg (ev cd), .agg (ev le), .agg (ev m), .pointer (some ⟨w.heap.size, 8, none⟩), .agg (ev (s.c)), .pointer (some ⟨w.heap.size, 12, none⟩), .agg (ev (s.d)), .agg (ev ce), .agg (ev su), u42, u43, u44, u45, u46, u47, u48, u49, u50, u51, u52, u53, u54, u55, u56, u57, u58, u59, u60, u61, u62, u63], defers := [] } W := by
                as_aux_lemma =>
                  clear st3_14 st4_ st4_14 st4_1415
                  intro g11 W hHeld K15 Z15
                  rw [← hops]
                  refine wpAnyH_ready (rs := [13, 14]) (by kernel_rfl) (by simp) (AllReadyH.cons rfl (fun K hK => ?_) (AllReadyH.cons rfl (fun K hK => ?_) AllReadyH.nil))
                  · have KH15 := Lib.hid K15
                    have h0 := hHeld
                    clear hHeld
                    try simp only [List.getElem_toArray, List.getElem_cons_succ, List.getElem_cons_zero]
                    have H0 := Lib.hid h0
                    clear h0
                    go_simp
                    go_at_call 29
                    refine (mulR H_k.out _ (HPG.out.ext H0.out.below)).mono ?_
                    rintro e vv ⟨rfl, hb⟩
                    have KJ15 := Lib.hid (KH15.out.below hb KH15.out.lt)
                    have h1 := H0.out.ext hb
                    clear hb H0
                    go_wp2_with (fail)
                    refine hK.out _ _ h1 (fun hHeld => ?_)
                    clear hK K h1
                    try simp only [Act.put, List.getElem_toArray, List.getElem_cons_succ, List.getElem_cons_zero, List.setIfInBounds_toArray, List.set_cons_zero, List.set_cons_succ]
                    have k15 := KJ15.out
                    have z15 := Z15
                    refine wpAnyH_cast (n' := 3) (l' := #[true, true, true, true, true, true, true, true, true, true, true, true, true, true, false, true, false, false]) (by kernel_rfl) (by kernel_rfl) ?_
                    have hh := st4_15 g11 _ hHeld k15 z15
                    rw [← hops] at hh
                    exact hh
                  · have h0 := hHeld
                    clear hHeld
                    try simp only [List.getElem_toArray, List.getElem_cons_succ, List.getElem_cons_zero]
                    obtain ⟨kz, hg⟩ := Fn.fresh h0 46 #[.int .u64 0, .int .u64 0, .int .u64 0, .int .u64 0]
                    have KZ := Lib.hid kz
                    have HG := Lib.hid hg
                    have H0 := Lib.hid h0
                    clear kz hg h0
                    have KH15 := Lib.hid K15
                    go_simp
                    refine hK.out _ _ (Fn.pass H0.out _) (fun hHeld => ?_)
                    clear hK K H0
                    try simp only [Act.put, List.getElem_toArray, List.getElem_cons_succ, List.getElem_cons_zero, List.setIfInBounds_toArray, List.set_cons_zero, List.set_cons_succ]
                    have k15 := KH15.out.alloc (.cells #[.int .u64 0, .int .u64 0, .int .u64 0, .int .u64 0] 46)
                    have z15 := Z15
                    have k14 := KZ.out
                    have z14 := HG.out
                    refine wpAnyH_cast (n' := 3) (l' := #[true, true, true, true, true, true, true, true, true, true, true, true, true, false, true, true, false, false]) (by kernel_rfl) (by kernel_rfl) ?_
                    have hh := st3_1415 _ g11 _ hHeld k14 z14 k15 z15 (Ne.symm (Nat.ne_of_lt K15.lt))
                    rw [← hops] at hh
                    exact hh
              have st2_1415 : ∀ (g10 g11 : Nat) (W : World), Fn wd W [(g9, 46, ev e), (g8, 46, ev v), (g7, 46, ev u), (g6, 46, ev le), (g5, 46, ev su), (w.heap.size + 1, 46, ev x), (w.heap.size, 50, sv s)] → Blk W g10 46 #[.int .u64 0, .int .u64 0, .int .u64 0, .int .u64 0] → wd.heap.size ≤ g10 → Blk W g11 46 #[.int .u64 0, .int .u64 0, .int .u64 0, .int .u64 0] → wd.heap.size ≤ g11 → g10 ≠ g11 → wpAnyH Tryd.prog .any ops Q (fun W => Fn wd W [(g9, 46, ev e), (g8, 46, ev v), (g7, 46, ev u), (g6, 46, ev le), (g5, 46, ev su), (w.heap.size + 1, 46, ev x), (w.heap.size, 50, sv s)]) 4 #[true, true, true, true, true, true, true, true, true, true, true, false, true, false, true, true, false, false] { tmps := #[.agg (sv s), .agg (ev x), .pointer (some ⟨w.heap.size, 0, none⟩), .pointer (some ⟨w.heap.size + 1, 0, none⟩), .pointer (some ⟨w.heap.size + 1 + 1, 0, none⟩), .pointer (some ⟨g5, 0, none⟩), .pointer (some ⟨g6, 0, none⟩), .pointer (some ⟨g7, 0, none⟩), .pointer (some ⟨g8, 0, none⟩), .pointer (some ⟨g9, 0, none⟩), .pointer (some ⟨g10, 0, none⟩), .pointer (some ⟨g11, 0, none⟩), u12, u13, u14, u15, u16, u17, u18, u19, u20, u21, u22, u23, u24, u25, .agg (ev u), .agg (ev v), .agg (ev e), .pointer (some ⟨w.heap.size, 8, none⟩), .agg (ev (s.c)), .pointer (some ⟨w.heap.size, 12, none⟩), .agg (ev (s.d)), .agg (ev cd), .agg (ev le), .agg (ev m), .pointer (some ⟨w.heap.size, 8, none⟩), .agg (ev (s.c)), .pointer (some ⟨w.heap.size, 12, none⟩), .agg (ev (s.d)), u40, .agg (ev su), u42, u43, u44, u45, u46, u47, u48, u49, u50, u51, u52, u53, u54, u55, u56, u57, u58, u59, u60, u61, u62, u63], defers := [] } W := by
                as_aux_lemma =>
                  clear st3_15 st3_14 st4_ st4_15 st4_14 st4_1415
                  intro g10 g11 W hHeld K14 Z14 K15 Z15 n14_15
                  rw [← hops]
                  refine wpAnyH_ready (rs := [11]) (by kernel_rfl) (by simp) (AllReadyH.cons rfl (fun K hK => ?_) AllReadyH.nil)
                  have KH14 := Lib.hid K14
                  have KH15 := Lib.hid K15
                  have h0 := hHeld
                  clear hHeld
                  try simp only [List.getElem_toArray, List.getElem_cons_succ, List.getElem_cons_zero]
                  have H0 := Lib.hid h0
                  clear h0
                  go_simp
                  go_at_call 41
                  refine (subR H_ce.out _ (HPG.out.ext H0.out.below)).mono ?_
                  rintro e vv ⟨rfl, hb⟩
                  have KJ14 := Lib.hid (KH14.out.below hb KH14.out.lt)
                  have KJ15 := Lib.hid (KH15.out.below hb KH15.out.lt)
                  have h1 := H0.out.ext hb
                  clear hb H0
                  go_wp2_with (fail)
                  refine hK.out _ _ h1 (fun hHeld => ?_)
                  clear hK K h1
                  try simp only [Act.put, List.getElem_toArray, List.getElem_cons_succ, List.getElem_cons_zero, List.setIfInBounds_toArray, List.set_cons_zero, List.set_cons_succ]
                  have k14 := KJ14.out
                  have k15 := KJ15.out
                  have z14 := Z14
                  have z15 := Z15
                  refine wpAnyH_cast (n' := 3) (l' := #[true, true, true, true, true, true, true, true, true, true, true, true, true, false, true, true, false, false]) (by kernel_rfl) (by kernel_rfl) ?_
                  have hh := st3_1415 g10 g11 _ hHeld k14 z14 k15 z15 n14_15
                  rw [← hops] at hh
                  exact hh
              have st3_ : ∀ (W : World), Fn wd W [(g9, 46, ev e), (g8, 46, ev v), (g7, 46, ev u), (g6, 46, ev le), (g5, 46, ev su), (w.heap.size + 1, 46, ev x), (w.heap.size, 50, sv s)] → wpAnyH Tryd.prog .any ops Q (fun W => Fn wd W [(g9, 46, ev e), (g8, 46, ev v), (g7, 46, ev u), (g6, 46, ev le), (g5, 46, ev su), (w.heap.size + 1, 46, ev x), (w.heap.size, 50, sv s)]) 5 #[true, true, true, true, true, true, true, true, true, true, true, true, true, false, false, false, false, false] { tmps := #[.agg (sv s), .agg (ev x), .pointer (some ⟨w.heap.size, 0, none⟩), .pointer (some ⟨w.heap.size + 1, 0, none⟩), .pointer (some ⟨w.heap.size + 1 + 1, 0, none⟩), .pointer (some ⟨g5, 0, none⟩), .pointer (some ⟨g6, 0, none⟩), .pointer (some ⟨g7, 0, none⟩), .pointer (some ⟨g8, 0, none⟩), .pointer (some ⟨g9, 0, none⟩), undef, undef, u12, u13, u14, u15, u16, u17, u18, u19, u20, u21, u22, u23, u24, u25, .agg (ev u), .agg (ev v), .agg (ev e), .pointer (some ⟨w.heap.size, 8, none⟩), .agg (ev (s.c)), .pointer (some ⟨w.heap.size, 12, none⟩), .agg (ev (s.d)), .agg (ev cd), .agg (ev le), .agg (ev m), .pointer (some ⟨w.heap.size, 8, none⟩), .agg (ev (s.c)), .pointer (some ⟨w.heap.size, 12, none⟩), .agg (ev (s.d)), .agg (ev ce), .agg (ev su), u42, u43, u44, u45, u46, u47, u48, u49, u50, u51, u52, u53, u54, u55, u56, u57, u58, u59, u60, u61, u62, u63], defers := [] } W := by
                as_aux_lemma =>
                  clear st2_1415 st3_1415 st4_15 st4_14 st4_1415
                  intro W hHeld
                  rw [← hops]
                  refine wpAnyH_ready (rs := [13, 14, 15]) (by kernel_rfl) (by simp) (AllReadyH.cons rfl (fun K hK => ?_) (AllReadyH.cons rfl (fun K hK => ?_) (AllReadyH.cons rfl (fun K hK => ?_) AllReadyH.nil)))
                  · have h0 := hHeld
                    clear hHeld
                    try simp only [List.getElem_toArray, List.getElem_cons_succ, List.getElem_cons_zero]
                    have H0 := Lib.hid h0
                    clear h0
                    go_simp
                    go_at_call 29
                    refine (mulR H_k.out _ (HPG.out.ext H0.out.below)).mono ?_
                    rintro e vv ⟨rfl, hb⟩
                    have h1 := H0.out.ext hb
                    clear hb H0
                    go_wp2_with (fail)
                    refine hK.out _ _ h1 (fun hHeld => ?_)
                    clear hK K h1
                    try simp only [Act.put, List.getElem_toArray, List.getElem_cons_succ, List.getElem_cons_zero, List.setIfInBounds_toArray, List.set_cons_zero, List.set_cons_succ]
                    refine wpAnyH_cast (n' := 4) (l' := #[true, true, true, true, true, true, true, true, true, true, true, true, true, true, false, false, false, false]) (by kernel_rfl) (by kernel_rfl) ?_
                    have hh := st4_ _ hHeld
                    rw [← hops] at hh
                    exact hh
                  · have h0 := hHeld
                    clear hHeld
                    try simp only [List.getElem_toArray, List.getElem_cons_succ, List.getElem_cons_zero]
                    obtain ⟨kz, hg⟩ := Fn.fresh h0 46 #[.int .u64 0, .int .u64 0, .int .u64 0, .int .u64 0]
                    have KZ := Lib.hid kz
                    have HG := Lib.hid hg
                    have H0 := Lib.hid h0
                    clear kz hg h0
                    go_simp
                    refine hK.out _ _ (Fn.pass H0.out _) (fun hHeld => ?_)
                    clear hK K H0
                    try simp only [Act.put, List.getElem_toArray, List.getElem_cons_succ, List.getElem_cons_zero, List.setIfInBounds_toArray, List.set_cons_zero, List.set_cons_succ]
                    have k14 := KZ.out
                    have z14 := HG.out
                    refine wpAnyH_cast (n' := 4) (l' := #[true, true, true, true, true, true, true, true, true, true, true, true, true, false, true, false, false, false]) (by kernel_rfl) (by kernel_rfl) ?_
                    have hh := st3_14 _ _ hHeld k14 z14
                    rw [← hops] at hh
                    exact hh
                  · have h0 := hHeld
                    clear hHeld
                    try simp only [List.getElem_toArray, List.getElem_cons_succ, List.getElem_cons_zero]
                    obtain ⟨kz, hg⟩ := Fn.fresh h0 46 #[.int .u64 0, .int .u64 0, .int .u64 0, .int .u64 0]
                    have KZ := Lib.hid kz
                    have HG := Lib.hid hg
                    have H0 := Lib.hid h0
                    clear kz hg h0
                    go_simp
                    refine hK.out _ _ (Fn.pass H0.out _) (fun hHeld => ?_)
                    clear hK K H0
                    try simp only [Act.put, List.getElem_toArray, List.getElem_cons_succ, List.getElem_cons_zero, List.setIfInBounds_toArray, List.set_cons_zero, List.set_cons_succ]
                    have k15 := KZ.out
                    have z15 := HG.out
                    refine wpAnyH_cast (n' := 4) (l' := #[true, true, true, true, true, true, true, true, true, true, true, true, true, false, false, true, false, false]) (by kernel_rfl) (by kernel_rfl) ?_
                    have hh := st3_15 _ _ hHeld k15 z15
                    rw [← hops] at hh
                    exact hh
              have st2_14 : ∀ (g10 : Nat) (W : World), Fn wd W [(g9, 46, ev e), (g8, 46, ev v), (g7, 46, ev u), (g6, 46, ev le), (g5, 46, ev su), (w.heap.size + 1, 46, ev x), (w.heap.size, 50, sv s)] → Blk W g10 46 #[.int .u64 0, .int .u64 0, .int .u64 0, .int .u64 0] → wd.heap.size ≤ g10 → wpAnyH Tryd.prog .any ops Q (fun W => Fn wd W [(g9, 46, ev e), (g8, 46, ev v), (g7, 46, ev u), (g6, 46, ev le), (g5, 46, ev su), (w.heap.size + 1, 46, ev x), (w.heap.size, 50, sv s)]) 5 #[true, true, true, true, true, true, true, true, true, true, true, false, true, false, true, false, false, false] { tmps := #[.agg (sv s), .agg (ev x), .pointer (some ⟨w.heap.size, 0, none⟩), .pointer (some ⟨w.heap.size + 1, 0, none⟩), .pointer (some ⟨w.heap.size + 1 + 1, 0, none⟩), .pointer (some ⟨g5, 0, none⟩), .pointer (some ⟨g6, 0, none⟩), .pointer (some ⟨g7, 0, none⟩), .pointer (some ⟨g8, 0, none⟩), .pointer (some ⟨g9, 0, none⟩), .pointer (some ⟨g10, 0, none⟩), undef, u12, u13, u14, u15, u16, u17, u18, u19, u20, u21, u22, u23, u24, u25, .agg (ev u), .agg (ev v), .agg (ev e), .pointer (some ⟨w.heap.size, 8, none⟩), .agg (ev (s.c)), .pointer (some ⟨w.heap.size, 12, none⟩), .agg (ev (s.d)), .agg (ev cd), .agg (ev le), .agg (ev m), .pointer (some ⟨w.heap.size, 8, none⟩), .agg (ev (s.c)), .pointer (some ⟨w.heap.size, 12, none⟩), .agg (ev (s.d)), u40, .agg (ev su), u42, u43, u44, u45, u46, u47, u48, u49, u50, u51, u52, u53, u54, u55, u56, u57, u58, u59, u60, u61, u62, u63], defers := [] } W := by
                as_aux_lemma =>
                  clear st3_ st3_15 st4_ st3_1415 st4_15 st4_14 st4_1415
                  intro g10 W hHeld K14 Z14
                  rw [← hops]
                  refine wpAnyH_ready (rs := [11, 15]) (by kernel_rfl) (by simp) (AllReadyH.cons rfl (fun K hK => ?_) (AllReadyH.cons rfl (fun K hK => ?_) AllReadyH.nil))
                  · have KH14 := Lib.hid K14
                    have h0 := hHeld
                    clear hHeld
                    try simp only [List.getElem_toArray, List.getElem_cons_succ, List.getElem_cons_zero]
                    have H0 := Lib.hid h0
                    clear h0
                    go_simp
                    go_at_call 41
                    refine (subR H_ce.out _ (HPG.out.ext H0.out.below)).mono ?_
                    rintro e vv ⟨rfl, hb⟩
                    have KJ14 := Lib.hid (KH14.out.below hb KH14.out.lt)
                    have h1 := H0.out.ext hb
                    clear hb H0
                    go_wp2_with (fail)
                    refine hK.out _ _ h1 (fun hHeld => ?_)
                    clear hK K h1
                    try simp only [Act.put, List.getElem_toArray, List.getElem_cons_succ, List.getElem_cons_zero, List.setIfInBounds_toArray, List.set_cons_zero, List.set_cons_succ]
                    have k14 := KJ14.out
                    have z14 := Z14
                    refine wpAnyH_cast (n' := 4) (l' := #[true, true, true, true, true, true, true, true, true, true, true, true, true, false, true, false, false, false]) (by kernel_rfl) (by kernel_rfl) ?_
                    have hh := st3_14 g10 _ hHeld k14 z14
                    rw [← hops] at hh
                    exact hh
                  · have h0 := hHeld
                    clear hHeld
                    try simp only [List.getElem_toArray, List.getElem_cons_succ, List.getElem_cons_zero]
                    obtain ⟨kz, hg⟩ := Fn.fresh h0 46 #[.int .u64 0, .int .u64 0, .int .u64 0, .int .u64 0]
                    have KZ := Lib.hid kz
                    have HG := Lib.hid hg
                    have H0 := Lib.hid h0
                    clear kz hg h0
                    have KH14 := Lib.hid K14
                    go_simp
                    refine hK.out _ _ (Fn.pass H0.out _) (fun hHeld => ?_)
                    clear hK K H0
                    try simp only [Act.put, List.getElem_toArray, List.getElem_cons_succ, List.getElem_cons_zero, List.setIfInBounds_toArray, List.set_cons_zero, List.set_cons_succ]
                    have k14 := KH14.out.alloc (.cells #[.int .u64 0, .int .u64 0, .int .u64 0, .int .u64 0] 46)
                    have z14 := Z14
                    have k15 := KZ.out
                    have z15 := HG.out
                    refine wpAnyH_cast (n' := 4) (l' := #[true, true, true, true, true, true, true, true, true, true, true, false, true, false, true, true, false, false]) (by kernel_rfl) (by kernel_rfl) ?_
                    have hh := st2_1415 g10 _ _ hHeld k14 z14 k15 z15 (Nat.ne_of_lt K14.lt)
                    rw [← hops] at hh
                    exact hh
              have st2_15 : ∀ (g11 : Nat) (W : World), Fn wd W [(g9, 46, ev e), (g8, 46, ev v), (g7, 46, ev u), (g6, 46, ev le), (g5, 46, ev su), (w.heap.size + 1, 46, ev x), (w.heap.size, 50, sv s)] → Blk W g11 46 #[.int .u64 0, .int .u64 0, .int .u64 0, .int .u64 0] → wd.heap.size ≤ g11 → wpAnyH Tryd.prog .any ops Q (fun W => Fn wd W [(g9, 46, ev e), (g8, 46, ev v), (g7, 46, ev u), (g6, 46, ev le), (g5, 46, ev su), (w.heap.size + 1, 46, ev x), (w.heap.size, 50, sv s)]) 5 #[true, true, true, true, true, true, true, true, true, true, true, false, true, false, false, true, false, false] { tmps := #[.agg (sv s), .agg (ev x), .pointer (some ⟨w.heap.size, 0, none⟩), .pointer (some ⟨w.heap.size + 1, 0, none⟩), .pointer (some ⟨w.heap.size + 1 + 1, 0, none⟩), .pointer (some ⟨g5, 0, none⟩), .pointer (some ⟨g6, 0, none⟩), .pointer (some ⟨g7, 0, none⟩), .pointer (some ⟨g8, 0, none⟩), .pointer (some ⟨g9, 0, none⟩), undef, .pointer (some ⟨g11, 0, none⟩), u12, u13, u14, u15, u16, u17, u18, u19, u20, u21, u22, u23, u24, u25, .agg (ev u), .agg (ev v), .agg (ev e), .pointer (some ⟨w.heap.size, 8, none⟩), .agg (ev (s.c)), .pointer (some ⟨w.heap.size, 12, none⟩), .agg (ev (s.d)), .agg (ev cd), .agg (ev le), .agg (ev m), .pointer (some ⟨w.heap.size, 8, none⟩), .agg (ev (s.c)), .pointer (some ⟨w.heap.size, 12, none⟩), .agg (ev (s.d)), u40, .agg (ev su), u42, u43, u44, u45, u46, u47, u48, u49, u50, u51, u52, u53, u54, u55, u56, u57, u58, u59, u60, u61, u62, u63], defers := [] } W := by
                as_aux_lemma =>
                  clear st2_14 st3_ st3_14 st4_ st3_1415 st4_15 st4_14 st4_1415
                  intro g11 W hHeld K15 Z15
                  rw [← hops]
                  refine wpAnyH_ready (rs := [11, 14]) (by kernel_rfl) (by simp) (AllReadyH.cons rfl (fun K hK => ?_) (AllReadyH.cons rfl (fun K hK => ?_) AllReadyH.nil))
                  · have KH15 := Lib.hid K15
                    have h0 := hHeld
                    clear hHeld
                    try simp only [List.getElem_toArray, List.getElem_cons_succ, List.getElem_cons_zero]
                    have H0 := Lib.hid h0
                    clear h0
                    go_simp
                    go_at_call 41
                    refine (subR H_ce.out _ (HPG.out.ext H0.out.below)).mono ?_
                    rintro e vv ⟨rfl, hb⟩
                    have KJ15 := Lib.hid (KH15.out.below hb KH15.out.lt)
                    have h1 := H0.out.ext hb
                    clear hb H0
                    go_wp2_with (fail)
                    refine hK.out _ _ h1 (fun hHeld => ?_)
                    clear hK K h1
                    try simp only [Act.put, List.getElem_toArray, List.getElem_cons_succ, List.getElem_cons_zero, List.setIfInBounds_toArray, List.set_cons_zero, List.set_cons_succ]
                    have k15 := KJ15.out
                    have z15 := Z15
                    refine wpAnyH_cast (n' := 4) (l' := #[true, true, true, true, true, true, true, true, true, true, true, true, true, false, false, true, false, false]) (by kernel_rfl) (by kernel_rfl) ?_
                    have hh := st3_15 g11 _ hHeld k15 z15
                    rw [← hops] at hh
                    exact hh
                  · have h0 := hHeld
                    clear hHeld
                    try simp only [List.getElem_toArray, List.getElem_cons_succ, List.getElem_cons_zero]
                    obtain ⟨kz, hg⟩ := Fn.fresh h0 46 #[.int .u64 0, .int .u64 0, .int .u64 0, .int .u64 0]
                    have KZ := Lib.hid kz
                    have HG := Lib.hid hg
                    have H0 := Lib.hid h0
                    clear kz hg h0
                    have KH15 := Lib.hid K15
                    go_simp
                    refine hK.out _ _ (Fn.pass H0.out _) (fun hHeld => ?_)
                    clear hK K H0
                    try simp only [Act.put, List.getElem_toArray, List.getElem_cons_succ, List.getElem_cons_zero, List.setIfInBounds_toArray, List.set_cons_zero, List.set_cons_succ]
                    have k15 := KH15.out.alloc (.cells #[.int .u64 0, .int .u64 0, .int .u64 0, .int .u64 0] 46)
                    have z15 := Z15
                    have k14 := KZ.out
                    have z14 := HG.out
                    refine wpAnyH_cast (n' := 4) (l' := #[true, true, true, true, true, true, true, true, true, true, true, false, true, false, true, true, false, false]) (by kernel_rfl) (by kernel_rfl) ?_
                    have hh := st2_1415 _ g11 _ hHeld k14 z14 k15 z15 (Ne.symm (Nat.ne_of_lt K15.lt))
                    rw [← hops] at hh
                    exact hh
              have st1_1415 : ∀ (g10 g11 : Nat) (W : World), Fn wd W [(g9, 46, ev e), (g8, 46, ev v), (g7, 46, ev u), (g6, 46, ev le), (g5, 46, ev su), (w.heap.size + 1, 46, ev x), (w.heap.size, 50, sv s)] → Blk W g10 46 #[.int .u64 0, .int .u64 0, .int .u64 0, .int .u64 0] → wd.heap.size ≤ g10 → Blk W g11 46 #[.int .u64 0, .int .u64 0, .int .u64 0, .int .u64 0] → wd.heap.size ≤ g11 → g10 ≠ g11 → wpAnyH Tryd.prog .any ops Q (fun W => Fn wd W [(g9, 46, ev e), (g8, 46, ev v), (g7, 46, ev u), (g6, 46, ev le), (g5, 46, ev su), (w.heap.size + 1, 46, ev x), (w.heap.size, 50, sv s)]) 5 #[true, true, true, true, true, true, false, true, true, true, true, false, true, false, true, true, false, false] { tmps := #[.agg (sv s), .agg (ev x), .pointer (some ⟨w.heap.size, 0, none⟩), .pointer (some ⟨w.heap.size + 1, 0, none⟩), .pointer (some ⟨w.heap.size + 1 + 1, 0, none⟩), .pointer (some ⟨g5, 0, none⟩), .pointer (some ⟨g6, 0, none⟩), .pointer (some ⟨g7, 0, none⟩), .pointer (some ⟨g8, 0, none⟩), .pointer (some ⟨g9, 0, none⟩), .pointer (some ⟨g10, 0, none⟩), .pointer (some ⟨g11, 0, none⟩), u12, u13, u14, u15, u16, u17, u18, u19, u20, u21, u22, u23, u24, u25, .agg (ev u), .agg (ev v), .agg (ev e), .pointer (some ⟨w.heap.size, 8, none⟩), .agg (ev (s.c)), .pointer (some ⟨w.heap.size, 12, none⟩), .agg (ev (s.d)), .agg (ev cd), .agg (ev le), u35, .pointer (some ⟨w.heap.size, 8, none⟩), .agg (ev (s.c)), .pointer (some ⟨w.heap.size, 12, none⟩), .agg (ev (s.d)), u40, .agg (ev su), u42, u43, u44, u45, u46, u47, u48, u49, u50, u51, u52, u53, u54, u55, u56, u57, u58, u59, u60, u61, u62, u63], defers := [] } W := by
                as_aux_lemma =>
                  clear st2_15 st2_14 st3_ st3_15 st3_14 st4_ st3_1415 st4_15 st4_14 st4_1415
                  intro g10 g11 W hHeld K14 Z14 K15 Z15 n14_15
                  rw [← hops]
                  refine wpAnyH_ready (rs := [6]) (by kernel_rfl) (by simp) (AllReadyH.cons rfl (fun K hK => ?_) AllReadyH.nil)
                  have KH14 := Lib.hid K14
                  have KH15 := Lib.hid K15
                  have h0 := hHeld
                  clear hHeld
                  try simp only [List.getElem_toArray, List.getElem_cons_succ, List.getElem_cons_zero]
                  have H0 := Lib.hid h0
                  clear h0
                  go_simp
                  go_at_call 29
                  refine (mulR H_m.out _ (HPG.out.ext H0.out.below)).mono ?_
                  rintro e vv ⟨rfl, hb⟩
                  have KJ14 := Lib.hid (KH14.out.below hb KH14.out.lt)
                  have KJ15 := Lib.hid (KH15.out.below hb KH15.out.lt)
                  have h1 := H0.out.ext hb
                  clear hb H0
                  go_wp2_with (fail)
                  refine hK.out _ _ h1 (fun hHeld => ?_)
                  clear hK K h1
                  try simp only [Act.put, List.getElem_toArray, List.getElem_cons_succ, List.getElem_cons_zero, List.setIfInBounds_toArray, List.set_cons_zero, List.set_cons_succ]
                  have k14 := KJ14.out
                  have k15 := KJ15.out
                  have z14 := Z14
                  have z15 := Z15
                  refine wpAnyH_cast (n' := 4) (l' := #[true, true, true, true, true, true, true, true, true, true, true, false, true, false, true, true, false, false]) (by kernel_rfl) (by kernel_rfl) ?_
                  have hh := st2_1415 g10 g11 _ hHeld k14 z14 k15 z15 n14_15
                  rw [← hops] at hh
                  exact hh
              have st2_ : ∀ (W : World), Fn wd W [(g9, 46, ev e), (g8, 46, ev v), (g7, 46, ev u), (g6, 46, ev le), (g5, 46, ev su), (w.heap.size + 1, 46, ev x), (w.heap.size, 50, sv s)] → wpAnyH Tryd.prog .any ops Q (fun W => Fn wd W [(g9, 46, ev e), (g8, 46, ev v), (g7, 46, ev u), (g6, 46, ev le), (g5, 46, ev su), (w.heap.size + 1, 46, ev x), (w.heap.size, 50, sv s)]) 6 #[true, true, true, true, true, true, true, true, true, true, true, false, true, false, false, false, false, false] { tmps := #[.agg (sv s), .agg (ev x), .pointer (some ⟨w.heap.size, 0, none⟩), .pointer (some ⟨w.heap.size + 1, 0, none⟩), .pointer (some ⟨w.heap.size + 1 + 1, 0, none⟩), .pointer (some ⟨g5, 0, none⟩), .pointer (some ⟨g6, 0, none⟩), .pointer (some ⟨g7, 0, none⟩), .pointer (some ⟨g8, 0, none⟩), .pointer (some ⟨g9, 0, none⟩), undef, undef, u12, u13, u14, u15, u16, u17, u18, u19, u20, u21, u22, u23, u24, u25, .agg (ev u), .agg (ev v), .agg (ev e), .pointer (some ⟨w.heap.size, 8, none⟩), .agg (ev (s.c)), .pointer (some ⟨w.heap.size, 12, none⟩), .agg (ev (s.d)), .agg (ev cd), .agg (ev le), .agg (ev m), .pointer (some ⟨w.heap.size, 8, none⟩), .agg (ev (s.c)), .pointer (some ⟨w.heap.size, 12, none⟩), .agg (ev (s.d)), u40, .agg (ev su), u42, u43, u44, u45, u46, u47, u48, u49, u50, u51, u52, u53, u54, u55, u56, u57, u58, u59, u60, u61, u62, u63], defers := [] } W := by
                as_aux_lemma =>
                  clear st1_1415 st2_1415 st3_15 st3_14 st4_ st3_1415 st4_15 st4_14 st4_1415
                  intro W hHeld
                  rw [← hops]
                  refine wpAnyH_ready (rs := [11, 14, 15]) (by kernel_rfl) (by simp) (AllReadyH.cons rfl (fun K hK => ?_) (AllReadyH.cons rfl (fun K hK => ?_) (AllReadyH.cons rfl (fun K hK => ?_) AllReadyH.nil)))
                  · have h0 := hHeld
                    clear hHeld
                    try simp only [List.getElem_toArray, List.getElem_cons_succ, List.getElem_cons_zero]
                    have H0 := Lib.hid h0
                    clear h0
                    go_simp
                    go_at_call 41
                    refine (subR H_ce.out _ (HPG.out.ext H0.out.below)).mono ?_
                    rintro e vv ⟨rfl, hb⟩
                    have h1 := H0.out.ext hb
                    clear hb H0
                    go_wp2_with (fail)
                    refine hK.out _ _ h1 (fun hHeld => ?_)
                    clear hK K h1
                    try simp only [Act.put, List.getElem_toArray, List.getElem_cons_succ, List.getElem_cons_zero, List.setIfInBounds_toArray, List.set_cons_zero, List.set_cons_succ]
                    refine wpAnyH_cast (n' := 5) (l' := #[true, true, true, true, true, true, true, true, true, true, true, true, true, false, false, false, false, false]) (by kernel_rfl) (by kernel_rfl) ?_
                    have hh := st3_ _ hHeld
                    rw [← hops] at hh
                    exact hh
                  · have h0 := hHeld
                    clear hHeld
                    try simp only [List.getElem_toArray, List.getElem_cons_succ, List.getElem_cons_zero]
                    obtain ⟨kz, hg⟩ := Fn.fresh h0 46 #[.int .u64 0, .int .u64 0, .int .u64 0, .int .u64 0]
                    have KZ := Lib.hid kz
                    have HG := Lib.hid hg
                    have H0 := Lib.hid h0
                    clear kz hg h0
                    go_simp
                    refine hK.out _ _ (Fn.pass H0.out _) (fun hHeld => ?_)
                    clear hK K H0
                    try simp only [Act.put, List.getElem_toArray, List.getElem_cons_succ, List.getElem_cons_zero, List.setIfInBounds_toArray, List.set_cons_zero, List.set_cons_succ]
                    have k14 := KZ.out
                    have z14 := HG.out
                    refine wpAnyH_cast (n' := 5) (l' := #[true, true, true, true, true, true, true, true, true, true, true, false, true, false, true, false, false, false]) (by kernel_rfl) (by kernel_rfl) ?_
                    have hh := st2_14 _ _ hHeld k14 z14
                    rw [← hops] at hh
                    exact hh
                  · have h0 := hHeld
                    clear hHeld
                    try simp only [List.getElem_toArray, List.getElem_cons_succ, List.getElem_cons_zero]
                    obtain ⟨kz, hg⟩ := Fn.fresh h0 46 #[.int .u64 0, .int .u64 0, .int .u64 0, .int .u64 0]
                    have KZ := Lib.hid kz
                    have HG := Lib.hid hg
                    have H0 := Lib.hid h0
                    clear kz hg h0
                    go_simp
                    refine hK.out _ _ (Fn.pass H0.out _) (fun hHeld => ?_)
                    clear hK K H0
                    try simp only [Act.put, List.getElem_toArray, List.getElem_cons_succ, List.getElem_cons_zero, List.setIfInBounds_toArray, List.set_cons_zero, List.set_cons_succ]
                    have k15 := KZ.out
                    have z15 := HG.out
                    refine wpAnyH_cast (n' := 5) (l' := #[true, true, true, true, true, true, true, true, true, true, true, false, true, false, false, true, false, false]) (by kernel_rfl) (by kernel_rfl) ?_
                    have hh := st2_15 _ _ hHeld k15 z15
                    rw [← hops] at hh
                    exact hh
              have st1_14 : ∀ (g10 : Nat) (W : World), Fn wd W [(g9, 46, ev e), (g8, 46, ev v), (g7, 46, ev u), (g6, 46, ev le), (g5, 46, ev su), (w.heap.size + 1, 46, ev x), (w.heap.size, 50, sv s)] → Blk W g10 46 #[.int .u64 0, .int .u64 0, .int .u64 0, .int .u64 0] → wd.heap.size ≤ g10 → wpAnyH Tryd.prog .any ops Q (fun W => Fn wd W [(g9, 46, ev e), (g8, 46, ev v), (g7, 46, ev u), (g6, 46, ev le), (g5, 46, ev su), (w.heap.size + 1, 46, ev x), (w.heap.size, 50, sv s)]) 6 #[true, true, true, true, true, true, false, true, true, true, true, false, true, false, true, false, false, false] { tmps := #[.agg (sv s), .agg (ev x), .pointer (some ⟨w.heap.size, 0, none⟩), .pointer (some ⟨w.heap.size + 1, 0, none⟩), .pointer (some ⟨w.heap.size + 1 + 1, 0, none⟩), .pointer (some ⟨g5, 0, none⟩), .pointer (some ⟨g6, 0, none⟩), .pointer (some ⟨g7, 0, none⟩), .pointer (some ⟨g8, 0, none⟩), .pointer (some ⟨g9, 0, none⟩), .pointer (some ⟨g10, 0, none⟩), undef, u12, u13, u14, u15, u16, u17, u18, u19, u20, u21, u22, u23, u24, u25, .agg (ev u), .agg (ev v), .agg (ev e), .pointer (some ⟨w.heap.size, 8, none⟩), .agg (ev (s.c)), .pointer (some ⟨w.heap.size, 12, none⟩), .agg (ev (s.d)), .agg (ev cd), .agg (ev le), u35, .pointer (some ⟨w.heap.size, 8, none⟩), .agg (ev (s.c)), .pointer (some ⟨w.heap.size, 12, none⟩), .agg (ev (s.d)), u40, .agg (ev su), u42, u43, u44, u45, u46, u47, u48, u49, u50, u51, u52, u53, u54, u55, u56, u57, u58, u59, u60, u61, u62, u63], defers := [] } W := by
                as_aux_lemma =>
                  clear st2_ st2_15 st3_ st2_1415 st3_15 st3_14 st4_ st3_1415 st4_15 st4_14 st4_1415
                  intro g10 W hHeld K14 Z14
                  rw [← hops]
                  refine wpAnyH_ready (rs := [6, 15]) (by kernel_rfl) (by simp) (AllReadyH.cons rfl (fun K hK => ?_) (AllReadyH.cons rfl (fun K hK => ?_) AllReadyH.nil))
                  · have KH14 := Lib.hid K14
                    have h0 := hHeld
                    clear hHeld
                    try simp only [List.getElem_toArray, List.getElem_cons_succ, List.getElem_cons_zero]
                    have H0 := Lib.hid h0
                    clear h0
                    go_simp
                    go_at_call 29
                    refine (mulR H_m.out _ (HPG.out.ext H0.out.below)).mono ?_
                    rintro e vv ⟨rfl, hb⟩
                    have KJ14 := Lib.hid (KH14.out.below hb KH14.out.lt)
                    have h1 := H0.out.ext hb
                    clear hb H0
                    go_wp2_with (fail)
                    refine hK.out _ _ h1 (fun hHeld => ?_)
                    clear hK K h1
                    try simp only [Act.put, List.getElem_toArray, List.getElem_cons_succ, List.getElem_cons_zero, List.setIfInBounds_toArray, List.set_cons_zero, List.set_cons_succ]
                    have k14 := KJ14.out
                    have z14 := Z14
                    refine wpAnyH_cast (n' := 5) (l' := #[true, true, true, true, true, true, true, true, true, true, true, false, true, false, true, false, false, false]) (by kernel_rfl) (by kernel_rfl) ?_
                    have hh := st2_14 g10 _ hHeld k14 z14
                    rw [← hops] at hh
                    exact hh
                  · have h0 := hHeld
                    clear hHeld
                    try simp only [List.getElem_toArray, List.getElem_cons_succ, List.getElem_cons_zero]
                    obtain ⟨kz, hg⟩ := Fn.fresh h0 46 #[.int .u64 0, .int .u64 0, .int .u64 0, .int .u64 0]
                    have KZ := Lib.hid kz
                    have HG := Lib.hid hg
                    have H0 := Lib.hid h0
                    clear kz hg h0
                    have KH14 := Lib.hid K14
                    go_simp
                    refine hK.out _ _ (Fn.pass H0.out _) (fun hHeld => ?_)
                    clear hK K H0
                    try simp only [Act.put, List.getElem_toArray, List.getElem_cons_succ, List.getElem_cons_zero, List.setIfInBounds_toArray, List.set_cons_zero, List.set_cons_succ]
                    have k14 := KH14.out.alloc (.cells #[.int .u64 0, .int .u64 0, .int .u64 0, .int .u64 0] 46)
                    have z14 := Z14
                    have k15 := KZ.out
                    have z15 := HG.out
                    refine wpAnyH_cast (n' := 5) (l' := #[true, true, true, true, true, true, false, true, true, true, true, false, true, false, true, true, false, false]) (by kernel_rfl) (by kernel_rfl) ?_
                    have hh := st1_1415 g10 _ _ hHeld k14 z14 k15 z15 (Nat.ne_of_lt K14.lt)
                    rw [← hops] at hh
                    exact hh
              have st1_15 : ∀ (g11 : Nat) (W : World), Fn wd W [(g9, 46, ev e), (g8, 46, ev v), (g7, 46, ev u), (g6, 46, ev le), (g5, 46, ev su), (w.heap.size + 1, 46, ev x), (w.heap.size, 50, sv s)] → Blk W g11 46 #[.int .u64 0, .int .u64 0, .int .u64 0, .int .u64 0] → wd.heap.size ≤ g11 → wpAnyH Tryd.prog .any ops Q (fun W => Fn wd W [(g9, 46, ev e), (g8, 46, ev v), (g7, 46, ev u), (g6, 46, ev le), (g5, 46, ev su), (w.heap.size + 1, 46, ev x), (w.heap.size, 50, sv s)]) 6 #[true, true, true, true, true, true, false, true, true, true, true, false, true, false, false, true, false, false] { tmps := #[.agg (sv s), .agg (ev x), .pointer (some ⟨w.heap.size, 0, none⟩), .pointer (some ⟨w.heap.size + 1, 0, none⟩), .pointer (some ⟨w.heap.size + 1 + 1, 0, none⟩), .pointer (some ⟨g5, 0, none⟩), .pointer (some ⟨g6, 0, none⟩), .pointer (some ⟨g7, 0, none⟩), .pointer (some ⟨g8, 0, none⟩), .pointer (some ⟨g9, 0, none⟩), undef, .pointer (some ⟨g11, 0, none⟩), u12, u13, u14, u15, u16, u17, u18, u19, u20, u21, u22, u23, u24, u25, .agg (ev u), .agg (ev v), .agg (ev e), .pointer (some ⟨w.heap.size, 8, none⟩), .agg (ev (s.c)), .pointer (some ⟨w.heap.size, 12, none⟩), .agg (ev (s.d)), .agg (ev cd), .agg (ev le), u35, .pointer (some ⟨w.heap.size, 8, none⟩), .agg (ev (s.c)), .pointer (some ⟨w.heap.size, 12, none⟩), .agg (ev (s.d)), u40, .agg (ev su), u42, u43, u44, u45, u46, u47, u48, u49, u50, u51, u52, u53, u54, u55, u56, u57, u58, u59, u60, u61, u62, u63], defers := [] } W := by
                as_aux_lemma =>
                  clear st1_14 st2_ st2_14 st3_ st2_1415 st3_15 st3_14 st4_ st3_1415 st4_15 st4_14 st4_1415
                  intro g11 W hHeld K15 Z15
                  rw [← hops]
                  refine wpAnyH_ready (rs := [6, 14]) (by kernel_rfl) (by simp) (AllReadyH.cons rfl (fun K hK => ?_) (AllReadyH.cons rfl (fun K hK => ?_) AllReadyH.nil))
                  · have KH15 := Lib.hid K15
                    have h0 := hHeld
                    clear hHeld
                    try simp only [List.getElem_toArray, List.getElem_cons_succ, List.getElem_cons_zero]
                    have H0 := Lib.hid h0
                    clear h0
                    go_simp
                    go_at_call 29
                    refine (mulR H_m.out _ (HPG.out.ext H0.out.below)).mono ?_
                    rintro e vv ⟨rfl, hb⟩
                    have KJ15 := Lib.hid (KH15.out.below hb KH15.out.lt)
                    have h1 := H0.out.ext hb
                    clear hb H0
                    go_wp2_with (fail)
                    refine hK.out _ _ h1 (fun hHeld => ?_)
                    clear hK K h1
                    try simp only [Act.put, List.getElem_toArray, List.getElem_cons_succ, List.getElem_cons_zero, List.setIfInBounds_toArray, List.set_cons_zero, List.set_cons_succ]
                    have k15 := KJ15.out
                    have z15 := Z15
                    refine wpAnyH_cast (n' := 5) (l' := #[true, true, true, true, true, true, true, true, true, true, true, false, true, false, false, true, false, false]) (by kernel_rfl) (by kernel_rfl) ?_
                    have hh := st2_15 g11 _ hHeld k15 z15
                    rw [← hops] at hh
                    exact hh
                  · have h0 := hHeld
                    clear hHeld
                    try simp only [List.getElem_toArray, List.getElem_cons_succ, List.getElem_cons_zero]
                    obtain ⟨kz, hg⟩ := Fn.fresh h0 46 #[.int .u64 0, .int .u64 0, .int .u64 0, .int .u64 0]
                    have KZ := Lib.hid kz
                    have HG := Lib.hid hg
                    have H0 := Lib.hid h0
                    clear kz hg h0
                    have KH15 := Lib.hid K15
                    go_simp
                    refine hK.out _ _ (Fn.pass H0.out _) (fun hHeld => ?_)
                    clear hK K H0
                    try simp only [Act.put, List.getElem_toArray, List.getElem_cons_succ, List.getElem_cons_zero, List.setIfInBounds_toArray, List.set_cons_zero, List.set_cons_succ]
                    have k15 := KH15.out.alloc (.cells #[.int .u64 0, .int .u64 0, .int .u64 0, .int .u64 0] 46)
                    have z15 := Z15
                    have k14 := KZ.out
                    have z14 := HG.out
                    refine wpAnyH_cast (n' := 5) (l' := #[true, true, true, true, true, true, false, true, true, true, true, false, true, false, true, true, false, false]) (by kernel_rfl) (by kernel_rfl) ?_
                    have hh := st1_1415 _ g11 _ hHeld k14 z14 k15 z15 (Ne.symm (Nat.ne_of_lt K15.lt))
                    rw [← hops] at hh
                    exact hh
              have st0_1415 : ∀ (g10 g11 : Nat) (W : World), Fn wd W [(g9, 46, ev e), (g8, 46, ev v), (g7, 46, ev u), (g6, 46, ev le), (g5, 46, ev su), (w.heap.size + 1, 46, ev x), (w.heap.size, 50, sv s)] → Blk W g10 46 #[.int .u64 0, .int .u64 0, .int .u64 0, .int .u64 0] → wd.heap.size ≤ g10 → Blk W g11 46 #[.int .u64 0, .int .u64 0, .int .u64 0, .int .u64 0] → wd.heap.size ≤ g11 → g10 ≠ g11 → wpAnyH Tryd.prog .any ops Q (fun W => Fn wd W [(g9, 46, ev e), (g8, 46, ev v), (g7, 46, ev u), (g6, 46, ev le), (g5, 46, ev su), (w.heap.size + 1, 46, ev x), (w.heap.size, 50, sv s)]) 6 #[true, true, true, true, false, true, false, true, true, true, true, false, true, false, true, true, false, false] { tmps := #[.agg (sv s), .agg (ev x), .pointer (some ⟨w.heap.size, 0, none⟩), .pointer (some ⟨w.heap.size + 1, 0, none⟩), .pointer (some ⟨w.heap.size + 1 + 1, 0, none⟩), .pointer (some ⟨g5, 0, none⟩), .pointer (some ⟨g6, 0, none⟩), .pointer (some ⟨g7, 0, none⟩), .pointer (some ⟨g8, 0, none⟩), .pointer (some ⟨g9, 0, none⟩), .pointer (some ⟨g10, 0, none⟩), .pointer (some ⟨g11, 0, none⟩), u12, u13, u14, u15, u16, u17, u18, u19, u20, u21, u22, u23, u24, u25, .agg (ev u), .agg (ev v), .agg (ev e), .pointer (some ⟨w.heap.size, 8, none⟩), .agg (ev (s.c)), .pointer (some ⟨w.heap.size, 12, none⟩), .agg (ev (s.d)), u33, .agg (ev le), u35, .pointer (some ⟨w.heap.size, 8, none⟩), .agg (ev (s.c)), .pointer (some ⟨w.heap.size, 12, none⟩), .agg (ev (s.d)), u40, .agg (ev su), u42, u43, u44, u45, u46, u47, u48, u49, u50, u51, u52, u53, u54, u55, u56, u57, u58, u59, u60, u61, u62, u63], defers := [] } W := by
                as_aux_lemma =>
                  clear st1_15 st1_14 st2_ st2_15 st2_14 st3_ st2_1415 st3_15 st3_14 st4_ st3_1415 st4_15 st4_14 st4_1415
                  intro g10 g11 W hHeld K14 Z14 K15 Z15 n14_15
                  rw [← hops]
                  refine wpAnyH_ready (rs := [4]) (by kernel_rfl) (by simp) (AllReadyH.cons rfl (fun K hK => ?_) AllReadyH.nil)
                  have KH14 := Lib.hid K14
                  have KH15 := Lib.hid K15
                  have h0 := hHeld
                  clear hHeld
                  try simp only [List.getElem_toArray, List.getElem_cons_succ, List.getElem_cons_zero]
                  have H0 := Lib.hid h0
                  clear h0
                  go_simp
                  go_at_call 40
                  refine (addR H_cd.out _ (HPG.out.ext H0.out.below)).mono ?_
                  rintro e vv ⟨rfl, hb⟩
                  have KJ14 := Lib.hid (KH14.out.below hb KH14.out.lt)
                  have KJ15 := Lib.hid (KH15.out.below hb KH15.out.lt)
                  have h1 := H0.out.ext hb
                  clear hb H0
                  go_wp2_with (fail)
                  refine hK.out _ _ h1 (fun hHeld => ?_)
                  clear hK K h1
                  try simp only [Act.put, List.getElem_toArray, List.getElem_cons_succ, List.getElem_cons_zero, List.setIfInBounds_toArray, List.set_cons_zero, List.set_cons_succ]
                  have k14 := KJ14.out
                  have k15 := KJ15.out
                  have z14 := Z14
                  have z15 := Z15
                  refine wpAnyH_cast (n' := 5) (l' := #[true, true, true, true, true, true, false, true, true, true, true, false, true, false, true, true, false, false]) (by kernel_rfl) (by kernel_rfl) ?_
                  have hh := st1_1415 g10 g11 _ hHeld k14 z14 k15 z15 n14_15
                  rw [← hops] at hh
                  exact hh
              have st1_ : ∀ (W : World), Fn wd W [(g9, 46, ev e), (g8, 46, ev v), (g7, 46, ev u), (g6, 46, ev le), (g5, 46, ev su), (w.heap.size + 1, 46, ev x), (w.heap.size, 50, sv s)] → wpAnyH Tryd.prog .any ops Q (fun W => Fn wd W [(g9, 46, ev e), (g8, 46, ev v), (g7, 46, ev u), (g6, 46, ev le), (g5, 46, ev su), (w.heap.size + 1, 46, ev x), (w.heap.size, 50, sv s)]) 7 #[true, true, true, true, true, true, false, true, true, true, true, false, true, false, false, false, false, false] { tmps := #[.agg (sv s), .agg (ev x), .pointer (some ⟨w.heap.size, 0, none⟩), .pointer (some ⟨w.heap.size + 1, 0, none⟩), .pointer (some ⟨w.heap.size + 1 + 1, 0, none⟩), .pointer (some ⟨g5, 0, none⟩), .pointer (some ⟨g6, 0, none⟩), .pointer (some ⟨g7, 0, none⟩), .pointer (some ⟨g8, 0, none⟩), .pointer (some ⟨g9, 0, none⟩), undef, undef, u12, u13, u14, u15, u16, u17, u18, u19, u20, u21, u22, u23, u24, u25, .agg (ev u), .agg (ev v), .agg (ev e), .pointer (some ⟨w.heap.size, 8, none⟩), .agg (ev (s.c)), .pointer (some ⟨w.heap.size, 12, none⟩), .agg (ev (s.d)), .agg (ev cd), .agg (ev le), u35, .pointer (some ⟨w.heap.size, 8, none⟩), .agg (ev (s.c)), .pointer (some ⟨w.heap.size, 12, none⟩), .agg (ev (s.d)), u40, .agg (ev su), u42, u43, u44, u45, u46, u47, u48, u49, u50, u51, u52, u53, u54, u55, u56, u57, u58, u59, u60, u61, u62, u63], defers := [] } W := by
                as_aux_lemma =>
                  clear st0_1415 st1_1415 st2_15 st2_14 st3_ st2_1415 st3_15 st3_14 st4_ st3_1415 st4_15 st4_14 st4_1415
                  intro W hHeld
                  rw [← hops]
                  refine wpAnyH_ready (rs := [6, 14, 15]) (by kernel_rfl) (by simp) (AllReadyH.cons rfl (fun K hK => ?_) (AllReadyH.cons rfl (fun K hK => ?_) (AllReadyH.cons rfl (fun K hK => ?_) AllReadyH.nil)))
                  · have h0 := hHeld
                    clear hHeld
                    try simp only [List.getElem_toArray, List.getElem_cons_succ, List.getElem_cons_zero]
                    have H0 := Lib.hid h0
                    clear h0
                    go_simp
                    go_at_call 29
                    refine (mulR H_m.out _ (HPG.out.ext H0.out.below)).mono ?_
                    rintro e vv ⟨rfl, hb⟩
                    have h1 := H0.out.ext hb
                    clear hb H0
                    go_wp2_with (fail)
                    refine hK.out _ _ h1 (fun hHeld => ?_)
                    clear hK K h1
                    try simp only [Act.put, List.getElem_toArray, List.getElem_cons_succ, List.getElem_cons_zero, List.setIfInBounds_toArray, List.set_cons_zero, List.set_cons_succ]
                    refine wpAnyH_cast (n' := 6) (l' := #[true, true, true, true, true, true, true, true, true, true, true, false, true, false, false, false, false, false]) (by kernel_rfl) (by kernel_rfl) ?_
                    have hh := st2_ _ hHeld
                    rw [← hops] at hh
                    exact hh
                  · have h0 := hHeld
                    clear hHeld
                    try simp only [List.getElem_toArray, List.getElem_cons_succ, List.getElem_cons_zero]
                    obtain ⟨kz, hg⟩ := Fn.fresh h0 46 #[.int .u64 0, .int .u64 0, .int .u64 0, .int .u64 0]
                    have KZ := Lib.hid kz
                    have HG := Lib.hid hg
                    have H0 := Lib.hid h0
                    clear kz hg h0
                    go_simp
                    refine hK.out _ _ (Fn.pass H0.out _) (fun hHeld => ?_)
                    clear hK K H0
                    try simp only [Act.put, List.getElem_toArray, List.getElem_cons_succ, List.getElem_cons_zero, List.setIfInBounds_toArray, List.set_cons_zero, List.set_cons_succ]
                    have k14 := KZ.out
                    have z14 := HG.out
                    refine wpAnyH_cast (n' := 6) (l' := #[true, true, true, true, true, true, false, true, true, true, true, false, true, false, true, false, false, false]) (by kernel_rfl) (by kernel_rfl) ?_
                    have hh := st1_14 _ _ hHeld k14 z14
                    rw [← hops] at hh
                    exact hh
                  · have h0 := hHeld
                    clear hHeld
                    try simp only [List.getElem_toArray, List.getElem_cons_succ, List.getElem_cons_zero]
                    obtain ⟨kz, hg⟩ := Fn.fresh h0 46 #[.int .u64 0, .int .u64 0, .int .u64 0, .int .u64 0]
                    have KZ := Lib.hid kz
                    have HG := Lib.hid hg
                    have H0 := Lib.hid h0
                    clear kz hg h0
                    go_simp
                    refine hK.out _ _ (Fn.pass H0.out _) (fun hHeld => ?_)
                    clear hK K H0
                    try simp only [Act.put, List.getElem_toArray, List.getElem_cons_succ, List.getElem_cons_zero, List.setIfInBounds_toArray, List.set_cons_zero, List.set_cons_succ]
                    have k15 := KZ.out
                    have z15 := HG.out
                    refine wpAnyH_cast (n' := 6) (l' := #[true, true, true, true, true, true, false, true, true, true, true, false, true, false, false, true, false, false]) (by kernel_rfl) (by kernel_rfl) ?_
                    have hh := st1_15 _ _ hHeld k15 z15
                    rw [← hops] at hh
                    exact hh
              have st0_14 : ∀ (g10 : Nat) (W : World), Fn wd W [(g9, 46, ev e), (g8, 46, ev v), (g7, 46, ev u), (g6, 46, ev le), (g5, 46, ev su), (w.heap.size + 1, 46, ev x), (w.heap.size, 50, sv s)] → Blk W g10 46 #[.int .u64 0, .int .u64 0, .int .u64 0, .int .u64 0] → wd.heap.size ≤ g10 → wpAnyH Tryd.prog .any ops Q (fun W => Fn wd W [(g9, 46, ev e), (g8, 46, ev v), (g7, 46, ev u), (g6, 46, ev le), (g5, 46, ev su), (w.heap.size + 1, 46, ev x), (w.heap.size, 50, sv s)]) 7 #[true, true, true, true, false, true, false, true, true, true, true, false, true, false, true, false, false, false] { tmps := #[.agg (sv s), .agg (ev x), .pointer (some ⟨w.heap.size, 0, none⟩), .pointer (some ⟨w.heap.size + 1, 0, none⟩), .pointer (some ⟨w.heap.size + 1 + 1, 0, none⟩), .pointer (some ⟨g5, 0, none⟩), .pointer (some ⟨g6, 0, none⟩), .pointer (some ⟨g7, 0, none⟩), .pointer (some ⟨g8, 0, none⟩), .pointer (some ⟨g9, 0, none⟩), .pointer (some ⟨g10, 0, none⟩), undef, u12, u13, u14, u15, u16, u17, u18, u19, u20, u21, u22, u23, u24, u25, .agg (ev u), .agg (ev v), .agg (ev e), .pointer (some ⟨w.heap.size, 8, none⟩), .agg (ev (s.c)), .pointer (some ⟨w.heap.size, 12, none⟩), .agg (ev (s.d)), u33, .agg (ev le), u35, .pointer (some ⟨w.heap.size, 8, none⟩), .agg (ev (s.c)), .pointer (some ⟨w.heap.size, 12, none⟩), .agg (ev (s.d)), u40, .agg (ev su), u42, u43, u44, u45, u46, u47, u48, u49, u50, u51, u52, u53, u54, u55, u56, u57, u58, u59, u60, u61, u62, u63], defers := [] } W := by
                as_aux_lemma =>
                  clear st1_ st1_15 st2_ st1_1415 st2_15 st2_14 st3_ st2_1415 st3_15 st3_14 st4_ st3_1415 st4_15 st4_14 st4_1415
                  intro g10 W hHeld K14 Z14
                  rw [← hops]
                  refine wpAnyH_ready (rs := [4, 15]) (by kernel_rfl) (by simp) (AllReadyH.cons rfl (fun K hK => ?_) (AllReadyH.cons rfl (fun K hK => ?_) AllReadyH.nil))
                  · have KH14 := Lib.hid K14
                    have h0 := hHeld
                    clear hHeld
                    try simp only [List.getElem_toArray, List.getElem_cons_succ, List.getElem_cons_zero]
                    have H0 := Lib.hid h0
                    clear h0
                    go_simp
                    go_at_call 40
                    refine (addR H_cd.out _ (HPG.out.ext H0.out.below)).mono ?_
                    rintro e vv ⟨rfl, hb⟩
                    have KJ14 := Lib.hid (KH14.out.below hb KH14.out.lt)
                    have h1 := H0.out.ext hb
                    clear hb H0
                    go_wp2_with (fail)
                    refine hK.out _ _ h1 (fun hHeld => ?_)
                    clear hK K h1
                    try simp only [Act.put, List.getElem_toArray, List.getElem_cons_succ, List.getElem_cons_zero, List.setIfInBounds_toArray, List.set_cons_zero, List.set_cons_succ]
                    have k14 := KJ14.out
                    have z14 := Z14
                    refine wpAnyH_cast (n' := 6) (l' := #[true, true, true, true, true, true, false, true, true, true, true, false, true, false, true, false, false, false]) (by kernel_rfl) (by kernel_rfl) ?_
                    have hh := st1_14 g10 _ hHeld k14 z14
                    rw [← hops] at hh
                    exact hh
                  · have h0 := hHeld
                    clear hHeld
                    try simp only [List.getElem_toArray, List.getElem_cons_succ, List.getElem_cons_zero]
                    obtain ⟨kz, hg⟩ := Fn.fresh h0 46 #[.int .u64 0, .int .u64 0, .int .u64 0, .int .u64 0]
                    have KZ := Lib.hid kz
                    have HG := Lib.hid hg
                    have H0 := Lib.hid h0
                    clear kz hg h0
                    have KH14 := Lib.hid K14
                    go_simp
                    refine hK.out _ _ (Fn.pass H0.out _) (fun hHeld => ?_)
                    clear hK K H0
                    try simp only [Act.put, List.getElem_toArray, List.getElem_cons_succ, List.getElem_cons_zero, List.setIfInBounds_toArray, List.set_cons_zero, List.set_cons_succ]
                    have k14 := KH14.out.alloc (.cells #[.int .u64 0, .int .u64 0, .int .u64 0, .int .u64 0] 46)
                    have z14 := Z14
                    have k15 := KZ.out
                    have z15 := HG.out
                    refine wpAnyH_cast (n' := 6) (l' := #[true, true, true, true, false, true, false, true, true, true, true, false, true, false, true, true, false, false]) (by kernel_rfl) (by kernel_rfl) ?_
                    have hh := st0_1415 g10 _ _ hHeld k14 z14 k15 z15 (Nat.ne_of_lt K14.lt)
                    rw [← hops] at hh
                    exact hh
              have st0_15 : ∀ (g11 : Nat) (W : World), Fn wd W [(g9, 46, ev e), (g8, 46, ev v), (g7, 46, ev u), (g6, 46, ev le), (g5, 46, ev su), (w.heap.size + 1, 46, ev x), (w.heap.size, 50, sv s)] → Blk W g11 46 #[.int .u64 0, .int .u64 0, .int .u64 0, .int .u64 0] → wd.heap.size ≤ g11 → wpAnyH Tryd.prog .any ops Q (fun W => Fn wd W [(g9, 46, ev e), (g8, 46, ev v), (g7, 46, ev u), (g6, 46, ev le), (g5, 46, ev su), (w.heap.size + 1, 46, ev x), (w.heap.size, 50, sv s)]) 7 #[true, true, true, true, false, true, false, true, true, true, true, false, true, false, false, true, false, false] { tmps := #[.agg (sv s), .agg (ev x), .pointer (some ⟨w.heap.size, 0, none⟩), .pointer (some ⟨w.heap.size + 1, 0, none⟩), .pointer (some ⟨w.heap.size + 1 + 1, 0, none⟩), .pointer (some ⟨g5, 0, none⟩), .pointer (some ⟨g6, 0, none⟩), .pointer (some ⟨g7, 0, none⟩), .pointer (some ⟨g8, 0, none⟩), .pointer (some ⟨g9, 0, none⟩), undef, .pointer (some ⟨g11, 0, none⟩), u12, u13, u14, u15, u16, u17, u18, u19, u20, u21, u22, u23, u24, u25, .agg (ev u), .agg (ev v), .agg (ev e), .pointer (some ⟨w.heap.size, 8, none⟩), .agg (ev (s.c)), .pointer (some ⟨w.heap.size, 12, none⟩), .agg (ev (s.d)), u33, .agg (ev le), u35, .pointer (some ⟨w.heap.size, 8, none⟩), .agg (ev (s.c)), .pointer (some ⟨w.heap.size, 12, none⟩), .agg (ev (s.d)), u40, .agg (ev su), u42, u43, u44, u45, u46, u47, u48, u49, u50, u51, u52, u53, u54, u55, u56, u57, u58, u59, u60, u61, u62, u63], defers := [] } W := by
                as_aux_lemma =>
                  clear st0_14 st1_ st1_14 st2_ st1_1415 st2_15 st2_14 st3_ st2_1415 st3_15 st3_14 st4_ st3_1415 st4_15 st4_14 st4_1415
                  intro g11 W hHeld K15 Z15
                  rw [← hops]
                  refine wpAnyH_ready (rs := [4, 14]) (by kernel_rfl) (by simp) (AllReadyH.cons rfl (fun K hK => ?_) (AllReadyH.cons rfl (fun K hK => ?_) AllReadyH.nil))
                  · have KH15 := Lib.hid K15
                    have h0 := hHeld
                    clear hHeld
                    try simp only [List.getElem_toArray, List.getElem_cons_succ, List.getElem_cons_zero]
                    have H0 := Lib.hid h0
                    clear h0
                    go_simp
                    go_at_call 40
                    refine (addR H_cd.out _ (HPG.out.ext H0.out.below)).mono ?_
                    rintro e vv ⟨rfl, hb⟩
                    have KJ15 := Lib.hid (KH15.out.below hb KH15.out.lt)
                    have h1 := H0.out.ext hb
                    clear hb H0
                    go_wp2_with (fail)
                    refine hK.out _ _ h1 (fun hHeld => ?_)
                    clear hK K h1
                    try simp only [Act.put, List.getElem_toArray, List.getElem_cons_succ, List.getElem_cons_zero, List.setIfInBounds_toArray, List.set_cons_zero, List.set_cons_succ]
                    have k15 := KJ15.out
                    have z15 := Z15
                    refine wpAnyH_cast (n' := 6) (l' := #[true, true, true, true, true, true, false, true, true, true, true, false, true, false, false, true, false, false]) (by kernel_rfl) (by kernel_rfl) ?_
                    have hh := st1_15 g11 _ hHeld k15 z15
                    rw [← hops] at hh
                    exact hh
                  · have h0 := hHeld
                    clear hHeld
                    try simp only [List.getElem_toArray, List.getElem_cons_succ, List.getElem_cons_zero]
                    obtain ⟨kz, hg⟩ := Fn.fresh h0 46 #[.int .u64 0, .int .u64 0, .int .u64 0, .int .u64 0]
                    have KZ := Lib.hid kz
                    have HG := Lib.hid hg
                    have H0 := Lib.hid h0
                    clear kz hg h0
                    have KH15 := Lib.hid K15
                    go_simp
                    refine hK.out _ _ (Fn.pass H0.out _) (fun hHeld => ?_)
                    clear hK K H0
                    try simp only [Act.put, List.getElem_toArray, List.getElem_cons_succ, List.getElem_cons_zero, List.setIfInBounds_toArray, List.set_cons_zero, List.set_cons_succ]
                    have k15 := KH15.out.alloc (.cells #[.int .u64 0, .int .u64 0, .int .u64 0, .int .u64 0] 46)
                    have z15 := Z15
                    have k14 := KZ.out
                    have z14 := HG.out
                    refine wpAnyH_cast (n' := 6) (l' := #[true, true, true, true, false, true, false, true, true, true, true, false, true, false, true, true, false, false]) (by kernel_rfl) (by kernel_rfl) ?_
                    have hh := st0_1415 _ g11 _ hHeld k14 z14 k15 z15 (Ne.symm (Nat.ne_of_lt K15.lt))
                    rw [← hops] at hh
                    exact hh
              have st0_ : ∀ (W : World), Fn wd W [(g9, 46, ev e), (g8, 46, ev v), (g7, 46, ev u), (g6, 46, ev le), (g5, 46, ev su), (w.heap.size + 1, 46, ev x), (w.heap.size, 50, sv s)] → wpAnyH Tryd.prog .any ops Q (fun W => Fn wd W [(g9, 46, ev e), (g8, 46, ev v), (g7, 46, ev u), (g6, 46, ev le), (g5, 46, ev su), (w.heap.size + 1, 46, ev x), (w.heap.size, 50, sv s)]) 8 #[true, true, true, true, false, true, false, true, true, true, true, false, true, false, false, false, false, false] { tmps := #[.agg (sv s), .agg (ev x), .pointer (some ⟨w.heap.size, 0, none⟩), .pointer (some ⟨w.heap.size + 1, 0, none⟩), .pointer (some ⟨w.heap.size + 1 + 1, 0, none⟩), .pointer (some ⟨g5, 0, none⟩), .pointer (some ⟨g6, 0, none⟩), .pointer (some ⟨g7, 0, none⟩), .pointer (some ⟨g8, 0, none⟩), .pointer (some ⟨g9, 0, none⟩), undef, undef, u12, u13, u14, u15, u16, u17, u18, u19, u20, u21, u22, u23, u24, u25, .agg (ev u), .agg (ev v), .agg (ev e), .pointer (some ⟨w.heap.size, 8, none⟩), .agg (ev (s.c)), .pointer (some ⟨w.heap.size, 12, none⟩), .agg (ev (s.d)), u33, .agg (ev le), u35, .pointer (some ⟨w.heap.size, 8, none⟩), .agg (ev (s.c)), .pointer (some ⟨w.heap.size, 12, none⟩), .agg (ev (s.d)), u40, .agg (ev su), u42, u43, u44, u45, u46, u47, u48, u49, u50, u51, u52, u53, u54, u55, u56, u57, u58, u59, u60, u61, u62, u63], defers := [] } W := by
                as_aux_lemma =>
                  clear st0_1415 st1_15 st1_14 st2_ st1_1415 st2_15 st2_14 st3_ st2_1415 st3_15 st3_14 st4_ st3_1415 st4_15 st4_14 st4_1415
                  intro W hHeld
                  rw [← hops]
                  refine wpAnyH_ready (rs := [4, 14, 15]) (by kernel_rfl) (by simp) (AllReadyH.cons rfl (fun K hK => ?_) (AllReadyH.cons rfl (fun K hK => ?_) (AllReadyH.cons rfl (fun K hK => ?_) AllReadyH.nil)))
                  · have h0 := hHeld
                    clear hHeld
                    try simp only [List.getElem_toArray, List.getElem_cons_succ, List.getElem_cons_zero]
                    have H0 := Lib.hid h0
                    clear h0
                    go_simp
                    go_at_call 40
                    refine (addR H_cd.out _ (HPG.out.ext H0.out.below)).mono ?_
                    rintro e vv ⟨rfl, hb⟩
                    have h1 := H0.out.ext hb
                    clear hb H0
                    go_wp2_with (fail)
                    refine hK.out _ _ h1 (fun hHeld => ?_)
                    clear hK K h1
                    try simp only [Act.put, List.getElem_toArray, List.getElem_cons_succ, List.getElem_cons_zero, List.setIfInBounds_toArray, List.set_cons_zero, List.set_cons_succ]
                    refine wpAnyH_cast (n' := 7) (l' := #[true, true, true, true, true, true, false, true, true, true, true, false, true, false, false, false, false, false]) (by kernel_rfl) (by kernel_rfl) ?_
                    have hh := st1_ _ hHeld
                    rw [← hops] at hh
                    exact hh
                  · have h0 := hHeld
                    clear hHeld
                    try simp only [List.getElem_toArray, List.getElem_cons_succ, List.getElem_cons_zero]
                    obtain ⟨kz, hg⟩ := Fn.fresh h0 46 #[.int .u64 0, .int .u64 0, .int .u64 0, .int .u64 0]
                    have KZ := Lib.hid kz
                    have HG := Lib.hid hg
                    have H0 := Lib.hid h0
                    clear kz hg h0
                    go_simp
                    refine hK.out _ _ (Fn.pass H0.out _) (fun hHeld => ?_)
                    clear hK K H0
                    try simp only [Act.put, List.getElem_toArray, List.getElem_cons_succ, List.getElem_cons_zero, List.setIfInBounds_toArray, List.set_cons_zero, List.set_cons_succ]
                    have k14 := KZ.out
                    have z14 := HG.out
                    refine wpAnyH_cast (n' := 7) (l' := #[true, true, true, true, false, true, false, true, true, true, true, false, true, false, true, false, false, false]) (by kernel_rfl) (by kernel_rfl) ?_
                    have hh := st0_14 _ _ hHeld k14 z14
                    rw [← hops] at hh
                    exact hh
                  · have h0 := hHeld
                    clear hHeld
                    try simp only [List.getElem_toArray, List.getElem_cons_succ, List.getElem_cons_zero]
                    obtain ⟨kz, hg⟩ := Fn.fresh h0 46 #[.int .u64 0, .int .u64 0, .int .u64 0, .int .u64 0]
                    have KZ := Lib.hid kz
                    have HG := Lib.hid hg
                    have H0 := Lib.hid h0
                    clear kz hg h0
                    go_simp
                    refine hK.out _ _ (Fn.pass H0.out _) (fun hHeld => ?_)
                    clear hK K H0
                    try simp only [Act.put, List.getElem_toArray, List.getElem_cons_succ, List.getElem_cons_zero, List.setIfInBounds_toArray, List.set_cons_zero, List.set_cons_succ]
                    have k15 := KZ.out
                    have z15 := HG.out
                    refine wpAnyH_cast (n' := 7) (l' := #[true, true, true, true, false, true, false, true, true, true, true, false, true, false, false, true, false, false]) (by kernel_rfl) (by kernel_rfl) ?_
                    have hh := st0_15 _ _ hHeld k15 z15
                    rw [← hops] at hh
                    exact hh
              refine wpAnyH_cast (n' := 8) (l' := #[true, true, true, true, false, true, false, true, true, true, true, false, true, false, false, false, false, false]) (by kernel_rfl) (by kernel_rfl) ?_
              exact st0_ _ hHeld
          case rest =>
            as_aux_lemma =>
              obtain ⟨g10, g11, rfl, rfl, k10, k11, hb⟩ := hcut
              have n10 : g10 ≠ w.heap.size + 1 + 1 := by
                intro e
                obtain ⟨cs, _, kk⟩ := (HF.out.ext hb).old (g := w.heap.size + 1 + 1) (t := 50) (n := 16) (by simp)
                rw [← e] at kk
                exact absurd (k10.inj kk).1 (by decide)
              have n11 : g11 ≠ w.heap.size + 1 + 1 := by
                intro e
                obtain ⟨cs, _, kk⟩ := (HF.out.ext hb).old (g := w.heap.size + 1 + 1) (t := 50) (n := 16) (by simp)
                rw [← e] at kk
                exact absurd (k11.inj kk).1 (by decide)
              have hf2 := (((HF.out.ext hb).more k10).more k11)
              have hpg2 := HPG.out.ext hb
              clear HF HPG hb k10 k11
              have HF := Lib.hid hf2
              have HPG := Lib.hid hpg2
              clear hf2 hpg2
              obtain ⟨wf, hwc0⟩ : ∃ wz : World, wz = wc := ⟨_, rfl⟩
              rw [← hwc0] at HF HPG ⊢
              clear hwc0
              go_wp2_with (fail)
              refine wp_region_held_drew (S := fun W => Fr w W [(g11, 46, ev k), (g10, 46, ev m), (g9, 46, ev e), (g8, 46, ev v), (g7, 46, ev u), (g6, 46, ev le), (g5, 46, ev su), (w.heap.size + 1, 46, ev x), (w.heap.size, 50, sv s)] [(w.heap.size + 1 + 1, 50, 16)]) (by kernel_rfl) ?_ (fun hHeld => ?_)
              · exact HF.out.drew
              refine wpAnyH_take (i := 0) (v := .agg (ev u)) rfl (by kernel_rfl) (by kernel_rfl) (by kernel_rfl) (fun _ _ _ h => h) (yields_row (by rfl) 46 (.tmp 7) rfl (g7) rfl 46 (ev u) _ (fun W (h : Fr _ W _ _) => h.get (by simp)) Tryd.underlying46 rfl (info_ev _)) hHeld ?_
              try simp only [Act.put, List.getElem_toArray, List.getElem_cons_succ, List.getElem_cons_zero, List.setIfInBounds_toArray, List.set_cons_zero, List.set_cons_succ]
              refine wpAnyH_take (i := 1) (v := .agg (ev v)) rfl (by kernel_rfl) (by kernel_rfl) (by kernel_rfl) (fun _ _ _ h => h) (yields_row (by rfl) 46 (.tmp 8) rfl (g8) rfl 46 (ev v) _ (fun W (h : Fr _ W _ _) => h.get (by simp)) Tryd.underlying46 rfl (info_ev _)) hHeld ?_
              try simp only [Act.put, List.getElem_toArray, List.getElem_cons_succ, List.getElem_cons_zero, List.setIfInBounds_toArray, List.set_cons_zero, List.set_cons_succ]
              refine wpAnyH_take (i := 3) (v := .agg (ev e)) rfl (by kernel_rfl) (by kernel_rfl) (by kernel_rfl) (fun _ _ _ h => h) (yields_row (by rfl) 46 (.tmp 9) rfl (g9) rfl 46 (ev e) _ (fun W (h : Fr _ W _ _) => h.get (by simp)) Tryd.underlying46 rfl (info_ev _)) hHeld ?_
              try simp only [Act.put, List.getElem_toArray, List.getElem_cons_succ, List.getElem_cons_zero, List.setIfInBounds_toArray, List.set_cons_zero, List.set_cons_succ]
              refine wpAnyH_take (i := 4) (v := .agg (ev u)) rfl (by kernel_rfl) (by kernel_rfl) (by kernel_rfl) (fun _ _ _ h => h) (yields_row (by rfl) 46 (.tmp 7) rfl (g7) rfl 46 (ev u) _ (fun W (h : Fr _ W _ _) => h.get (by simp)) Tryd.underlying46 rfl (info_ev _)) hHeld ?_
              try simp only [Act.put, List.getElem_toArray, List.getElem_cons_succ, List.getElem_cons_zero, List.setIfInBounds_toArray, List.set_cons_zero, List.set_cons_succ]
              refine wpAnyH_take (i := 5) (v := .agg (ev e)) rfl (by kernel_rfl) (by kernel_rfl) (by kernel_rfl) (fun _ _ _ h => h) (yields_row (by rfl) 46 (.tmp 9) rfl (g9) rfl 46 (ev e) _ (fun W (h : Fr _ W _ _) => h.get (by simp)) Tryd.underlying46 rfl (info_ev _)) hHeld ?_
              try simp only [Act.put, List.getElem_toArray, List.getElem_cons_succ, List.getElem_cons_zero, List.setIfInBounds_toArray, List.set_cons_zero, List.set_cons_succ]
              refine wpAnyH_take (i := 10) (v := .agg (ev m)) rfl (by kernel_rfl) (by kernel_rfl) (by kernel_rfl) (fun _ _ _ h => h) (yields_row (by rfl) 46 (.tmp 10) rfl (g10) rfl 46 (ev m) _ (fun W (h : Fr _ W _ _) => h.get (by simp)) Tryd.underlying46 rfl (info_ev _)) hHeld ?_
              try simp only [Act.put, List.getElem_toArray, List.getElem_cons_succ, List.getElem_cons_zero, List.setIfInBounds_toArray, List.set_cons_zero, List.set_cons_succ]
              refine wpAnyH_take (i := 11) (v := .agg (ev k)) rfl (by kernel_rfl) (by kernel_rfl) (by kernel_rfl) (fun _ _ _ h => h) (yields_row (by rfl) 46 (.tmp 11) rfl (g11) rfl 46 (ev k) _ (fun W (h : Fr _ W _ _) => h.get (by simp)) Tryd.underlying46 rfl (info_ev _)) hHeld ?_
              try simp only [Act.put, List.getElem_toArray, List.getElem_cons_succ, List.getElem_cons_zero, List.setIfInBounds_toArray, List.set_cons_zero, List.set_cons_succ]
              refine wpAnyH_take (i := 14) (v := .agg (ev x)) rfl (by kernel_rfl) (by kernel_rfl) (by kernel_rfl) (fun _ _ _ h => h) (yields_row (by rfl) 46 (.tmp 3) rfl (w.heap.size + 1) rfl 46 (ev x) _ (fun W (h : Fr _ W _ _) => h.get (by simp)) Tryd.underlying46 rfl (info_ev _)) hHeld ?_
              try simp only [Act.put, List.getElem_toArray, List.getElem_cons_succ, List.getElem_cons_zero, List.setIfInBounds_toArray, List.set_cons_zero, List.set_cons_succ]
              refine wpAnyH_take (i := 15) (v := .agg (ev m)) rfl (by kernel_rfl) (by kernel_rfl) (by kernel_rfl) (fun _ _ _ h => h) (yields_row (by rfl) 46 (.tmp 10) rfl (g10) rfl 46 (ev m) _ (fun W (h : Fr _ W _ _) => h.get (by simp)) Tryd.underlying46 rfl (info_ev _)) hHeld ?_
              try simp only [Act.put, List.getElem_toArray, List.getElem_cons_succ, List.getElem_cons_zero, List.setIfInBounds_toArray, List.set_cons_zero, List.set_cons_succ]
              refine wpAnyH_take (i := 16) (v := .agg (ev k)) rfl (by kernel_rfl) (by kernel_rfl) (by kernel_rfl) (fun _ _ _ h => h) (yields_row (by rfl) 46 (.tmp 11) rfl (g11) rfl 46 (ev k) _ (fun W (h : Fr _ W _ _) => h.get (by simp)) Tryd.underlying46 rfl (info_ev _)) hHeld ?_
              try simp only [Act.put, List.getElem_toArray, List.getElem_cons_succ, List.getElem_cons_zero, List.setIfInBounds_toArray, List.set_cons_zero, List.set_cons_succ]
              refine wpAnyH_ready (rs := [2]) (by kernel_rfl) (by simp) (AllReadyH.cons rfl (fun K hK => ?_) AllReadyH.nil)
              have h0 := hHeld
              clear hHeld
              try simp only [List.getElem_toArray, List.getElem_cons_succ, List.getElem_cons_zero]
              have H0 := Lib.hid h0
              clear h0
              go_simp
              go_at_call 29
              refine (mulR H_za.out _ (Fr.pg H0.out HP.out)).mono ?_
              rintro e vv ⟨rfl, hb⟩
              have h1 := H0.out.ext hb
              clear hb H0
              go_wp2_with (fail)
              refine hK.out _ _ h1 (fun hHeld => ?_)
              clear hK K h1
              try simp only [Act.put, List.getElem_toArray, List.getElem_cons_succ, List.getElem_cons_zero, List.setIfInBounds_toArray, List.set_cons_zero, List.set_cons_succ]
              refine wpAnyH_ready (rs := [6]) (by kernel_rfl) (by simp) (AllReadyH.cons rfl (fun K hK => ?_) AllReadyH.nil)
              have h0 := hHeld
              clear hHeld
              try simp only [List.getElem_toArray, List.getElem_cons_succ, List.getElem_cons_zero]
              have H0 := Lib.hid h0
              clear h0
              go_simp
              go_at_call 25
              refine (smallR 121665 H_qq.out (by omega) _).mono ?_
              rintro e vv ⟨rfl, hb⟩
              have h1 := H0.out.ext hb
              clear hb H0
              go_wp2_with (fail)
              refine hK.out _ _ h1 (fun hHeld => ?_)
              clear hK K h1
              try simp only [Act.put, List.getElem_toArray, List.getElem_cons_succ, List.getElem_cons_zero, List.setIfInBounds_toArray, List.set_cons_zero, List.set_cons_succ]
              refine wpAnyH_ready (rs := [7]) (by kernel_rfl) (by simp) (AllReadyH.cons rfl (fun K hK => ?_) AllReadyH.nil)
              have h0 := hHeld
              clear hHeld
              try simp only [List.getElem_toArray, List.getElem_cons_succ, List.getElem_cons_zero]
              have H0 := Lib.hid h0
              clear h0
              go_simp
              go_at_call 29
              refine (mulR H_eq.out _ (Fr.pg H0.out HP.out)).mono ?_
              rintro e vv ⟨rfl, hb⟩
              have h1 := H0.out.ext hb
              clear hb H0
              go_wp2_with (fail)
              refine hK.out _ _ h1 (fun hHeld => ?_)
              clear hK K h1
              try simp only [Act.put, List.getElem_toArray, List.getElem_cons_succ, List.getElem_cons_zero, List.setIfInBounds_toArray, List.set_cons_zero, List.set_cons_succ]
              refine wpAnyH_ready (rs := [8]) (by kernel_rfl) (by simp) (AllReadyH.cons rfl (fun K hK => ?_) AllReadyH.nil)
              have h0 := hHeld
              clear hHeld
              try simp only [List.getElem_toArray, List.getElem_cons_succ, List.getElem_cons_zero]
              have H0 := Lib.hid h0
              clear h0
              go_simp
              go_at_call 40
              refine (addR H_ue.out _ (Fr.pg H0.out HP.out)).mono ?_
              rintro e vv ⟨rfl, hb⟩
              have h1 := H0.out.ext hb
              clear hb H0
              go_wp2_with (fail)
              refine hK.out _ _ h1 (fun hHeld => ?_)
              clear hK K h1
              try simp only [Act.put, List.getElem_toArray, List.getElem_cons_succ, List.getElem_cons_zero, List.setIfInBounds_toArray, List.set_cons_zero, List.set_cons_succ]
              refine wpAnyH_ready (rs := [9]) (by kernel_rfl) (by simp) (AllReadyH.cons rfl (fun K hK => ?_) AllReadyH.nil)
              have h0 := hHeld
              clear hHeld
              try simp only [List.getElem_toArray, List.getElem_cons_succ, List.getElem_cons_zero]
              have H0 := Lib.hid h0
              clear h0
              go_simp
              go_at_call 29
              refine (mulR H_zb.out _ (Fr.pg H0.out HP.out)).mono ?_
              rintro e vv ⟨rfl, hb⟩
              have h1 := H0.out.ext hb
              clear hb H0
              go_wp2_with (fail)
              refine hK.out _ _ h1 (fun hHeld => ?_)
              clear hK K h1
              try simp only [Act.put, List.getElem_toArray, List.getElem_cons_succ, List.getElem_cons_zero, List.setIfInBounds_toArray, List.set_cons_zero, List.set_cons_succ]
              refine wpAnyH_ready (rs := [12]) (by kernel_rfl) (by simp) (AllReadyH.cons rfl (fun K hK => ?_) AllReadyH.nil)
              have h0 := hHeld
              clear hHeld
              try simp only [List.getElem_toArray, List.getElem_cons_succ, List.getElem_cons_zero]
              have H0 := Lib.hid h0
              clear h0
              go_simp
              go_at_call 40
              refine (addR H_mk.out _ (Fr.pg H0.out HP.out)).mono ?_
              rintro e vv ⟨rfl, hb⟩
              have h1 := H0.out.ext hb
              clear hb H0
              go_wp2_with (fail)
              refine hK.out _ _ h1 (fun hHeld => ?_)
              clear hK K h1
              try simp only [Act.put, List.getElem_toArray, List.getElem_cons_succ, List.getElem_cons_zero, List.setIfInBounds_toArray, List.set_cons_zero, List.set_cons_succ]
              refine wpAnyH_ready (rs := [13]) (by kernel_rfl) (by simp) (AllReadyH.cons rfl (fun K hK => ?_) AllReadyH.nil)
              have h0 := hHeld
              clear hHeld
              try simp only [List.getElem_toArray, List.getElem_cons_succ, List.getElem_cons_zero]
              have H0 := Lib.hid h0
              clear h0
              go_simp
              go_at_call 42
              refine (squareR H_zc.out _ (Fr.pg H0.out HP.out)).mono ?_
              rintro e vv ⟨rfl, hb⟩
              have h1 := H0.out.ext hb
              clear hb H0
              go_wp2_with (fail)
              refine hK.out _ _ h1 (fun hHeld => ?_)
              clear hK K h1
              try simp only [Act.put, List.getElem_toArray, List.getElem_cons_succ, List.getElem_cons_zero, List.setIfInBounds_toArray, List.set_cons_zero, List.set_cons_succ]
              refine wpAnyH_ready (rs := [17]) (by kernel_rfl) (by simp) (AllReadyH.cons rfl (fun K hK => ?_) AllReadyH.nil)
              have h0 := hHeld
              clear hHeld
              try simp only [List.getElem_toArray, List.getElem_cons_succ, List.getElem_cons_zero]
              have H0 := Lib.hid h0
              clear h0
              go_simp
              go_at_call 41
              refine (subR H_ml.out _ (Fr.pg H0.out HP.out)).mono ?_
              rintro e vv ⟨rfl, hb⟩
              have h1 := H0.out.ext hb
              clear hb H0
              go_wp2_with (fail)
              refine hK.out _ _ h1 (fun hHeld => ?_)
              clear hK K h1
              try simp only [Act.put, List.getElem_toArray, List.getElem_cons_succ, List.getElem_cons_zero, List.setIfInBounds_toArray, List.set_cons_zero, List.set_cons_succ]
              refine wpAnyH_ready (rs := [18]) (by kernel_rfl) (by simp) (AllReadyH.cons rfl (fun K hK => ?_) AllReadyH.nil)
              have h0 := hHeld
              clear hHeld
              try simp only [List.getElem_toArray, List.getElem_cons_succ, List.getElem_cons_zero]
              have H0 := Lib.hid h0
              clear h0
              go_simp
              go_at_call 42
              refine (squareR H_m2.out _ (Fr.pg H0.out HP.out)).mono ?_
              rintro e vv ⟨rfl, hb⟩
              have h1 := H0.out.ext hb
              clear hb H0
              go_wp2_with (fail)
              refine hK.out _ _ h1 (fun hHeld => ?_)
              clear hK K h1
              try simp only [Act.put, List.getElem_toArray, List.getElem_cons_succ, List.getElem_cons_zero, List.setIfInBounds_toArray, List.set_cons_zero, List.set_cons_succ]
              refine wpAnyH_ready (rs := [19]) (by kernel_rfl) (by simp) (AllReadyH.cons rfl (fun K hK => ?_) AllReadyH.nil)
              have h0 := hHeld
              clear hHeld
              try simp only [List.getElem_toArray, List.getElem_cons_succ, List.getElem_cons_zero]
              have H0 := Lib.hid h0
              clear h0
              go_simp
              go_at_call 29
              refine (mulR H_zd.out _ (Fr.pg H0.out HP.out)).mono ?_
              rintro e vv ⟨rfl, hb⟩
              have h1 := H0.out.ext hb
              clear hb H0
              go_wp2_with (fail)
              refine hK.out _ _ h1 (fun hHeld => ?_)
              clear hK K h1
              try simp only [Act.put, List.getElem_toArray, List.getElem_cons_succ, List.getElem_cons_zero, List.setIfInBounds_toArray, List.set_cons_zero, List.set_cons_succ]
              refine wpAnyH_take (i := 20) (v := .agg (sv z)) rfl (by kernel_rfl) (by kernel_rfl) (by kernel_rfl) (fun _ _ _ h => h) (yields_build (by rfl) 50 _ rfl [(0, .agg (ev za)), (1, .agg (ev zb)), (2, .agg (ev zc)), (3, .agg (ev zd))] (by kernel_rfl) _ HBLT.out) hHeld ?_
              try simp only [Act.put, List.getElem_toArray, List.getElem_cons_succ, List.getElem_cons_zero, List.setIfInBounds_toArray, List.set_cons_zero, List.set_cons_succ]
              refine wpAnyH_ready (rs := [21]) (by kernel_rfl) (by simp) (AllReadyH.cons rfl (fun K hK => ?_) AllReadyH.nil)
              have h0 := hHeld
              clear hHeld
              try simp only [List.getElem_toArray, List.getElem_cons_succ, List.getElem_cons_zero]
              rw [if_pos (by rfl)]
              obtain ⟨old, hold, kold⟩ := Fr.old h0 (g := w.heap.size + 1 + 1) (t := 50) (n := 16) (by simp)
              refine wp_store_row 50 (.tmp 4) (.tmp 63) rfl (w.heap.size + 1 + 1) (sv z) rfl rfl 50 old kold (info_sv _) hold (sv_one _) ?_
              refine hK.out _ _ (Fr.setAny h0 (g := w.heap.size + 1 + 1) (t := 50) (sv_size _) (by simp) (by simp <;> omega)) (fun hHeld => ?_)
              have kb := kold.setRow_same (sv z)
              clear hK K h0 hold
              try simp only [Act.put, List.getElem_toArray, List.getElem_cons_succ, List.getElem_cons_zero, List.setIfInBounds_toArray, List.set_cons_zero, List.set_cons_succ]
              refine wpAnyH_done (by kernel_rfl) ?_ _
              have HK := Lib.hid kb
              have HB := Lib.hid hHeld.below
              clear kb hHeld
              go_wp2_with (fail)
              exact bodyPost_ret (results_cell_row rfl _ _ (w.heap.size + 1 + 1) 50 (sv z) (0, 0) _ rfl HK.out Tryd.underlying50 rfl (info_sv z)) rfl ⟨by rw [HEND.out], HB.out⟩
end Go.Proofs.YthlnnoajklmeiaaDoor
