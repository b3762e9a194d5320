/- The walk of LadderTurns. -/
import Derived.Test.YthlnnoajklmeiaaDoorLkw
import Derived.Deep.DeepCutAuto
import Derived.Deep.CutBlock
namespace Go.Proofs.YthlnnoajklmeiaaDoor
set_option linter.unusedVariables false
set_option linter.unusedSimpArgs false
open Go Go.RowKit

theorem xor8 : ∀ x : Fin 256, ∀ t : Fin 8, 0 ≤ bits .xor .u8 (x.val : Int) (t.val : Int) ∧ bits .xor .u8 (x.val : Int) (t.val : Int) < 256 ∧ bits .xor .u8 (x.val : Int) (t.val : Int) / 8 = (x.val : Int) / 8 := by decide +kernel
theorem xor64 : ∀ x : Fin 256, ∀ t : Fin 4, 0 ≤ bits .xor .u8 (x.val : Int) ((t.val : Int) * 64) ∧ bits .xor .u8 (x.val : Int) ((t.val : Int) * 64) < 256 ∧ bits .xor .u8 (x.val : Int) ((t.val : Int) * 64) % 64 = (x.val : Int) % 64 := by decide +kernel
theorem xor128 : ∀ x : Fin 256, ∀ t : Fin 2, 0 ≤ bits .xor .u8 (x.val : Int) ((t.val : Int) * 128) ∧ bits .xor .u8 (x.val : Int) ((t.val : Int) * 128) < 256 ∧ bits .xor .u8 (x.val : Int) ((t.val : Int) * 128) % 128 = (x.val : Int) % 128 := by decide +kernel
theorem xor8n (x t : Nat) (hx : x < 256) : ∃ m : Nat, bits .xor .u8 (x : Int) ((t : Int) % 8) = (m : Int) ∧ m < 256 ∧ m / 8 = x / 8 := by
  have h := xor8 ⟨x, hx⟩ ⟨t % 8, Nat.mod_lt _ (by omega)⟩
  simp only [Int.natCast_emod] at h
  obtain ⟨h1, h2, h3⟩ := h
  obtain ⟨m, hm⟩ := Int.eq_ofNat_of_zero_le h1
  have hm' : bits .xor .u8 (x : Int) ((t : Int) % 8) = (m : Int) := hm
  exact ⟨m, hm', by rw [hm] at h2; omega, by rw [hm] at h3; omega⟩
theorem xor64n (x t : Nat) (hx : x < 256) : ∃ m : Nat, bits .xor .u8 (x : Int) ((t : Int) / 8 % 4 * 64) = (m : Int) ∧ m < 256 ∧ m % 64 = x % 64 := by
  have h := xor64 ⟨x, hx⟩ ⟨t / 8 % 4, Nat.mod_lt _ (by omega)⟩
  have e : ((t / 8 % 4 : Nat) : Int) = (t : Int) / 8 % 4 := by omega
  simp only [e] at h
  obtain ⟨h1, h2, h3⟩ := h
  obtain ⟨m, hm⟩ := Int.eq_ofNat_of_zero_le h1
  exact ⟨m, hm, by rw [hm] at h2; omega, by rw [hm] at h3; omega⟩
theorem xor128n (x t : Nat) (hx : x < 256) (ht : t < 256) : ∃ m : Nat, bits .xor .u8 (x : Int) ((t : Int) / 128 * 128) = (m : Int) ∧ m < 256 ∧ m % 128 = x % 128 := by
  have h := xor128 ⟨x, hx⟩ ⟨t / 128, by omega⟩
  have e : ((t / 128 : Nat) : Int) = (t : Int) / 128 := by omega
  simp only [e] at h
  obtain ⟨h1, h2, h3⟩ := h
  obtain ⟨m, hm⟩ := Int.eq_ofNat_of_zero_le h1
  exact ⟨m, hm, by rw [hm] at h2; omega, by rw [hm] at h3; omega⟩
theorem e31 : (256 : Nat) ^ 31 = 452312848583266388373324160190187140051835877600158453279131187530910662656 := by decide
/-- The bits that are clamped don't matter. -/
theorem clamp_turn {a m n a1 a2 : Nat} (ha : a < 115792089237316195423570985008687907853269984665640564039457584007913129639936) (h1 : a1 = putd 256 a 0 m) (h2 : a2 = putd 256 a1 31 n) (hm : m < 256) (hn : n < 256) (hm8 : m / 8 = a / 256 ^ 0 % 256 / 8) (hn64 : n % 64 = a / 256 ^ 31 % 256 % 64) : a2 < 115792089237316195423570985008687907853269984665640564039457584007913129639936 ∧ clampN a2 = clampN a := by
  have q1 := putd_eq 256 a 0 m
  rw [← h1] at q1
  have q2 := putd_eq 256 a1 31 n
  rw [← h2] at q2
  rw [Nat.pow_zero, Nat.div_one] at q1 hm8
  rw [e31] at q2 hn64
  clear h1 h2
  have hl : a2 < 115792089237316195423570985008687907853269984665640564039457584007913129639936 := by omega
  refine ⟨hl, ?_⟩
  rw [clampN_eq hl, clampN_eq ha]
  omega
theorem top_turn {x m y : Nat} (hx : x < 115792089237316195423570985008687907853269984665640564039457584007913129639936) (h : y = putd 256 x 31 m) (hm : m < 256) (hm2 : m % 128 = x / 256 ^ 31 % 256 % 128) : y < 115792089237316195423570985008687907853269984665640564039457584007913129639936 ∧ ofK y = ofK x := by
  have q := putd_eq 256 x 31 m
  rw [← h, e31] at q
  rw [e31] at hm2
  have hl : y < 115792089237316195423570985008687907853269984665640564039457584007913129639936 := by omega
  refine ⟨hl, ?_⟩
  unfold ofK
  congr 1
  omega
attribute [local irreducible] lad lgo
set_option maxRecDepth 100000 in
set_option maxHeartbeats 16000000 in
theorem law_turns (a b x t : Nat) (w : World) (hpg : PG w) (ha : a < 115792089237316195423570985008687907853269984665640564039457584007913129639936) (hb : b < 115792089237316195423570985008687907853269984665640564039457584007913129639936) (hx : x < 115792089237316195423570985008687907853269984665640564039457584007913129639936) (ht : t < 256) : Calls Tryd.prog 5 #[.agg (ks a), .agg (ks b), .agg (ks x), .int .u8 (t : Int)] w (BPost true w) := by
  obtain ⟨y1, hy1⟩ : ∃ y, y = lad Q0 (clampN b) (ofK x) := ⟨_, rfl⟩
  obtain ⟨m1, hm1⟩ : ∃ m, m = y1.val := ⟨_, rfl⟩
  have lm1 : m1 < 115792089237316195423570985008687907853269984665640564039457584007913129639936 := by rw [hm1]; exact PP_lt256 y1.isLt
  obtain ⟨y2, hy2⟩ : ∃ y, y = lad Q0 (clampN a) (ofK x) := ⟨_, rfl⟩
  obtain ⟨m2, hm2⟩ : ∃ m, m = y2.val := ⟨_, rfl⟩
  have lm2 : m2 < 115792089237316195423570985008687907853269984665640564039457584007913129639936 := by rw [hm2]; exact PP_lt256 y2.isLt
  obtain ⟨yr, hyr⟩ : ∃ y, y = lad Q0 (clampN a) (ofK m1) := ⟨_, rfl⟩
  obtain ⟨r, hr⟩ : ∃ m, m = yr.val := ⟨_, rfl⟩
  have lr : r < 115792089237316195423570985008687907853269984665640564039457584007913129639936 := by rw [hr]; exact PP_lt256 yr.isLt
  have hyr2 : yr = lad Q0 (clampN b) (ofK m2) := by
    rw [hyr, hm1, hm2, ofK_val, ofK_val, hy1, hy2]
    exact lad_comm LD _ _ _ (clampN_lt ha) (clampN_lt hb)
  obtain ⟨x0, hx0⟩ : ∃ z, z = a / 256 ^ 0 % 256 := ⟨_, rfl⟩
  obtain ⟨x31, hx31⟩ : ∃ z, z = a / 256 ^ 31 % 256 := ⟨_, rfl⟩
  obtain ⟨z31, hz31⟩ : ∃ z, z = x / 256 ^ 31 % 256 := ⟨_, rfl⟩
  have b0 : x0 < 256 := by rw [hx0]; exact Nat.mod_lt _ (by omega)
  have b31 : x31 < 256 := by rw [hx31]; exact Nat.mod_lt _ (by omega)
  have bz : z31 < 256 := by rw [hz31]; exact Nat.mod_lt _ (by omega)
  obtain ⟨n0, e0, p0, q0⟩ := xor8n x0 t b0
  obtain ⟨n31, e1, p1, q1⟩ := xor64n x31 t b31
  obtain ⟨k31, e2, p2, q2⟩ := xor128n z31 t bz ht
  obtain ⟨a1, ha1⟩ : ∃ z, z = putd 256 a 0 n0 := ⟨_, rfl⟩
  obtain ⟨a2, ha2⟩ : ∃ z, z = putd 256 a1 31 n31 := ⟨_, rfl⟩
  obtain ⟨x2, hx2⟩ : ∃ z, z = putd 256 x 31 k31 := ⟨_, rfl⟩
  obtain ⟨la2, hca⟩ := clamp_turn ha ha1 ha2 p0 p1 (by rw [q0, hx0]) (by rw [q1, hx31])
  obtain ⟨lx2, hox⟩ := top_turn hx hx2 p2 (by rw [q2, hz31])
  have hy2b : y2 = lad Q0 (clampN a2) (ofK x2) := by rw [hca, hox, hy2]
  have s1 : (ks a).setIfInBounds 0 (.int .u8 (n0 : Int)) = ks a1 := by rw [ha1]; exact ks_put (by omega) p0
  have s2 : (ks a1).setIfInBounds 31 (.int .u8 (n31 : Int)) = ks a2 := by rw [ha2]; exact ks_put (by omega) p1
  have s3 : (ks x).setIfInBounds 31 (.int .u8 (k31 : Int)) = ks x2 := by rw [hx2]; exact ks_put (by omega) p2
  have c0 : (ks a)[0]? = some (.int .u8 (x0 : Int)) := by rw [ks_get _ (by omega), ← hx0]
  have c31 : (ks a1)[31]? = some (.int .u8 (x31 : Int)) := by rw [← s1, Array.getElem?_setIfInBounds_ne (by omega), ks_get _ (by omega), ← hx31]
  have d31 : (ks x)[31]? = some (.int .u8 (z31 : Int)) := by rw [ks_get _ (by omega), ← hz31]
  have hm1c := fun W hp => lmulR hy1 hm1 hb hx W hp
  have HM1 := Lib.hid hm1c
  have hrc := fun W hp => lmulR hyr hr ha lm1 W hp
  have HR := Lib.hid hrc
  have hm2c := fun W hp => lmulR hy2 hm2 ha hx W hp
  have HM2 := Lib.hid hm2c
  have hr2c := fun W hp => lmulR hyr2 hr hb lm2 W hp
  have HR2 := Lib.hid hr2c
  have hm3c := fun W hp => lmulR hy2b hm2 la2 lx2 W hp
  have HM3 := Lib.hid hm3c
  have HT := Lib.hid ht
  have S1 := Lib.hid s1
  have S2 := Lib.hid s2
  have S3 := Lib.hid s3
  have C0 := Lib.hid c0
  have C31 := Lib.hid c31
  have D31 := Lib.hid d31
  have E0 := Lib.hid e0
  have E1 := Lib.hid e1
  have E2 := Lib.hid e2
  clear hm1c hrc hm2c hr2c hm3c s1 s2 s3 c0 c31 d31 e0 e1 e2 hy2b hox lx2 hca la2 hx2 ha2 ha1 q2 q1 q0 p2 p1 p0 bz b31 b0 hz31 hx31 hx0 hyr2 lr hr hyr lm2 hm2 hy2 lm1 hm1 hy1 ha hb hx ht
  have hfr := (((Fr.start w).row (ks a) 23 (g := w.heap.size) rfl).row (ks b) 23 (g := w.heap.size + 1) (by simp)).row (ks x) 23 (g := w.heap.size + 1 + 1) (by simp)
  have HP := Lib.hid hpg
  have hke := keys_same
  go_enter Tryd.func5, Tryd.ntmps5
  go_wp2_with (fail)
  obtain ⟨wx, hwx⟩ : ∃ wx : World, wx = ((w.alloc (.cells (ks a) 23)).alloc (.cells (ks b) 23)).alloc (.cells (ks x) 23) := ⟨_, rfl⟩
  rw [← hwx] at hfr ⊢
  clear hwx hpg
  have HF := Lib.hid hfr
  clear hfr
  go_cut [9, 10] (fun s9 s10 wz => ∃ g9 g10 : Nat, s9 = .pointer (some ⟨g9, 0, none⟩) ∧ s10 = .pointer (some ⟨g10, 0, none⟩) ∧ wx.heap.size ≤ g9 ∧ wx.heap.size ≤ g10 ∧ g9 ≠ g10 ∧ Blk wz g9 23 (ks a) ∧ Blk wz g10 23 (ks x) ∧ Below wx.heap.size wx wz)
  case first =>
    as_aux_lemma =>
      have hn := (HF.out.now.sub (L' := [(w.heap.size + 1 + 1, 23, ks x), (w.heap.size + 1, 23, ks b), (w.heap.size, 23, ks a)]) (by simp))
      have HN := Lib.hid hn
      clear hn
      refine wp_region_held_drew (S := fun W => Fn wx W [(w.heap.size + 1 + 1, 23, ks x), (w.heap.size + 1, 23, ks b), (w.heap.size, 23, ks a)]) (by kernel_rfl) ?_ (fun hHeld => ?_)
      · exact HN.out.drew
      refine wpAnyH_take (i := 0) (v := .agg (ks a)) rfl (by kernel_rfl) (by kernel_rfl) (by kernel_rfl) (fun _ _ _ h => h) (yields_row (by rfl) 23 (.tmp 4) rfl (w.heap.size) rfl 23 (ks a) _ (fun W (h : Fn _ W _) => h.get (by simp)) Tryd.underlying23 rfl (info_ks _)) hHeld ?_
      try simp only [Act.put, List.getElem_toArray, List.getElem_cons_succ, List.getElem_cons_zero, List.setIfInBounds_toArray, List.set_cons_zero, List.set_cons_succ]
      refine wpAnyH_take (i := 1) (v := .agg (ks x)) rfl (by kernel_rfl) (by kernel_rfl) (by kernel_rfl) (fun _ _ _ h => h) (yields_row (by rfl) 23 (.tmp 6) rfl (w.heap.size + 1 + 1) rfl 23 (ks x) _ (fun W (h : Fn _ W _) => h.get (by simp)) Tryd.underlying23 rfl (info_ks _)) hHeld ?_
      try simp only [Act.put, List.getElem_toArray, List.getElem_cons_succ, List.getElem_cons_zero, List.setIfInBounds_toArray, List.set_cons_zero, List.set_cons_succ]
      refine wpAnyH_name ?_
      intro ops Q hops hQ
      have st0_23 : ∀ (g9 g10 : Nat) (W : World), Fn wx W [(w.heap.size + 1 + 1, 23, ks x), (w.heap.size + 1, 23, ks b), (w.heap.size, 23, ks a)] → Blk W g9 23 #[.int .u8 0, .int .u8 0, .int .u8 0, .int .u8 0, .int .u8 0, .int .u8 0, .int .u8 0, .int .u8 0, .int .u8 0, .int .u8 0, .int .u8 0, .int .u8 0, .int .u8 0, .int .u8 0, .int .u8 0, .int .u8 0, .int .u8 0, .int .u8 0, .int .u8 0, .int .u8 0, .int .u8 0, .int .u8 0, .int .u8 0, .int .u8 0, .int .u8 0, .int .u8 0, .int .u8 0, .int .u8 0, .int .u8 0, .int .u8 0, .int .u8 0, .int .u8 0] → wx.heap.size ≤ g9 → Blk W g10 23 #[.int .u8 0, .int .u8 0, .int .u8 0, .int .u8 0, .int .u8 0, .int .u8 0, .int .u8 0, .int .u8 0, .int .u8 0, .int .u8 0, .int .u8 0, .int .u8 0, .int .u8 0, .int .u8 0, .int .u8 0, .int .u8 0, .int .u8 0, .int .u8 0, .int .u8 0, .int .u8 0, .int .u8 0, .int .u8 0, .int .u8 0, .int .u8 0, .int .u8 0, .int .u8 0, .int .u8 0, .int .u8 0, .int .u8 0, .int .u8 0, .int .u8 0, .int .u8 0] → wx.heap.size ≤ g10 → g9 ≠ g10 → wpAnyH Tryd.prog .any ops Q (fun W => Fn wx W [(w.heap.size + 1 + 1, 23, ks x), (w.heap.size + 1, 23, ks b), (w.heap.size, 23, ks a)]) 2 #[true, true, true, true, false, false] { tmps := #[.agg (ks a), .agg (ks b), .agg (ks x), .int .u8 (t : Int), .pointer (some ⟨w.heap.size, 0, none⟩), .pointer (some ⟨w.heap.size + 1, 0, none⟩), .pointer (some ⟨w.heap.size + 1 + 1, 0, none⟩), undef, .bool false, .pointer (some ⟨g9, 0, none⟩), .pointer (some ⟨g10, 0, none⟩), .agg (ks a), .agg (ks x), undef, undef, undef, undef, undef, undef, undef, undef, undef, undef, undef, undef, undef, undef, undef, undef, undef, undef, undef, undef, undef, undef, undef, undef, undef, undef, undef, undef, undef, undef, undef, undef, undef, undef, undef, undef, undef, undef, undef, undef, undef, undef, undef, undef], defers := [] } W := by
        as_aux_lemma =>
          intro g9 g10 W hHeld K2 Z2 K3 Z3 n2_3
          rw [← hops]
          rw [← hQ]
          have KK2 := Lib.hid K2
          clear K2
          have KK3 := Lib.hid K3
          clear K3
          refine wpAnyH_ready (rs := [4]) (by kernel_rfl) (by simp) (AllReadyH.cons rfl (fun K hK => ?_) AllReadyH.nil)
          have h0 := hHeld
          clear hHeld
          try simp only [List.getElem_toArray, List.getElem_cons_succ, List.getElem_cons_zero]
          rw [if_pos (by rfl)]
          refine wp_store_row 23 (.tmp 9) (.tmp 11) rfl g9 (ks a) rfl rfl 23 _ KK2.out (info_ks _) (by rw [ks_size]; rfl) (ks_one _) ?_
          refine hK.out _ _ (Fn.setFresh h0 Z2 _) (fun hHeld => ?_)
          have J2 := Lib.hid (KK2.out.setRow_same (ks a))
          clear KK2
          have KK2 := J2
          clear J2
          have J3 := Lib.hid (KK3.out.setRow_other (Ne.symm n2_3) (ks a))
          clear KK3
          have KK3 := J3
          clear J3
          clear hK K h0
          try simp only [Act.put, List.getElem_toArray, List.getElem_cons_succ, List.getElem_cons_zero, List.setIfInBounds_toArray, List.set_cons_zero, List.set_cons_succ]
          refine wpAnyH_ready (rs := [5]) (by kernel_rfl) (by simp) (AllReadyH.cons rfl (fun K hK => ?_) AllReadyH.nil)
          have h0 := hHeld
          clear hHeld
          try simp only [List.getElem_toArray, List.getElem_cons_succ, List.getElem_cons_zero]
          rw [if_pos (by rfl)]
          refine wp_store_row 23 (.tmp 10) (.tmp 12) rfl g10 (ks x) rfl rfl 23 _ KK3.out (info_ks _) (by rw [ks_size]; rfl) (ks_one _) ?_
          refine hK.out _ _ (Fn.setFresh h0 Z3 _) (fun hHeld => ?_)
          have J3 := Lib.hid (KK3.out.setRow_same (ks x))
          clear KK3
          have KK3 := J3
          clear J3
          have J2 := Lib.hid (KK2.out.setRow_other n2_3 (ks x))
          clear KK2
          have KK2 := J2
          clear J2
          clear hK K h0
          try simp only [Act.put, List.getElem_toArray, List.getElem_cons_succ, List.getElem_cons_zero, List.setIfInBounds_toArray, List.set_cons_zero, List.set_cons_succ]
          refine wpAnyH_done (by kernel_rfl) ?_ _
          have HB := Lib.hid hHeld.below
          clear hHeld
          go_wp2_with (fail)
          go_meet
          exact ⟨g9, g10, rfl, rfl, Z2, Z3, n2_3, KK2.out, KK3.out, HB.out⟩
      have st0_2 : ∀ (g9 : Nat) (W : World), Fn wx W [(w.heap.size + 1 + 1, 23, ks x), (w.heap.size + 1, 23, ks b), (w.heap.size, 23, ks a)] → Blk W g9 23 #[.int .u8 0, .int .u8 0, .int .u8 0, .int .u8 0, .int .u8 0, .int .u8 0, .int .u8 0, .int .u8 0, .int .u8 0, .int .u8 0, .int .u8 0, .int .u8 0, .int .u8 0, .int .u8 0, .int .u8 0, .int .u8 0, .int .u8 0, .int .u8 0, .int .u8 0, .int .u8 0, .int .u8 0, .int .u8 0, .int .u8 0, .int .u8 0, .int .u8 0, .int .u8 0, .int .u8 0, .int .u8 0, .int .u8 0, .int .u8 0, .int .u8 0, .int .u8 0] → wx.heap.size ≤ g9 → wpAnyH Tryd.prog .any ops Q (fun W => Fn wx W [(w.heap.size + 1 + 1, 23, ks x), (w.heap.size + 1, 23, ks b), (w.heap.size, 23, ks a)]) 3 #[true, true, true, false, false, false] { tmps := #[.agg (ks a), .agg (ks b), .agg (ks x), .int .u8 (t : Int), .pointer (some ⟨w.heap.size, 0, none⟩), .pointer (some ⟨w.heap.size + 1, 0, none⟩), .pointer (some ⟨w.heap.size + 1 + 1, 0, none⟩), undef, .bool false, .pointer (some ⟨g9, 0, none⟩), undef, .agg (ks a), .agg (ks x), undef, undef, undef, undef, undef, undef, undef, undef, undef, undef, undef, undef, undef, undef, undef, undef, undef, undef, undef, undef, undef, undef, undef, undef, undef, undef, undef, undef, undef, undef, undef, undef, undef, undef, undef, undef, undef, undef, undef, undef, undef, undef, undef, undef], defers := [] } W := by
        as_aux_lemma =>
          intro g9 W hHeld K2 Z2
          rw [← hops]
          refine wpAnyH_ready (rs := [3]) (by kernel_rfl) (by simp) (AllReadyH.cons rfl (fun K hK => ?_) AllReadyH.nil)
          have h0 := hHeld
          clear hHeld
          try simp only [List.getElem_toArray, List.getElem_cons_succ, List.getElem_cons_zero]
          obtain ⟨kz, hg⟩ := Fn.fresh h0 23 #[.int .u8 0, .int .u8 0, .int .u8 0, .int .u8 0, .int .u8 0, .int .u8 0, .int .u8 0, .int .u8 0, .int .u8 0, .int .u8 0, .int .u8 0, .int .u8 0, .int .u8 0, .int .u8 0, .int .u8 0, .int .u8 0, .int .u8 0, .int .u8 0, .int .u8 0, .int .u8 0, .int .u8 0, .int .u8 0, .int .u8 0, .int .u8 0, .int .u8 0, .int .u8 0, .int .u8 0, .int .u8 0, .int .u8 0, .int .u8 0, .int .u8 0, .int .u8 0]
          have KZ := Lib.hid kz
          have HG := Lib.hid hg
          have H0 := Lib.hid h0
          clear kz hg h0
          have KH2 := Lib.hid K2
          go_simp
          refine hK.out _ _ (Fn.pass H0.out _) (fun hHeld => ?_)
          clear hK K H0
          try simp only [Act.put, List.getElem_toArray, List.getElem_cons_succ, List.getElem_cons_zero, List.setIfInBounds_toArray, List.set_cons_zero, List.set_cons_succ]
          have k2 := KH2.out.alloc (.cells #[.int .u8 0, .int .u8 0, .int .u8 0, .int .u8 0, .int .u8 0, .int .u8 0, .int .u8 0, .int .u8 0, .int .u8 0, .int .u8 0, .int .u8 0, .int .u8 0, .int .u8 0, .int .u8 0, .int .u8 0, .int .u8 0, .int .u8 0, .int .u8 0, .int .u8 0, .int .u8 0, .int .u8 0, .int .u8 0, .int .u8 0, .int .u8 0, .int .u8 0, .int .u8 0, .int .u8 0, .int .u8 0, .int .u8 0, .int .u8 0, .int .u8 0, .int .u8 0] 23)
          have z2 := Z2
          have k3 := KZ.out
          have z3 := HG.out
          refine wpAnyH_cast (n' := 2) (l' := #[true, true, true, true, false, false]) (by kernel_rfl) (by kernel_rfl) ?_
          have hh := st0_23 g9 _ _ hHeld k2 z2 k3 z3 (Nat.ne_of_lt K2.lt)
          rw [← hops] at hh
          exact hh
      have st0_3 : ∀ (g10 : Nat) (W : World), Fn wx W [(w.heap.size + 1 + 1, 23, ks x), (w.heap.size + 1, 23, ks b), (w.heap.size, 23, ks a)] → Blk W g10 23 #[.int .u8 0, .int .u8 0, .int .u8 0, .int .u8 0, .int .u8 0, .int .u8 0, .int .u8 0, .int .u8 0, .int .u8 0, .int .u8 0, .int .u8 0, .int .u8 0, .int .u8 0, .int .u8 0, .int .u8 0, .int .u8 0, .int .u8 0, .int .u8 0, .int .u8 0, .int .u8 0, .int .u8 0, .int .u8 0, .int .u8 0, .int .u8 0, .int .u8 0, .int .u8 0, .int .u8 0, .int .u8 0, .int .u8 0, .int .u8 0, .int .u8 0, .int .u8 0] → wx.heap.size ≤ g10 → wpAnyH Tryd.prog .any ops Q (fun W => Fn wx W [(w.heap.size + 1 + 1, 23, ks x), (w.heap.size + 1, 23, ks b), (w.heap.size, 23, ks a)]) 3 #[true, true, false, true, false, false] { tmps := #[.agg (ks a), .agg (ks b), .agg (ks x), .int .u8 (t : Int), .pointer (some ⟨w.heap.size, 0, none⟩), .pointer (some ⟨w.heap.size + 1, 0, none⟩), .pointer (some ⟨w.heap.size + 1 + 1, 0, none⟩), undef, .bool false, undef, .pointer (some ⟨g10, 0, none⟩), .agg (ks a), .agg (ks x), undef, undef, undef, undef, undef, undef, undef, undef, undef, undef, undef, undef, undef, undef, undef, undef, undef, undef, undef, undef, undef, undef, undef, undef, undef, undef, undef, undef, undef, undef, undef, undef, undef, undef, undef, undef, undef, undef, undef, undef, undef, undef, undef, undef], defers := [] } W := by
        as_aux_lemma =>
          clear st0_2
          intro g10 W hHeld K3 Z3
          rw [← hops]
          refine wpAnyH_ready (rs := [2]) (by kernel_rfl) (by simp) (AllReadyH.cons rfl (fun K hK => ?_) AllReadyH.nil)
          have h0 := hHeld
          clear hHeld
          try simp only [List.getElem_toArray, List.getElem_cons_succ, List.getElem_cons_zero]
          obtain ⟨kz, hg⟩ := Fn.fresh h0 23 #[.int .u8 0, .int .u8 0, .int .u8 0, .int .u8 0, .int .u8 0, .int .u8 0, .int .u8 0, .int .u8 0, .int .u8 0, .int .u8 0, .int .u8 0, .int .u8 0, .int .u8 0, .int .u8 0, .int .u8 0, .int .u8 0, .int .u8 0, .int .u8 0, .int .u8 0, .int .u8 0, .int .u8 0, .int .u8 0, .int .u8 0, .int .u8 0, .int .u8 0, .int .u8 0, .int .u8 0, .int .u8 0, .int .u8 0, .int .u8 0, .int .u8 0, .int .u8 0]
          have KZ := Lib.hid kz
          have HG := Lib.hid hg
          have H0 := Lib.hid h0
          clear kz hg h0
          have KH3 := Lib.hid K3
          go_simp
          refine hK.out _ _ (Fn.pass H0.out _) (fun hHeld => ?_)
          clear hK K H0
          try simp only [Act.put, List.getElem_toArray, List.getElem_cons_succ, List.getElem_cons_zero, List.setIfInBounds_toArray, List.set_cons_zero, List.set_cons_succ]
          have k3 := KH3.out.alloc (.cells #[.int .u8 0, .int .u8 0, .int .u8 0, .int .u8 0, .int .u8 0, .int .u8 0, .int .u8 0, .int .u8 0, .int .u8 0, .int .u8 0, .int .u8 0, .int .u8 0, .int .u8 0, .int .u8 0, .int .u8 0, .int .u8 0, .int .u8 0, .int .u8 0, .int .u8 0, .int .u8 0, .int .u8 0, .int .u8 0, .int .u8 0, .int .u8 0, .int .u8 0, .int .u8 0, .int .u8 0, .int .u8 0, .int .u8 0, .int .u8 0, .int .u8 0, .int .u8 0] 23)
          have z3 := Z3
          have k2 := KZ.out
          have z2 := HG.out
          refine wpAnyH_cast (n' := 2) (l' := #[true, true, true, true, false, false]) (by kernel_rfl) (by kernel_rfl) ?_
          have hh := st0_23 _ g10 _ hHeld k2 z2 k3 z3 (Ne.symm (Nat.ne_of_lt K3.lt))
          rw [← hops] at hh
          exact hh
      have st0_ : ∀ (W : World), Fn wx W [(w.heap.size + 1 + 1, 23, ks x), (w.heap.size + 1, 23, ks b), (w.heap.size, 23, ks a)] → wpAnyH Tryd.prog .any ops Q (fun W => Fn wx W [(w.heap.size + 1 + 1, 23, ks x), (w.heap.size + 1, 23, ks b), (w.heap.size, 23, ks a)]) 4 #[true, true, false, false, false, false] { tmps := #[.agg (ks a), .agg (ks b), .agg (ks x), .int .u8 (t : Int), .pointer (some ⟨w.heap.size, 0, none⟩), .pointer (some ⟨w.heap.size + 1, 0, none⟩), .pointer (some ⟨w.heap.size + 1 + 1, 0, none⟩), undef, .bool false, undef, undef, .agg (ks a), .agg (ks x), undef, undef, undef, undef, undef, undef, undef, undef, undef, undef, undef, undef, undef, undef, undef, undef, undef, undef, undef, undef, undef, undef, undef, undef, undef, undef, undef, undef, undef, undef, undef, undef, undef, undef, undef, undef, undef, undef, undef, undef, undef, undef, undef, undef], defers := [] } W := by
        as_aux_lemma =>
          clear st0_23
          intro W hHeld
          rw [← hops]
          refine wpAnyH_ready (rs := [2, 3]) (by kernel_rfl) (by simp) (AllReadyH.cons rfl (fun K hK => ?_) (AllReadyH.cons rfl (fun K hK => ?_) AllReadyH.nil))
          · have h0 := hHeld
            clear hHeld
            try simp only [List.getElem_toArray, List.getElem_cons_succ, List.getElem_cons_zero]
            obtain ⟨kz, hg⟩ := Fn.fresh h0 23 #[.int .u8 0, .int .u8 0, .int .u8 0, .int .u8 0, .int .u8 0, .int .u8 0, .int .u8 0, .int .u8 0, .int .u8 0, .int .u8 0, .int .u8 0, .int .u8 0, .int .u8 0, .int .u8 0, .int .u8 0, .int .u8 0, .int .u8 0, .int .u8 0, .int .u8 0, .int .u8 0, .int .u8 0, .int .u8 0, .int .u8 0, .int .u8 0, .int .u8 0, .int .u8 0, .int .u8 0, .int .u8 0, .int .u8 0, .int .u8 0, .int .u8 0, .int .u8 0]
            have KZ := Lib.hid kz
            have HG := Lib.hid hg
            have H0 := Lib.hid h0
            clear kz hg h0
            go_simp
            refine hK.out _ _ (Fn.pass H0.out _) (fun hHeld => ?_)
            clear hK K H0
            try simp only [Act.put, List.getElem_toArray, List.getElem_cons_succ, List.getElem_cons_zero, List.setIfInBounds_toArray, List.set_cons_zero, List.set_cons_succ]
            have k2 := KZ.out
            have z2 := HG.out
            refine wpAnyH_cast (n' := 3) (l' := #[true, true, true, false, false, false]) (by kernel_rfl) (by kernel_rfl) ?_
            have hh := st0_2 _ _ hHeld k2 z2
            rw [← hops] at hh
            exact hh
          · have h0 := hHeld
            clear hHeld
            try simp only [List.getElem_toArray, List.getElem_cons_succ, List.getElem_cons_zero]
            obtain ⟨kz, hg⟩ := Fn.fresh h0 23 #[.int .u8 0, .int .u8 0, .int .u8 0, .int .u8 0, .int .u8 0, .int .u8 0, .int .u8 0, .int .u8 0, .int .u8 0, .int .u8 0, .int .u8 0, .int .u8 0, .int .u8 0, .int .u8 0, .int .u8 0, .int .u8 0, .int .u8 0, .int .u8 0, .int .u8 0, .int .u8 0, .int .u8 0, .int .u8 0, .int .u8 0, .int .u8 0, .int .u8 0, .int .u8 0, .int .u8 0, .int .u8 0, .int .u8 0, .int .u8 0, .int .u8 0, .int .u8 0]
            have KZ := Lib.hid kz
            have HG := Lib.hid hg
            have H0 := Lib.hid h0
            clear kz hg h0
            go_simp
            refine hK.out _ _ (Fn.pass H0.out _) (fun hHeld => ?_)
            clear hK K H0
            try simp only [Act.put, List.getElem_toArray, List.getElem_cons_succ, List.getElem_cons_zero, List.setIfInBounds_toArray, List.set_cons_zero, List.set_cons_succ]
            have k3 := KZ.out
            have z3 := HG.out
            refine wpAnyH_cast (n' := 3) (l' := #[true, true, false, true, false, false]) (by kernel_rfl) (by kernel_rfl) ?_
            have hh := st0_3 _ _ hHeld k3 z3
            rw [← hops] at hh
            exact hh
      refine wpAnyH_cast (n' := 4) (l' := #[true, true, false, false, false, false]) (by kernel_rfl) (by kernel_rfl) ?_
      exact st0_ _ hHeld
  case rest =>
    as_aux_lemma =>
      obtain ⟨g9, g10, rfl, rfl, z9, z10, n910, k9, k10, hb⟩ := hcut
      have hsz := hb.size
      have hf := HF.out.ext hb
      have hlx : w.heap.size + 1 + 1 < wx.heap.size := (HF.out.get (g := w.heap.size + 1 + 1) (t := 23) (cs := ks x) (by simp)).lt
      have q9 := k9.cell 0
      rw [C0.out] at q9
      have f9 := k9.frozen 0
      have f931 := k9.frozen 31
      have f1031 := k10.frozen 31
      have l9 := k9.lt
      have l10 := k10.lt
      have j1 := k9.set_ 0 (.int .u8 (n0 : Int))
      rw [S1.out] at j1
      have i1 := k10.far (p := ⟨g9, 0, none⟩) (Ne.symm n910) (.int .u8 (n0 : Int))
      have q931 := j1.cell 31
      rw [C31.out] at q931
      have j2 := j1.set_ 31 (.int .u8 (n31 : Int))
      rw [S2.out] at j2
      have i2 := i1.far (p := ⟨g9, 31, none⟩) (Ne.symm n910) (.int .u8 (n31 : Int))
      have q1031 := i2.cell 31
      rw [D31.out] at q1031
      have i3 := i2.set_ 31 (.int .u8 (k31 : Int))
      rw [S3.out] at i3
      have j3 := j2.far (p := ⟨g10, 31, none⟩) n910 (.int .u8 (k31 : Int))
      have hrow : Fr w (((wc.setCell ⟨g9, 0, none⟩ (.int .u8 (n0 : Int))).setCell ⟨g9, 31, none⟩ (.int .u8 (n31 : Int))).setCell ⟨g10, 31, none⟩ (.int .u8 (k31 : Int))) [(g10, 23, ks x2), (g9, 23, ks a2), (w.heap.size + 1 + 1, 23, ks x), (w.heap.size + 1, 23, ks b), (w.heap.size, 23, ks a)] [] := by
        have g1 := (hf.more k9).setHead (by simp <;> omega) (by simp) 0 (.int .u8 (n0 : Int)) (by omega)
        rw [S1.out] at g1
        have g2 := g1.setHead (by simp <;> omega) (by simp) 31 (.int .u8 (n31 : Int)) (by omega)
        rw [S2.out] at g2
        have g3 := (g2.more i2).setHead (by simp <;> omega) (by simp) 31 (.int .u8 (k31 : Int)) (by omega)
        rw [S3.out] at g3
        exact g3
      have HR0 := Lib.hid hrow
      have x0e := E0.out
      have x1e := E1.out
      have x2e : bits .xor .u8 (z31 : Int) ((t : Int) / 128 % 256 * 128 % 256) = (k31 : Int) := by rw [show (t : Int) / 128 % 256 * 128 % 256 = (t : Int) / 128 * 128 by have := HT.out; omega]; exact E2.out
      clear hrow j1 j2 j3 i1 i2 i3 k9 k10 hf hb HF
      have w1 : IntKind.u8.wrap ((t : Int) / 8 % 4 * 64) = (t : Int) / 8 % 4 * 64 := by rw [IntKind.wrap_u8]; omega
      go_wp2_with (fail)
      have HF := HR0
      clear HR0 q9 q931 q1031 x0e x1e x2e w1
      refine wp_region_held_drew (S := fun W => Fr w W [(g10, 23, ks x2), (g9, 23, ks a2), (w.heap.size + 1 + 1, 23, ks x), (w.heap.size + 1, 23, ks b), (w.heap.size, 23, ks a)] []) (by kernel_rfl) ?_ (fun hHeld => ?_)
      · exact HF.out.drew
      refine wpAnyH_take (i := 0) (v := .agg (ks a)) rfl (by kernel_rfl) (by kernel_rfl) (by kernel_rfl) (fun _ _ _ h => h) (yields_row (by rfl) 23 (.tmp 4) rfl (w.heap.size) rfl 23 (ks a) _ (fun W (h : Fr _ W _ _) => h.get (by simp)) Tryd.underlying23 rfl (info_ks _)) hHeld ?_
      try simp only [Act.put, List.getElem_toArray, List.getElem_cons_succ, List.getElem_cons_zero, List.setIfInBounds_toArray, List.set_cons_zero, List.set_cons_succ]
      refine wpAnyH_take (i := 1) (v := .agg (ks b)) rfl (by kernel_rfl) (by kernel_rfl) (by kernel_rfl) (fun _ _ _ h => h) (yields_row (by rfl) 23 (.tmp 5) rfl (w.heap.size + 1) rfl 23 (ks b) _ (fun W (h : Fr _ W _ _) => h.get (by simp)) Tryd.underlying23 rfl (info_ks _)) hHeld ?_
      try simp only [Act.put, List.getElem_toArray, List.getElem_cons_succ, List.getElem_cons_zero, List.setIfInBounds_toArray, List.set_cons_zero, List.set_cons_succ]
      refine wpAnyH_take (i := 2) (v := .agg (ks x)) rfl (by kernel_rfl) (by kernel_rfl) (by kernel_rfl) (fun _ _ _ h => h) (yields_row (by rfl) 23 (.tmp 6) rfl (w.heap.size + 1 + 1) rfl 23 (ks x) _ (fun W (h : Fr _ W _ _) => h.get (by simp)) Tryd.underlying23 rfl (info_ks _)) hHeld ?_
      try simp only [Act.put, List.getElem_toArray, List.getElem_cons_succ, List.getElem_cons_zero, List.setIfInBounds_toArray, List.set_cons_zero, List.set_cons_succ]
      refine wpAnyH_take (i := 5) (v := .agg (ks b)) rfl (by kernel_rfl) (by kernel_rfl) (by kernel_rfl) (fun _ _ _ h => h) (yields_row (by rfl) 23 (.tmp 5) rfl (w.heap.size + 1) rfl 23 (ks b) _ (fun W (h : Fr _ W _ _) => h.get (by simp)) Tryd.underlying23 rfl (info_ks _)) hHeld ?_
      try simp only [Act.put, List.getElem_toArray, List.getElem_cons_succ, List.getElem_cons_zero, List.setIfInBounds_toArray, List.set_cons_zero, List.set_cons_succ]
      refine wpAnyH_take (i := 6) (v := .agg (ks a)) rfl (by kernel_rfl) (by kernel_rfl) (by kernel_rfl) (fun _ _ _ h => h) (yields_row (by rfl) 23 (.tmp 4) rfl (w.heap.size) rfl 23 (ks a) _ (fun W (h : Fr _ W _ _) => h.get (by simp)) Tryd.underlying23 rfl (info_ks _)) hHeld ?_
      try simp only [Act.put, List.getElem_toArray, List.getElem_cons_succ, List.getElem_cons_zero, List.setIfInBounds_toArray, List.set_cons_zero, List.set_cons_succ]
      refine wpAnyH_take (i := 7) (v := .agg (ks x)) rfl (by kernel_rfl) (by kernel_rfl) (by kernel_rfl) (fun _ _ _ h => h) (yields_row (by rfl) 23 (.tmp 6) rfl (w.heap.size + 1 + 1) rfl 23 (ks x) _ (fun W (h : Fr _ W _ _) => h.get (by simp)) Tryd.underlying23 rfl (info_ks _)) hHeld ?_
      try simp only [Act.put, List.getElem_toArray, List.getElem_cons_succ, List.getElem_cons_zero, List.setIfInBounds_toArray, List.set_cons_zero, List.set_cons_succ]
      refine wpAnyH_ready (rs := [3]) (by kernel_rfl) (by simp) (AllReadyH.cons rfl (fun K hK => ?_) AllReadyH.nil)
      have h0 := hHeld
      clear hHeld
      try simp only [List.getElem_toArray, List.getElem_cons_succ, List.getElem_cons_zero]
      have H0 := Lib.hid h0
      clear h0
      go_simp
      go_at_call 9
      refine (HM1.out _ (Fr.pg H0.out HP.out)).mono ?_
      rintro e vv ⟨rfl, hb⟩
      have h1 := H0.out.ext hb
      clear hb H0
      go_wp2_with (fail)
      refine hK.out _ _ h1 (fun hHeld => ?_)
      clear hK K h1
      try simp only [Act.put, List.getElem_toArray, List.getElem_cons_succ, List.getElem_cons_zero, List.setIfInBounds_toArray, List.set_cons_zero, List.set_cons_succ]
      refine wpAnyH_ready (rs := [4]) (by kernel_rfl) (by simp) (AllReadyH.cons rfl (fun K hK => ?_) AllReadyH.nil)
      have h0 := hHeld
      clear hHeld
      try simp only [List.getElem_toArray, List.getElem_cons_succ, List.getElem_cons_zero]
      have H0 := Lib.hid h0
      clear h0
      go_simp
      go_at_call 9
      refine (HR.out _ (Fr.pg H0.out HP.out)).mono ?_
      rintro e vv ⟨rfl, hb⟩
      have h1 := H0.out.ext hb
      clear hb H0
      go_wp2_with (fail)
      refine hK.out _ _ h1 (fun hHeld => ?_)
      clear hK K h1
      try simp only [Act.put, List.getElem_toArray, List.getElem_cons_succ, List.getElem_cons_zero, List.setIfInBounds_toArray, List.set_cons_zero, List.set_cons_succ]
      refine wpAnyH_ready (rs := [8]) (by kernel_rfl) (by simp) (AllReadyH.cons rfl (fun K hK => ?_) AllReadyH.nil)
      have h0 := hHeld
      clear hHeld
      try simp only [List.getElem_toArray, List.getElem_cons_succ, List.getElem_cons_zero]
      have H0 := Lib.hid h0
      clear h0
      go_simp
      go_at_call 9
      refine (HM2.out _ (Fr.pg H0.out HP.out)).mono ?_
      rintro e vv ⟨rfl, hb⟩
      have h1 := H0.out.ext hb
      clear hb H0
      go_wp2_with (fail)
      refine hK.out _ _ h1 (fun hHeld => ?_)
      clear hK K h1
      try simp only [Act.put, List.getElem_toArray, List.getElem_cons_succ, List.getElem_cons_zero, List.setIfInBounds_toArray, List.set_cons_zero, List.set_cons_succ]
      refine wpAnyH_ready (rs := [9]) (by kernel_rfl) (by simp) (AllReadyH.cons rfl (fun K hK => ?_) AllReadyH.nil)
      have h0 := hHeld
      clear hHeld
      try simp only [List.getElem_toArray, List.getElem_cons_succ, List.getElem_cons_zero]
      have H0 := Lib.hid h0
      clear h0
      go_simp
      go_at_call 9
      refine (HR2.out _ (Fr.pg H0.out HP.out)).mono ?_
      rintro e vv ⟨rfl, hb⟩
      have h1 := H0.out.ext hb
      clear hb H0
      go_wp2_with (fail)
      refine hK.out _ _ h1 (fun hHeld => ?_)
      clear hK K h1
      try simp only [Act.put, List.getElem_toArray, List.getElem_cons_succ, List.getElem_cons_zero, List.setIfInBounds_toArray, List.set_cons_zero, List.set_cons_succ]
      refine wpAnyH_take (i := 10) (v := ?_) rfl (by kernel_rfl) (by kernel_rfl) (by kernel_rfl) (fun _ _ _ h => h) (Or.inl ⟨by rfl, ?_⟩) hHeld ?_
      rotate_left
      · (intro W hSw; (try dsimp only at hSw); (try simp only [List.getElem_toArray, List.getElem_cons_succ, List.getElem_cons_zero]); go_simp; try with_reducible rfl)
      try simp only [Act.put, List.getElem_toArray, List.getElem_cons_succ, List.getElem_cons_zero, List.setIfInBounds_toArray, List.set_cons_zero, List.set_cons_succ]
      refine wpAnyH_take (i := 11) (v := ?_) rfl (by kernel_rfl) (by kernel_rfl) (by kernel_rfl) (fun _ _ _ h => h) (Or.inl ⟨by rfl, ?_⟩) hHeld ?_
      rotate_left
      · (intro W hSw; (try dsimp only at hSw); (try simp only [List.getElem_toArray, List.getElem_cons_succ, List.getElem_cons_zero]); go_simp; try with_reducible rfl)
      try simp only [Act.put, List.getElem_toArray, List.getElem_cons_succ, List.getElem_cons_zero, List.setIfInBounds_toArray, List.set_cons_zero, List.set_cons_succ]
      refine wpAnyH_take (i := 12) (v := .agg (ks a2)) rfl (by kernel_rfl) (by kernel_rfl) (by kernel_rfl) (fun _ _ _ h => h) (yields_row (by rfl) 23 (.tmp 9) rfl (g9) rfl 23 (ks a2) _ (fun W (h : Fr _ W _ _) => h.get (by simp)) Tryd.underlying23 rfl (info_ks _)) hHeld ?_
      try simp only [Act.put, List.getElem_toArray, List.getElem_cons_succ, List.getElem_cons_zero, List.setIfInBounds_toArray, List.set_cons_zero, List.set_cons_succ]
      refine wpAnyH_take (i := 13) (v := .agg (ks x2)) rfl (by kernel_rfl) (by kernel_rfl) (by kernel_rfl) (fun _ _ _ h => h) (yields_row (by rfl) 23 (.tmp 10) rfl (g10) rfl 23 (ks x2) _ (fun W (h : Fr _ W _ _) => h.get (by simp)) Tryd.underlying23 rfl (info_ks _)) hHeld ?_
      try simp only [Act.put, List.getElem_toArray, List.getElem_cons_succ, List.getElem_cons_zero, List.setIfInBounds_toArray, List.set_cons_zero, List.set_cons_succ]
      refine wpAnyH_take (i := 15) (v := .agg (ks a)) rfl (by kernel_rfl) (by kernel_rfl) (by kernel_rfl) (fun _ _ _ h => h) (yields_row (by rfl) 23 (.tmp 4) rfl (w.heap.size) rfl 23 (ks a) _ (fun W (h : Fr _ W _ _) => h.get (by simp)) Tryd.underlying23 rfl (info_ks _)) hHeld ?_
      try simp only [Act.put, List.getElem_toArray, List.getElem_cons_succ, List.getElem_cons_zero, List.setIfInBounds_toArray, List.set_cons_zero, List.set_cons_succ]
      refine wpAnyH_take (i := 16) (v := .agg (ks x)) rfl (by kernel_rfl) (by kernel_rfl) (by kernel_rfl) (fun _ _ _ h => h) (yields_row (by rfl) 23 (.tmp 6) rfl (w.heap.size + 1 + 1) rfl 23 (ks x) _ (fun W (h : Fr _ W _ _) => h.get (by simp)) Tryd.underlying23 rfl (info_ks _)) hHeld ?_
      try simp only [Act.put, List.getElem_toArray, List.getElem_cons_succ, List.getElem_cons_zero, List.setIfInBounds_toArray, List.set_cons_zero, List.set_cons_succ]
      refine wpAnyH_ready (rs := [14]) (by kernel_rfl) (by simp) (AllReadyH.cons rfl (fun K hK => ?_) AllReadyH.nil)
      have h0 := hHeld
      clear hHeld
      try simp only [List.getElem_toArray, List.getElem_cons_succ, List.getElem_cons_zero]
      have H0 := Lib.hid h0
      clear h0
      go_simp
      go_at_call 9
      refine (HM3.out _ (Fr.pg H0.out HP.out)).mono ?_
      rintro e vv ⟨rfl, hb⟩
      have h1 := H0.out.ext hb
      clear hb H0
      go_wp2_with (fail)
      refine hK.out _ _ h1 (fun hHeld => ?_)
      clear hK K h1
      try simp only [Act.put, List.getElem_toArray, List.getElem_cons_succ, List.getElem_cons_zero, List.setIfInBounds_toArray, List.set_cons_zero, List.set_cons_succ]
      refine wpAnyH_ready (rs := [17]) (by kernel_rfl) (by simp) (AllReadyH.cons rfl (fun K hK => ?_) AllReadyH.nil)
      have h0 := hHeld
      clear hHeld
      try simp only [List.getElem_toArray, List.getElem_cons_succ, List.getElem_cons_zero]
      have H0 := Lib.hid h0
      clear h0
      go_simp
      go_at_call 9
      refine (HM2.out _ (Fr.pg H0.out HP.out)).mono ?_
      rintro e vv ⟨rfl, hb⟩
      have h1 := H0.out.ext hb
      clear hb H0
      go_wp2_with (fail)
      refine hK.out _ _ h1 (fun hHeld => ?_)
      clear hK K h1
      try simp only [Act.put, List.getElem_toArray, List.getElem_cons_succ, List.getElem_cons_zero, List.setIfInBounds_toArray, List.set_cons_zero, List.set_cons_succ]
      refine wpAnyH_take (i := 18) (v := ?_) rfl (by kernel_rfl) (by kernel_rfl) (by kernel_rfl) (fun _ _ _ h => h) (Or.inl ⟨by rfl, ?_⟩) hHeld ?_
      rotate_left
      · (intro W hSw; (try dsimp only at hSw); (try simp only [List.getElem_toArray, List.getElem_cons_succ, List.getElem_cons_zero]); go_simp; try with_reducible rfl)
      try simp only [Act.put, List.getElem_toArray, List.getElem_cons_succ, List.getElem_cons_zero, List.setIfInBounds_toArray, List.set_cons_zero, List.set_cons_succ]
      refine wpAnyH_take (i := 19) (v := ?_) rfl (by kernel_rfl) (by kernel_rfl) (by kernel_rfl) (fun _ _ _ h => h) (Or.inl ⟨by rfl, ?_⟩) hHeld ?_
      rotate_left
      · (intro W hSw; (try dsimp only at hSw); (try simp only [List.getElem_toArray, List.getElem_cons_succ, List.getElem_cons_zero]); go_simp; try with_reducible rfl)
      try simp only [Act.put, List.getElem_toArray, List.getElem_cons_succ, List.getElem_cons_zero, List.setIfInBounds_toArray, List.set_cons_zero, List.set_cons_succ]
      refine wpAnyH_take (i := 20) (v := ?_) rfl (by kernel_rfl) (by kernel_rfl) (by kernel_rfl) (fun _ _ _ h => h) (Or.inl ⟨by rfl, ?_⟩) hHeld ?_
      rotate_left
      · (intro W hSw; (try dsimp only at hSw); (try simp only [List.getElem_toArray, List.getElem_cons_succ, List.getElem_cons_zero]); go_simp; try with_reducible rfl)
      try simp only [Act.put, List.getElem_toArray, List.getElem_cons_succ, List.getElem_cons_zero, List.setIfInBounds_toArray, List.set_cons_zero, List.set_cons_succ]
      refine wpAnyH_ready (rs := [21]) (by kernel_rfl) (by simp) (AllReadyH.cons rfl (fun K hK => ?_) AllReadyH.nil)
      have h0 := hHeld
      clear hHeld
      try simp only [List.getElem_toArray, List.getElem_cons_succ, List.getElem_cons_zero]
      have H0 := Lib.hid h0
      clear h0
      go_simp
      go_at_call 10
      refine (lknown_any _ (Fr.pg H0.out HP.out)).mono ?_
      rintro e vv ⟨rfl, hb⟩
      have h1 := H0.out.ext hb
      clear hb H0
      go_wp2_with (fail)
      refine hK.out _ _ h1 (fun hHeld => ?_)
      clear hK K h1
      try simp only [Act.put, List.getElem_toArray, List.getElem_cons_succ, List.getElem_cons_zero, List.setIfInBounds_toArray, List.set_cons_zero, List.set_cons_succ]
      refine wpAnyH_take (i := 22) (v := ?_) rfl (by kernel_rfl) (by kernel_rfl) (by kernel_rfl) (fun _ _ _ h => h) (Or.inl ⟨by rfl, ?_⟩) hHeld ?_
      rotate_left
      · (intro W hSw; (try dsimp only at hSw); (try simp only [List.getElem_toArray, List.getElem_cons_succ, List.getElem_cons_zero]); go_simp; try with_reducible rfl)
      try simp only [Act.put, List.getElem_toArray, List.getElem_cons_succ, List.getElem_cons_zero, List.setIfInBounds_toArray, List.set_cons_zero, List.set_cons_succ]
      refine wpAnyH_take (i := 23) (v := ?_) rfl (by kernel_rfl) (by kernel_rfl) (by kernel_rfl) (fun _ _ _ h => h) (Or.inl ⟨by rfl, ?_⟩) hHeld ?_
      rotate_left
      · (intro W hSw; (try dsimp only at hSw); (try simp only [List.getElem_toArray, List.getElem_cons_succ, List.getElem_cons_zero]); go_simp; try with_reducible rfl)
      try simp only [Act.put, List.getElem_toArray, List.getElem_cons_succ, List.getElem_cons_zero, List.setIfInBounds_toArray, List.set_cons_zero, List.set_cons_succ]
      refine wpAnyH_done (by kernel_rfl) ?_ _
      have HB := Lib.hid hHeld.below
      clear hHeld
      go_wp2_with (fail)
      go_ret
      exact ⟨rfl, HB.out⟩
end Go.Proofs.YthlnnoajklmeiaaDoor
