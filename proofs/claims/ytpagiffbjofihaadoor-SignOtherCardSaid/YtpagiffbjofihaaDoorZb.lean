/- Words, contracts and walks (Sq, So, Su, Hw, Hp, Hd, Hv, Hx, Hy, Hz, Hc, Hs, Hg, Hh, Hk, Ho, Hq), laid together. No condition. -/
import Derived.Test.YtpagiffbjofihaaDoorZa
import Derived.Deep.RegionHeld3
import Derived.Deep.DeepCutAuto
import Derived.Deep.CutBlock
namespace Go.Proofs.YtpagiffbjofihaaDoor.Scl
set_option linter.unusedVariables false
set_option linter.unusedSimpArgs false
open Go.RowKit
/-- L. -/
def LL : Nat := 7237005577332262213973186563042994240857116359379907606001950938285454250989
theorem LL_eq : LL = 7237005577332262213973186563042994240857116359379907606001950938285454250989 := rfl
theorem ws_LL : ws 4 LL = #[.int .u64 6346243789798364141, .int .u64 1503914060200516822, .int .u64 0, .int .u64 1152921504606846976] := by kernel_rfl
/-- The program's variable order holds L's words. -/
structure OG (w : World) : Prop where
  lt : 0 < w.heap.size
  c0 : w.cell? ⟨0, 0, none⟩ = some (.int .u64 6346243789798364141)
  c1 : w.cell? ⟨0, 1, none⟩ = some (.int .u64 1503914060200516822)
  c2 : w.cell? ⟨0, 2, none⟩ = some (.int .u64 0)
  c3 : w.cell? ⟨0, 3, none⟩ = some (.int .u64 1152921504606846976)
theorem OG.below {w w' : World} {B : Nat} (h : OG w) (hb : Below B w w') (hB : 0 < B) (hs : w.heap.size ≤ w'.heap.size) : OG w' :=
  ⟨Nat.lt_of_lt_of_le h.lt hs, (hb.cell (p := ⟨0, 0, none⟩) hB).trans h.c0, (hb.cell (p := ⟨0, 1, none⟩) hB).trans h.c1, (hb.cell (p := ⟨0, 2, none⟩) hB).trans h.c2, (hb.cell (p := ⟨0, 3, none⟩) hB).trans h.c3⟩
theorem OG.ext {w w' : World} (h : OG w) (hb : Below w.heap.size w w') : OG w' := h.below hb h.lt hb.size
theorem OG.drew {w : World} (h : OG w) : OG w.drew := ⟨h.1, h.2, h.3, h.4, h.5⟩
theorem OG.alloc {w : World} (h : OG w) (o : Obj) : OG (w.alloc o) := h.ext ((Below.refl _ _).alloc (Nat.le_refl _) _)
theorem _root_.Go.Proofs.YtpagiffbjofihaaDoor.Fr.og {w W : World} {L : List (Nat × TypeId × Array Value)} {R : List (Nat × TypeId × Nat)} (h : Fr w W L R) (hp : OG w) : OG W := hp.ext h.below
/-- What is left behind k bits. -/
def lf (n k : Nat) : Nat := n / 2 ^ (512 - k) % LL
theorem lf_lt (n k : Nat) : lf n k < LL := Nat.mod_lt _ (by rw [LL_eq]; omega)
theorem b8 {x : Nat} (h : x = 512) : (18446744073709551616 : Nat) ^ 8 = 2 ^ x := by
  have e : (18446744073709551616 : Nat) = 2 ^ 64 := by decide
  rw [e, ← Nat.pow_mul]
  have e2 : 64 * 8 = x := by omega
  rw [e2]
theorem lf_zero {n : Nat} (h : n < 18446744073709551616 ^ 8) : lf n 0 = 0 := by
  unfold lf
  generalize hx : 512 - 0 = x
  have e := b8 (x := x) (by omega)
  rw [Nat.div_eq_of_lt (by rw [← e]; exact h), Nat.zero_mod]
theorem lf_end (n : Nat) : lf n 512 = n % LL := by
  unfold lf
  rw [Nat.sub_self, Nat.pow_zero, Nat.div_one]
theorem lf_step (n k : Nat) (hk : k < 512) : (2 * lf n k + n / 2 ^ (511 - k) % 2) % LL = lf n (k + 1) := by
  unfold lf
  have h1 : 512 - (k + 1) = 511 - k := by omega
  have h2 : 512 - k = 511 - k + 1 := by omega
  have h3 : n / 2 ^ (511 - k) = 2 * (n / 2 ^ (511 - k + 1)) + n / 2 ^ (511 - k) % 2 := by
    rw [Nat.pow_succ, ← Nat.div_div_eq_div_mul]
    omega
  rw [h1, h2]
  conv => rhs; rw [h3]
  rw [Nat.add_mod, Nat.mul_mod, Nat.mod_mod, ← Nat.mul_mod, ← Nat.add_mod]
theorem lf_more {n k m : Nat} (hk : k < 512) (h : m + LL = 2 * lf n k + n / 2 ^ (511 - k) % 2 + 115792089237316195423570985008687907853269984665640564039457584007913129639936 * 0) : m = lf n (k + 1) := by
  have h1 := lf_step n k hk
  have h2 := lf_lt n k
  have h3 : n / 2 ^ (511 - k) % 2 < 2 := Nat.mod_lt _ (by omega)
  rw [Nat.mul_zero, Nat.add_zero] at h
  rw [← h, Nat.add_mod_right, Nat.mod_eq_of_lt (by omega)] at h1
  exact h1
theorem lf_less {n k m : Nat} (hk : k < 512) (hm : m < 115792089237316195423570985008687907853269984665640564039457584007913129639936) (h : m + LL = 2 * lf n k + n / 2 ^ (511 - k) % 2 + 115792089237316195423570985008687907853269984665640564039457584007913129639936 * 1) : 2 * lf n k + n / 2 ^ (511 - k) % 2 = lf n (k + 1) := by
  have h1 := lf_step n k hk
  rw [Nat.mod_eq_of_lt (by omega)] at h1
  exact h1
set_option maxRecDepth 100000 in
set_option maxHeartbeats 4000000 in
theorem rest_any (n : Nat) (w : World) (hog : OG w) (hn : n < 18446744073709551616 ^ 8) :
    Calls Tryd.prog 28 #[.agg (ws 8 n)] w (KeyPost (n % LL) w) := by
  have hfr := (((Fr.start w).row (ws 8 n) 59 (g := w.heap.size) rfl).any (ks 0) 23 32 (ks_size 0) (g := w.heap.size + 1) (by simp)).row (ws 4 0) 37 (g := w.heap.size + 1 + 1) (by simp)
  rw [ws4_zero] at hfr
  have hfr2 := hfr
  rw [ks_zero] at hfr2
  have HFR := Lib.hid hfr2
  have HOG := Lib.hid hog
  have hlz := lf_zero hn
  have HLZ := Lib.hid hlz
  clear hfr hfr2 hog hlz hn
  go_enter Tryd.func28, Tryd.ntmps28
  go_wp2_with (fail)
  go_loopw [7] (fun c wr => ∃ k : Nat, k ≤ 512 ∧ c = .int .i64 k ∧ Fr w wr [(w.heap.size + 1 + 1, 37, ws 4 (lf n k)), (w.heap.size, 59, ws 8 n)] [(w.heap.size + 1, 23, 32)]) (fun c _ => 512 - (intOf c).toNat)
  case atStart => exact ⟨0, by omega, rfl, by rw [HLZ.out, ws4_zero]; exact HFR.out⟩
  case round =>
    obtain ⟨k, hk, rfl, hF⟩ := hrel
    clear HFR HLZ
    by_cases hlt : k < 512
    · have hmore := fun m => @lf_more n k m hlt
      have hless := fun m => @lf_less n k m hlt
      have hl := lf_lt n k
      rw [LL_eq] at hl
      have hbit := bit_any n (511 - k)
      rw [show ((511 - k : Nat) : Int) = 511 - (k : Int) by omega] at hbit
      have hb2 : n / 2 ^ (511 - k) % 2 ≤ 1 := by omega
      generalize n / 2 ^ (511 - k) % 2 = t at *
      generalize lf n k = r at *
      obtain ⟨q, hq⟩ : ∃ q, q = 2 * r + t := ⟨_, rfl⟩
      have hdbl := fun W => double_any r t W hb2 (by omega)
      rw [← hq] at hdbl
      simp only [← hq] at hmore hless
      have hql : q < 115792089237316195423570985008687907853269984665640564039457584007913129639936 := by omega
      clear hl hb2 hq
      have hS : Fr w wr [(w.heap.size, 59, ws 8 n)] [(w.heap.size + 1, 23, 32)] := hF.sub (by simp) (by simp)
      have kz := hF.get (g := w.heap.size + 1 + 1) (t := 37) (cs := ws 4 r) (by simp)
      have KZ0 := Lib.hid kz.drew
      have HS := Lib.hid hS
      have hsz := hF.size
      have hzz : w.heap.size + 1 + 1 < wr.heap.size := kz.lt
      have HMORE := Lib.hid hmore
      have HLESS := Lib.hid hless
      have HBIT := Lib.hid hbit
      have HDBL := Lib.hid hdbl
      clear hmore hless hbit hdbl hS kz hF
      have b1 : IntKind.i64.wrap (511 - (k : Int)) = 511 - (k : Int) := by rw [IntKind.wrap_i64]; omega
      go_wp2_with (fail)
      go_cut [] (fun wz => Fr w wz [(w.heap.size + 1 + 1, 37, ws 4 q), (w.heap.size, 59, ws 8 n)] [(w.heap.size + 1, 23, 32)])
      case first =>
        refine wp_region_held_drew (S := fun W => Fr w W [(w.heap.size, 59, ws 8 n)] [(w.heap.size + 1, 23, 32)]) (by kernel_rfl) ?_ (fun hHeld => ?_)
        · exact HS.out.drew
        refine wpAnyH_take (i := 1) (v := .agg (ws 8 n)) rfl (by kernel_rfl) (by kernel_rfl) (by kernel_rfl) (fun _ _ _ h => h) (yields_row (by rfl) 59 (.tmp 1) rfl (w.heap.size) rfl 59 (ws 8 n) _ (fun W (h : Fr _ W _ _) => h.get (by simp)) Tryd.underlying59 rfl (info_ws8 n)) hHeld ?_
        try simp only [Act.put, List.getElem_toArray, List.getElem_cons_succ, List.getElem_cons_zero, List.setIfInBounds_toArray, List.set_cons_zero, List.set_cons_succ]
        refine wpAnyH_take (i := 2) (v := ?_) rfl (by kernel_rfl) (by kernel_rfl) (by kernel_rfl) (fun _ _ _ h => h) (Or.inl ⟨by rfl, ?_⟩) hHeld ?_
        rotate_left
        · (intro W hSw; (try dsimp only at hSw); (try simp only [List.getElem_toArray, List.getElem_cons_succ, List.getElem_cons_zero]); go_simp; try with_reducible rfl)
        try simp only [Act.put, List.getElem_toArray, List.getElem_cons_succ, List.getElem_cons_zero, List.setIfInBounds_toArray, List.set_cons_zero, List.set_cons_succ]
        refine wpAnyH_take (i := 3) (v := ?_) rfl (by kernel_rfl) (by kernel_rfl) (by kernel_rfl) (fun _ _ _ h => h) (Or.inl ⟨by rfl, ?_⟩) hHeld ?_
        rotate_left
        · (intro W hSw; (try dsimp only at hSw); (try simp only [List.getElem_toArray, List.getElem_cons_succ, List.getElem_cons_zero]); go_simp; try with_reducible rfl)
        try simp only [Act.put, List.getElem_toArray, List.getElem_cons_succ, List.getElem_cons_zero, List.setIfInBounds_toArray, List.set_cons_zero, List.set_cons_succ]
        have KZ := KZ0
        clear KZ0
        refine wpAnyH_ready (rs := [0, 4]) (by kernel_rfl) (by simp) (AllReadyH.cons rfl (fun K hK => ?_) (AllReadyH.cons rfl (fun K hK => ?_) AllReadyH.nil))
        · have h0 := hHeld
          clear hHeld
          try simp only [List.getElem_toArray, List.getElem_cons_succ, List.getElem_cons_zero]
          rw [if_pos (by rfl)]
          refine wp_load_row 37 (.tmp 3) rfl (w.heap.size + 1 + 1) rfl 37 (ws 4 r) (0, 0) _ KZ.out Tryd.underlying37 rfl (info_ws4 r) ?_
          refine hK.out _ _ h0 (fun hHeld => ?_)
          clear hK K h0
          try simp only [Act.put, List.getElem_toArray, List.getElem_cons_succ, List.getElem_cons_zero, List.setIfInBounds_toArray, List.set_cons_zero, List.set_cons_succ]
          refine wpAnyH_ready (rs := [4]) (by kernel_rfl) (by simp) (AllReadyH.cons rfl (fun K hK => ?_) AllReadyH.nil)
          have h0 := hHeld
          clear hHeld
          try simp only [List.getElem_toArray, List.getElem_cons_succ, List.getElem_cons_zero]
          have H0 := Lib.hid h0
          clear h0
          go_simp
          go_at_call 54
          refine (HBIT.out _ (by omega)).mono ?_
          rintro e vv ⟨rfl, hb⟩
          have kz := KZ.out.below hb KZ.out.lt
          clear KZ
          have KZ := Lib.hid kz
          clear kz
          have h1 := H0.out.ext hb
          clear hb H0
          go_wp2_with (fail)
          refine hK.out _ _ h1 (fun hHeld => ?_)
          clear hK K h1
          try simp only [Act.put, List.getElem_toArray, List.getElem_cons_succ, List.getElem_cons_zero, List.setIfInBounds_toArray, List.set_cons_zero, List.set_cons_succ]
          refine wpAnyH_ready (rs := [5]) (by kernel_rfl) (by simp) (AllReadyH.cons rfl (fun K hK => ?_) AllReadyH.nil)
          have h0 := hHeld
          clear hHeld
          try simp only [List.getElem_toArray, List.getElem_cons_succ, List.getElem_cons_zero]
          have H0 := Lib.hid h0
          clear h0
          go_simp
          go_at_call 53
          refine (HDBL.out _).mono ?_
          rintro e vv ⟨rfl, hb⟩
          have kz := KZ.out.below hb KZ.out.lt
          clear KZ
          have KZ := Lib.hid kz
          clear kz
          have h1 := H0.out.ext hb
          clear hb H0
          go_wp2_with (fail)
          refine hK.out _ _ h1 (fun hHeld => ?_)
          clear hK K h1
          try simp only [Act.put, List.getElem_toArray, List.getElem_cons_succ, List.getElem_cons_zero, List.setIfInBounds_toArray, List.set_cons_zero, List.set_cons_succ]
          refine wpAnyH_ready (rs := [6]) (by kernel_rfl) (by simp) (AllReadyH.cons rfl (fun K hK => ?_) AllReadyH.nil)
          have h0 := hHeld
          clear hHeld
          try simp only [List.getElem_toArray, List.getElem_cons_succ, List.getElem_cons_zero]
          rw [if_pos (by rfl)]
          refine wp_store_row 37 (.tmp 3) (.tmp 15) rfl (w.heap.size + 1 + 1) (ws 4 q) rfl rfl 37 _ KZ.out (info_ws4 q) rfl (ws_one _ _) ?_
          refine hK.out _ _ (Fr.setOut h0 (g := w.heap.size + 1 + 1) (by omega) (by simp <;> omega) (by simp <;> omega) _) (fun hHeld => ?_)
          have kb := KZ.out.setRow_same (ws 4 q)
          clear hK K h0
          try simp only [Act.put, List.getElem_toArray, List.getElem_cons_succ, List.getElem_cons_zero, List.setIfInBounds_toArray, List.set_cons_zero, List.set_cons_succ]
          refine wpAnyH_done (by kernel_rfl) ?_ _
          have hf4 := hHeld.more kb
          have HF4 := Lib.hid hf4
          clear hHeld hf4 kb
          go_wp2_with (fail)
          go_meet
          exact HF4.out
        · have h0 := hHeld
          clear hHeld
          try simp only [List.getElem_toArray, List.getElem_cons_succ, List.getElem_cons_zero]
          have H0 := Lib.hid h0
          clear h0
          go_simp
          go_at_call 54
          refine (HBIT.out _ (by omega)).mono ?_
          rintro e vv ⟨rfl, hb⟩
          have kz := KZ.out.below hb KZ.out.lt
          clear KZ
          have KZ := Lib.hid kz
          clear kz
          have h1 := H0.out.ext hb
          clear hb H0
          go_wp2_with (fail)
          refine hK.out _ _ h1 (fun hHeld => ?_)
          clear hK K h1
          try simp only [Act.put, List.getElem_toArray, List.getElem_cons_succ, List.getElem_cons_zero, List.setIfInBounds_toArray, List.set_cons_zero, List.set_cons_succ]
          refine wpAnyH_ready (rs := [0]) (by kernel_rfl) (by simp) (AllReadyH.cons rfl (fun K hK => ?_) AllReadyH.nil)
          have h0 := hHeld
          clear hHeld
          try simp only [List.getElem_toArray, List.getElem_cons_succ, List.getElem_cons_zero]
          rw [if_pos (by rfl)]
          refine wp_load_row 37 (.tmp 3) rfl (w.heap.size + 1 + 1) rfl 37 (ws 4 r) (0, 0) _ KZ.out Tryd.underlying37 rfl (info_ws4 r) ?_
          refine hK.out _ _ h0 (fun hHeld => ?_)
          clear hK K h0
          try simp only [Act.put, List.getElem_toArray, List.getElem_cons_succ, List.getElem_cons_zero, List.setIfInBounds_toArray, List.set_cons_zero, List.set_cons_succ]
          refine wpAnyH_ready (rs := [5]) (by kernel_rfl) (by simp) (AllReadyH.cons rfl (fun K hK => ?_) AllReadyH.nil)
          have h0 := hHeld
          clear hHeld
          try simp only [List.getElem_toArray, List.getElem_cons_succ, List.getElem_cons_zero]
          have H0 := Lib.hid h0
          clear h0
          go_simp
          go_at_call 53
          refine (HDBL.out _).mono ?_
          rintro e vv ⟨rfl, hb⟩
          have kz := KZ.out.below hb KZ.out.lt
          clear KZ
          have KZ := Lib.hid kz
          clear kz
          have h1 := H0.out.ext hb
          clear hb H0
          go_wp2_with (fail)
          refine hK.out _ _ h1 (fun hHeld => ?_)
          clear hK K h1
          try simp only [Act.put, List.getElem_toArray, List.getElem_cons_succ, List.getElem_cons_zero, List.setIfInBounds_toArray, List.set_cons_zero, List.set_cons_succ]
          refine wpAnyH_ready (rs := [6]) (by kernel_rfl) (by simp) (AllReadyH.cons rfl (fun K hK => ?_) AllReadyH.nil)
          have h0 := hHeld
          clear hHeld
          try simp only [List.getElem_toArray, List.getElem_cons_succ, List.getElem_cons_zero]
          rw [if_pos (by rfl)]
          refine wp_store_row 37 (.tmp 3) (.tmp 15) rfl (w.heap.size + 1 + 1) (ws 4 q) rfl rfl 37 _ KZ.out (info_ws4 q) rfl (ws_one _ _) ?_
          refine hK.out _ _ (Fr.setOut h0 (g := w.heap.size + 1 + 1) (by omega) (by simp <;> omega) (by simp <;> omega) _) (fun hHeld => ?_)
          have kb := KZ.out.setRow_same (ws 4 q)
          clear hK K h0
          try simp only [Act.put, List.getElem_toArray, List.getElem_cons_succ, List.getElem_cons_zero, List.setIfInBounds_toArray, List.set_cons_zero, List.set_cons_succ]
          refine wpAnyH_done (by kernel_rfl) ?_ _
          have hf4 := hHeld.more kb
          have HF4 := Lib.hid hf4
          clear hHeld hf4 kb
          go_wp2_with (fail)
          go_meet
          exact HF4.out
      case rest =>
        have hF := hcut
        have hO := hF.og HOG.out
        obtain ⟨hz, p0, p1, p2, p3⟩ := hO
        have k5 := hF.get (g := w.heap.size + 1 + 1) (t := 37) (cs := ws 4 q) (by simp)
        have HF := Lib.hid hF
        clear hF hcut
        go_wp2_with (first | (refine wpList_load_row rfl 37 (.tmp 3) rfl (w.heap.size + 1 + 1) rfl 37 (ws 4 q) (0, 0) _ k5 Tryd.underlying37 rfl (info_ws4 q) ?_))
        have hm := fun W => minus_any q LL W hql (by rw [LL_eq]; omega)
        simp only [ws_LL] at hm
        refine (hm _).mono ?_
        clear hm
        rintro e v1 ⟨m, c, rfl, e1, l1, c1, hb⟩
        have f1 := HF.out.ext hb
        have f2 := f1.row (ws 4 0) 37 (g := v1.heap.size) rfl
        rw [ws4_zero] at f2
        have hz2 : w.heap.size + 1 + 1 < v1.heap.size := by have := (f1.get (g := w.heap.size + 1 + 1) (t := 37) (cs := ws 4 q) (by simp)).lt; omega
        have kl := f2.get (g := v1.heap.size) (t := 37) (cs := #[.int .u64 0, .int .u64 0, .int .u64 0, .int .u64 0]) (by simp)
        have f3 := f2.setRowHead (by simp <;> omega) (by simp <;> omega) (ws 4 m) (by omega)
        have F3 := Lib.hid f3
        have KL := Lib.hid kl
        clear f1 f2 f3 kl hb k5
        have hcc : c = 0 ∨ c = 1 := by omega
        rcases hcc with rfl | rfl
        · have hr := HMORE.out m (by rw [e1])
          have HR := Lib.hid hr
          have k6 := F3.out.get (g := v1.heap.size) (t := 37) (cs := ws 4 m) (by simp)
          have k7 := F3.out.get (g := w.heap.size + 1 + 1) (t := 37) (cs := ws 4 q) (by simp)
          have f4 := (F3.out.sub (L' := [(w.heap.size + 1 + 1, 37, ws 4 q), (w.heap.size, 59, ws 8 n)]) (R' := [(w.heap.size + 1, 23, 32)]) (by simp) (by simp)).setRowHead (by simp <;> omega) (by simp) (ws 4 m) (by omega)
          have F4 := Lib.hid f4
          have K6 := Lib.hid k6
          have K7 := Lib.hid k7
          clear hr f4 e1 k6 k7
          go_wp2_with (first | (refine wpList_store_row rfl 37 (.tmp 5) (.tmp 20) rfl (v1.heap.size) (ws 4 m) rfl rfl 37 _ KL.out (info_ws4 m) rfl (ws_one _ _) ?_) | (refine wpList_load_row rfl 37 (.tmp 5) rfl (v1.heap.size) rfl 37 (ws 4 m) (0, 0) _ K6.out Tryd.underlying37 rfl (info_ws4 m) ?_) | (refine wpList_store_row rfl 37 (.tmp 3) (.tmp 24) rfl (w.heap.size + 1 + 1) (ws 4 m) rfl rfl 37 _ K7.out (info_ws4 m) rfl (ws_one _ _) ?_))
          go_roundw
          case rel => exact ⟨k + 1, by omega, by go_num, by rw [← HR.out]; exact F4.out⟩
          case measure => simp [intOf] <;> omega
        · have hr := HLESS.out m l1 (by rw [e1])
          have HR := Lib.hid hr
          have f4 := (F3.out.sub (L' := [(w.heap.size + 1 + 1, 37, ws 4 q), (w.heap.size, 59, ws 8 n)]) (R' := [(w.heap.size + 1, 23, 32)]) (by simp) (by simp))
          have F4 := Lib.hid f4
          clear hr f4 e1
          go_wp2_with (first | (refine wpList_store_row rfl 37 (.tmp 5) (.tmp 20) rfl (v1.heap.size) (ws 4 m) rfl rfl 37 _ KL.out (info_ws4 m) rfl (ws_one _ _) ?_))
          go_roundw
          case rel => exact ⟨k + 1, by omega, by go_num, by rw [← HR.out]; exact F4.out⟩
          case measure => simp [intOf] <;> omega
    · obtain rfl : k = 512 := by omega
      have hl := lf_lt n 512
      rw [lf_end] at hF hl
      generalize n % LL = m at *
      rw [LL_eq] at hl
      have kT := hF.get (g := w.heap.size + 1 + 1) (t := 37) (cs := ws 4 m) (by simp)
      have HF := Lib.hid hF
      clear hF
      go_wp2_with (first | (refine wpList_load_row rfl 37 (.tmp 3) rfl (w.heap.size + 1 + 1) rfl 37 (ws 4 m) (0, 0) _ kT Tryd.underlying37 rfl (info_ws4 m) ?_))
      have hby := fun W => bytesOf_any m W (by omega)
      simp only [es_ws] at hby
      refine (hby _).mono ?_
      rintro e v1 ⟨rfl, hb⟩
      have f1 := HF.out.ext hb
      obtain ⟨old, hold, kR⟩ := f1.old (g := w.heap.size + 1) (t := 23) (n := 32) (by simp)
      have kS := kR.setRow_same (ks m)
      have hB := below_setRow f1.below (show w.heap.size ≤ w.heap.size + 1 by omega) (ks m)
      have hold' : old.size = (ks m).size := by rw [hold, ks_size]
      have HS := Lib.hid kS
      have HB := Lib.hid hB
      have HO := Lib.hid hold'
      clear hby hb f1 kS hB hold hold' kT
      go_wp2_with (first | (refine wpList_store_row rfl 23 (.tmp 2) (.tmp 27) rfl (w.heap.size + 1) (ks m) rfl rfl 23 old kR (info_ks m) HO.out (ks_one _) ?_))
      exact bodyPost_ret (results_cell_row rfl _ _ (w.heap.size + 1) 23 (ks m) (0, 0) _ rfl HS.out Tryd.underlying23 rfl (info_ks m)) rfl ⟨rfl, HB.out⟩
end Go.Proofs.YtpagiffbjofihaaDoor.Scl
namespace Go.Proofs.YtpagiffbjofihaaDoor.Scl
set_option linter.unusedVariables false
set_option linter.unusedSimpArgs false
open Go.RowKit
theorem b4 : (18446744073709551616 : Nat) ^ 4 = 115792089237316195423570985008687907853269984665640564039457584007913129639936 := by decide
theorem key_end {fn : Func} {p : Tmp} (hr : fn.results = #[.cell p 23]) {frame : Act} {w w' : World} {g n : Nat} (hp : frame.tmps.getD p undef = .pointer (some ⟨g, 0, none⟩)) (hd : frame.defers = []) (hb : Blk w' g 23 (ks n)) (hB : Below w.heap.size w w') :
    bodyPost Tryd.prog fn (KeyPost n w) .ret frame w' :=
  bodyPost_ret (results_cell_row hr _ _ g 23 (ks n) (0, 0) _ hp hb Tryd.underlying23 rfl (info_ks n)) hd ⟨rfl, hB⟩
theorem wordsW (n : Nat) (w : World) (hn : n < 115792089237316195423570985008687907853269984665640564039457584007913129639936) : Calls Tryd.prog 30 #[.agg (ks n)] w (WPost 4 n w) := by
  have h := wordsOf_any n w hn
  unfold ElemPost at h
  simp only [es_ws] at h
  exact h
theorem mulAddL (a b c : Nat) (w : World) (ha : a < 115792089237316195423570985008687907853269984665640564039457584007913129639936) (hb : b < 115792089237316195423570985008687907853269984665640564039457584007913129639936) (hc : c < 115792089237316195423570985008687907853269984665640564039457584007913129639936) :
    Calls Tryd.prog 29 #[.agg (ws 4 a), .agg (ws 4 b), .agg (ws 4 c)] w (WPost 8 (a * b + c) w) := mulAdd8_any a b c w (by rw [b4]; exact ha) (by rw [b4]; exact hb) (by rw [b4]; exact hc)
theorem prod_lt {a b c : Nat} (ha : a < 115792089237316195423570985008687907853269984665640564039457584007913129639936) (hb : b < 115792089237316195423570985008687907853269984665640564039457584007913129639936) (hc : c < 115792089237316195423570985008687907853269984665640564039457584007913129639936) : a * b + c < 18446744073709551616 ^ 8 := by
  have h1 : a * b ≤ 115792089237316195423570985008687907853269984665640564039457584007913129639935 * 115792089237316195423570985008687907853269984665640564039457584007913129639935 := Nat.mul_le_mul (by omega) (by omega)
  have e : (18446744073709551616 : Nat) ^ 8 = 13407807929942597099574024998205846127479365820592393377723561443721764030073546976801874298166903427690031858186486050853753882811946569946433649006084096 := by decide
  rw [e]
  omega
theorem LL_lt : LL < 115792089237316195423570985008687907853269984665640564039457584007913129639936 := by rw [LL_eq]; omega
theorem minusL_ex (s : Nat) (hs : s < 115792089237316195423570985008687907853269984665640564039457584007913129639936) : ∃ m c : Nat, (∀ w, Calls Tryd.prog 39 #[.agg (ws 4 s), .agg #[.int .u64 6346243789798364141, .int .u64 1503914060200516822, .int .u64 0, .int .u64 1152921504606846976]] w fun e w' => e = .returned (.tuple #[.agg (ws 4 m), .int .u64 (c : Int)]) ∧ Below w.heap.size w w') ∧ c = if s < LL then 1 else 0 := by
  have hl := LL_lt
  refine ⟨(s + 115792089237316195423570985008687907853269984665640564039457584007913129639936 - LL) % 115792089237316195423570985008687907853269984665640564039457584007913129639936, if s < LL then 1 else 0, fun w => ?_, rfl⟩
  have h := minus_any s LL w hs hl
  rw [ws_LL] at h
  refine h.mono ?_
  rintro e w' ⟨m, c, rfl, e1, e2, e3, hb⟩
  have em : m = (s + 115792089237316195423570985008687907853269984665640564039457584007913129639936 - LL) % 115792089237316195423570985008687907853269984665640564039457584007913129639936 := by
    have : c = 0 ∨ c = 1 := by omega
    rcases this with rfl | rfl <;> omega
  have ec : c = if s < LL then 1 else 0 := by
    have : c = 0 ∨ c = 1 := by omega
    split <;> omega
  rw [← em, ← ec]
  exact ⟨rfl, hb⟩
set_option maxRecDepth 100000 in
set_option maxHeartbeats 2000000 in
theorem mulAdd_key (a b c : Nat) (w : World) (hog : OG w) (ha : a < 115792089237316195423570985008687907853269984665640564039457584007913129639936) (hb : b < 115792089237316195423570985008687907853269984665640564039457584007913129639936) (hc : c < 115792089237316195423570985008687907853269984665640564039457584007913129639936) : Calls Tryd.prog 14 #[.agg (ks a), .agg (ks b), .agg (ks c)] w (KeyPost ((a * b + c) % LL) w) := by
  have hfr := (((((Fr.start w).row (ks a) 23 (g := w.heap.size) rfl).row (ks b) 23 (g := w.heap.size + 1) (by simp)).row (ks c) 23 (g := w.heap.size + 1 + 1) (by simp)).any (ks 0) 23 32 (ks_size 0) (g := w.heap.size + 1 + 1 + 1) (by simp))
  have hfr2 := hfr
  rw [ks_zero] at hfr2
  have HFR := Lib.hid hfr2
  clear hfr hfr2
  have HOG := Lib.hid hog
  have HA := Lib.hid ha
  have HB := Lib.hid hb
  have HC := Lib.hid hc
  clear hog ha hb hc
  obtain ⟨r, hr⟩ : ∃ r, r = (a * b + c) % LL := ⟨_, rfl⟩
  rw [← hr]
  have hrest := fun W ho => rest_any (a * b + c) W ho (prod_lt HA.out HB.out HC.out)
  rw [← hr] at hrest
  have HREST := Lib.hid hrest
  clear hr hrest
  go_enter Tryd.func14, Tryd.ntmps14
  go_wp2_with (fail)
  refine wp_region_held_drew (S := fun W => Fr w W [(w.heap.size + 1 + 1, 23, ks c), (w.heap.size + 1, 23, ks b), (w.heap.size, 23, ks a)] [(w.heap.size + 1 + 1 + 1, 23, 32)]) (by kernel_rfl) ?_ (fun hHeld => ?_)
  · exact HFR.out.drew
  refine wpAnyH_take (i := 0) (v := .agg (ks a)) rfl (by kernel_rfl) (by kernel_rfl) (by kernel_rfl) (fun _ _ _ h => h) (yields_row (by rfl) 23 (.tmp 3) rfl (w.heap.size) rfl 23 (ks a) _ (fun W (h : Fr _ W _ _) => h.get (by simp)) Tryd.underlying23 rfl (info_ks _)) hHeld ?_
  try simp only [Act.put, List.getElem_toArray, List.getElem_cons_succ, List.getElem_cons_zero, List.setIfInBounds_toArray, List.set_cons_zero, List.set_cons_succ]
  refine wpAnyH_take (i := 2) (v := .agg (ks b)) rfl (by kernel_rfl) (by kernel_rfl) (by kernel_rfl) (fun _ _ _ h => h) (yields_row (by rfl) 23 (.tmp 4) rfl (w.heap.size + 1) rfl 23 (ks b) _ (fun W (h : Fr _ W _ _) => h.get (by simp)) Tryd.underlying23 rfl (info_ks _)) hHeld ?_
  try simp only [Act.put, List.getElem_toArray, List.getElem_cons_succ, List.getElem_cons_zero, List.setIfInBounds_toArray, List.set_cons_zero, List.set_cons_succ]
  refine wpAnyH_take (i := 4) (v := .agg (ks c)) rfl (by kernel_rfl) (by kernel_rfl) (by kernel_rfl) (fun _ _ _ h => h) (yields_row (by rfl) 23 (.tmp 5) rfl (w.heap.size + 1 + 1) rfl 23 (ks c) _ (fun W (h : Fr _ W _ _) => h.get (by simp)) Tryd.underlying23 rfl (info_ks _)) hHeld ?_
  try simp only [Act.put, List.getElem_toArray, List.getElem_cons_succ, List.getElem_cons_zero, List.setIfInBounds_toArray, List.set_cons_zero, List.set_cons_succ]
  refine wpAnyH_ready (rs := [1]) (by kernel_rfl) (by simp) (AllReadyH.cons rfl (fun K hK => ?_) AllReadyH.nil)
  have h0 := hHeld
  clear hHeld
  try simp only [List.getElem_toArray, List.getElem_cons_succ, List.getElem_cons_zero]
  have H0 := Lib.hid h0
  clear h0
  go_simp
  go_at_call 30
  refine (wordsW a _ HA.out).mono ?_
  rintro e vv ⟨rfl, hb⟩
  have h1 := H0.out.ext hb
  clear hb H0
  go_wp2_with (fail)
  refine hK.out _ _ h1 (fun hHeld => ?_)
  clear hK K h1
  try simp only [Act.put, List.getElem_toArray, List.getElem_cons_succ, List.getElem_cons_zero, List.setIfInBounds_toArray, List.set_cons_zero, List.set_cons_succ]
  refine wpAnyH_ready (rs := [3]) (by kernel_rfl) (by simp) (AllReadyH.cons rfl (fun K hK => ?_) AllReadyH.nil)
  have h0 := hHeld
  clear hHeld
  try simp only [List.getElem_toArray, List.getElem_cons_succ, List.getElem_cons_zero]
  have H0 := Lib.hid h0
  clear h0
  go_simp
  go_at_call 30
  refine (wordsW b _ HB.out).mono ?_
  rintro e vv ⟨rfl, hb⟩
  have h1 := H0.out.ext hb
  clear hb H0
  go_wp2_with (fail)
  refine hK.out _ _ h1 (fun hHeld => ?_)
  clear hK K h1
  try simp only [Act.put, List.getElem_toArray, List.getElem_cons_succ, List.getElem_cons_zero, List.setIfInBounds_toArray, List.set_cons_zero, List.set_cons_succ]
  refine wpAnyH_ready (rs := [5]) (by kernel_rfl) (by simp) (AllReadyH.cons rfl (fun K hK => ?_) AllReadyH.nil)
  have h0 := hHeld
  clear hHeld
  try simp only [List.getElem_toArray, List.getElem_cons_succ, List.getElem_cons_zero]
  have H0 := Lib.hid h0
  clear h0
  go_simp
  go_at_call 30
  refine (wordsW c _ HC.out).mono ?_
  rintro e vv ⟨rfl, hb⟩
  have h1 := H0.out.ext hb
  clear hb H0
  go_wp2_with (fail)
  refine hK.out _ _ h1 (fun hHeld => ?_)
  clear hK K h1
  try simp only [Act.put, List.getElem_toArray, List.getElem_cons_succ, List.getElem_cons_zero, List.setIfInBounds_toArray, List.set_cons_zero, List.set_cons_succ]
  refine wpAnyH_ready (rs := [6]) (by kernel_rfl) (by simp) (AllReadyH.cons rfl (fun K hK => ?_) AllReadyH.nil)
  have h0 := hHeld
  clear hHeld
  try simp only [List.getElem_toArray, List.getElem_cons_succ, List.getElem_cons_zero]
  have H0 := Lib.hid h0
  clear h0
  go_simp
  go_at_call 29
  refine (mulAddL a b c _ HA.out HB.out HC.out).mono ?_
  rintro e vv ⟨rfl, hb⟩
  have h1 := H0.out.ext hb
  clear hb H0
  go_wp2_with (fail)
  refine hK.out _ _ h1 (fun hHeld => ?_)
  clear hK K h1
  try simp only [Act.put, List.getElem_toArray, List.getElem_cons_succ, List.getElem_cons_zero, List.setIfInBounds_toArray, List.set_cons_zero, List.set_cons_succ]
  refine wpAnyH_ready (rs := [7]) (by kernel_rfl) (by simp) (AllReadyH.cons rfl (fun K hK => ?_) AllReadyH.nil)
  have h0 := hHeld
  clear hHeld
  try simp only [List.getElem_toArray, List.getElem_cons_succ, List.getElem_cons_zero]
  have H0 := Lib.hid h0
  clear h0
  go_simp
  go_at_call 28
  refine (HREST.out _ (Fr.og H0.out HOG.out)).mono ?_
  rintro e vv ⟨rfl, hb⟩
  have h1 := H0.out.ext hb
  clear hb H0
  go_wp2_with (fail)
  refine hK.out _ _ h1 (fun hHeld => ?_)
  clear hK K h1
  try simp only [Act.put, List.getElem_toArray, List.getElem_cons_succ, List.getElem_cons_zero, List.setIfInBounds_toArray, List.set_cons_zero, List.set_cons_succ]
  refine wpAnyH_ready (rs := [8]) (by kernel_rfl) (by simp) (AllReadyH.cons rfl (fun K hK => ?_) AllReadyH.nil)
  have h0 := hHeld
  clear hHeld
  try simp only [List.getElem_toArray, List.getElem_cons_succ, List.getElem_cons_zero]
  rw [if_pos (by rfl)]
  obtain ⟨old, hold, kold⟩ := Fr.old h0 (g := w.heap.size + 1 + 1 + 1) (t := 23) (n := 32) (by simp)
  refine wp_store_row 23 (.tmp 6) (.tmp 14) rfl (w.heap.size + 1 + 1 + 1) (ks r) rfl rfl 23 old kold (info_ks _) hold (ks_one _) ?_
  refine hK.out _ _ (Fr.setAny h0 (g := w.heap.size + 1 + 1 + 1) (t := 23) (ks_size _) (by simp) (by simp <;> omega)) (fun hHeld => ?_)
  have kb := kold.setRow_same (ks r)
  clear hK K h0 hold
  try simp only [Act.put, List.getElem_toArray, List.getElem_cons_succ, List.getElem_cons_zero, List.setIfInBounds_toArray, List.set_cons_zero, List.set_cons_succ]
  refine wpAnyH_done (by kernel_rfl) ?_ _
  have HF := Lib.hid hHeld
  clear hHeld
  go_wp2_with (fail)
  exact key_end (g := w.heap.size + 1 + 1 + 1) rfl rfl rfl kb HF.out.below
set_option maxRecDepth 100000 in
set_option maxHeartbeats 2000000 in
theorem may_key (a : Nat) (w : World) (hog : OG w) (ha : a < 115792089237316195423570985008687907853269984665640564039457584007913129639936) : Calls Tryd.prog 17 #[.agg (ks a)] w (fun e w' => e = .returned (.bool (decide (a < LL))) ∧ Below w.heap.size w w') := by
  have hfr := (Fr.start w).row (ks a) 23 (g := w.heap.size) rfl
  obtain ⟨m, c, hc, hcv⟩ := minusL_ex a ha
  have HC := Lib.hid hc
  have hO := hfr.og hog
  have HA := Lib.hid ha
  clear hc ha hog
  have hce : ((c : Int) == 1) = decide (a < LL) := by rw [hcv]; by_cases h : a < LL <;> simp [h]
  have HCE := Lib.hid hce
  clear hce hcv
  go_enter Tryd.func17, Tryd.ntmps17
  go_wp2_with (fail)
  obtain ⟨wx, hwx⟩ : ∃ wx : World, wx = w.alloc (Obj.cells (ks a) 23) := ⟨_, rfl⟩
  rw [← hwx] at hfr hO ⊢
  clear hwx
  have hn := hfr.now.sub (L' := [(w.heap.size, 23, ks a)]) (by simp)
  have HN := Lib.hid hn
  have HFR := Lib.hid hfr
  have HO := Lib.hid hO
  clear hn hfr hO
  refine wp_region_held_drew (S := fun W => Fn wx W [(w.heap.size, 23, ks a)]) (by kernel_rfl) ?_ (fun hHeld => ?_)
  · exact HN.out.drew
  refine wpAnyH_take (i := 0) (v := .agg (ks a)) rfl (by kernel_rfl) (by kernel_rfl) (by kernel_rfl) (fun _ _ _ h => h) (yields_row (by rfl) 23 (.tmp 1) rfl (w.heap.size) rfl 23 (ks a) _ (fun W (h : Fn _ W _) => h.get (by simp)) Tryd.underlying23 rfl (info_ks _)) hHeld ?_
  try simp only [Act.put, List.getElem_toArray, List.getElem_cons_succ, List.getElem_cons_zero, List.setIfInBounds_toArray, List.set_cons_zero, List.set_cons_succ]
  refine wpAnyH_take (i := 2) (v := .agg #[.int .u64 6346243789798364141, .int .u64 1503914060200516822, .int .u64 0, .int .u64 1152921504606846976]) rfl (by kernel_rfl) (by kernel_rfl) (by kernel_rfl) (fun _ _ _ h => h) (Or.inl ⟨by rfl, ?_⟩) hHeld ?_
  · (intro W hSw; have hO := HO.out.ext (show Fn wx W _ from hSw).below; clear hSw; obtain ⟨hz, p0, p1, p2, p3⟩ := hO; (try simp only [List.getElem_toArray, List.getElem_cons_succ, List.getElem_cons_zero]); go_simp; try with_reducible rfl)
  try simp only [Act.put, List.getElem_toArray, List.getElem_cons_succ, List.getElem_cons_zero, List.setIfInBounds_toArray, List.set_cons_zero, List.set_cons_succ]
  refine wpAnyH_ready (rs := [1, 7]) (by kernel_rfl) (by simp) (AllReadyH.cons rfl (fun K hK => ?_) (AllReadyH.cons rfl (fun K hK => ?_) AllReadyH.nil))
  · have h0 := hHeld
    clear hHeld
    try simp only [List.getElem_toArray, List.getElem_cons_succ, List.getElem_cons_zero]
    have H0 := Lib.hid h0
    clear h0
    go_simp
    go_at_call 30
    refine (wordsW a _ HA.out).mono ?_
    rintro e vv ⟨rfl, hb⟩
    have h1 := H0.out.ext hb
    clear hb H0
    go_wp2_with (fail)
    refine hK.out _ _ h1 (fun hHeld => ?_)
    clear hK K h1
    try simp only [Act.put, List.getElem_toArray, List.getElem_cons_succ, List.getElem_cons_zero, List.setIfInBounds_toArray, List.set_cons_zero, List.set_cons_succ]
    refine wpAnyH_ready (rs := [3, 7]) (by kernel_rfl) (by simp) (AllReadyH.cons rfl (fun K hK => ?_) (AllReadyH.cons rfl (fun K hK => ?_) AllReadyH.nil))
    · have h0 := hHeld
      clear hHeld
      try simp only [List.getElem_toArray, List.getElem_cons_succ, List.getElem_cons_zero]
      have H0 := Lib.hid h0
      clear h0
      go_simp
      go_at_call 39
      refine (HC.out _).mono ?_
      rintro e vv ⟨rfl, hb⟩
      have h1 := H0.out.ext hb
      clear hb H0
      go_wp2_with (fail)
      refine hK.out _ _ h1 (fun hHeld => ?_)
      clear hK K h1
      try simp only [Act.put, List.getElem_toArray, List.getElem_cons_succ, List.getElem_cons_zero, List.setIfInBounds_toArray, List.set_cons_zero, List.set_cons_succ]
      refine wpAnyH_take (i := 4) (v := ?_) rfl (by kernel_rfl) (by kernel_rfl) (by kernel_rfl) (fun _ _ _ h => h) (Or.inl ⟨by rfl, ?_⟩) hHeld ?_
      rotate_left
      · (intro W hSw; (try dsimp only at hSw); (try simp only [List.getElem_toArray, List.getElem_cons_succ, List.getElem_cons_zero]); go_simp; try with_reducible rfl)
      try simp only [Act.put, List.getElem_toArray, List.getElem_cons_succ, List.getElem_cons_zero, List.setIfInBounds_toArray, List.set_cons_zero, List.set_cons_succ]
      refine wpAnyH_take (i := 5) (v := ?_) rfl (by kernel_rfl) (by kernel_rfl) (by kernel_rfl) (fun _ _ _ h => h) (Or.inl ⟨by rfl, ?_⟩) hHeld ?_
      rotate_left
      · (intro W hSw; (try dsimp only at hSw); (try simp only [List.getElem_toArray, List.getElem_cons_succ, List.getElem_cons_zero]); go_simp; try with_reducible rfl)
      try simp only [Act.put, List.getElem_toArray, List.getElem_cons_succ, List.getElem_cons_zero, List.setIfInBounds_toArray, List.set_cons_zero, List.set_cons_succ]
      refine wpAnyH_take (i := 6) (v := ?_) rfl (by kernel_rfl) (by kernel_rfl) (by kernel_rfl) (fun _ _ _ h => h) (Or.inl ⟨by rfl, ?_⟩) hHeld ?_
      rotate_left
      · (intro W hSw; (try dsimp only at hSw); (try simp only [List.getElem_toArray, List.getElem_cons_succ, List.getElem_cons_zero]); go_simp; try with_reducible rfl)
      try simp only [Act.put, List.getElem_toArray, List.getElem_cons_succ, List.getElem_cons_zero, List.setIfInBounds_toArray, List.set_cons_zero, List.set_cons_succ]
      refine wpAnyH_ready (rs := [7]) (by kernel_rfl) (by simp) (AllReadyH.cons rfl (fun K hK => ?_) AllReadyH.nil)
      have h0 := hHeld
      clear hHeld
      try simp only [List.getElem_toArray, List.getElem_cons_succ, List.getElem_cons_zero]
      obtain ⟨kz, hg⟩ := Fn.fresh h0 37 #[.int .u64 0, .int .u64 0, .int .u64 0, .int .u64 0]
      have KZ := Lib.hid kz
      have HG := Lib.hid hg
      have H0 := Lib.hid h0
      clear kz hg h0
      go_simp
      refine hK.out _ _ (Fn.pass H0.out _) (fun hHeld => ?_)
      clear hK K H0
      try simp only [Act.put, List.getElem_toArray, List.getElem_cons_succ, List.getElem_cons_zero, List.setIfInBounds_toArray, List.set_cons_zero, List.set_cons_succ]
      refine wpAnyH_ready (rs := [8]) (by kernel_rfl) (by simp) (AllReadyH.cons rfl (fun K hK => ?_) AllReadyH.nil)
      have h0 := hHeld
      clear hHeld
      try simp only [List.getElem_toArray, List.getElem_cons_succ, List.getElem_cons_zero]
      rw [if_pos (by rfl)]
      refine wp_store_row 37 (.tmp 3) (.tmp 10) rfl _ (ws 4 m) rfl rfl 37 _ KZ.out (info_ws4 m) rfl (ws_one _ _) ?_
      refine hK.out _ _ (Fn.setFresh h0 HG.out _) (fun hHeld => ?_)
      have kb := KZ.out.setRow_same (ws 4 m)
      clear hK K h0
      try simp only [Act.put, List.getElem_toArray, List.getElem_cons_succ, List.getElem_cons_zero, List.setIfInBounds_toArray, List.set_cons_zero, List.set_cons_succ]
      refine wpAnyH_take (i := 9) (v := ?_) rfl (by kernel_rfl) (by kernel_rfl) (by kernel_rfl) (fun _ _ _ h => h) (Or.inl ⟨by rfl, ?_⟩) hHeld ?_
      rotate_left
      · (intro W hSw; (try dsimp only at hSw); (try simp only [List.getElem_toArray, List.getElem_cons_succ, List.getElem_cons_zero]); go_simp; try with_reducible rfl)
      try simp only [Act.put, List.getElem_toArray, List.getElem_cons_succ, List.getElem_cons_zero, List.setIfInBounds_toArray, List.set_cons_zero, List.set_cons_succ]
      refine wpAnyH_done (by kernel_rfl) ?_ _
      have HB := Lib.hid (HFR.out.ext hHeld.below)
      clear hHeld
      go_wp2_with (fail)
      simp only [HCE.out]
      go_ret
      exact ⟨rfl, HB.out.below⟩
    · have h0 := hHeld
      clear hHeld
      try simp only [List.getElem_toArray, List.getElem_cons_succ, List.getElem_cons_zero]
      obtain ⟨kz, hg⟩ := Fn.fresh h0 37 #[.int .u64 0, .int .u64 0, .int .u64 0, .int .u64 0]
      have KZ := Lib.hid kz
      have HG := Lib.hid hg
      have H0 := Lib.hid h0
      clear kz hg h0
      go_simp
      refine hK.out _ _ (Fn.pass H0.out _) (fun hHeld => ?_)
      clear hK K H0
      try simp only [Act.put, List.getElem_toArray, List.getElem_cons_succ, List.getElem_cons_zero, List.setIfInBounds_toArray, List.set_cons_zero, List.set_cons_succ]
      refine wpAnyH_ready (rs := [3]) (by kernel_rfl) (by simp) (AllReadyH.cons rfl (fun K hK => ?_) AllReadyH.nil)
      have h0 := hHeld
      clear hHeld
      try simp only [List.getElem_toArray, List.getElem_cons_succ, List.getElem_cons_zero]
      have H0 := Lib.hid h0
      clear h0
      go_simp
      go_at_call 39
      refine (HC.out _).mono ?_
      rintro e vv ⟨rfl, hb⟩
      have kz := KZ.out.below hb KZ.out.lt
      clear KZ
      have KZ := Lib.hid kz
      clear kz
      have h1 := H0.out.ext hb
      clear hb H0
      go_wp2_with (fail)
      refine hK.out _ _ h1 (fun hHeld => ?_)
      clear hK K h1
      try simp only [Act.put, List.getElem_toArray, List.getElem_cons_succ, List.getElem_cons_zero, List.setIfInBounds_toArray, List.set_cons_zero, List.set_cons_succ]
      refine wpAnyH_take (i := 4) (v := ?_) rfl (by kernel_rfl) (by kernel_rfl) (by kernel_rfl) (fun _ _ _ h => h) (Or.inl ⟨by rfl, ?_⟩) hHeld ?_
      rotate_left
      · (intro W hSw; (try dsimp only at hSw); (try simp only [List.getElem_toArray, List.getElem_cons_succ, List.getElem_cons_zero]); go_simp; try with_reducible rfl)
      try simp only [Act.put, List.getElem_toArray, List.getElem_cons_succ, List.getElem_cons_zero, List.setIfInBounds_toArray, List.set_cons_zero, List.set_cons_succ]
      refine wpAnyH_take (i := 5) (v := ?_) rfl (by kernel_rfl) (by kernel_rfl) (by kernel_rfl) (fun _ _ _ h => h) (Or.inl ⟨by rfl, ?_⟩) hHeld ?_
      rotate_left
      · (intro W hSw; (try dsimp only at hSw); (try simp only [List.getElem_toArray, List.getElem_cons_succ, List.getElem_cons_zero]); go_simp; try with_reducible rfl)
      try simp only [Act.put, List.getElem_toArray, List.getElem_cons_succ, List.getElem_cons_zero, List.setIfInBounds_toArray, List.set_cons_zero, List.set_cons_succ]
      refine wpAnyH_take (i := 6) (v := ?_) rfl (by kernel_rfl) (by kernel_rfl) (by kernel_rfl) (fun _ _ _ h => h) (Or.inl ⟨by rfl, ?_⟩) hHeld ?_
      rotate_left
      · (intro W hSw; (try dsimp only at hSw); (try simp only [List.getElem_toArray, List.getElem_cons_succ, List.getElem_cons_zero]); go_simp; try with_reducible rfl)
      try simp only [Act.put, List.getElem_toArray, List.getElem_cons_succ, List.getElem_cons_zero, List.setIfInBounds_toArray, List.set_cons_zero, List.set_cons_succ]
      refine wpAnyH_ready (rs := [8]) (by kernel_rfl) (by simp) (AllReadyH.cons rfl (fun K hK => ?_) AllReadyH.nil)
      have h0 := hHeld
      clear hHeld
      try simp only [List.getElem_toArray, List.getElem_cons_succ, List.getElem_cons_zero]
      rw [if_pos (by rfl)]
      refine wp_store_row 37 (.tmp 3) (.tmp 10) rfl _ (ws 4 m) rfl rfl 37 _ KZ.out (info_ws4 m) rfl (ws_one _ _) ?_
      refine hK.out _ _ (Fn.setFresh h0 HG.out _) (fun hHeld => ?_)
      have kb := KZ.out.setRow_same (ws 4 m)
      clear hK K h0
      try simp only [Act.put, List.getElem_toArray, List.getElem_cons_succ, List.getElem_cons_zero, List.setIfInBounds_toArray, List.set_cons_zero, List.set_cons_succ]
      refine wpAnyH_take (i := 9) (v := ?_) rfl (by kernel_rfl) (by kernel_rfl) (by kernel_rfl) (fun _ _ _ h => h) (Or.inl ⟨by rfl, ?_⟩) hHeld ?_
      rotate_left
      · (intro W hSw; (try dsimp only at hSw); (try simp only [List.getElem_toArray, List.getElem_cons_succ, List.getElem_cons_zero]); go_simp; try with_reducible rfl)
      try simp only [Act.put, List.getElem_toArray, List.getElem_cons_succ, List.getElem_cons_zero, List.setIfInBounds_toArray, List.set_cons_zero, List.set_cons_succ]
      refine wpAnyH_done (by kernel_rfl) ?_ _
      have HB := Lib.hid (HFR.out.ext hHeld.below)
      clear hHeld
      go_wp2_with (fail)
      simp only [HCE.out]
      go_ret
      exact ⟨rfl, HB.out.below⟩
  · have h0 := hHeld
    clear hHeld
    try simp only [List.getElem_toArray, List.getElem_cons_succ, List.getElem_cons_zero]
    obtain ⟨kz, hg⟩ := Fn.fresh h0 37 #[.int .u64 0, .int .u64 0, .int .u64 0, .int .u64 0]
    have KZ := Lib.hid kz
    have HG := Lib.hid hg
    have H0 := Lib.hid h0
    clear kz hg h0
    go_simp
    refine hK.out _ _ (Fn.pass H0.out _) (fun hHeld => ?_)
    clear hK K H0
    try simp only [Act.put, List.getElem_toArray, List.getElem_cons_succ, List.getElem_cons_zero, List.setIfInBounds_toArray, List.set_cons_zero, List.set_cons_succ]
    refine wpAnyH_ready (rs := [1]) (by kernel_rfl) (by simp) (AllReadyH.cons rfl (fun K hK => ?_) AllReadyH.nil)
    have h0 := hHeld
    clear hHeld
    try simp only [List.getElem_toArray, List.getElem_cons_succ, List.getElem_cons_zero]
    have H0 := Lib.hid h0
    clear h0
    go_simp
    go_at_call 30
    refine (wordsW a _ HA.out).mono ?_
    rintro e vv ⟨rfl, hb⟩
    have kz := KZ.out.below hb KZ.out.lt
    clear KZ
    have KZ := Lib.hid kz
    clear kz
    have h1 := H0.out.ext hb
    clear hb H0
    go_wp2_with (fail)
    refine hK.out _ _ h1 (fun hHeld => ?_)
    clear hK K h1
    try simp only [Act.put, List.getElem_toArray, List.getElem_cons_succ, List.getElem_cons_zero, List.setIfInBounds_toArray, List.set_cons_zero, List.set_cons_succ]
    refine wpAnyH_ready (rs := [3]) (by kernel_rfl) (by simp) (AllReadyH.cons rfl (fun K hK => ?_) AllReadyH.nil)
    have h0 := hHeld
    clear hHeld
    try simp only [List.getElem_toArray, List.getElem_cons_succ, List.getElem_cons_zero]
    have H0 := Lib.hid h0
    clear h0
    go_simp
    go_at_call 39
    refine (HC.out _).mono ?_
    rintro e vv ⟨rfl, hb⟩
    have kz := KZ.out.below hb KZ.out.lt
    clear KZ
    have KZ := Lib.hid kz
    clear kz
    have h1 := H0.out.ext hb
    clear hb H0
    go_wp2_with (fail)
    refine hK.out _ _ h1 (fun hHeld => ?_)
    clear hK K h1
    try simp only [Act.put, List.getElem_toArray, List.getElem_cons_succ, List.getElem_cons_zero, List.setIfInBounds_toArray, List.set_cons_zero, List.set_cons_succ]
    refine wpAnyH_take (i := 4) (v := ?_) rfl (by kernel_rfl) (by kernel_rfl) (by kernel_rfl) (fun _ _ _ h => h) (Or.inl ⟨by rfl, ?_⟩) hHeld ?_
    rotate_left
    · (intro W hSw; (try dsimp only at hSw); (try simp only [List.getElem_toArray, List.getElem_cons_succ, List.getElem_cons_zero]); go_simp; try with_reducible rfl)
    try simp only [Act.put, List.getElem_toArray, List.getElem_cons_succ, List.getElem_cons_zero, List.setIfInBounds_toArray, List.set_cons_zero, List.set_cons_succ]
    refine wpAnyH_take (i := 5) (v := ?_) rfl (by kernel_rfl) (by kernel_rfl) (by kernel_rfl) (fun _ _ _ h => h) (Or.inl ⟨by rfl, ?_⟩) hHeld ?_
    rotate_left
    · (intro W hSw; (try dsimp only at hSw); (try simp only [List.getElem_toArray, List.getElem_cons_succ, List.getElem_cons_zero]); go_simp; try with_reducible rfl)
    try simp only [Act.put, List.getElem_toArray, List.getElem_cons_succ, List.getElem_cons_zero, List.setIfInBounds_toArray, List.set_cons_zero, List.set_cons_succ]
    refine wpAnyH_take (i := 6) (v := ?_) rfl (by kernel_rfl) (by kernel_rfl) (by kernel_rfl) (fun _ _ _ h => h) (Or.inl ⟨by rfl, ?_⟩) hHeld ?_
    rotate_left
    · (intro W hSw; (try dsimp only at hSw); (try simp only [List.getElem_toArray, List.getElem_cons_succ, List.getElem_cons_zero]); go_simp; try with_reducible rfl)
    try simp only [Act.put, List.getElem_toArray, List.getElem_cons_succ, List.getElem_cons_zero, List.setIfInBounds_toArray, List.set_cons_zero, List.set_cons_succ]
    refine wpAnyH_ready (rs := [8]) (by kernel_rfl) (by simp) (AllReadyH.cons rfl (fun K hK => ?_) AllReadyH.nil)
    have h0 := hHeld
    clear hHeld
    try simp only [List.getElem_toArray, List.getElem_cons_succ, List.getElem_cons_zero]
    rw [if_pos (by rfl)]
    refine wp_store_row 37 (.tmp 3) (.tmp 10) rfl _ (ws 4 m) rfl rfl 37 _ KZ.out (info_ws4 m) rfl (ws_one _ _) ?_
    refine hK.out _ _ (Fn.setFresh h0 HG.out _) (fun hHeld => ?_)
    have kb := KZ.out.setRow_same (ws 4 m)
    clear hK K h0
    try simp only [Act.put, List.getElem_toArray, List.getElem_cons_succ, List.getElem_cons_zero, List.setIfInBounds_toArray, List.set_cons_zero, List.set_cons_succ]
    refine wpAnyH_take (i := 9) (v := ?_) rfl (by kernel_rfl) (by kernel_rfl) (by kernel_rfl) (fun _ _ _ h => h) (Or.inl ⟨by rfl, ?_⟩) hHeld ?_
    rotate_left
    · (intro W hSw; (try dsimp only at hSw); (try simp only [List.getElem_toArray, List.getElem_cons_succ, List.getElem_cons_zero]); go_simp; try with_reducible rfl)
    try simp only [Act.put, List.getElem_toArray, List.getElem_cons_succ, List.getElem_cons_zero, List.setIfInBounds_toArray, List.set_cons_zero, List.set_cons_succ]
    refine wpAnyH_done (by kernel_rfl) ?_ _
    have HB := Lib.hid (HFR.out.ext hHeld.below)
    clear hHeld
    go_wp2_with (fail)
    simp only [HCE.out]
    go_ret
    exact ⟨rfl, HB.out.below⟩
end Go.Proofs.YtpagiffbjofihaaDoor.Scl
namespace Go.Proofs.YtpagiffbjofihaaDoor.Scl
set_option linter.unusedVariables false
set_option linter.unusedSimpArgs false
open Go Go.RowKit
/-- The 64 bytes of a number, the lowest first. -/
def lb (n : Nat) : List Nat := (List.range 64).map fun i => n / 256 ^ i % 256
theorem lb_len (n : Nat) : (lb n).length = 64 := by simp [lb]
theorem lb_get (n : Nat) {i : Nat} (h : i < 64) : (lb n)[i]? = some (n / 256 ^ i % 256) := by simp [lb, h]
/-- The cells of 64 bytes. -/
def ls (n : Nat) : Array Value := ncs .u8 (lb n)
theorem ls_size (n : Nat) : (ls n).size = 64 := by rw [ls, ncs_size, lb_len]
theorem ls_get (n : Nat) {i : Nat} (h : i < 64) : (ls n)[i]? = some (.int .u8 ((n / 256 ^ i % 256 : Nat) : Int)) := by rw [ls, ncs_get, lb_get n h]; rfl
theorem info_ls (n : Nat) : (Tryd.prog.info? 27).map (·.size) = some (ls n).size := by rw [ls_size]; kernel_rfl
theorem w256 (q r : Nat) : (18446744073709551616 : Nat) ^ q * 2 ^ (8 * r) = 256 ^ (8 * q + r) := by
  have e : (18446744073709551616 : Nat) = 256 ^ 8 := by decide
  rw [e, ← Nat.pow_mul, Nat.pow_mul 2 8 r, show (2 : Nat) ^ 8 = 256 by decide, ← Nat.pow_add]
theorem low_word (N k : Nat) : wj (N % 256 ^ k) (k / 8) < 2 ^ (8 * (k % 8)) := by
  have h := w256 (k / 8) (k % 8)
  rw [Nat.div_add_mod] at h
  have h1 : N % 256 ^ k < 18446744073709551616 ^ (k / 8) * 2 ^ (8 * (k % 8)) := by rw [h]; exact Nat.mod_lt _ (Nat.pow_pos (by omega))
  unfold wj
  refine Nat.lt_of_le_of_lt (Nat.mod_le _ _) ?_
  rw [Nat.div_lt_iff_lt_mul (Nat.pow_pos (by omega)), Nat.mul_comm]
  exact h1
theorem byte_put (N k : Nat) (hk : k < 64) : (ws 8 (N % 256 ^ k)).setIfInBounds (k / 8) (.int .u64 ((wj (N % 256 ^ k) (k / 8) + N / 256 ^ k % 256 * 2 ^ (8 * (k % 8)) : Nat) : Int)) = ws 8 (N % 256 ^ (k + 1)) := by
  have hl := low_word N k
  have h := w256 (k / 8) (k % 8)
  rw [Nat.div_add_mod] at h
  have hx : N / 256 ^ k % 256 < 256 := Nat.mod_lt _ (by omega)
  refine ws_put (by omega) ?_ ?_
  · have hp : 2 ^ (8 * (k % 8)) ≤ 2 ^ 56 := Nat.pow_le_pow_right (by omega) (by omega)
    have hm : N / 256 ^ k % 256 * 2 ^ (8 * (k % 8)) ≤ 255 * 2 ^ (8 * (k % 8)) := Nat.mul_le_mul_right _ (by omega)
    have h2 : (2 : Nat) ^ 56 = 72057594037927936 := by decide
    omega
  · have e : ∀ x, 18446744073709551616 ^ (k / 8) * (x * 2 ^ (8 * (k % 8))) = 256 ^ k * x := fun x => by
      rw [← h]
      ac_rfl
    rw [Nat.mod_pow_succ, Nat.mul_add, e]
    omega
theorem b512 : (256 : Nat) ^ 64 = 18446744073709551616 ^ 8 := by
  have e : (18446744073709551616 : Nat) = 256 ^ 8 := by decide
  rw [e, ← Nat.pow_mul]
set_option maxRecDepth 100000 in
set_option maxHeartbeats 2000000 in
theorem reduce_any (N : Nat) (w : World) (hog : OG w) (hN : N < 256 ^ 64) :
    Calls Tryd.prog 27 #[.agg (ls N)] w (KeyPost (N % LL) w) := by
  have hfr := (((Fr.start w).row (ls N) 27 (g := w.heap.size) rfl).any (ks 0) 23 32 (ks_size 0) (g := w.heap.size + 1) (by simp)).row (ws 8 0) 59 (g := w.heap.size + 1 + 1) (by simp)
  have hfr2 := hfr
  rw [ws8_zero] at hfr2
  rw [ks_zero] at hfr2
  have k1 := hfr2.get (g := w.heap.size) (t := 27) (cs := ls N) (by simp)
  have HFR := Lib.hid hfr2
  have HOG := Lib.hid hog
  have HNN := Lib.hid hN
  clear hfr hfr2 hog hN
  obtain ⟨z, hz⟩ : ∃ z, z = N % LL := ⟨_, rfl⟩
  rw [← hz]
  have HZ := Lib.hid hz
  clear hz
  go_enter Tryd.func27, Tryd.ntmps27
  go_wp2_with (first | (refine wpList_load_row rfl 27 (.tmp 1) rfl w.heap.size rfl 27 (ls N) (0, 0) _ k1 Tryd.underlying27 rfl (info_ls N) ?_))
  go_loopw [7] (fun c wr => ∃ k : Nat, k ≤ 64 ∧ c = .int .i64 k ∧ Fr w wr [(w.heap.size + 1 + 1, 59, ws 8 (N % 256 ^ k)), (w.heap.size, 27, ls N)] [(w.heap.size + 1, 23, 32)]) (fun c _ => 64 - (intOf c).toNat)
  case atStart => exact ⟨0, by omega, rfl, by rw [Nat.pow_zero, Nat.mod_one, ws8_zero]; exact HFR.out⟩
  case round =>
    obtain ⟨k, hk, rfl, hF⟩ := hrel
    clear HFR
    by_cases hlt : k < 64
    · have hB := hF.get (g := w.heap.size + 1 + 1) (t := 59) (cs := ws 8 (N % 256 ^ k)) (by simp)
      have hc : wr.cell? ⟨w.heap.size + 1 + 1, k / 8, none⟩ = some (.int .u64 (wj (N % 256 ^ k) (k / 8) : Int)) := by rw [hB.cell, ws_get _ _ (by omega)]
      have hf := hB.frozen (k / 8)
      have hix := fun W => run_index_nats (P := Tryd.prog) W 27 5 64 .u8 Tryd.underlying27 Tryd.underlying5 (fun W => size_u8 (by kernel_rfl) W) (lb N) k (N / 256 ^ k % 256) hlt (lb_get N hlt)
      have hx8 : N / 256 ^ k % 256 < 256 := Nat.mod_lt _ (by omega)
      have hix2 : ∀ W, (Instr.index 27 (.agg (ls N)) (.int .i64 (k : Int))).run Tryd.prog W = .ok (.int .u8 ((N / 256 ^ k % 256 : Nat) : Int)) W := hix
      clear hix
      have hset := byte_put N k hlt
      have hor := or_byte8 (wj (N % 256 ^ k) (k / 8)) (N / 256 ^ k % 256) (k % 8) (low_word N k) hx8 (by omega)
      have HS := Lib.hid hset
      have HO := Lib.hid hor
      have HF := Lib.hid hF
      clear hset hor hF hB
      generalize N / 256 ^ k % 256 = x at *
      have b1 : (0 : Int) ≤ (k : Int) / 8 := by omega
      have b2 : (k : Int) / 8 < 8 := by omega
      go_wp2
      go_region
      go_wp2
      go_roundw
      case rel =>
        refine ⟨k + 1, by omega, by go_num, ?_⟩
        rw [HO.out]
        refine Fr.drew ?_
        rw [← HS.out]
        exact HF.out.setHead (by simp <;> omega) (by simp <;> omega) _ _ (by omega)
      case measure => simp [intOf]; omega
    · obtain rfl : k = 64 := by omega
      rw [Nat.mod_eq_of_lt HNN.out] at hF
      have kT := hF.get (g := w.heap.size + 1 + 1) (t := 59) (cs := ws 8 N) (by simp)
      have hrest := rest_any N wr (hF.og HOG.out) (by rw [← b512]; exact HNN.out)
      rw [← HZ.out] at hrest
      have HF := Lib.hid hF
      clear hF
      go_wp2_with (first | (refine wpList_load_row rfl 59 (.tmp 3) rfl (w.heap.size + 1 + 1) rfl 59 (ws 8 N) (0, 0) _ kT Tryd.underlying59 rfl (info_ws8 N) ?_))
      refine hrest.mono ?_
      clear hrest
      rintro e v1 ⟨rfl, hb⟩
      have hf := HF.out.ext hb
      obtain ⟨old, hold, kR⟩ := hf.old (g := w.heap.size + 1) (t := 23) (n := 32) (by simp)
      have kS := kR.setRow_same (ks z)
      have hB2 := below_setRow hf.below (show w.heap.size ≤ w.heap.size + 1 by omega) (ks z)
      have hold' : old.size = (ks z).size := by rw [hold, ks_size]
      have HS := Lib.hid kS
      have HB2 := Lib.hid hB2
      have HO := Lib.hid hold'
      clear hb hf kS hB2 hold hold' kT
      go_wp2_with (first | (refine wpList_store_row rfl 23 (.tmp 2) (.tmp 25) rfl (w.heap.size + 1) (ks z) rfl rfl 23 old kR (info_ks z) HO.out (ks_one _) ?_))
      exact key_end (g := w.heap.size + 1) rfl rfl rfl HS.out HB2.out
theorem ks_put {n k x : Nat} (hk : k < 32) (hx : x < 256) : (ks n).setIfInBounds k (.int .u8 (x : Int)) = ks (putd 256 n k x) := by
  rw [ks, ncs_set, ks]
  congr 1
  apply List.ext_getElem?
  intro j
  rw [List.getElem?_set]
  by_cases hj : j < 32
  · rw [kb_get (putd 256 n k x) hj, digit_put (by omega) hx (putd_eq 256 n k x) j]
    by_cases e : k = j
    · subst e
      rw [if_pos rfl, if_pos rfl, kb_len, if_pos hk]
    · rw [if_neg e, if_neg (fun h => e h.symm), kb_get n hj]
  · have : k ≠ j := by omega
    rw [if_neg this, List.getElem?_eq_none (by rw [kb_len]; omega), List.getElem?_eq_none (by rw [kb_len]; omega)]
def clampN (n : Nat) : Nat := putd 256 (putd 256 n 0 (n / 256 ^ 0 % 256 / 8 * 8)) 31 (n / 256 ^ 31 % 256 % 64 + 64)
theorem clamp_row (n : Nat) : ((ks n).setIfInBounds 0 (.int .u8 ((n / 256 ^ 0 % 256 / 8 * 8 : Nat) : Int))).setIfInBounds 31 (.int .u8 ((n / 256 ^ 31 % 256 % 64 + 64 : Nat) : Int)) = ks (clampN n) := by
  rw [ks_put (by omega) (by omega), ks_put (by omega) (by omega)]
  rfl
theorem low3 : ∀ x : Fin 256, bits .andNot .u8 (x.val : Int) 7 = (x.val : Int) / 8 * 8 := by decide +kernel
theorem top1 : ∀ x : Fin 256, bits .andNot .u8 (x.val : Int) 128 = (x.val : Int) % 128 := by decide +kernel
theorem top2 : ∀ x : Fin 256, bits .or .u8 ((x.val : Int) % 128) 64 = (x.val : Int) % 64 + 64 := by decide +kernel
theorem bits_low3 (x : Nat) (h : x < 256) : bits .andNot .u8 (x : Int) 7 = (x : Int) / 8 * 8 := low3 ⟨x, h⟩
theorem bits_top1 (x : Nat) (h : x < 256) : bits .andNot .u8 (x : Int) 128 = (x : Int) % 128 := top1 ⟨x, h⟩
theorem bits_top2 (x : Nat) (h : x < 256) : bits .or .u8 ((x : Int) % 128) 64 = (x : Int) % 64 + 64 := top2 ⟨x, h⟩
theorem clamp_row2 {n x y : Nat} {v : Value} (hx : x = n / 256 ^ 0 % 256) (hy : y = n / 256 ^ 31 % 256) : (((ks n).setIfInBounds 0 (.int .u8 ((x : Int) / 8 * 8))).setIfInBounds 31 v).setIfInBounds 31 (.int .u8 ((y : Int) % 64 + 64)) = ks (clampN n) := by
  have h := clamp_row n
  rw [← hx, ← hy] at h
  rw [← h, Array.setIfInBounds_setIfInBounds]
  congr 2
set_option maxRecDepth 100000 in
set_option maxHeartbeats 1000000 in
theorem clamp_any (n : Nat) (w : World) : Calls Tryd.prog 22 #[.agg (ks n)] w (KeyPost (clampN n) w) := by
  have hfr := ((Fr.start w).row (ks n) 23 (g := w.heap.size) rfl).any (ks 0) 23 32 (ks_size 0) (g := w.heap.size + 1) (by simp)
  rw [ks_zero] at hfr
  have hk := hfr.get (g := w.heap.size) (t := 23) (cs := ks n) (by simp)
  obtain ⟨x, hx⟩ : ∃ x, x = n / 256 ^ 0 % 256 := ⟨_, rfl⟩
  obtain ⟨y, hy⟩ : ∃ y, y = n / 256 ^ 31 % 256 := ⟨_, rfl⟩
  have hxl : x < 256 := by rw [hx]; exact Nat.mod_lt _ (by omega)
  have hyl : y < 256 := by rw [hy]; exact Nat.mod_lt _ (by omega)
  have c0 := hk.cell 0
  have c31 := hk.cell 31
  rw [ks_get n (by omega), ← hx] at c0
  rw [ks_get n (by omega), ← hy] at c31
  have f0 := hk.frozen 0
  have f31 := hk.frozen 31
  have hrow := clamp_row2 (v := .int .u8 ((y : Int) % 128)) hx hy
  have hf := ((Fr.start w).row (ks (clampN n)) 23 (g := w.heap.size) rfl).any (ks 0) 23 32 (ks_size 0) (g := w.heap.size + 1) (by simp)
  rw [ks_zero] at hf
  have KT := Lib.hid (hf.get (g := w.heap.size) (t := 23) (cs := ks (clampN n)) (by simp))
  have a31 : ((ks n).setIfInBounds 0 (.int .u8 ((x : Int) / 8 * 8)))[31]? = some (.int .u8 (y : Int)) := by rw [Array.getElem?_setIfInBounds_ne (by omega), ks_get n (by omega), ← hy]
  have b31 : (((ks n).setIfInBounds 0 (.int .u8 ((x : Int) / 8 * 8))).setIfInBounds 31 (.int .u8 ((y : Int) % 128)))[31]? = some (.int .u8 ((y : Int) % 128)) := by rw [Array.getElem?_setIfInBounds_self, if_pos (by rw [Array.size_setIfInBounds, ks_size]; omega)]
  obtain ⟨old, hold, kR⟩ := hf.old (g := w.heap.size + 1) (t := 23) (n := 32) (by simp)
  have HS := Lib.hid (kR.setRow_same (ks (clampN n)))
  have HB := Lib.hid (below_setRow hf.below (show w.heap.size ≤ w.heap.size + 1 by omega) (ks (clampN n)))
  have KR := Lib.hid kR
  have HO := Lib.hid (show old.size = (ks (clampN n)).size by rw [hold, ks_size])
  clear hfr hk hx hy hf hold kR
  have h1 := bits_low3 x hxl
  have h2 := bits_top1 y hyl
  have h3 := bits_top2 y hyl
  go_enter Tryd.func22, Tryd.ntmps22
  go_wp2_with (first | (refine wpList_load_row rfl 23 (.tmp 1) rfl w.heap.size rfl 23 (ks (clampN n)) (0, 0) _ KT.out Tryd.underlying23 rfl (info_ks _) ?_) | (refine wpList_store_row rfl 23 (.tmp 2) (.tmp 15) rfl (w.heap.size + 1) (ks (clampN n)) rfl rfl 23 old KR.out (info_ks _) HO.out (ks_one _) ?_))
  exact key_end (g := w.heap.size + 1) rfl rfl rfl HS.out HB.out
end Go.Proofs.YtpagiffbjofihaaDoor.Scl
namespace Go.Proofs.YtpagiffbjofihaaDoor.Sha
set_option linter.unusedVariables false
set_option linter.unusedSimpArgs false
open Go Go.RowKit
/-- x turned right by n bits. -/
def rorN (x n : Nat) : Nat := x / 2 ^ n ||| x * 2 ^ (64 - n) % 18446744073709551616
theorem rorN_lt {x n : Nat} (h : x < 18446744073709551616) : rorN x n < 18446744073709551616 := by
  have h1 : x / 2 ^ n < 2 ^ 64 := Nat.lt_of_le_of_lt (Nat.div_le_self _ _) (by omega)
  have h2 : x * 2 ^ (64 - n) % 18446744073709551616 < 2 ^ 64 := by omega
  have := Nat.or_lt_two_pow h1 h2
  unfold rorN
  omega
theorem xor_lt {x y : Nat} (hx : x < 18446744073709551616) (hy : y < 18446744073709551616) : x ^^^ y < 18446744073709551616 := Nat.xor_lt_two_pow (n := 64) (by omega) (by omega)
theorem and_lt {x y : Nat} (hx : x < 18446744073709551616) (hy : y < 18446744073709551616) : x &&& y < 18446744073709551616 := Nat.and_lt_two_pow (n := 64) x (by omega)
theorem div_lt {x n : Nat} (hx : x < 18446744073709551616) : x / n < 18446744073709551616 := Nat.lt_of_le_of_lt (Nat.div_le_self _ _) hx
/-- Three turned, or two turned and one shifted. -/
def turnN (x i j k : Nat) : Nat := rorN x i ^^^ rorN x j ^^^ rorN x k
def mixN (x i j k : Nat) : Nat := rorN x i ^^^ rorN x j ^^^ x / 2 ^ k
theorem shl_nat (x s : Nat) : IntKind.u64.wrap ((x : Int) * 2 ^ s) = ((x * 2 ^ s % 18446744073709551616 : Nat) : Int) := by
  rw [show (x : Int) * 2 ^ s = ((x * 2 ^ s : Nat) : Int) by push_cast; rfl, IntKind.wrap_u64]
  omega
theorem shr_nat (x s : Nat) : (x : Int) / 2 ^ s = ((x / 2 ^ s : Nat) : Int) := by push_cast; rfl
theorem minus63 : ∀ i : Fin 64, 0 < i.val → bits .and .u64 (IntKind.u64.wrap (-(i.val : Int))) 63 = ((64 - i.val : Nat) : Int) := by decide +kernel
theorem ror_value (x i : Nat) (hx : x < 18446744073709551616) (hi : i < 64) (h0 : 0 < i) :
    bits .or .u64 (IntKind.u64.wrap ((x : Int) * 2 ^ (64 - i))) ((x : Int) / 2 ^ (64 - (64 - i))) = ((rorN x i : Nat) : Int) := by
  rw [show 64 - (64 - i) = i by omega, shl_nat, shr_nat, u64_or_nat _ _ (by omega) (div_lt hx), rorN, Nat.or_comm]
set_option maxHeartbeats 400000 in
theorem rotate_any (x i : Nat) (w : World) (hx : x < 18446744073709551616) (hi : i < 64) (h0 : 0 < i) :
    Calls Tryd.prog 85 #[.int .u64 x, .int .i64 (-(i : Int))] w fun e w' => e = .returned (.int .u64 (rorN x i : Nat)) ∧ w = w' := by
  have h := minus63 ⟨i, hi⟩ h0
  have h3 : 64 - i < 65 := by omega
  simp only at h
  go_enter Tryd.func85, Tryd.ntmps85
  go_wp2
  go_ret
  refine ⟨?_, rfl⟩
  rw [← ror_value x i hx hi h0]
  rfl
set_option maxHeartbeats 400000 in
theorem turned_any (x i j k : Nat) (w : World) (hx : x < 18446744073709551616) (hi : i < 64) (i0 : 0 < i) (hj : j < 64) (j0 : 0 < j) (hk : k < 64) (k0 : 0 < k) :
    Calls Tryd.prog 79 #[.int .u64 x, .int .i64 i, .int .i64 j, .int .i64 k] w fun e w' => e = .returned (.int .u64 (turnN x i j k : Nat)) ∧ w = w' := by
  go_enter Tryd.func79, Tryd.ntmps79
  go_wp2_with (fail)
  refine (rotate_any x i _ hx hi i0).mono ?_
  rintro e w' ⟨rfl, rfl⟩
  go_wp2_with (fail)
  refine (rotate_any x j _ hx hj j0).mono ?_
  rintro e w' ⟨rfl, rfl⟩
  go_wp2_with (fail)
  refine (rotate_any x k _ hx hk k0).mono ?_
  rintro e w' ⟨rfl, rfl⟩
  have l1 := rorN_lt (n := i) hx
  have l2 := rorN_lt (n := j) hx
  have l3 := rorN_lt (n := k) hx
  have e1 := u64_xor_nat _ _ l1 l2
  have e2 := u64_xor_nat _ _ (xor_lt l1 l2) l3
  go_wp2_with (fail)
  go_ret
  refine ⟨?_, rfl⟩
  rw [turnN, ← e2]
  rfl
theorem mix_def (x i j k : Nat) : mixN x i j k = rorN x i ^^^ rorN x j ^^^ x / 2 ^ k := rfl
attribute [local irreducible] rorN mixN turnN
set_option maxHeartbeats 1000000 in
theorem mixed_any (x i j k : Nat) (w : World) (hx : x < 18446744073709551616) (hi : i < 64) (i0 : 0 < i) (hj : j < 64) (j0 : 0 < j) (hk : k < 64) :
    Calls Tryd.prog 84 #[.int .u64 x, .int .i64 i, .int .i64 j, .int .i64 k] w fun e w' => e = .returned (.int .u64 (mixN x i j k : Nat)) ∧ w.drew = w' := by
  have h3 : k < 65 := by omega
  have l1 := rorN_lt (n := i) hx
  have l2 := rorN_lt (n := j) hx
  have e1 := u64_xor_nat _ _ l1 l2
  have e2 := u64_xor_nat _ _ (xor_lt l1 l2) (div_lt (n := 2 ^ k) hx)
  rw [← shr_nat] at e2
  have E2 := Lib.hid e2
  clear e2
  have hwi : IntKind.i64.wrap (-(i : Int)) = -(i : Int) := by rw [IntKind.wrap_i64]; omega
  have hwj : IntKind.i64.wrap (-(j : Int)) = -(j : Int) := by rw [IntKind.wrap_i64]; omega
  go_enter Tryd.func84, Tryd.ntmps84
  go_wp2_with (fail)
  refine wp_region_held_drew (S := fun W => W = w.drew) (by kernel_rfl) ?_ (fun hHeld => ?_)
  · exact rfl
  refine wpAnyH_take (i := 0) (v := ?_) rfl (by kernel_rfl) (by kernel_rfl) (by kernel_rfl) (fun _ _ _ h => h) (Or.inl ⟨by rfl, ?_⟩) hHeld ?_
  rotate_left
  · (intro W hSw; (try dsimp only at hSw); (try simp only [List.getElem_toArray, List.getElem_cons_succ, List.getElem_cons_zero]); go_simp; try with_reducible rfl)
  try simp only [Act.put, List.getElem_toArray, List.getElem_cons_succ, List.getElem_cons_zero, List.setIfInBounds_toArray, List.set_cons_zero, List.set_cons_succ]
  refine wpAnyH_take (i := 1) (v := ?_) rfl (by kernel_rfl) (by kernel_rfl) (by kernel_rfl) (fun _ _ _ h => h) (Or.inl ⟨by rfl, ?_⟩) hHeld ?_
  rotate_left
  · (intro W hSw; (try dsimp only at hSw); (try simp only [List.getElem_toArray, List.getElem_cons_succ, List.getElem_cons_zero]); go_simp; try with_reducible rfl)
  try simp only [Act.put, List.getElem_toArray, List.getElem_cons_succ, List.getElem_cons_zero, List.setIfInBounds_toArray, List.set_cons_zero, List.set_cons_succ]
  refine wpAnyH_take (i := 2) (v := ?_) rfl (by kernel_rfl) (by kernel_rfl) (by kernel_rfl) (fun _ _ _ h => h) (Or.inl ⟨by rfl, ?_⟩) hHeld ?_
  rotate_left
  · (intro W hSw; (try dsimp only at hSw); (try simp only [List.getElem_toArray, List.getElem_cons_succ, List.getElem_cons_zero]); go_simp; try with_reducible rfl)
  try simp only [Act.put, List.getElem_toArray, List.getElem_cons_succ, List.getElem_cons_zero, List.setIfInBounds_toArray, List.set_cons_zero, List.set_cons_succ]
  refine wpAnyH_take (i := 4) (v := ?_) rfl (by kernel_rfl) (by kernel_rfl) (by kernel_rfl) (fun _ _ _ h => h) (Or.inl ⟨by rfl, ?_⟩) hHeld ?_
  rotate_left
  · (intro W hSw; (try dsimp only at hSw); (try simp only [List.getElem_toArray, List.getElem_cons_succ, List.getElem_cons_zero]); go_simp; try with_reducible rfl)
  try simp only [Act.put, List.getElem_toArray, List.getElem_cons_succ, List.getElem_cons_zero, List.setIfInBounds_toArray, List.set_cons_zero, List.set_cons_succ]
  refine wpAnyH_take (i := 5) (v := ?_) rfl (by kernel_rfl) (by kernel_rfl) (by kernel_rfl) (fun _ _ _ h => h) (Or.inl ⟨by rfl, ?_⟩) hHeld ?_
  rotate_left
  · (intro W hSw; (try dsimp only at hSw); (try simp only [List.getElem_toArray, List.getElem_cons_succ, List.getElem_cons_zero]); go_simp; try with_reducible rfl)
  try simp only [Act.put, List.getElem_toArray, List.getElem_cons_succ, List.getElem_cons_zero, List.setIfInBounds_toArray, List.set_cons_zero, List.set_cons_succ]
  refine wpAnyH_take (i := 6) (v := ?_) rfl (by kernel_rfl) (by kernel_rfl) (by kernel_rfl) (fun _ _ _ h => h) (Or.inl ⟨by rfl, ?_⟩) hHeld ?_
  rotate_left
  · (intro W hSw; (try dsimp only at hSw); (try simp only [List.getElem_toArray, List.getElem_cons_succ, List.getElem_cons_zero]); go_simp; try with_reducible rfl)
  try simp only [Act.put, List.getElem_toArray, List.getElem_cons_succ, List.getElem_cons_zero, List.setIfInBounds_toArray, List.set_cons_zero, List.set_cons_succ]
  refine wpAnyH_take (i := 9) (v := ?_) rfl (by kernel_rfl) (by kernel_rfl) (by kernel_rfl) (fun _ _ _ h => h) (Or.inl ⟨by rfl, ?_⟩) hHeld ?_
  rotate_left
  · (intro W hSw; (try dsimp only at hSw); (try simp only [List.getElem_toArray, List.getElem_cons_succ, List.getElem_cons_zero]); go_simp; try with_reducible rfl)
  try simp only [Act.put, List.getElem_toArray, List.getElem_cons_succ, List.getElem_cons_zero, List.setIfInBounds_toArray, List.set_cons_zero, List.set_cons_succ]
  refine wpAnyH_take (i := 10) (v := ?_) rfl (by kernel_rfl) (by kernel_rfl) (by kernel_rfl) (fun _ _ _ h => h) (Or.inl ⟨by rfl, ?_⟩) hHeld ?_
  rotate_left
  · (intro W hSw; (try dsimp only at hSw); (try simp only [List.getElem_toArray, List.getElem_cons_succ, List.getElem_cons_zero]); go_simp; try with_reducible rfl)
  try simp only [Act.put, List.getElem_toArray, List.getElem_cons_succ, List.getElem_cons_zero, List.setIfInBounds_toArray, List.set_cons_zero, List.set_cons_succ]
  refine wpAnyH_take (i := 11) (v := ?_) rfl (by kernel_rfl) (by kernel_rfl) (by kernel_rfl) (fun _ _ _ h => h) (Or.inl ⟨by rfl, ?_⟩) hHeld ?_
  rotate_left
  · (intro W hSw; (try dsimp only at hSw); (try simp only [List.getElem_toArray, List.getElem_cons_succ, List.getElem_cons_zero]); go_simp; try with_reducible rfl)
  try simp only [Act.put, List.getElem_toArray, List.getElem_cons_succ, List.getElem_cons_zero, List.setIfInBounds_toArray, List.set_cons_zero, List.set_cons_succ]
  refine wpAnyH_ready (rs := [3]) (by kernel_rfl) (by simp) (AllReadyH.cons rfl (fun K hK => ?_) AllReadyH.nil)
  have h0 := hHeld
  clear hHeld
  try simp only [List.getElem_toArray, List.getElem_cons_succ, List.getElem_cons_zero]
  go_simp
  go_at_call 85
  refine (rotate_any x i _ hx hi i0).mono ?_
  rintro e vv ⟨rfl, rfl⟩
  go_wp2_with (fail)
  refine hK.out _ _ rfl (fun hHeld => ?_)
  clear hK K h0
  try simp only [Act.put, List.getElem_toArray, List.getElem_cons_succ, List.getElem_cons_zero, List.setIfInBounds_toArray, List.set_cons_zero, List.set_cons_succ]
  refine wpAnyH_ready (rs := [7]) (by kernel_rfl) (by simp) (AllReadyH.cons rfl (fun K hK => ?_) AllReadyH.nil)
  have h0 := hHeld
  clear hHeld
  try simp only [List.getElem_toArray, List.getElem_cons_succ, List.getElem_cons_zero]
  go_simp
  go_at_call 85
  refine (rotate_any x j _ hx hj j0).mono ?_
  rintro e vv ⟨rfl, rfl⟩
  go_wp2_with (fail)
  refine hK.out _ _ rfl (fun hHeld => ?_)
  clear hK K h0
  try simp only [Act.put, List.getElem_toArray, List.getElem_cons_succ, List.getElem_cons_zero, List.setIfInBounds_toArray, List.set_cons_zero, List.set_cons_succ]
  refine wpAnyH_take (i := 8) (v := ?_) rfl (by kernel_rfl) (by kernel_rfl) (by kernel_rfl) (fun _ _ _ h => h) (Or.inl ⟨by rfl, ?_⟩) hHeld ?_
  rotate_left
  · (intro W hSw; (try dsimp only at hSw); (try simp only [List.getElem_toArray, List.getElem_cons_succ, List.getElem_cons_zero]); go_simp; try with_reducible rfl)
  try simp only [Act.put, List.getElem_toArray, List.getElem_cons_succ, List.getElem_cons_zero, List.setIfInBounds_toArray, List.set_cons_zero, List.set_cons_succ]
  refine wpAnyH_take (i := 12) (v := ?_) rfl (by kernel_rfl) (by kernel_rfl) (by kernel_rfl) (fun _ _ _ h => h) (Or.inl ⟨by rfl, ?_⟩) hHeld ?_
  rotate_left
  · (intro W hSw; (try dsimp only at hSw); (try simp only [List.getElem_toArray, List.getElem_cons_succ, List.getElem_cons_zero]); go_simp; try with_reducible rfl)
  try simp only [Act.put, List.getElem_toArray, List.getElem_cons_succ, List.getElem_cons_zero, List.setIfInBounds_toArray, List.set_cons_zero, List.set_cons_succ]
  refine wpAnyH_ready (rs := [13]) (by kernel_rfl) (by simp) (AllReadyH.cons rfl (fun K hK => ?_) AllReadyH.nil)
  have h0 := hHeld
  clear hHeld
  try simp only [List.getElem_toArray, List.getElem_cons_succ, List.getElem_cons_zero]
  go_simp
  refine hK.out _ _ (h0) (fun hHeld => ?_)
  clear hK K h0
  try simp only [Act.put, List.getElem_toArray, List.getElem_cons_succ, List.getElem_cons_zero, List.setIfInBounds_toArray, List.set_cons_zero, List.set_cons_succ]
  refine wpAnyH_done (by kernel_rfl) ?_ _
  go_wp2_with (fail)
  go_ret
  refine ⟨?_, rfl⟩
  rw [mix_def, ← E2.out]
  rfl
set_option maxHeartbeats 400000 in
theorem mulAdd2_any (a b c d : Nat) (w : World) (ha : a < 18446744073709551616) (hb : b < 18446744073709551616) (hc : c < 18446744073709551616) (hd : d < 18446744073709551616) :
    Calls Tryd.prog 89 #[.int .u64 a, .int .u64 b, .int .u64 c, .int .u64 d] w (MulAddPost a b c d w) := by
  obtain ⟨hi, lo, h1, e1, l1⟩ := mul64_ex a b ha hb
  obtain ⟨s, k, h2, e2, l2, k2⟩ := add64_ex lo c 0 l1 hc (by omega)
  obtain ⟨t, j, h3, e3, l3, k3⟩ := add64_ex s d 0 l2 hd (by omega)
  have hm := mul_lt_sq ha hb
  have hAt : MulAddAt a b c d (hi + k + j) t := by
    unfold MulAddAt
    generalize a * b = m at *
    omega
  have b1 : hi + k + j < 18446744073709551616 := hAt.2.2
  clear hm
  have HA := Lib.hid hAt
  have E1 := Lib.hid e1
  have E2 := Lib.hid e2
  have E3 := Lib.hid e3
  clear hAt e1 e2 e3
  rw [Int.natCast_zero] at h2 h3
  go_enter Tryd.func89, Tryd.ntmps89
  go_wp2_with (first | simp only [h2] | simp only [h3] | (go_at_call 70; refine (h1 _).mono ?_; rintro e w' ⟨rfl, rfl⟩))
  go_ret2
  exact ⟨hi + k + j, t, by go_num, HA.out, rfl⟩
end Go.Proofs.YtpagiffbjofihaaDoor.Sha
namespace Go.Proofs.YtpagiffbjofihaaDoor.Sha
set_option linter.unusedVariables false
set_option linter.unusedSimpArgs false
/-- The first eighty primes; the start; the constants. -/
def PR : List Nat := [2, 3, 5, 7, 11, 13, 17, 19, 23, 29, 31, 37, 41, 43, 47, 53, 59, 61, 67, 71,
  73, 79, 83, 89, 97, 101, 103, 107, 109, 113, 127, 131, 137, 139, 149, 151, 157, 163, 167, 173,
  179, 181, 191, 193, 197, 199, 211, 223, 227, 229, 233, 239, 241, 251, 257, 263, 269, 271, 277, 281,
  283, 293, 307, 311, 313, 317, 331, 337, 347, 349, 353, 359, 367, 373, 379, 383, 389, 397, 401, 409]
def HS : List Nat := [7640891576956012808, 13503953896175478587, 4354685564936845355, 11912009170470909681, 5840696475078001361, 11170449401992604703,
  2270897969802886507, 6620516959819538809]
def HK : List Nat := [4794697086780616226, 8158064640168781261, 13096744586834688815, 16840607885511220156, 4131703408338449720, 6480981068601479193,
  10538285296894168987, 12329834152419229976, 15566598209576043074, 1334009975649890238, 2608012711638119052, 6128411473006802146,
  8268148722764581231, 9286055187155687089, 11230858885718282805, 13951009754708518548, 16472876342353939154, 17275323862435702243,
  1135362057144423861, 2597628984639134821, 3308224258029322869, 5365058923640841347, 6679025012923562964, 8573033837759648693,
  10970295158949994411, 12119686244451234320, 12683024718118986047, 13788192230050041572, 14330467153632333762, 15395433587784984357,
  489312712824947311, 1452737877330783856, 2861767655752347644, 3322285676063803686, 5560940570517711597, 5996557281743188959,
  7280758554555802590, 8532644243296465576, 9350256976987008742, 10552545826968843579, 11727347734174303076, 12113106623233404929,
  14000437183269869457, 14369950271660146224, 15101387698204529176, 15463397548674623760, 17586052441742319658, 1182934255886127544,
  1847814050463011016, 2177327727835720531, 2830643537854262169, 3796741975233480872, 4115178125766777443, 5681478168544905931,
  6601373596472566643, 7507060721942968483, 8399075790359081724, 8693463985226723168, 9568029438360202098, 10144078919501101548,
  10430055236837252648, 11840083180663258601, 13761210420658862357, 14299343276471374635, 14566680578165727644, 15097957966210449927,
  16922976911328602910, 17689382322260857208, 500013540394364858, 748580250866718886, 1242879168328830382, 1977374033974150939,
  2944078676154940804, 3659926193048069267, 4368137639120453308, 4836135668995329356, 5532061633213252278, 6448918945643986474,
  6902733635092675308, 7801388544844847127]
theorem PR_len : PR.length = 80 := rfl
theorem HS_len : HS.length = 8 := rfl
theorem HK_len : HK.length = 80 := rfl
/-- Four words, the first of them whole, three behind the point. -/
structure Q4 where
  a : Nat
  b : Nat
  c : Nat
  d : Nat
def Q4.same (x y : Q4) : Bool := Nat.beq x.a y.a && (Nat.beq x.b y.b && (Nat.beq x.c y.c && Nat.beq x.d y.d))
theorem Q4.same_iff (x y : Q4) : x.same y = true ↔ x = y := by
  obtain ⟨a, b, c, d⟩ := x
  obtain ⟨e, f, g, h⟩ := y
  simp [Q4.same]
/-- The program's product. -/
def tmsN (x y : Q4) : Q4 :=
  let p1 := x.c * y.b
  let p2 := x.b * y.b + p1 / 18446744073709551616 + 0
  let p3 := x.a * y.b + p2 / 18446744073709551616 + 0
  let p4 := x.d * y.a + p1 % 18446744073709551616 + 0
  let p5 := x.c * y.a + p2 % 18446744073709551616 + p4 / 18446744073709551616
  let p6 := x.b * y.a + p3 % 18446744073709551616 + p5 / 18446744073709551616
  ⟨(x.a * y.a + p3 / 18446744073709551616 + p6 / 18446744073709551616) % 18446744073709551616, p6 % 18446744073709551616, p5 % 18446744073709551616, p4 % 18446744073709551616⟩
/-- How many bits a byte has, and a word. -/
def len8 (x : Nat) : Nat := if x = 0 then 0 else Nat.log2 x + 1
def lenN (x : Nat) : Nat :=
  let n1 := if 4294967296 ≤ x then 32 else 0
  let x1 := if 4294967296 ≤ x then x / 4294967296 else x
  let n2 := if 65536 ≤ x1 then n1 + 16 else n1
  let x2 := if 65536 ≤ x1 then x1 / 65536 else x1
  let n3 := if 256 ≤ x2 then n2 + 8 else n2
  let x3 := if 256 ≤ x2 then x2 / 256 else x2
  n3 + len8 x3
/-- math/bits.Div64's correction. -/
def corr (y1 y0 u : Nat) : Nat → Nat → Nat → Option Nat
  | 0, _, _ => none
  | k + 1, q, r =>
    if 4294967296 ≤ q ∨ (4294967296 * r % 18446744073709551616 + u) % 18446744073709551616 < q * y0 % 18446744073709551616 then
      (if 4294967296 ≤ (r + y1) % 18446744073709551616 then some (q - 1) else corr y1 y0 u k (q - 1) ((r + y1) % 18446744073709551616))
    else some q
def subW (a b : Nat) : Nat := (a + (18446744073709551616 - b)) % 18446744073709551616
/-- Div64's quotient, where its corrections end soon and nothing is divided by 0. -/
def divC (k y2 y1 y0 un32 un1 un0 : Nat) : Option Nat :=
  if y1 = 0 then none else
    match corr y1 y0 un1 k (un32 / y1) (subW un32 (un32 / y1 * y1 % 18446744073709551616)) with
    | none => none
    | some q1 =>
      match corr y1 y0 un0 k (subW ((un32 * 4294967296 % 18446744073709551616 + un1) % 18446744073709551616) (q1 * y2 % 18446744073709551616) / y1) (subW (subW ((un32 * 4294967296 % 18446744073709551616 + un1) % 18446744073709551616) (q1 * y2 % 18446744073709551616)) (subW ((un32 * 4294967296 % 18446744073709551616 + un1) % 18446744073709551616) (q1 * y2 % 18446744073709551616) / y1 * y1 % 18446744073709551616)) with
      | none => none
      | some q0 => some ((q1 * 4294967296 % 18446744073709551616 + q0) % 18446744073709551616)
def divS (s hi lo y : Nat) : Option Nat :=
  divC 9 (y * 2 ^ s % 18446744073709551616) (y * 2 ^ s % 18446744073709551616 / 4294967296) (y * 2 ^ s % 18446744073709551616 % 4294967296) (hi * 2 ^ s % 18446744073709551616 ||| lo / 2 ^ (64 - s)) (lo * 2 ^ s % 18446744073709551616 / 4294967296) (lo * 2 ^ s % 18446744073709551616 % 4294967296)
def divN (hi lo y : Nat) : Option Nat :=
  if y ≤ hi then none else if hi = 0 then some (lo / y) else divS (64 - lenN y) hi lo y
/-- The power ahead of the last one. -/
def belowN (p : Nat) (x : Q4) : Q4 := if p = 3 then tmsN x x else x
/-- The step's parts; the program's step. -/
def slopeN (p : Nat) (x : Q4) : Q4 := tmsN (belowN p x) ⟨p, 0, 0, 0⟩
def allN (p : Nat) (x : Q4) : Q4 := tmsN (belowN p x) x
def lowN (n p : Nat) (x : Q4) : Option Q4 :=
  let all := allN p x
  if all.a < n then some x else
    let sl := slopeN p x
    match divN (subW all.a n * 72057594037927936 % 18446744073709551616 ||| all.b / 256) (all.b * 72057594037927936 % 18446744073709551616) (((sl.a * 72057594037927936 % 18446744073709551616 ||| sl.b / 256) + 1) % 18446744073709551616) with
    | none => none
    | some q => some ⟨x.a, subW x.b (max q 1), x.c, x.d⟩
/-- The steps end in x. -/
def chainB (n p : Nat) : Nat → Q4 → Q4 → Bool
  | 0, _, _ => false
  | k + 1, x, z => match lowN n p x with
    | none => false
    | some y => if y.same x then x.same z else chainB n p k y z
/-- The whole part of the root. -/
def wholeB (n p v : Nat) : Bool := (List.range v).all (fun j => j == 0 || Nat.ble (j ^ p) n) && (Nat.ble 1 v && (Nat.ble (v ^ p) n && Nat.blt n ((v + 1) ^ p)))
def fracB (n p v c : Nat) : Bool := wholeB n p v && chainB n p 20 ⟨v, 18446744073709551615, 0, 0⟩ ⟨v, c, 0, 0⟩
def rt2 (n : Nat) : Nat := (List.range 22).foldl (fun a j => if j * j ≤ n then j else a) 0
def rt3 (n : Nat) : Nat := (List.range 9).foldl (fun a j => if j * j * j ≤ n then j else a) 0
theorem start_ok : ((List.range 8).all fun i => fracB (PR.getD i 0) 2 (rt2 (PR.getD i 0)) (HS.getD i 0)) = true := by decide +kernel
theorem const_ok : ((List.range 80).all fun i => fracB (PR.getD i 0) 3 (rt3 (PR.getD i 0)) (HK.getD i 0)) = true := by decide +kernel
end Go.Proofs.YtpagiffbjofihaaDoor.Sha
namespace Go.Proofs.YtpagiffbjofihaaDoor.Sha
set_option linter.unusedVariables false
set_option linter.unusedSimpArgs false
open Go Go.RowKit
def tab8 : ByteArray := ⟨((List.range 256).map fun x => UInt8.ofNat (len8 x)).toArray⟩
theorem tab8_size : tab8.size = 256 := by simp [tab8, ByteArray.size]
theorem len8_lt : ∀ x : Fin 256, len8 x.val < 256 := by decide +kernel
theorem tab8_at (x : Nat) (h : x < 256) (h2 : x < tab8.size) : (tab8[x]'h2).toNat = len8 x := by
  have := len8_lt ⟨x, h⟩
  simp only at this
  simp only [tab8, ByteArray.getElem_eq_getElem_data, List.getElem_toArray, List.getElem_map, List.getElem_range, UInt8.toNat_ofNat']
  exact Nat.mod_eq_of_lt this
theorem len_at {tab : ByteArray} {y k : Nat} (ht : tab = tab8) (hk : k ≤ 56) (hy : y < 256) (h2 : y < tab.size) : wrap64 ((k : Int) + wrap64 ((tab[y]'h2).toNat : Int)) = ((k + len8 y : Nat) : Int) := by
  subst ht
  have h := len8_lt ⟨y, hy⟩
  simp only at h
  rw [tab8_at y hy h2]
  unfold wrap64
  omega
theorem len8_le8 : ∀ x : Fin 256, len8 x.val ≤ 8 := by decide +kernel
set_option maxRecDepth 100000 in
set_option maxHeartbeats 1000000 in
theorem len64_hhh (x : Nat) (w : World) (hx : x < 18446744073709551616) (h1 : 4294967296 ≤ x) (h2 : 65536 ≤ x / 4294967296) (h3 : 256 ≤ x / 4294967296 / 65536) :
    Calls Tryd.prog 91 #[.int .u64 x] w fun e w' => e = .returned (.int .i64 (lenN x : Nat)) ∧ w = w' := by
  have hl : lenN x = 56 + len8 (x / 4294967296 / 65536 / 256) := by
    unfold lenN
    simp only [if_pos h1, if_pos h2, if_pos h3]
  have b1 : decide ((4294967296 : Int) ≤ (x : Int)) = true := by simp; omega
  have e1 : (x : Int) / 4294967296 = ((x / 4294967296 : Nat) : Int) := by omega
  have l1 : x / 4294967296 ≤ 4294967295 := by omega
  obtain ⟨z1, hz1⟩ : ∃ m, m = x / 4294967296 := ⟨_, rfl⟩
  rw [← hz1] at e1 l1 hl h2 h3
  have b2 : decide ((65536 : Int) ≤ (z1 : Int)) = true := by simp; omega
  have e2 : (z1 : Int) / 65536 = ((z1 / 65536 : Nat) : Int) := by omega
  have l2 : z1 / 65536 ≤ 1000000000 := by omega
  obtain ⟨z2, hz2⟩ : ∃ m, m = z1 / 65536 := ⟨_, rfl⟩
  rw [← hz2] at e2 l2 hl h3
  have b3 : decide ((256 : Int) ≤ (z2 : Int)) = true := by simp; omega
  have e3 : (z2 : Int) / 256 = ((z2 / 256 : Nat) : Int) := by omega
  have l3 : z2 / 256 ≤ 1000000000 := by omega
  obtain ⟨z3, hz3⟩ : ∃ m, m = z2 / 256 := ⟨_, rfl⟩
  rw [← hz3] at e3 l3 hl
  have hy2 : z3 < 256 := by omega
  have hxi := Lib.hid hx
  rw [hl]
  clear h1 h2 h3 hx hl hz1 hz2 hz3
  go_enter Tryd.func91, Tryd.ntmps91
  generalize hs : (ByteArray.mk _ : ByteArray) = tab at ⊢
  have htab : tab = tab8 := by rw [← hs]; kernel_rfl
  clear hs
  have hsz : tab.size = 256 := by rw [htab]; exact tab8_size
  have HT := Lib.hid htab
  clear htab
  go_wp2
  go_ret
  refine ⟨?_, rfl⟩
  have hfin := len_at (k := 56) HT.out (by omega) hy2 (by rw [hsz]; exact hy2)
  skip
  rw [← hfin]
  rfl
set_option maxRecDepth 100000 in
set_option maxHeartbeats 1000000 in
theorem len64_hhl (x : Nat) (w : World) (hx : x < 18446744073709551616) (h1 : 4294967296 ≤ x) (h2 : 65536 ≤ x / 4294967296) (h3 : x / 4294967296 / 65536 < 256) :
    Calls Tryd.prog 91 #[.int .u64 x] w fun e w' => e = .returned (.int .i64 (lenN x : Nat)) ∧ w = w' := by
  have hl : lenN x = 48 + len8 (x / 4294967296 / 65536) := by
    unfold lenN
    simp only [if_pos h1, if_pos h2, if_neg (show ¬ 256 ≤ x / 4294967296 / 65536 by omega)]
  have b1 : decide ((4294967296 : Int) ≤ (x : Int)) = true := by simp; omega
  have e1 : (x : Int) / 4294967296 = ((x / 4294967296 : Nat) : Int) := by omega
  have l1 : x / 4294967296 ≤ 4294967295 := by omega
  obtain ⟨z1, hz1⟩ : ∃ m, m = x / 4294967296 := ⟨_, rfl⟩
  rw [← hz1] at e1 l1 hl h2 h3
  have b2 : decide ((65536 : Int) ≤ (z1 : Int)) = true := by simp; omega
  have e2 : (z1 : Int) / 65536 = ((z1 / 65536 : Nat) : Int) := by omega
  have l2 : z1 / 65536 ≤ 1000000000 := by omega
  obtain ⟨z2, hz2⟩ : ∃ m, m = z1 / 65536 := ⟨_, rfl⟩
  rw [← hz2] at e2 l2 hl h3
  have b3 : decide ((256 : Int) ≤ (z2 : Int)) = false := by simp; omega
  have hy2 : z2 < 256 := by omega
  have hxi := Lib.hid hx
  rw [hl]
  clear h1 h2 h3 hx hl hz1 hz2
  go_enter Tryd.func91, Tryd.ntmps91
  generalize hs : (ByteArray.mk _ : ByteArray) = tab at ⊢
  have htab : tab = tab8 := by rw [← hs]; kernel_rfl
  clear hs
  have hsz : tab.size = 256 := by rw [htab]; exact tab8_size
  have HT := Lib.hid htab
  clear htab
  go_wp2
  go_ret
  refine ⟨?_, rfl⟩
  have hfin := len_at (k := 48) HT.out (by omega) hy2 (by rw [hsz]; exact hy2)
  skip
  rw [← hfin]
  rfl
set_option maxRecDepth 100000 in
set_option maxHeartbeats 1000000 in
theorem len64_hlh (x : Nat) (w : World) (hx : x < 18446744073709551616) (h1 : 4294967296 ≤ x) (h2 : x / 4294967296 < 65536) (h3 : 256 ≤ x / 4294967296) :
    Calls Tryd.prog 91 #[.int .u64 x] w fun e w' => e = .returned (.int .i64 (lenN x : Nat)) ∧ w = w' := by
  have hl : lenN x = 40 + len8 (x / 4294967296 / 256) := by
    unfold lenN
    simp only [if_pos h1, if_neg (show ¬ 65536 ≤ x / 4294967296 by omega), if_pos h3]
  have b1 : decide ((4294967296 : Int) ≤ (x : Int)) = true := by simp; omega
  have e1 : (x : Int) / 4294967296 = ((x / 4294967296 : Nat) : Int) := by omega
  have l1 : x / 4294967296 ≤ 4294967295 := by omega
  obtain ⟨z1, hz1⟩ : ∃ m, m = x / 4294967296 := ⟨_, rfl⟩
  rw [← hz1] at e1 l1 hl h2 h3
  have b2 : decide ((65536 : Int) ≤ (z1 : Int)) = false := by simp; omega
  have b3 : decide ((256 : Int) ≤ (z1 : Int)) = true := by simp; omega
  have e3 : (z1 : Int) / 256 = ((z1 / 256 : Nat) : Int) := by omega
  have l3 : z1 / 256 ≤ 1000000000 := by omega
  obtain ⟨z3, hz3⟩ : ∃ m, m = z1 / 256 := ⟨_, rfl⟩
  rw [← hz3] at e3 l3 hl
  have hy2 : z3 < 256 := by omega
  have hxi := Lib.hid hx
  rw [hl]
  clear h1 h2 h3 hx hl hz1 hz3
  go_enter Tryd.func91, Tryd.ntmps91
  generalize hs : (ByteArray.mk _ : ByteArray) = tab at ⊢
  have htab : tab = tab8 := by rw [← hs]; kernel_rfl
  clear hs
  have hsz : tab.size = 256 := by rw [htab]; exact tab8_size
  have HT := Lib.hid htab
  clear htab
  go_wp2
  go_ret
  refine ⟨?_, rfl⟩
  have hfin := len_at (k := 40) HT.out (by omega) hy2 (by rw [hsz]; exact hy2)
  skip
  rw [← hfin]
  rfl
set_option maxRecDepth 100000 in
set_option maxHeartbeats 1000000 in
theorem len64_hll (x : Nat) (w : World) (hx : x < 18446744073709551616) (h1 : 4294967296 ≤ x) (h2 : x / 4294967296 < 65536) (h3 : x / 4294967296 < 256) :
    Calls Tryd.prog 91 #[.int .u64 x] w fun e w' => e = .returned (.int .i64 (lenN x : Nat)) ∧ w = w' := by
  have hl : lenN x = 32 + len8 (x / 4294967296) := by
    unfold lenN
    simp only [if_pos h1, if_neg (show ¬ 65536 ≤ x / 4294967296 by omega), if_neg (show ¬ 256 ≤ x / 4294967296 by omega)]
  have b1 : decide ((4294967296 : Int) ≤ (x : Int)) = true := by simp; omega
  have e1 : (x : Int) / 4294967296 = ((x / 4294967296 : Nat) : Int) := by omega
  have l1 : x / 4294967296 ≤ 4294967295 := by omega
  obtain ⟨z1, hz1⟩ : ∃ m, m = x / 4294967296 := ⟨_, rfl⟩
  rw [← hz1] at e1 l1 hl h2 h3
  have b2 : decide ((65536 : Int) ≤ (z1 : Int)) = false := by simp; omega
  have b3 : decide ((256 : Int) ≤ (z1 : Int)) = false := by simp; omega
  have hy2 : z1 < 256 := by omega
  have hxi := Lib.hid hx
  rw [hl]
  clear h1 h2 h3 hx hl hz1
  go_enter Tryd.func91, Tryd.ntmps91
  generalize hs : (ByteArray.mk _ : ByteArray) = tab at ⊢
  have htab : tab = tab8 := by rw [← hs]; kernel_rfl
  clear hs
  have hsz : tab.size = 256 := by rw [htab]; exact tab8_size
  have HT := Lib.hid htab
  clear htab
  go_wp2
  go_ret
  refine ⟨?_, rfl⟩
  have hfin := len_at (k := 32) HT.out (by omega) hy2 (by rw [hsz]; exact hy2)
  skip
  rw [← hfin]
  rfl
set_option maxRecDepth 100000 in
set_option maxHeartbeats 1000000 in
theorem len64_lhh (x : Nat) (w : World) (hx : x < 18446744073709551616) (h1 : x < 4294967296) (h2 : 65536 ≤ x) (h3 : 256 ≤ x / 65536) :
    Calls Tryd.prog 91 #[.int .u64 x] w fun e w' => e = .returned (.int .i64 (lenN x : Nat)) ∧ w = w' := by
  have hl : lenN x = 24 + len8 (x / 65536 / 256) := by
    unfold lenN
    simp only [if_neg (show ¬ 4294967296 ≤ x by omega), if_pos h2, if_pos h3]
  have b1 : decide ((4294967296 : Int) ≤ (x : Int)) = false := by simp; omega
  have b2 : decide ((65536 : Int) ≤ (x : Int)) = true := by simp; omega
  have e2 : (x : Int) / 65536 = ((x / 65536 : Nat) : Int) := by omega
  have l2 : x / 65536 ≤ 281474976710655 := by omega
  obtain ⟨z2, hz2⟩ : ∃ m, m = x / 65536 := ⟨_, rfl⟩
  rw [← hz2] at e2 l2 hl h3
  have b3 : decide ((256 : Int) ≤ (z2 : Int)) = true := by simp; omega
  have e3 : (z2 : Int) / 256 = ((z2 / 256 : Nat) : Int) := by omega
  have l3 : z2 / 256 ≤ 1000000000 := by omega
  obtain ⟨z3, hz3⟩ : ∃ m, m = z2 / 256 := ⟨_, rfl⟩
  rw [← hz3] at e3 l3 hl
  have hy2 : z3 < 256 := by omega
  have hxi := Lib.hid hx
  rw [hl]
  clear h1 h2 h3 hx hl hz2 hz3
  go_enter Tryd.func91, Tryd.ntmps91
  generalize hs : (ByteArray.mk _ : ByteArray) = tab at ⊢
  have htab : tab = tab8 := by rw [← hs]; kernel_rfl
  clear hs
  have hsz : tab.size = 256 := by rw [htab]; exact tab8_size
  have HT := Lib.hid htab
  clear htab
  go_wp2
  go_ret
  refine ⟨?_, rfl⟩
  have hfin := len_at (k := 24) HT.out (by omega) hy2 (by rw [hsz]; exact hy2)
  skip
  rw [← hfin]
  rfl
set_option maxRecDepth 100000 in
set_option maxHeartbeats 1000000 in
theorem len64_lhl (x : Nat) (w : World) (hx : x < 18446744073709551616) (h1 : x < 4294967296) (h2 : 65536 ≤ x) (h3 : x / 65536 < 256) :
    Calls Tryd.prog 91 #[.int .u64 x] w fun e w' => e = .returned (.int .i64 (lenN x : Nat)) ∧ w = w' := by
  have hl : lenN x = 16 + len8 (x / 65536) := by
    unfold lenN
    simp only [if_neg (show ¬ 4294967296 ≤ x by omega), if_pos h2, if_neg (show ¬ 256 ≤ x / 65536 by omega)]
  have b1 : decide ((4294967296 : Int) ≤ (x : Int)) = false := by simp; omega
  have b2 : decide ((65536 : Int) ≤ (x : Int)) = true := by simp; omega
  have e2 : (x : Int) / 65536 = ((x / 65536 : Nat) : Int) := by omega
  have l2 : x / 65536 ≤ 281474976710655 := by omega
  obtain ⟨z2, hz2⟩ : ∃ m, m = x / 65536 := ⟨_, rfl⟩
  rw [← hz2] at e2 l2 hl h3
  have b3 : decide ((256 : Int) ≤ (z2 : Int)) = false := by simp; omega
  have hy2 : z2 < 256 := by omega
  have hxi := Lib.hid hx
  rw [hl]
  clear h1 h2 h3 hx hl hz2
  go_enter Tryd.func91, Tryd.ntmps91
  generalize hs : (ByteArray.mk _ : ByteArray) = tab at ⊢
  have htab : tab = tab8 := by rw [← hs]; kernel_rfl
  clear hs
  have hsz : tab.size = 256 := by rw [htab]; exact tab8_size
  have HT := Lib.hid htab
  clear htab
  go_wp2
  go_ret
  refine ⟨?_, rfl⟩
  have hfin := len_at (k := 16) HT.out (by omega) hy2 (by rw [hsz]; exact hy2)
  skip
  rw [← hfin]
  rfl
set_option maxRecDepth 100000 in
set_option maxHeartbeats 1000000 in
theorem len64_llh (x : Nat) (w : World) (hx : x < 18446744073709551616) (h1 : x < 4294967296) (h2 : x < 65536) (h3 : 256 ≤ x) :
    Calls Tryd.prog 91 #[.int .u64 x] w fun e w' => e = .returned (.int .i64 (lenN x : Nat)) ∧ w = w' := by
  have hl : lenN x = 8 + len8 (x / 256) := by
    unfold lenN
    simp only [if_neg (show ¬ 4294967296 ≤ x by omega), if_neg (show ¬ 65536 ≤ x by omega), if_pos h3]
  have b1 : decide ((4294967296 : Int) ≤ (x : Int)) = false := by simp; omega
  have b2 : decide ((65536 : Int) ≤ (x : Int)) = false := by simp; omega
  have b3 : decide ((256 : Int) ≤ (x : Int)) = true := by simp; omega
  have e3 : (x : Int) / 256 = ((x / 256 : Nat) : Int) := by omega
  have l3 : x / 256 ≤ 72057594037927935 := by omega
  obtain ⟨z3, hz3⟩ : ∃ m, m = x / 256 := ⟨_, rfl⟩
  rw [← hz3] at e3 l3 hl
  have hy2 : z3 < 256 := by omega
  have hxi := Lib.hid hx
  rw [hl]
  clear h1 h2 h3 hx hl hz3
  go_enter Tryd.func91, Tryd.ntmps91
  generalize hs : (ByteArray.mk _ : ByteArray) = tab at ⊢
  have htab : tab = tab8 := by rw [← hs]; kernel_rfl
  clear hs
  have hsz : tab.size = 256 := by rw [htab]; exact tab8_size
  have HT := Lib.hid htab
  clear htab
  go_wp2
  go_ret
  refine ⟨?_, rfl⟩
  have hfin := len_at (k := 8) HT.out (by omega) hy2 (by rw [hsz]; exact hy2)
  skip
  rw [← hfin]
  rfl
set_option maxRecDepth 100000 in
set_option maxHeartbeats 1000000 in
theorem len64_lll (x : Nat) (w : World) (hx : x < 18446744073709551616) (h1 : x < 4294967296) (h2 : x < 65536) (h3 : x < 256) :
    Calls Tryd.prog 91 #[.int .u64 x] w fun e w' => e = .returned (.int .i64 (lenN x : Nat)) ∧ w = w' := by
  have hl : lenN x = 0 + len8 (x) := by
    unfold lenN
    simp only [if_neg (show ¬ 4294967296 ≤ x by omega), if_neg (show ¬ 65536 ≤ x by omega), if_neg (show ¬ 256 ≤ x by omega)]
  have b1 : decide ((4294967296 : Int) ≤ (x : Int)) = false := by simp; omega
  have b2 : decide ((65536 : Int) ≤ (x : Int)) = false := by simp; omega
  have b3 : decide ((256 : Int) ≤ (x : Int)) = false := by simp; omega
  have hy2 : x < 256 := by omega
  have hxi := Lib.hid hx
  rw [hl]
  clear h1 h2 h3 hx hl 
  go_enter Tryd.func91, Tryd.ntmps91
  generalize hs : (ByteArray.mk _ : ByteArray) = tab at ⊢
  have htab : tab = tab8 := by rw [← hs]; kernel_rfl
  clear hs
  have hsz : tab.size = 256 := by rw [htab]; exact tab8_size
  have HT := Lib.hid htab
  clear htab
  go_wp2
  go_ret
  refine ⟨?_, rfl⟩
  have hfin := len_at (k := 0) HT.out (by omega) hy2 (by rw [hsz]; exact hy2)
  rw [Int.natCast_zero, Int.zero_add] at hfin
  rw [← hfin]
  rfl
theorem len64_any (x : Nat) (w : World) (hx : x < 18446744073709551616) :
    Calls Tryd.prog 91 #[.int .u64 x] w fun e w' => e = .returned (.int .i64 (lenN x : Nat)) ∧ w = w' := by
  rcases Nat.lt_or_ge (x) 4294967296 with h1 | h1
  · rcases Nat.lt_or_ge (x) 65536 with h2 | h2
    · rcases Nat.lt_or_ge (x) 256 with h3 | h3
      · exact len64_lll x w hx h1 h2 h3
      · exact len64_llh x w hx h1 h2 h3
    · rcases Nat.lt_or_ge (x / 65536) 256 with h3 | h3
      · exact len64_lhl x w hx h1 h2 h3
      · exact len64_lhh x w hx h1 h2 h3
  · rcases Nat.lt_or_ge (x / 4294967296) 65536 with h2 | h2
    · rcases Nat.lt_or_ge (x / 4294967296) 256 with h3 | h3
      · exact len64_hll x w hx h1 h2 h3
      · exact len64_hlh x w hx h1 h2 h3
    · rcases Nat.lt_or_ge (x / 4294967296 / 65536) 256 with h3 | h3
      · exact len64_hhl x w hx h1 h2 h3
      · exact len64_hhh x w hx h1 h2 h3
theorem lenN_le (x : Nat) (hx : x < 18446744073709551616) : lenN x ≤ 64 := by
  unfold lenN
  simp only
  generalize hz : (if 256 ≤ _ then _ / 256 else _ : Nat) = z
  have hz2 : z < 256 := by
    rw [← hz]
    repeat' split
    all_goals omega
  have := len8_le8 ⟨z, hz2⟩
  simp only at this
  repeat' split
  all_goals omega
set_option maxHeartbeats 400000 in
theorem lead_any (x s : Nat) (w : World) (hx : x < 18446744073709551616) (hs : s = 64 - lenN x) :
    Calls Tryd.prog 90 #[.int .u64 x] w fun e w' => e = .returned (.int .i64 (s : Nat)) ∧ w = w' := by
  have hl := lenN_le x hx
  have h := fun W => len64_any x W hx
  generalize lenN x = y at *
  subst hs
  go_enter Tryd.func90, Tryd.ntmps90
  go_wp2_with (fail)
  refine (h _).mono ?_
  rintro e w' ⟨rfl, rfl⟩
  go_wp2_with (fail)
  go_ret
  refine ⟨?_, rfl⟩
  have e : ((64 - y : Nat) : Int) = 64 - (y : Int) := by omega
  rw [e]
  rfl
end Go.Proofs.YtpagiffbjofihaaDoor.Sha
namespace Go.Proofs.YtpagiffbjofihaaDoor.Sha
set_option linter.unusedVariables false
set_option linter.unusedSimpArgs false
open Go Go.RowKit
theorem add_nat (a b : Nat) : IntKind.u64.wrap ((a : Int) + (b : Int)) = (((a + b) % 18446744073709551616 : Nat) : Int) := by
  rw [show (a : Int) + (b : Int) = ((a + b : Nat) : Int) by push_cast; rfl, IntKind.wrap_u64]
  omega
theorem mul_nat (a b : Nat) : IntKind.u64.wrap ((a : Int) * (b : Int)) = ((a * b % 18446744073709551616 : Nat) : Int) := by
  rw [show (a : Int) * (b : Int) = ((a * b : Nat) : Int) by push_cast; rfl, IntKind.wrap_u64]
  omega
theorem sub_nat (a b : Nat) (hb : b ≤ 18446744073709551616) : IntKind.u64.wrap ((a : Int) - (b : Int)) = ((subW a b : Nat) : Int) := by
  unfold subW
  rw [IntKind.wrap_u64]
  omega
theorem subW_lt (a b : Nat) : subW a b < 18446744073709551616 := Nat.mod_lt _ (by omega)
theorem mask_nat (a : Nat) (ha : a < 18446744073709551616) : bits .and .u64 (a : Int) 4294967295 = ((a % 4294967296 : Nat) : Int) := Mul64.maskN a ha
theorem tdiv_nat (a b : Nat) : (a : Int).tdiv (b : Int) = ((a / b : Nat) : Int) := by
  rw [Int.tdiv_eq_ediv_of_nonneg (by omega)]
  push_cast
  rfl
def DivPost (q : Nat) (w : World) (e : Ending) (w' : World) : Prop := ∃ r : Int, e = .returned (.tuple #[.int .u64 (q : Int), .int .u64 r]) ∧ Below w.heap.size w w'
theorem corr_step (y1 y0 u k q r : Nat) : corr y1 y0 u (k + 1) q r =
    if 4294967296 ≤ q ∨ (4294967296 * r % 18446744073709551616 + u) % 18446744073709551616 < q * y0 % 18446744073709551616 then
      (if 4294967296 ≤ (r + y1) % 18446744073709551616 then some (q - 1) else corr y1 y0 u k (q - 1) ((r + y1) % 18446744073709551616))
    else some q := rfl
set_option maxRecDepth 100000 in
set_option maxHeartbeats 1000000 in
theorem div64_zero (lo y : Nat) (w : World) (hl : lo < 18446744073709551616) (hy : y < 18446744073709551616) (h0 : 0 < y) :
    Calls Tryd.prog 88 #[.int .u64 0, .int .u64 lo, .int .u64 y] w (DivPost (lo / y) w) := by
  have b1 : ((y : Int) == 0) = false := by simp; omega
  have b2 : decide ((y : Int) ≤ 0) = false := by simp; omega
  obtain ⟨q, hq⟩ : ∃ q, q = lo / y := ⟨_, rfl⟩
  have ht := tdiv_nat lo y
  rw [← hq] at ht
  have hql : q < 18446744073709551616 := by rw [hq]; exact div_lt hl
  have hwq : IntKind.u64.wrap (q : Int) = (q : Int) := by rw [IntKind.wrap_u64]; omega
  rw [← hq]
  clear hq
  go_enter Tryd.func88, Tryd.ntmps88
  go_wp2
  refine wp_region_held_drew (S := fun W => W = w.drew) (by kernel_rfl) ?_ (fun hHeld => ?_)
  · exact rfl
  refine wpAnyH_take (i := 0) (v := ?_) rfl (by kernel_rfl) (by kernel_rfl) (by kernel_rfl) (fun _ _ _ h => h) (Or.inl ⟨by rfl, ?_⟩) hHeld ?_
  rotate_left
  · (intro W hSw; (try dsimp only at hSw); (try simp only [List.getElem_toArray, List.getElem_cons_succ, List.getElem_cons_zero]); go_simp; try with_reducible rfl)
  try simp only [Act.put, List.getElem_toArray, List.getElem_cons_succ, List.getElem_cons_zero, List.setIfInBounds_toArray, List.set_cons_zero, List.set_cons_succ]
  refine wpAnyH_take (i := 1) (v := ?_) rfl (by kernel_rfl) (by kernel_rfl) (by kernel_rfl) (fun _ _ _ h => h) (Or.inl ⟨by rfl, ?_⟩) hHeld ?_
  rotate_left
  · (intro W hSw; (try dsimp only at hSw); (try simp only [List.getElem_toArray, List.getElem_cons_succ, List.getElem_cons_zero]); go_simp; try with_reducible rfl)
  try simp only [Act.put, List.getElem_toArray, List.getElem_cons_succ, List.getElem_cons_zero, List.setIfInBounds_toArray, List.set_cons_zero, List.set_cons_succ]
  refine wpAnyH_take (i := 2) (v := ?_) rfl (by kernel_rfl) (by kernel_rfl) (by kernel_rfl) (fun _ _ _ h => h) (Or.inl ⟨by rfl, ?_⟩) hHeld ?_
  rotate_left
  · (intro W hSw; (try dsimp only at hSw); (try simp only [List.getElem_toArray, List.getElem_cons_succ, List.getElem_cons_zero]); go_simp; try with_reducible rfl)
  try simp only [Act.put, List.getElem_toArray, List.getElem_cons_succ, List.getElem_cons_zero, List.setIfInBounds_toArray, List.set_cons_zero, List.set_cons_succ]
  refine wpAnyH_take (i := 3) (v := ?_) rfl (by kernel_rfl) (by kernel_rfl) (by kernel_rfl) (fun _ _ _ h => h) (Or.inl ⟨by rfl, ?_⟩) hHeld ?_
  rotate_left
  · (intro W hSw; (try dsimp only at hSw); (try simp only [List.getElem_toArray, List.getElem_cons_succ, List.getElem_cons_zero]); go_simp; try with_reducible rfl)
  try simp only [Act.put, List.getElem_toArray, List.getElem_cons_succ, List.getElem_cons_zero, List.setIfInBounds_toArray, List.set_cons_zero, List.set_cons_succ]
  refine wpAnyH_take (i := 4) (v := ?_) rfl (by kernel_rfl) (by kernel_rfl) (by kernel_rfl) (fun _ _ _ h => h) (Or.inl ⟨by rfl, ?_⟩) hHeld ?_
  rotate_left
  · (intro W hSw; (try dsimp only at hSw); (try simp only [List.getElem_toArray, List.getElem_cons_succ, List.getElem_cons_zero]); go_simp; try with_reducible rfl)
  try simp only [Act.put, List.getElem_toArray, List.getElem_cons_succ, List.getElem_cons_zero, List.setIfInBounds_toArray, List.set_cons_zero, List.set_cons_succ]
  refine wpAnyH_take (i := 5) (v := ?_) rfl (by kernel_rfl) (by kernel_rfl) (by kernel_rfl) (fun _ _ _ h => h) (Or.inl ⟨by rfl, ?_⟩) hHeld ?_
  rotate_left
  · (intro W hSw; (try dsimp only at hSw); (try simp only [List.getElem_toArray, List.getElem_cons_succ, List.getElem_cons_zero]); go_simp; try with_reducible rfl)
  try simp only [Act.put, List.getElem_toArray, List.getElem_cons_succ, List.getElem_cons_zero, List.setIfInBounds_toArray, List.set_cons_zero, List.set_cons_succ]
  refine wpAnyH_ready (rs := [6]) (by kernel_rfl) (by simp) (AllReadyH.cons rfl (fun K hK => ?_) AllReadyH.nil)
  have h0 := hHeld
  clear hHeld
  try simp only [List.getElem_toArray, List.getElem_cons_succ, List.getElem_cons_zero]
  go_simp
  refine hK.out _ _ (rfl) (fun hHeld => ?_)
  clear hK K h0
  try simp only [Act.put, List.getElem_toArray, List.getElem_cons_succ, List.getElem_cons_zero, List.setIfInBounds_toArray, List.set_cons_zero, List.set_cons_succ]
  refine wpAnyH_ready (rs := [7]) (by kernel_rfl) (by simp) (AllReadyH.cons rfl (fun K hK => ?_) AllReadyH.nil)
  have h0 := hHeld
  clear hHeld
  try simp only [List.getElem_toArray, List.getElem_cons_succ, List.getElem_cons_zero]
  go_simp
  refine hK.out _ _ (rfl) (fun hHeld => ?_)
  clear hK K h0
  try simp only [Act.put, List.getElem_toArray, List.getElem_cons_succ, List.getElem_cons_zero, List.setIfInBounds_toArray, List.set_cons_zero, List.set_cons_succ]
  refine wpAnyH_done (by kernel_rfl) ?_ _
  go_wp2
  go_ret2
  exact ⟨_, rfl, (Below.refl _ _).drew⟩
set_option maxRecDepth 100000 in
set_option maxHeartbeats 2000000 in
theorem div64_more (hi lo y s Q : Nat) (w : World) (hhi : hi < 18446744073709551616) (hl : lo < 18446744073709551616) (hy : y < 18446744073709551616) (h0 : 0 < hi) (h1 : hi < y) (hs : s = 64 - lenN y) (hs2 : s < 64)
    (un32 un1 un0 y2 y1 y0 q1 un21 : Nat) (e_y2 : y2 = y * 2 ^ s % 18446744073709551616) (e_y1 : y1 = y2 / 4294967296) (e_y0 : y0 = y2 % 4294967296)
    (e_un32 : un32 = hi * 2 ^ s % 18446744073709551616 ||| lo / 2 ^ (64 - s)) (e_un1 : un1 = lo * 2 ^ s % 18446744073709551616 / 4294967296) (e_un0 : un0 = lo * 2 ^ s % 18446744073709551616 % 4294967296)
    (h_y1 : y1 ≠ 0) (h_q1 : corr y1 y0 un1 9 (un32 / y1) (subW un32 (un32 / y1 * y1 % 18446744073709551616)) = some q1)
    (e_un21 : un21 = subW ((un32 * 4294967296 % 18446744073709551616 + un1) % 18446744073709551616) (q1 * y2 % 18446744073709551616)) (h_q0 : corr y1 y0 un0 9 (un21 / y1) (subW un21 (un21 / y1 * y1 % 18446744073709551616)) = some Q) (F : Nat) (e_F : F = (q1 * 4294967296 % 18446744073709551616 + Q) % 18446744073709551616) :
    Calls Tryd.prog 88 #[.int .u64 hi, .int .u64 lo, .int .u64 y] w (DivPost F w) := by
  have b1 : ((y : Int) == 0) = false := by simp; omega
  have b3 : ((hi : Int) == 0) = false := by simp; omega
  have c3 : ¬ y ≤ hi := by omega
  have c4 : ¬ hi = 0 := by omega
  have hs3 : 64 - s < 65 := by omega
  have HCL := Lib.hid (fun W => lead_any y s W hy hs)
  clear hs
  have e1 := shl_nat y s
  rw [← e_y2] at e1
  have l_y2 : y2 < 18446744073709551616 := by rw [e_y2]; exact Nat.mod_lt _ (by omega)
  have e2 : (y2 : Int) / 4294967296 = (y1 : Int) := by omega
  have e3 := mask_nat y2 l_y2
  rw [← e_y0] at e3
  have l_y1 : y1 < 4294967296 := by omega
  have l_y0 : y0 < 4294967296 := by omega
  obtain ⟨hA, e_hA⟩ : ∃ m, m = hi * 2 ^ s % 18446744073709551616 := ⟨_, rfl⟩
  have e4 := shl_nat hi s
  rw [← e_hA] at e4 e_un32
  have l_hA : hA < 18446744073709551616 := by rw [e_hA]; exact Nat.mod_lt _ (by omega)
  obtain ⟨hB, e_hB⟩ : ∃ m, m = lo / 2 ^ (64 - s) := ⟨_, rfl⟩
  have e5 := shr_nat lo (64 - s)
  rw [← e_hB] at e5 e_un32
  have l_hB : hB < 18446744073709551616 := by rw [e_hB]; exact div_lt hl
  have e6 := u64_or_nat hA hB l_hA l_hB
  rw [← e_un32] at e6
  have l_un32 : un32 < 18446744073709551616 := by rw [e_un32]; exact Nat.or_lt_two_pow (n := 64) (by omega) (by omega)
  obtain ⟨un10, e_un10⟩ : ∃ m, m = lo * 2 ^ s % 18446744073709551616 := ⟨_, rfl⟩
  have e7 := shl_nat lo s
  rw [← e_un10] at e7 e_un1 e_un0
  have l_un10 : un10 < 18446744073709551616 := by rw [e_un10]; exact Nat.mod_lt _ (by omega)
  have e8 : (un10 : Int) / 4294967296 = (un1 : Int) := by omega
  have e9 := mask_nat un10 l_un10
  rw [← e_un0] at e9
  have l_un1 : un1 < 4294967296 := by omega
  have l_un0 : un0 < 4294967296 := by omega
  obtain ⟨qa, e_qa⟩ : ∃ m, m = un32 / y1 := ⟨_, rfl⟩
  have e10 := tdiv_nat un32 y1
  rw [← e_qa] at e10 h_q1
  have l_qa : qa < 18446744073709551616 := by rw [e_qa]; exact div_lt l_un32
  have e11 : IntKind.u64.wrap (qa : Int) = (qa : Int) := by rw [IntKind.wrap_u64]; omega
  obtain ⟨ma, e_ma⟩ : ∃ m, m = qa * y1 % 18446744073709551616 := ⟨_, rfl⟩
  have e12 := mul_nat qa y1
  rw [← e_ma] at e12 h_q1
  have l_ma : ma < 18446744073709551616 := by rw [e_ma]; exact Nat.mod_lt _ (by omega)
  obtain ⟨ra, e_ra⟩ : ∃ m, m = subW un32 ma := ⟨_, rfl⟩
  have e13 := sub_nat un32 ma (by omega)
  rw [← e_ra] at e13 h_q1
  have l_ra : ra < 18446744073709551616 := by rw [e_ra]; exact subW_lt _ _
  have H1 := Lib.hid h_q1
  have H0 := Lib.hid h_q0
  have HU := Lib.hid e_un21
  have EF := Lib.hid e_F
  clear e_F h_q1 h_q0 e_un21 e_ra e_ma e_qa e_un1 e_un0 e_un10 e_hB e_hA e_un32 e_y2 e_y1 e_y0
  go_enter Tryd.func88, Tryd.ntmps88
  go_wp2_with (fail)
  refine (HCL.out _).mono ?_
  rintro e w' ⟨rfl, rfl⟩
  go_upto_block 0 with (fail)
  go_cut [15] (fun sa wz => sa = .int .u64 (q1 : Nat) ∧ q1 < 18446744073709551616 ∧ wz = w)
  case first =>
    go_wp2_with (fail)
    go_loop [15, 16] (fun x z => ∃ q r k : Nat, x = .int .u64 (q : Nat) ∧ z = .int .u64 (r : Nat) ∧ q < 18446744073709551616 ∧ r < 18446744073709551616 ∧ Hid (corr y1 y0 un1 k q r = some q1)) (fun x _ => (intOf x).toNat)
    case atStart => exact ⟨_, _, 9, rfl, rfl, l_qa, l_ra, H1⟩
    case round =>
      obtain ⟨q, r, k, rfl, rfl, hq, hr, hc⟩ := hrel
      cases k with
      | zero => cases hc.out
      | succ k =>
        have hc2 := hc.out
        rw [corr_step] at hc2
        clear hc
        obtain ⟨m1, e_m1⟩ : ∃ m, m = q * y0 % 18446744073709551616 := ⟨_, rfl⟩
        have f1 := mul_nat q y0
        rw [← e_m1] at f1 hc2
        obtain ⟨m2, e_m2⟩ : ∃ m, m = 4294967296 * r % 18446744073709551616 := ⟨_, rfl⟩
        have f2 : IntKind.u64.wrap (4294967296 * (r : Int)) = (m2 : Int) := by rw [e_m2]; exact mul_nat 4294967296 r
        rw [← e_m2] at hc2
        obtain ⟨m3, e_m3⟩ : ∃ m, m = (m2 + un1) % 18446744073709551616 := ⟨_, rfl⟩
        have f3 := add_nat m2 un1
        rw [← e_m3] at f3 hc2
        obtain ⟨r2, e_r2⟩ : ∃ m, m = (r + y1) % 18446744073709551616 := ⟨_, rfl⟩
        have f4 := add_nat r y1
        rw [← e_r2] at f4 hc2
        have l_r2 : r2 < 18446744073709551616 := by rw [e_r2]; exact Nat.mod_lt _ (by omega)
        have l_m1 : m1 < 18446744073709551616 := by rw [e_m1]; exact Nat.mod_lt _ (by omega)
        have l_m2 : m2 < 18446744073709551616 := by rw [e_m2]; exact Nat.mod_lt _ (by omega)
        have l_m3 : m3 < 18446744073709551616 := by rw [e_m3]; exact Nat.mod_lt _ (by omega)
        have q1p : 4294967296 ≤ q ∨ m3 < m1 → 0 < q := by
          intro h
          rcases Nat.eq_zero_or_pos q with h9 | h9
          · rw [h9, Nat.zero_mul, Nat.zero_mod] at e_m1; omega
          · exact h9
        clear e_m1 e_m2 e_m3 e_r2
        obtain ⟨qm, e_qm⟩ : ∃ m, m = q - 1 := ⟨_, rfl⟩
        rw [← e_qm] at hc2
        by_cases hA1 : 4294967296 ≤ q
        · have bA : decide ((4294967296 : Int) ≤ (q : Int)) = true := by simp; omega
          have f5 : IntKind.u64.wrap ((q : Int) - 1) = (qm : Int) := by rw [IntKind.wrap_u64]; omega
          have l_qm : qm < 18446744073709551616 ∧ qm < q := by omega
          rw [if_pos (by first | exact Or.inl hA1 | exact Or.inr hB1)] at hc2
          clear e_qm q1p
          by_cases hR : 4294967296 ≤ r2
          · have bR : decide ((4294967296 : Int) ≤ (r2 : Int)) = true := by simp; omega
            rw [if_pos hR] at hc2
            injection hc2 with hc3
            subst hc3
            clear hR
            go_wp2_with (fail)
            go_meet
            exact ⟨rfl, by omega, rfl⟩
          · have bR : decide ((4294967296 : Int) ≤ (r2 : Int)) = false := by simp; omega
            rw [if_neg hR] at hc2
            have HC := Lib.hid hc2
            clear hc2
            go_wp2_with (fail)
            go_round
            case rel => exact ⟨qm, r2, k, rfl, rfl, by omega, l_r2, HC⟩
            case measure => simp [intOf]; omega
        · have bA : decide ((4294967296 : Int) ≤ (q : Int)) = false := by simp; omega
          by_cases hB1 : m3 < m1
          · have bB : decide (m3 < m1) = true := decide_eq_true hB1
            have f5 : IntKind.u64.wrap ((q : Int) - 1) = (qm : Int) := by rw [IntKind.wrap_u64]; omega
            have l_qm : qm < 18446744073709551616 ∧ qm < q := by omega
            rw [if_pos (by first | exact Or.inl hA1 | exact Or.inr hB1)] at hc2
            clear e_qm q1p
            by_cases hR : 4294967296 ≤ r2
            · have bR : decide ((4294967296 : Int) ≤ (r2 : Int)) = true := by simp; omega
              rw [if_pos hR] at hc2
              injection hc2 with hc3
              subst hc3
              clear hR
              go_wp2_with (fail)
              go_meet
              exact ⟨rfl, by omega, rfl⟩
            · have bR : decide ((4294967296 : Int) ≤ (r2 : Int)) = false := by simp; omega
              rw [if_neg hR] at hc2
              have HC := Lib.hid hc2
              clear hc2
              go_wp2_with (fail)
              go_round
              case rel => exact ⟨qm, r2, k, rfl, rfl, by omega, l_r2, HC⟩
              case measure => simp [intOf]; omega
          · have bB : decide (m3 < m1) = false := decide_eq_false hB1
            rw [if_neg (by omega)] at hc2
            injection hc2 with hc3
            subst hc3
            clear e_qm q1p
            go_wp2_with (fail)
            go_meet
            exact ⟨rfl, hq, rfl⟩
  case rest =>
    obtain ⟨rfl, l_q1, rfl⟩ := hcut
    have hU := HU.out
    obtain ⟨g1, e_g1⟩ : ∃ m, m = un32 * 4294967296 % 18446744073709551616 := ⟨_, rfl⟩
    have k1 := mul_nat un32 4294967296
    rw [← e_g1] at k1 hU
    have l_g1 : g1 < 18446744073709551616 := by rw [e_g1]; first | exact Nat.mod_lt _ (by omega) | exact subW_lt _ _
    obtain ⟨g2, e_g2⟩ : ∃ m, m = (g1 + un1) % 18446744073709551616 := ⟨_, rfl⟩
    have k2 := add_nat g1 un1
    rw [← e_g2] at k2 hU
    have l_g2 : g2 < 18446744073709551616 := by rw [e_g2]; first | exact Nat.mod_lt _ (by omega) | exact subW_lt _ _
    obtain ⟨g3, e_g3⟩ : ∃ m, m = q1 * y2 % 18446744073709551616 := ⟨_, rfl⟩
    have k3 := mul_nat q1 y2
    rw [← e_g3] at k3 hU
    have l_g3 : g3 < 18446744073709551616 := by rw [e_g3]; first | exact Nat.mod_lt _ (by omega) | exact subW_lt _ _
    have k4 := sub_nat g2 g3 (by omega)
    rw [← hU] at k4
    have l_un21 : un21 < 18446744073709551616 := by rw [hU]; exact subW_lt _ _
    have h0 := H0.out
    obtain ⟨qb, e_qb⟩ : ∃ m, m = un21 / y1 := ⟨_, rfl⟩
    have k5 := tdiv_nat un21 y1
    rw [← e_qb] at k5 h0
    have l_qb : qb < 18446744073709551616 := by rw [e_qb]; exact div_lt l_un21
    have k6 : IntKind.u64.wrap (qb : Int) = (qb : Int) := by rw [IntKind.wrap_u64]; omega
    obtain ⟨mb, e_mb⟩ : ∃ m, m = qb * y1 % 18446744073709551616 := ⟨_, rfl⟩
    have k7 := mul_nat qb y1
    rw [← e_mb] at k7 h0
    have l_mb : mb < 18446744073709551616 := by rw [e_mb]; first | exact Nat.mod_lt _ (by omega) | exact subW_lt _ _
    obtain ⟨rb, e_rb⟩ : ∃ m, m = subW un21 mb := ⟨_, rfl⟩
    have k8 := sub_nat un21 mb (by omega)
    rw [← e_rb] at k8 h0
    have l_rb : rb < 18446744073709551616 := by rw [e_rb]; exact subW_lt _ _
    have k9 : IntKind.u64.wrap ((un32 : Int) * 4294967296) = (g1 : Int) := k1
    have HB := Lib.hid h0
    clear h0 hU e_rb e_mb e_qb e_g1 e_g2 e_g3 H1 H0 HU
    go_upto_block 2 with (fail)
    go_cut [18] (fun sa wz => sa = .int .u64 (Q : Nat) ∧ Q < 18446744073709551616 ∧ wz = wc)
    case first =>
      go_wp2_with (fail)
      go_loop [18, 16] (fun x z => ∃ q r k : Nat, x = .int .u64 (q : Nat) ∧ z = .int .u64 (r : Nat) ∧ q < 18446744073709551616 ∧ r < 18446744073709551616 ∧ Hid (corr y1 y0 un0 k q r = some Q)) (fun x _ => (intOf x).toNat)
      case atStart => exact ⟨_, _, 9, rfl, rfl, l_qb, l_rb, HB⟩
      case round =>
        obtain ⟨q, r, k, rfl, rfl, hq, hr, hc⟩ := hrel
        cases k with
        | zero => cases hc.out
        | succ k =>
          have hc2 := hc.out
          rw [corr_step] at hc2
          clear hc
          obtain ⟨m1, e_m1⟩ : ∃ m, m = q * y0 % 18446744073709551616 := ⟨_, rfl⟩
          have f1 := mul_nat q y0
          rw [← e_m1] at f1 hc2
          obtain ⟨m2, e_m2⟩ : ∃ m, m = 4294967296 * r % 18446744073709551616 := ⟨_, rfl⟩
          have f2 : IntKind.u64.wrap (4294967296 * (r : Int)) = (m2 : Int) := by rw [e_m2]; exact mul_nat 4294967296 r
          rw [← e_m2] at hc2
          obtain ⟨m3, e_m3⟩ : ∃ m, m = (m2 + un0) % 18446744073709551616 := ⟨_, rfl⟩
          have f3 := add_nat m2 un0
          rw [← e_m3] at f3 hc2
          obtain ⟨r2, e_r2⟩ : ∃ m, m = (r + y1) % 18446744073709551616 := ⟨_, rfl⟩
          have f4 := add_nat r y1
          rw [← e_r2] at f4 hc2
          have l_r2 : r2 < 18446744073709551616 := by rw [e_r2]; exact Nat.mod_lt _ (by omega)
          have l_m1 : m1 < 18446744073709551616 := by rw [e_m1]; exact Nat.mod_lt _ (by omega)
          have l_m2 : m2 < 18446744073709551616 := by rw [e_m2]; exact Nat.mod_lt _ (by omega)
          have l_m3 : m3 < 18446744073709551616 := by rw [e_m3]; exact Nat.mod_lt _ (by omega)
          have q1p : 4294967296 ≤ q ∨ m3 < m1 → 0 < q := by
            intro h
            rcases Nat.eq_zero_or_pos q with h9 | h9
            · rw [h9, Nat.zero_mul, Nat.zero_mod] at e_m1; omega
            · exact h9
          clear e_m1 e_m2 e_m3 e_r2
          obtain ⟨qm, e_qm⟩ : ∃ m, m = q - 1 := ⟨_, rfl⟩
          rw [← e_qm] at hc2
          by_cases hA1 : 4294967296 ≤ q
          · have bA : decide ((4294967296 : Int) ≤ (q : Int)) = true := by simp; omega
            have f5 : IntKind.u64.wrap ((q : Int) - 1) = (qm : Int) := by rw [IntKind.wrap_u64]; omega
            have l_qm : qm < 18446744073709551616 ∧ qm < q := by omega
            rw [if_pos (by first | exact Or.inl hA1 | exact Or.inr hB1)] at hc2
            clear e_qm q1p
            by_cases hR : 4294967296 ≤ r2
            · have bR : decide ((4294967296 : Int) ≤ (r2 : Int)) = true := by simp; omega
              rw [if_pos hR] at hc2
              injection hc2 with hc3
              subst hc3
              clear hR
              go_wp2_with (fail)
              go_meet
              exact ⟨rfl, by omega, rfl⟩
            · have bR : decide ((4294967296 : Int) ≤ (r2 : Int)) = false := by simp; omega
              rw [if_neg hR] at hc2
              have HC := Lib.hid hc2
              clear hc2
              go_wp2_with (fail)
              go_round
              case rel => exact ⟨qm, r2, k, rfl, rfl, by omega, l_r2, HC⟩
              case measure => simp [intOf]; omega
          · have bA : decide ((4294967296 : Int) ≤ (q : Int)) = false := by simp; omega
            by_cases hB1 : m3 < m1
            · have bB : decide (m3 < m1) = true := decide_eq_true hB1
              have f5 : IntKind.u64.wrap ((q : Int) - 1) = (qm : Int) := by rw [IntKind.wrap_u64]; omega
              have l_qm : qm < 18446744073709551616 ∧ qm < q := by omega
              rw [if_pos (by first | exact Or.inl hA1 | exact Or.inr hB1)] at hc2
              clear e_qm q1p
              by_cases hR : 4294967296 ≤ r2
              · have bR : decide ((4294967296 : Int) ≤ (r2 : Int)) = true := by simp; omega
                rw [if_pos hR] at hc2
                injection hc2 with hc3
                subst hc3
                clear hR
                go_wp2_with (fail)
                go_meet
                exact ⟨rfl, by omega, rfl⟩
              · have bR : decide ((4294967296 : Int) ≤ (r2 : Int)) = false := by simp; omega
                rw [if_neg hR] at hc2
                have HC := Lib.hid hc2
                clear hc2
                go_wp2_with (fail)
                go_round
                case rel => exact ⟨qm, r2, k, rfl, rfl, by omega, l_r2, HC⟩
                case measure => simp [intOf]; omega
            · have bB : decide (m3 < m1) = false := decide_eq_false hB1
              rw [if_neg (by omega)] at hc2
              injection hc2 with hc3
              subst hc3
              clear e_qm q1p
              go_wp2_with (fail)
              go_meet
              exact ⟨rfl, hq, rfl⟩
    case rest =>
      obtain ⟨rfl, l_Q, rfl⟩ := hcut
      obtain ⟨fa, e_fa⟩ : ∃ m, m = q1 * 4294967296 % 18446744073709551616 := ⟨_, rfl⟩
      have k1 : IntKind.u64.wrap ((q1 : Int) * 4294967296) = (fa : Int) := by rw [e_fa]; exact mul_nat q1 4294967296
      have e_F2 := EF.out
      rw [← e_fa] at e_F2
      have k2 := add_nat fa Q
      rw [← e_F2] at k2
      have l_fa : fa < 18446744073709551616 := by rw [e_fa]; exact Nat.mod_lt _ (by omega)
      clear e_fa e_F2
      have hs4 : s < 65 := by omega
      go_wp2_with (fail)
      go_ret2
      exact ⟨_, rfl, Below.refl _ _⟩
theorem divC_some {k y2 y1 y0 un32 un1 un0 q : Nat} (h : divC k y2 y1 y0 un32 un1 un0 = some q) : y1 ≠ 0 ∧ ∃ q1 un21 Q, corr y1 y0 un1 k (un32 / y1) (subW un32 (un32 / y1 * y1 % 18446744073709551616)) = some q1 ∧
    un21 = subW ((un32 * 4294967296 % 18446744073709551616 + un1) % 18446744073709551616) (q1 * y2 % 18446744073709551616) ∧ corr y1 y0 un0 k (un21 / y1) (subW un21 (un21 / y1 * y1 % 18446744073709551616)) = some Q ∧ q = (q1 * 4294967296 % 18446744073709551616 + Q) % 18446744073709551616 := by
  unfold divC at h
  split at h
  · cases h
  · rename_i hy1
    refine ⟨hy1, ?_⟩
    split at h
    · cases h
    · rename_i q1 hc
      generalize hU : subW ((un32 * 4294967296 % 18446744073709551616 + un1) % 18446744073709551616) (q1 * y2 % 18446744073709551616) = U at h
      split at h
      · cases h
      · rename_i Q hd
        injection h with h
        exact ⟨q1, U, Q, hc, hU.symm, hd, h.symm⟩
theorem div64_any (hi lo y q : Nat) (w : World) (hhi : hi < 18446744073709551616) (hl : lo < 18446744073709551616) (hy : y < 18446744073709551616) (h : divN hi lo y = some q) :
    Calls Tryd.prog 88 #[.int .u64 hi, .int .u64 lo, .int .u64 y] w (DivPost q w) := by
  unfold divN at h
  split at h
  · cases h
  · rename_i h1
    split at h
    · rename_i h0
      subst h0
      injection h with h
      subst h
      exact div64_zero lo y w hl hy (by omega)
    · rename_i h0
      obtain ⟨s, e1⟩ : ∃ s, s = 64 - lenN y := ⟨_, rfl⟩
      rw [← e1] at h
      unfold divS at h
      obtain ⟨y2, e2⟩ : ∃ m, m = y * 2 ^ s % 18446744073709551616 := ⟨_, rfl⟩
      obtain ⟨un32, e5⟩ : ∃ m, m = (hi * 2 ^ s % 18446744073709551616 ||| lo / 2 ^ (64 - s)) := ⟨_, rfl⟩
      obtain ⟨un1, e6⟩ : ∃ m, m = lo * 2 ^ s % 18446744073709551616 / 4294967296 := ⟨_, rfl⟩
      obtain ⟨un0, e7⟩ : ∃ m, m = lo * 2 ^ s % 18446744073709551616 % 4294967296 := ⟨_, rfl⟩
      rw [← e2, ← e5, ← e6, ← e7] at h
      obtain ⟨e8, q1, un21, Q, e9, e10, e11, e12⟩ := divC_some h
      have hs : s < 64 := by
        rcases Nat.eq_zero_or_pos (lenN y) with h5 | h5
        · exfalso
          rw [h5] at e1
          rw [e1] at e2
          apply e8
          rw [e2, Nat.mul_mod_left]
        · omega
      exact div64_more hi lo y s Q w hhi hl hy (by omega) (by omega) e1 hs un32 un1 un0 y2 _ _ q1 un21 e2 rfl rfl e5 e6 e7 e8 e9 e10 e11 q e12
end Go.Proofs.YtpagiffbjofihaaDoor.Sha
namespace Go.Proofs.YtpagiffbjofihaaDoor.Sha
set_option linter.unusedVariables false
set_option linter.unusedSimpArgs false
open Go Go.RowKit
/-- The cells of a row of words. -/
def us (l : List Nat) : Array Value := ncs .u64 l
theorem us_size (l : List Nat) : (us l).size = l.length := ncs_size _ _
theorem us_get (l : List Nat) (i : Nat) : (us l)[i]? = l[i]?.map (nc .u64) := ncs_get _ _ _
theorem us_at {l : List Nat} {i x : Nat} (h : l[i]? = some x) : (us l)[i]? = some (.int .u64 (x : Int)) := by rw [us_get, h]; rfl
theorem us_set (l : List Nat) (i x : Nat) : (us l).setIfInBounds i (.int .u64 (x : Int)) = us (l.set i x) := ncs_set _ _ _ _
theorem us_one (l : List Nat) : (us l).all (·.oneCell') = true := ncs_one _ _
theorem info_us {T : TypeId} {n : Nat} {l : List Nat} (h : (Tryd.prog.info? T).map (·.size) = some n) (hl : l.length = n) : (Tryd.prog.info? T).map (·.size) = some (us l).size := by rw [us_size, hl]; exact h
theorem size_number : (Tryd.prog.info? 107).map (·.size) = some 4 := by kernel_rfl
theorem size_hst : (Tryd.prog.info? 73).map (·.size) = some 8 := by kernel_rfl
theorem size_k80 : (Tryd.prog.info? 75).map (·.size) = some 80 := by kernel_rfl
/-- A call that answers a row of words. -/
def RowPost (l : List Nat) (w : World) (e : Ending) (w' : World) : Prop := e = .returned (.agg (us l)) ∧ Below w.heap.size w w'
theorem row_end {fn : Func} {p : Tmp} {T : TypeId} {n0 : Nat} {e0 : TypeId} {n : Nat} {l : List Nat} (hu : Tryd.prog.underlying T = some (.array n0 e0)) (hi : (Tryd.prog.info? T).map (·.size) = some n) (hl : l.length = n)
    (hr : fn.results = #[.cell p T]) {a : Act} (hd : a.defers = []) {W w : World} {g : Nat} (hp : a.tmps.getD p undef = .pointer (some ⟨g, 0, none⟩)) (hb : Blk w g T (us l)) (hB : Below W.heap.size W w) :
    bodyPost Tryd.prog fn (RowPost l W) .ret a w :=
  bodyPost_ret (results_cell_row hr _ _ g T (us l) (0, 0) _ hp hb hu rfl (info_us hi hl)) hd ⟨rfl, hB⟩
theorem us_zero4 : us [0, 0, 0, 0] = #[.int .u64 0, .int .u64 0, .int .u64 0, .int .u64 0] := rfl
def Q4.l (x : Q4) : List Nat := [x.a, x.b, x.c, x.d]
theorem Q4.len (x : Q4) : x.l.length = 4 := rfl
structure Q4.ok (x : Q4) : Prop where
  a : x.a < 18446744073709551616
  b : x.b < 18446744073709551616
  c : x.c < 18446744073709551616
  d : x.d < 18446744073709551616
theorem tmsN_ok (x y : Q4) : (tmsN x y).ok := ⟨Nat.mod_lt _ (by omega), Nat.mod_lt _ (by omega), Nat.mod_lt _ (by omega), Nat.mod_lt _ (by omega)⟩
theorem tmsN_eq (x y : Q4) (c1 d1 c2 d2 c3 d3 c4 d4 c5 d5 c6 d6 : Nat) (h1 : c1 * 18446744073709551616 + d1 = x.c * y.b) (l1 : d1 < 18446744073709551616) (h2 : MulAddAt x.b y.b c1 0 c2 d2) (h3 : MulAddAt x.a y.b c2 0 c3 d3) (h4 : MulAddAt x.d y.a d1 0 c4 d4)
    (h5 : MulAddAt x.c y.a d2 c4 c5 d5) (h6 : MulAddAt x.b y.a d3 c5 c6 d6) :
    (tmsN x y).l = [(x.a * y.a + c3 + c6) % 18446744073709551616, d6, d5, d4] := by
  unfold MulAddAt at *
  have a1 : x.c * y.b / 18446744073709551616 = c1 := by omega
  have b1 : x.c * y.b % 18446744073709551616 = d1 := by omega
  have a2 : (x.b * y.b + c1 + 0) / 18446744073709551616 = c2 := by omega
  have b2 : (x.b * y.b + c1 + 0) % 18446744073709551616 = d2 := by omega
  have a3 : (x.a * y.b + c2 + 0) / 18446744073709551616 = c3 := by omega
  have b3 : (x.a * y.b + c2 + 0) % 18446744073709551616 = d3 := by omega
  have a4 : (x.d * y.a + d1 + 0) / 18446744073709551616 = c4 := by omega
  have b4 : (x.d * y.a + d1 + 0) % 18446744073709551616 = d4 := by omega
  have a5 : (x.c * y.a + d2 + c4) / 18446744073709551616 = c5 := by omega
  have b5 : (x.c * y.a + d2 + c4) % 18446744073709551616 = d5 := by omega
  have a6 : (x.b * y.a + d3 + c5) / 18446744073709551616 = c6 := by omega
  have b6 : (x.b * y.a + d3 + c5) % 18446744073709551616 = d6 := by omega
  simp only [tmsN, Q4.l, a1, b1, a2, b2, a3, b3, a4, b4, a5, b5, a6, b6]
theorem mulAdd_ex (a b c d : Nat) (ha : a < 18446744073709551616) (hb : b < 18446744073709551616) (hc : c < 18446744073709551616) (hd : d < 18446744073709551616) :
    ∃ hi lo : Nat, (∀ w : World, Calls Tryd.prog 89 #[.int .u64 a, .int .u64 b, .int .u64 c, .int .u64 d] w fun e w' => e = .returned (.tuple #[.int .u64 hi, .int .u64 lo]) ∧ w = w') ∧ MulAddAt a b c d hi lo ∧ hi < 18446744073709551616 ∧ lo < 18446744073709551616 := by
  obtain ⟨p, hp⟩ : ∃ p, p = a * b + c + d := ⟨_, rfl⟩
  have hm := mul_lt_sq ha hb
  have hat : MulAddAt a b c d (p / 18446744073709551616) (p % 18446744073709551616) := by unfold MulAddAt; omega
  obtain ⟨hi, e1⟩ : ∃ h, h = p / 18446744073709551616 := ⟨_, rfl⟩
  obtain ⟨lo, e2⟩ : ∃ h, h = p % 18446744073709551616 := ⟨_, rfl⟩
  rw [← e1, ← e2] at hat
  refine ⟨hi, lo, fun w => (mulAdd2_any a b c d w ha hb hc hd).mono ?_, hat, hat.2.2, hat.2.1⟩
  rintro e w' ⟨hi2, lo2, rfl, ⟨h1, h2, h3⟩, rfl⟩
  obtain ⟨g1, g2, g3⟩ := hat
  have e3 : hi2 = hi := by omega
  have e4 : lo2 = lo := by omega
  rw [e3, e4]
  exact ⟨rfl, rfl⟩
attribute [local irreducible] tmsN
set_option maxRecDepth 100000 in
set_option maxHeartbeats 2000000 in
theorem times_any (x y z : Q4) (w : World) (hx : x.ok) (hy : y.ok) (hz : z = tmsN x y) : Calls Tryd.prog 87 #[.agg (us x.l), .agg (us y.l)] w (RowPost z.l w) := by
  have hfr := (((Fr.start w).row (us x.l) 107 (g := w.heap.size) rfl).row (us y.l) 107 (g := w.heap.size + 1) (by simp)).any (us [0, 0, 0, 0]) 107 4 rfl (g := w.heap.size + 1 + 1) (by simp)
  rw [us_zero4] at hfr
  have kx := hfr.get (g := w.heap.size) (t := 107) (cs := us x.l) (by simp)
  have ky := hfr.get (g := w.heap.size + 1) (t := 107) (cs := us y.l) (by simp)
  obtain ⟨old, hold, kz⟩ := hfr.old (g := w.heap.size + 1 + 1) (t := 107) (n := 4) (by simp)
  obtain ⟨xa, xb, xc, xd⟩ := x
  obtain ⟨ya, yb, yc, yd⟩ := y
  obtain ⟨hxa, hxb, hxc, hxd⟩ := hx
  obtain ⟨hya, hyb, hyc, hyd⟩ := hy
  simp only at hxa hxb hxc hxd hya hyb hyc hyd
  have x0 := kx.cell 0
  rw [us_at (i := 0) (x := xa) rfl] at x0
  have x1 := kx.cell 1
  rw [us_at (i := 1) (x := xb) rfl] at x1
  have x2 := kx.cell 2
  rw [us_at (i := 2) (x := xc) rfl] at x2
  have x3 := kx.cell 3
  rw [us_at (i := 3) (x := xd) rfl] at x3
  have y0 := ky.cell 0
  rw [us_at (i := 0) (x := ya) rfl] at y0
  have y1 := ky.cell 1
  rw [us_at (i := 1) (x := yb) rfl] at y1
  obtain ⟨c1, d1, h1, e1, m1⟩ := mul64_ex xc yb hxc hyb
  have l1 : c1 < 18446744073709551616 := by have := mul_lt_sq hxc hyb; omega
  obtain ⟨c2, d2, h2, e2, l2, m2⟩ := mulAdd_ex xb yb c1 0 hxb hyb l1 (by omega)
  rw [Int.natCast_zero] at h2
  obtain ⟨c3, d3, h3, e3, l3, m3⟩ := mulAdd_ex xa yb c2 0 hxa hyb l2 (by omega)
  rw [Int.natCast_zero] at h3
  obtain ⟨c4, d4, h4, e4, l4, m4⟩ := mulAdd_ex xd ya d1 0 hxd hya m1 (by omega)
  rw [Int.natCast_zero] at h4
  obtain ⟨c5, d5, h5, e5, l5, m5⟩ := mulAdd_ex xc ya d2 c4 hxc hya m2 l4
  obtain ⟨c6, d6, h6, e6, l6, m6⟩ := mulAdd_ex xb ya d3 c5 hxb hya m3 l5
  have k1 := mul_nat xa ya
  obtain ⟨t1, g1⟩ : ∃ t, t = xa * ya % 18446744073709551616 := ⟨_, rfl⟩
  rw [← g1] at k1
  have k2 := add_nat t1 c3
  obtain ⟨t2, g2⟩ : ∃ t, t = (t1 + c3) % 18446744073709551616 := ⟨_, rfl⟩
  rw [← g2] at k2
  have k3 := add_nat t2 c6
  obtain ⟨t3, g3⟩ : ∃ t, t = (t2 + c6) % 18446744073709551616 := ⟨_, rfl⟩
  rw [← g3] at k3
  have hzl : z.l = [t3, d6, d5, d4] := by
    rw [hz, tmsN_eq _ _ c1 d1 c2 d2 c3 d3 c4 d4 c5 d5 c6 d6 e1 m1 e2 e3 e4 e5 e6, g3, g2, g1]
    congr 1
    simp only
    omega
  rw [hzl]
  have kS := kz.setRow_same (us [t3, d6, d5, d4])
  have hB := below_setRow hfr.below (show w.heap.size ≤ w.heap.size + 1 + 1 by omega) (us [t3, d6, d5, d4])
  have hold' : old.size = (us [t3, d6, d5, d4]).size := by rw [hold]; rfl
  have HS := Lib.hid kS
  have HB := Lib.hid hB
  have HO := Lib.hid hold'
  clear hfr kS hB hold hold' kx ky hz hyc hyd hzl e1 e2 e3 e4 e5 e6 g1 g2 g3
  go_enter Tryd.func87, Tryd.ntmps87
  go_wp2_with (fail)
  refine (h1 _).mono ?_
  rintro e w' ⟨rfl, rfl⟩
  go_wp2_with (fail)
  refine (h2 _).mono ?_
  rintro e w' ⟨rfl, rfl⟩
  go_wp2_with (fail)
  refine (h3 _).mono ?_
  rintro e w' ⟨rfl, rfl⟩
  go_wp2_with (fail)
  refine (h4 _).mono ?_
  rintro e w' ⟨rfl, rfl⟩
  go_wp2_with (fail)
  refine (h5 _).mono ?_
  rintro e w' ⟨rfl, rfl⟩
  go_wp2_with (fail)
  refine (h6 _).mono ?_
  rintro e w' ⟨rfl, rfl⟩
  go_wp2_with (refine wpList_store_row rfl 107 (.tmp 4) (.tmp 77) rfl (w.heap.size + 1 + 1) (us [t3, d6, d5, d4]) rfl rfl 107 _ kz (info_us size_number rfl) HO.out (us_one _) ?_)
  exact row_end (n0 := 4) rfl size_number rfl rfl rfl rfl HS.out HB.out
end Go.Proofs.YtpagiffbjofihaaDoor.Sha
namespace Go.Proofs.YtpagiffbjofihaaDoor.Sha
set_option linter.unusedVariables false
set_option linter.unusedSimpArgs false
open Go Go.RowKit
theorem pow_low {v k : Nat} (hv : v ≤ 64) (hk : k ≤ 2) : v ^ k ≤ 4096 := Nat.le_trans (Nat.pow_le_pow_left hv k) (Nat.pow_le_pow_right (n := 64) (by omega) hk)
set_option maxHeartbeats 400000 in
theorem raised_any (v p : Nat) (w : World) (hv : v ≤ 64) (hp : p ≤ 3) : Calls Tryd.prog 86 #[.int .u64 v, .int .i64 p] w fun e w' => e = .returned (.int .u64 ((v ^ p : Nat) : Int)) ∧ w = w' := by
  go_enter Tryd.func86, Tryd.ntmps86
  go_wp2
  go_loop [5, 7] (fun a i => ∃ k : Nat, k ≤ p ∧ i = .int .i64 k ∧ ∃ m : Nat, a = .int .u64 m ∧ Hid (m = v ^ k)) (fun _ i => p - (intOf i).toNat)
  case atStart => exact ⟨0, Nat.zero_le _, rfl, 1, rfl, Lib.hid rfl⟩
  case round =>
    obtain ⟨k, hk, rfl, m, rfl, hm⟩ := hrel
    by_cases hlt : k < p
    · have hml : m ≤ 4096 := by rw [hm.out]; exact pow_low hv (by omega)
      have hx := mul_nat m v
      obtain ⟨x, e1⟩ : ∃ x, x = m * v := ⟨_, rfl⟩
      have hl : x ≤ 4096 * 64 := by rw [e1]; exact Nat.mul_le_mul hml hv
      rw [← e1, Nat.mod_eq_of_lt (by omega)] at hx
      have E1 := Lib.hid e1
      clear e1
      go_wp2
      go_round
      case rel =>
        refine ⟨k + 1, by omega, by go_num, x, rfl, Lib.hid ?_⟩
        rw [E1.out, hm.out, Nat.pow_succ]
      case measure => simp [intOf] <;> omega
    · go_wp2
      go_ret
      obtain rfl : k = p := by omega
      refine ⟨?_, rfl⟩
      have e9 : (v : Int) ^ k = (m : Int) := by rw [hm.out]; push_cast; rfl
      rw [e9]
      rfl
theorem wholeB_up {n p v : Nat} (h : wholeB n p v = true) : 1 ≤ v ∧ v ^ p ≤ n ∧ n + 1 ≤ (v + 1) ^ p := by
  simp only [wholeB, Bool.and_eq_true] at h
  obtain ⟨_, h1, h2, h3⟩ := h
  exact ⟨Nat.le_of_ble_eq_true h1, Nat.le_of_ble_eq_true h2, by simpa [Nat.blt] using h3⟩
set_option maxHeartbeats 400000 in
theorem whole_any (n p v : Nat) (w : World) (hn : n < 18446744073709551616) (hp : p ≤ 3) (hv : v ≤ 60) (h : wholeB n p v = true) : Calls Tryd.prog 81 #[.int .u64 n, .int .i64 p] w fun e w' => e = .returned (.int .u64 (v : Int)) ∧ w = w' := by
  obtain ⟨h1, h2, h3⟩ := wholeB_up h
  clear h
  have H2 := Lib.hid h2
  have H3 := Lib.hid h3
  clear h2 h3
  go_enter Tryd.func81, Tryd.ntmps81
  go_wp2
  go_loop [5] (fun a => ∃ k : Nat, k ≤ v ∧ 1 ≤ k ∧ a = .int .u64 k) (fun a => v - (intOf a).toNat)
  case atStart => exact ⟨1, h1, Nat.le_refl _, rfl⟩
  case round =>
    obtain ⟨k, hk, hk1, rfl⟩ := hrel
    have hr := raised_any (k + 1) p w (by omega) hp
    have hl : (k + 1) ^ p ≤ 262144 := Nat.le_trans (Nat.pow_le_pow_left (show k + 1 ≤ 64 by omega) p) (Nat.pow_le_pow_right (n := 64) (by omega) hp)
    have hc : k < v → (k + 1) ^ p ≤ n := fun h => Nat.le_trans (Nat.pow_le_pow_left (show k + 1 ≤ v by omega) p) H2.out
    have hd : ¬ k < v → ¬ (k + 1) ^ p ≤ n := fun h => by have := H3.out; have e : k = v := by omega
                                                         rw [e]; omega
    obtain ⟨m, e1⟩ : ∃ m, m = (k + 1) ^ p := ⟨_, rfl⟩
    rw [← e1] at hr hl hc hd
    rw [show ((k + 1 : Nat) : Int) = (k : Int) + 1 by omega] at hr
    clear e1
    have HR := Lib.hid hr
    clear hr
    by_cases hlt : k < v
    · have hm := hc hlt
      clear hc hd
      go_wp2_with (fail)
      refine HR.out.mono ?_
      rintro e w' ⟨rfl, rfl⟩
      go_wp2
      go_round
      case rel => exact ⟨k + 1, by omega, by omega, by go_num⟩
      case measure => simp [intOf] <;> omega
    · have hm := hd hlt
      clear hc hd
      go_wp2_with (fail)
      refine HR.out.mono ?_
      rintro e w' ⟨rfl, rfl⟩
      go_wp2
      go_ret
      obtain rfl : k = v := by omega
      exact ⟨rfl, rfl⟩
def bk (x : Q4) (k : Nat) : Q4 := if k = 0 then x else tmsN x x
theorem bk_zero (x : Q4) : bk x 0 = x := rfl
theorem bk_one (x : Q4) : bk x (0 + 1) = tmsN x x := rfl
theorem bk_ok {x : Q4} (h : x.ok) (k : Nat) : (bk x k).ok := by unfold bk; split; exact h; exact tmsN_ok _ _
theorem below_bk {p : Nat} (x : Q4) (hp : p = 2 ∨ p = 3) : belowN p x = bk x (p - 2) := by rcases hp with rfl | rfl <;> rfl
attribute [local irreducible] bk tmsN
theorem divC_lt {k y2 y1 y0 a b c q : Nat} (h : divC k y2 y1 y0 a b c = some q) : q < 18446744073709551616 := by
  unfold divC at h
  split at h
  · cases h
  · split at h
    · cases h
    · split at h
      · cases h
      · injection h with h
        rw [← h]
        exact Nat.mod_lt _ (by omega)
theorem divN_lt {hi lo y q : Nat} (hl : lo < 18446744073709551616) (h : divN hi lo y = some q) : q < 18446744073709551616 := by
  unfold divN at h
  split at h
  · cases h
  · split at h
    · injection h with h
      rw [← h]
      exact div_lt hl
    · exact divC_lt h
theorem lowN_cases {n p : Nat} {x y : Q4} (h : lowN n p x = some y) : ((allN p x).a < n ∧ y = x) ∨ (¬ (allN p x).a < n ∧ ∃ q m, divN (subW (allN p x).a n * 72057594037927936 % 18446744073709551616 ||| (allN p x).b / 256) ((allN p x).b * 72057594037927936 % 18446744073709551616) ((((slopeN p x).a * 72057594037927936 % 18446744073709551616 ||| (slopeN p x).b / 256) + 1) % 18446744073709551616) = some q ∧ m = subW x.b (max q 1) ∧ y = ⟨x.a, m, x.c, x.d⟩) := by
  unfold lowN at h
  simp only at h
  split at h
  · injection h with h
    exact Or.inl ⟨by assumption, h.symm⟩
  · refine Or.inr ⟨by assumption, ?_⟩
    split at h
    · cases h
    · rename_i q hq
      injection h with h
      exact ⟨q, _, hq, rfl, h.symm⟩
set_option maxRecDepth 100000 in
set_option maxHeartbeats 4000000 in
theorem lowered_any (x y : Q4) (n p : Nat) (w : World) (hx : x.ok) (hn : n < 18446744073709551616) (hp : p = 2 ∨ p = 3) (h : lowN n p x = some y) : Calls Tryd.prog 82 #[.agg (us x.l), .int .u64 n, .int .i64 p] w (RowPost y.l w) := by
  have f0 := ((Fr.start w).row (us x.l) 107 (g := w.heap.size) rfl).any (us [0, 0, 0, 0]) 107 4 rfl (g := w.heap.size + 1) (by simp)
  have f1 := f0.row (us [0, 0, 0, 0]) 107 (g := w.heap.size + 1 + 1) (by simp)
  have k3 := f0.get (g := w.heap.size) (t := 107) (cs := us x.l) (by simp)
  have k7 := f1.get (g := w.heap.size + 1 + 1) (t := 107) (cs := us [0, 0, 0, 0]) (by simp)
  have f2 := f1.setRowHead (by simp <;> omega) (by simp <;> omega) (us x.l) (by omega)
  rw [us_zero4] at k3 k7 f2
  have F2 := Lib.hid f2
  clear f0 f1 f2
  have hb2 := below_bk x hp
  have hpi : IntKind.i64.wrap ((p : Int) - 2) = ((p - 2 : Nat) : Int) := by rw [IntKind.wrap_i64]; omega
  have HL := lowN_cases h
  rw [show allN p x = tmsN (belowN p x) x from rfl, show slopeN p x = tmsN (belowN p x) ⟨p, 0, 0, 0⟩ from rfl, hb2] at HL
  have HL := Lib.hid HL
  clear h hb2
  obtain ⟨r, hr⟩ : ∃ r, r = p - 2 := ⟨_, rfl⟩
  rw [← hr] at hpi HL
  have hr1 : r ≤ 1 := by omega
  go_enter Tryd.func82, Tryd.ntmps82
  go_wp2_with (first | (refine wpList_load_row rfl 107 (.tmp 3) rfl (w.heap.size) rfl 107 (us x.l) (0, 0) _ k3 Tryd.underlying107 rfl (info_us size_number rfl) ?_) | (refine wpList_store_row rfl 107 (.tmp 7) (.tmp 13) rfl (w.heap.size + 1 + 1) (us x.l) rfl rfl 107 (_) k7 (info_us size_number rfl) rfl (us_one _) ?_))
  clear k3 k7
  go_loopw [16] (fun c wr => ∃ k : Nat, k ≤ r ∧ c = .int .i64 k ∧ Fr w wr [(w.heap.size + 1 + 1, 107, us (bk x k).l), (w.heap.size, 107, us x.l)] [(w.heap.size + 1, 107, 4)]) (fun c _ => r - (intOf c).toNat)
  case atStart => exact ⟨0, by omega, rfl, by rw [bk_zero]; exact F2.out⟩
  case round =>
    obtain ⟨k, hk, rfl, hF⟩ := hrel
    clear F2
    have k7 := hF.get (g := w.heap.size + 1 + 1) (t := 107) (cs := us (bk x k).l) (by simp)
    have k3 := hF.get (g := w.heap.size) (t := 107) (cs := us x.l) (by simp)
    have HF := Lib.hid hF
    clear hF
    by_cases hlt : k < r
    · obtain rfl : k = 0 := by omega
      go_wp2_with (first | (refine wpList_load_row rfl 107 (.tmp 7) rfl (w.heap.size + 1 + 1) rfl 107 (us (bk x 0).l) (0, 0) _ k7 Tryd.underlying107 rfl (info_us size_number rfl) ?_) | (refine wpList_load_row rfl 107 (.tmp 3) rfl (w.heap.size) rfl 107 (us x.l) (0, 0) _ k3 Tryd.underlying107 rfl (info_us size_number rfl) ?_))
      refine (times_any (bk x 0) x _ _ (bk_ok hx 0) hx rfl).mono ?_
      rintro e v ⟨rfl, hb⟩
      have f1 := HF.out.ext hb
      have k8 := f1.get (g := w.heap.size + 1 + 1) (t := 107) (cs := us (bk x 0).l) (by simp)
      have f2 := f1.setRowHead (by simp <;> omega) (by simp <;> omega) (us (tmsN (bk x 0) x).l) (by omega)
      rw [bk_zero] at f2
      rw [bk_zero]
      have F2 := Lib.hid f2
      clear f1 f2 hb k7 k3
      rw [bk_zero] at k8
      go_wp2_with (first | (refine wpList_store_row rfl 107 (.tmp 7) (.tmp 20) rfl (w.heap.size + 1 + 1) (us (tmsN x x).l) rfl rfl 107 (_) k8 (info_us size_number rfl) rfl (us_one _) ?_))
      go_round
      case rel => exact ⟨0 + 1, by omega, by go_num, by rw [bk_one]; exact F2.out⟩
      case measure => simp [intOf]; omega
    · obtain rfl : k = r := by omega
      have bo := bk_ok hx k
      have HL2 := HL.out
      obtain ⟨be, e1⟩ : ∃ q, q = bk x k := ⟨_, rfl⟩
      rw [← e1] at HL2 HF k7 bo
      have oa := tmsN_ok be x
      obtain ⟨al, e2⟩ : ∃ q, q = tmsN be x := ⟨_, rfl⟩
      rw [← e2] at HL2 oa
      have E2 := Lib.hid e2
      have os := tmsN_ok be ⟨p, 0, 0, 0⟩
      obtain ⟨sl, e3⟩ : ∃ q, q = tmsN be ⟨p, 0, 0, 0⟩ := ⟨_, rfl⟩
      rw [← e3] at HL2 os
      have E3 := Lib.hid e3
      clear e1 e2 e3 HL
      have HL := Lib.hid HL2
      clear HL2
      go_wp2_with (first | (refine wpList_load_row rfl 107 (.tmp 7) rfl (w.heap.size + 1 + 1) rfl 107 (us be.l) (0, 0) _ k7 Tryd.underlying107 rfl (info_us size_number rfl) ?_) | (refine wpList_load_row rfl 107 (.tmp 3) rfl (w.heap.size) rfl 107 (us x.l) (0, 0) _ k3 Tryd.underlying107 rfl (info_us size_number rfl) ?_))
      refine (times_any be x al _ bo hx E2.out).mono ?_
      rintro e v ⟨rfl, hb⟩
      clear k7 k3
      have f1 := HF.out.ext hb
      have f2 := f1.row (us [0, 0, 0, 0]) 107 rfl
      have hv : w.heap.size + 1 + 1 < v.heap.size := by have := hb.size; have := HF.out.get (g := w.heap.size + 1 + 1) (t := 107) (cs := us be.l) (by simp); have := this.lt; omega
      generalize hgv : v.heap.size = g8 at *
      have k8 := f2.get (g := g8) (t := 107) (cs := us [0, 0, 0, 0]) (by simp)
      have f3 := f2.setRowHead (by simp <;> omega) (by simp <;> omega) (us al.l) (by omega)
      rw [us_zero4] at k8 f3
      clear f1 f2 hb HF
      have k9 := f3.get (g := g8) (t := 107) (cs := us al.l) (by simp)
      have a0 := k9.cell 0
      rw [us_at (i := 0) (x := al.a) rfl] at a0
      have a1 := k9.cell 1
      rw [us_at (i := 1) (x := al.b) rfl] at a1
      have F3 := Lib.hid f3
      clear f3 k9
      rcases HL.out with ⟨hlt2, rfl⟩ | ⟨hge, q, m, hq, hm0, rfl⟩
      · have k3 := F3.out.get (g := w.heap.size) (t := 107) (cs := us y.l) (by simp)
        obtain ⟨old, ho, k6⟩ := F3.out.old (g := w.heap.size + 1) (t := 107) (n := 4) (by simp)
        have kS := k6.setRow_same (us y.l)
        have hB := below_setRow F3.out.below (show w.heap.size ≤ w.heap.size + 1 by omega) (us y.l)
        have HS := Lib.hid kS
        have HB := Lib.hid hB
        have ho' : old.size = (us y.l).size := by rw [ho]; rfl
        have HO := Lib.hid ho'
        clear kS hB F3 HL ho ho'
        go_wp2_with (first | (refine wpList_store_row rfl 107 (.tmp 8) (.tmp 24) rfl (g8) (us al.l) rfl rfl 107 (_) k8 (info_us size_number rfl) rfl (us_one _) ?_) | (refine wpList_load_row rfl 107 (.tmp 3) rfl (w.heap.size) rfl 107 (us y.l) (0, 0) _ k3 Tryd.underlying107 rfl (info_us size_number rfl) ?_) | (refine wpList_store_row rfl 107 (.tmp 6) (.tmp 29) rfl (w.heap.size + 1) (us y.l) rfl rfl 107 (old) k6 (info_us size_number rfl) HO.out (us_one _) ?_))
        exact row_end (n0 := 4) rfl size_number rfl rfl rfl rfl HS.out HB.out
      · have HM0 := Lib.hid hm0
        clear hm0
        have hql : q < 18446744073709551616 := divN_lt (Nat.mod_lt _ (by omega)) hq
        have k7 := F3.out.get (g := w.heap.size + 1 + 1) (t := 107) (cs := us be.l) (by simp)
        have hpu : IntKind.u64.wrap (p : Int) = (p : Int) := by rw [IntKind.wrap_u64]; omega
        go_wp2_with (first | (refine wpList_store_row rfl 107 (.tmp 8) (.tmp 24) rfl (g8) (us al.l) rfl rfl 107 (_) k8 (info_us size_number rfl) rfl (us_one _) ?_) | (refine wpList_load_row rfl 107 (.tmp 7) rfl (w.heap.size + 1 + 1) rfl 107 (us be.l) (0, 0) _ k7 Tryd.underlying107 rfl (info_us size_number rfl) ?_))
        refine (times_any be ⟨p, 0, 0, 0⟩ sl _ bo ⟨by simp only; omega, by simp, by simp, by simp⟩ E3.out).mono ?_
        rintro e v2 ⟨rfl, hb⟩
        clear k7 k8 a0 a1
        have f1 := F3.out.ext hb
        have f2 := f1.row (us [0, 0, 0, 0]) 107 rfl
        have hv2 : g8 < v2.heap.size := by have := hb.size; have := F3.out.get (g := g8) (t := 107) (cs := us al.l) (by simp); have := this.lt; omega
        generalize hgv2 : v2.heap.size = g9 at *
        have k8 := f2.get (g := g9) (t := 107) (cs := us [0, 0, 0, 0]) (by simp)
        have f3 := f2.setRowHead (by simp <;> omega) (by simp <;> omega) (us sl.l) (by omega)
        rw [us_zero4] at k8 f3
        clear f1 f2 hb F3
        have k9 := f3.get (g := g8) (t := 107) (cs := us al.l) (by simp)
        have a0 := k9.cell 0
        rw [us_at (i := 0) (x := al.a) rfl] at a0
        have a1 := k9.cell 1
        rw [us_at (i := 1) (x := al.b) rfl] at a1
        have k10 := f3.get (g := g9) (t := 107) (cs := us sl.l) (by simp)
        have s0 := k10.cell 0
        rw [us_at (i := 0) (x := sl.a) rfl] at s0
        have s1 := k10.cell 1
        rw [us_at (i := 1) (x := sl.b) rfl] at s1
        have F3 := Lib.hid f3
        clear f3 k9 k10
        obtain ⟨oa0, oa1, _, _⟩ := oa
        obtain ⟨os0, os1, _, _⟩ := os
        generalize al.a = A at *
        generalize al.b = B at *
        generalize sl.a = C at *
        generalize sl.b = D at *
        have q1 := sub_nat A n (by omega)
        have l1 := subW_lt A n
        generalize subW A n = m1 at *
        obtain ⟨m2, em2⟩ : ∃ q, q = m1 * 72057594037927936 % 18446744073709551616 := ⟨_, rfl⟩
        obtain ⟨m3, em3⟩ : ∃ q, q = B / 256 := ⟨_, rfl⟩
        obtain ⟨m5, em5⟩ : ∃ q, q = B * 72057594037927936 % 18446744073709551616 := ⟨_, rfl⟩
        obtain ⟨m6, em6⟩ : ∃ q, q = C * 72057594037927936 % 18446744073709551616 := ⟨_, rfl⟩
        obtain ⟨m7, em7⟩ : ∃ q, q = D / 256 := ⟨_, rfl⟩
        rw [← em2, ← em3, ← em5, ← em6, ← em7] at hq
        obtain ⟨m4, em4⟩ : ∃ q, q = m2 ||| m3 := ⟨_, rfl⟩
        obtain ⟨m8, em8⟩ : ∃ q, q = m6 ||| m7 := ⟨_, rfl⟩
        rw [← em4, ← em8] at hq
        obtain ⟨m9, em9⟩ : ∃ q, q = (m8 + 1) % 18446744073709551616 := ⟨_, rfl⟩
        rw [← em9] at hq
        have l2 : m2 < 18446744073709551616 := by omega
        have l3 : m3 < 18446744073709551616 := by omega
        have l5 : m5 < 18446744073709551616 := by omega
        have l6 : m6 < 18446744073709551616 := by omega
        have l7 : m7 < 18446744073709551616 := by omega
        have l9 : m9 < 18446744073709551616 := by omega
        have l4 : m4 < 18446744073709551616 := by rw [em4]; exact Nat.or_lt_two_pow (n := 64) l2 l3
        have q2 : IntKind.u64.wrap ((m1 : Int) * 72057594037927936) = (m2 : Int) := by rw [em2]; exact mul_nat m1 72057594037927936
        have q5 : IntKind.u64.wrap ((B : Int) * 72057594037927936) = (m5 : Int) := by rw [em5]; exact mul_nat B 72057594037927936
        have q6 : IntKind.u64.wrap ((C : Int) * 72057594037927936) = (m6 : Int) := by rw [em6]; exact mul_nat C 72057594037927936
        have q3 : (B : Int) / 256 = (m3 : Int) := by rw [em3]; rfl
        have q7 : (D : Int) / 256 = (m7 : Int) := by rw [em7]; rfl
        have q4 : bits .or .u64 (m2 : Int) (m3 : Int) = (m4 : Int) := by rw [em4]; exact u64_or_nat _ _ l2 l3
        have q8 : bits .or .u64 (m6 : Int) (m7 : Int) = (m8 : Int) := by rw [em8]; exact u64_or_nat _ _ l6 l7
        have q9 : IntKind.u64.wrap ((m8 : Int) + 1) = (m9 : Int) := by rw [em9]; exact add_nat m8 1
        clear em2 em3 em4 em5 em6 em7 em8 em9
        have HQ := Lib.hid hq
        clear hq
        go_wp2_with (first | (refine wpList_store_row rfl 107 (.tmp 9) (.tmp 34) rfl (g9) (us sl.l) rfl rfl 107 (_) k8 (info_us size_number rfl) rfl (us_one _) ?_))
        refine (div64_any m4 m5 m9 q _ l4 l5 l9 HQ.out).mono ?_
        rintro e v3 ⟨r, rfl, hb⟩
        clear k8 a0 a1 s0 s1
        have f1 := F3.out.ext hb
        have k3 := f1.get (g := w.heap.size) (t := 107) (cs := us x.l) (by simp)
        have x1 := k3.cell 1
        rw [us_at (i := 1) (x := x.b) rfl] at x1
        have F3 := Lib.hid f1
        clear f1 hb k3
        skip
        rcases Nat.eq_zero_or_pos q with h0 | h0
        · subst h0
          have q10 : IntKind.u64.wrap ((x.b : Int) - 1) = (m : Int) := by rw [HM0.out]; exact sub_nat x.b 1 (by omega)
          have k3 := F3.out.get (g := w.heap.size) (t := 107) (cs := us x.l) (by simp)
          have z1 := k3.frozen 1
          have k31 := k3.set_ 1 (.int .u64 (m : Int))
          have ek : (us x.l).setIfInBounds 1 (.int .u64 (m : Int)) = us (Q4.mk x.a m x.c x.d).l := us_set _ _ _
          rw [ek] at k31
          obtain ⟨old, ho, k60⟩ := F3.out.old (g := w.heap.size + 1) (t := 107) (n := 4) (by simp)
          have k6 : Blk (v3.setCell ⟨w.heap.size, 1, none⟩ (.int .u64 (m : Int))) (w.heap.size + 1) 107 old := k60.far (show w.heap.size + 1 ≠ w.heap.size by omega) _
          have hB0 : Below w.heap.size w (v3.setCell ⟨w.heap.size, 1, none⟩ (.int .u64 (m : Int))) := F3.out.below.setCell (Nat.le_refl _) _
          have kS := k6.setRow_same (us (Q4.mk x.a m x.c x.d).l)
          have hB := below_setRow hB0 (show w.heap.size ≤ w.heap.size + 1 by omega) (us (Q4.mk x.a m x.c x.d).l)
          have HS := Lib.hid kS
          have HB := Lib.hid hB
          have ho' : old.size = (us (Q4.mk x.a m x.c x.d).l).size := by rw [ho]; rfl
          have HO := Lib.hid ho'
          clear kS hB hB0 k60 F3 ho ho' ek
          go_wp2_with (first | (refine wpList_load_row rfl 107 (.tmp 3) rfl (w.heap.size) rfl 107 (us (Q4.mk x.a m x.c x.d).l) (0, 0) _ k31 Tryd.underlying107 rfl (info_us size_number rfl) ?_) | (refine wpList_store_row rfl 107 (.tmp 6) (.tmp 66) rfl (w.heap.size + 1) (us (Q4.mk x.a m x.c x.d).l) rfl rfl 107 (old) k6 (info_us size_number rfl) HO.out (us_one _) ?_))
          exact row_end (n0 := 4) rfl size_number rfl rfl rfl rfl HS.out HB.out
        · have q10 : IntKind.u64.wrap ((x.b : Int) - (q : Int)) = (m : Int) := by rw [HM0.out, show max q 1 = q by omega]; exact sub_nat x.b q (by omega)
          have k3 := F3.out.get (g := w.heap.size) (t := 107) (cs := us x.l) (by simp)
          have z1 := k3.frozen 1
          have k31 := k3.set_ 1 (.int .u64 (m : Int))
          have ek : (us x.l).setIfInBounds 1 (.int .u64 (m : Int)) = us (Q4.mk x.a m x.c x.d).l := us_set _ _ _
          rw [ek] at k31
          obtain ⟨old, ho, k60⟩ := F3.out.old (g := w.heap.size + 1) (t := 107) (n := 4) (by simp)
          have k6 : Blk (v3.setCell ⟨w.heap.size, 1, none⟩ (.int .u64 (m : Int))) (w.heap.size + 1) 107 old := k60.far (show w.heap.size + 1 ≠ w.heap.size by omega) _
          have hB0 : Below w.heap.size w (v3.setCell ⟨w.heap.size, 1, none⟩ (.int .u64 (m : Int))) := F3.out.below.setCell (Nat.le_refl _) _
          have kS := k6.setRow_same (us (Q4.mk x.a m x.c x.d).l)
          have hB := below_setRow hB0 (show w.heap.size ≤ w.heap.size + 1 by omega) (us (Q4.mk x.a m x.c x.d).l)
          have HS := Lib.hid kS
          have HB := Lib.hid hB
          have ho' : old.size = (us (Q4.mk x.a m x.c x.d).l).size := by rw [ho]; rfl
          have HO := Lib.hid ho'
          clear kS hB hB0 k60 F3 ho ho' ek
          go_wp2_with (first | (refine wpList_load_row rfl 107 (.tmp 3) rfl (w.heap.size) rfl 107 (us (Q4.mk x.a m x.c x.d).l) (0, 0) _ k31 Tryd.underlying107 rfl (info_us size_number rfl) ?_) | (refine wpList_store_row rfl 107 (.tmp 6) (.tmp 66) rfl (w.heap.size + 1) (us (Q4.mk x.a m x.c x.d).l) rfl rfl 107 (old) k6 (info_us size_number rfl) HO.out (us_one _) ?_))
          exact row_end (n0 := 4) rfl size_number rfl rfl rfl rfl HS.out HB.out
end Go.Proofs.YtpagiffbjofihaaDoor.Sha
namespace Go.Proofs.YtpagiffbjofihaaDoor.Sha
set_option linter.unusedVariables false
set_option linter.unusedSimpArgs false
open Go Go.RowKit
theorem size_u64z (W : World) : (sizeOf 36).run Tryd.prog W = .ok 1 W := by kernel_rfl
theorem same_beq (x y : Q4) : (x.l == y.l) = x.same y := by
  obtain ⟨a, b, c, d⟩ := x
  obtain ⟨e, f, g, h⟩ := y
  rw [Bool.eq_iff_iff]
  simp [Q4.l, Q4.same]
theorem number_eq (x y : Q4) (b : Bool) (h : x.same y = b) (W : World) : (Op.equalIn 10000 107 (.agg (us x.l)) (.agg (us y.l))).run Tryd.prog W = .ok b W := by
  have h2 := run_equalIn_nats (P := Tryd.prog) W 9998 107 36 4 .u64 Tryd.underlying107 Tryd.underlying36 size_u64z x.l y.l rfl rfl
  rw [same_beq, h] at h2
  exact h2
theorem lowN_ok {n p : Nat} {x y : Q4} (hx : x.ok) (h : lowN n p x = some y) : y.ok := by
  rcases lowN_cases h with ⟨_, rfl⟩ | ⟨_, q, m, _, hm, rfl⟩
  · exact hx
  · exact ⟨hx.a, by rw [hm]; exact subW_lt _ _, hx.c, hx.d⟩
/-- What the steps come to behind one that came from x to y. -/
def goesB (n p k : Nat) (x y z : Q4) : Bool := if y.same x then x.same z else chainB n p k y z
theorem chain_goes {n p k : Nat} {x z : Q4} (h : chainB n p (k + 1) x z = true) : ∃ y, lowN n p x = some y ∧ goesB n p k x y z = true := by
  rw [chainB] at h
  split at h
  · cases h
  · exact ⟨_, by assumption, h⟩
theorem goes_end {n p k : Nat} {x y z : Q4} (h : goesB n p k x y z = true) (e : y.same x = true) : x = z := by
  unfold goesB at h
  rw [if_pos e] at h
  exact (Q4.same_iff _ _).1 h
theorem goes_on {n p k : Nat} {x y z : Q4} (h : goesB n p k x y z = true) (e : y.same x = false) : ∃ j y', k = j + 1 ∧ lowN n p y = some y' ∧ goesB n p j y y' z = true := by
  unfold goesB at h
  rw [e] at h
  cases k with
  | zero => cases h
  | succ j =>
    obtain ⟨y', h1, h2⟩ := chain_goes h
    exact ⟨j, y', rfl, h1, h2⟩
theorem fracB_up {n p v c : Nat} (h : fracB n p v c = true) : wholeB n p v = true ∧ ∃ y, lowN n p ⟨v, 18446744073709551615, 0, 0⟩ = some y ∧ goesB n p 19 ⟨v, 18446744073709551615, 0, 0⟩ y ⟨v, c, 0, 0⟩ = true := by
  simp only [fracB, Bool.and_eq_true] at h
  exact ⟨h.1, chain_goes h.2⟩
attribute [local irreducible] lowN chainB goesB fracB wholeB Q4.same
set_option maxRecDepth 100000 in
set_option maxHeartbeats 2000000 in
theorem fraction_any (n p v c : Nat) (w : World) (hn : n < 18446744073709551616) (hp : p = 2 ∨ p = 3) (hv : v ≤ 60) (h : fracB n p v c = true) : Calls Tryd.prog 77 #[.int .u64 n, .int .i64 p] w fun e w' => e = .returned (.int .u64 (c : Int)) ∧ Below w.heap.size w w' := by
  obtain ⟨hw, y0, hy0, hg0⟩ := fracB_up h
  clear h
  have hx0 : (Q4.mk v 18446744073709551615 0 0).ok := ⟨by simp only; omega, by simp, by simp, by simp⟩
  have ew := whole_any n p v w hn (by omega) hv hw
  obtain ⟨x0, e0⟩ : ∃ q, q = Q4.mk v 18446744073709551615 0 0 := ⟨_, rfl⟩
  rw [← e0] at hy0 hg0 hx0
  have e0l : us x0.l = #[.int .u64 (v : Int), .int .u64 18446744073709551615, .int .u64 0, .int .u64 0] := by rw [e0]; rfl
  clear e0
  have f0 := (Fr.start w).row (us [0, 0, 0, 0]) 107 (g := w.heap.size) rfl
  have k0 := f0.get (g := w.heap.size) (t := 107) (cs := us [0, 0, 0, 0]) (by simp)
  have f1 := f0.setRowHead (by simp <;> omega) (by simp <;> omega) (us x0.l) (by omega)
  rw [us_zero4] at k0 f1
  have k1 := f1.get (g := w.heap.size) (t := 107) (cs := us x0.l) (by simp)
  have F1 := Lib.hid f1
  have HG := Lib.hid hg0
  have HY := Lib.hid hy0
  have EW := Lib.hid ew
  clear f0 f1 hw hg0 hy0 ew
  go_enter Tryd.func77, Tryd.ntmps77
  go_wp2_with (fail)
  refine EW.out.mono ?_
  rintro e w' ⟨rfl, rfl⟩
  have E0 := Lib.hid e0l
  clear e0l
  go_wp2_with (first | (refine wpList_store_row rfl 107 (.tmp 5) (.tmp 10) rfl (w.heap.size) (us x0.l) rfl (by rw [E0.out]; rfl) 107 (_) k0 (info_us size_number rfl) rfl (us_one _) ?_) | (refine wpList_load_row rfl 107 (.tmp 5) rfl (w.heap.size) rfl 107 (us x0.l) (0, 0) _ k1 Tryd.underlying107 rfl (info_us size_number rfl) ?_))
  refine (lowered_any x0 y0 n p _ hx0 hn hp HY.out).mono ?_
  rintro e v1 ⟨rfl, hb⟩
  clear k0 k1
  have f2 := F1.out.ext hb
  have hv1 : w.heap.size < v1.heap.size := by have := hb.size; simp at this; omega
  have f3 := f2.row (us [0, 0, 0, 0]) 107 rfl
  generalize hg6 : v1.heap.size = g6 at *
  have k6 := f3.get (g := g6) (t := 107) (cs := us [0, 0, 0, 0]) (by simp)
  have f4 := f3.setRowHead (by simp <;> omega) (by simp <;> omega) (us y0.l) (by omega)
  rw [us_zero4] at k6 f4
  have F4 := Lib.hid f4
  clear f2 f3 f4 hb F1
  go_wp2_with (first | (refine wpList_store_row rfl 107 (.tmp 6) (.tmp 14) rfl (g6) (us y0.l) rfl rfl 107 (_) k6 (info_us size_number rfl) rfl (us_one _) ?_))
  clear k6
  try simp only [Act.put, List.getElem_toArray, List.getElem_cons_succ, List.getElem_cons_zero, List.setIfInBounds_toArray, List.set_cons_zero, List.set_cons_succ]
  go_loopg [6] 19 (fun gk q wr => ∃ (g : Nat) (x y : Q4), q = .pointer (some ⟨g, 0, none⟩) ∧ x.ok ∧ Hid (lowN n p x = some y) ∧ Hid (goesB n p gk x y ⟨v, c, 0, 0⟩ = true) ∧ w.heap.size < g ∧ Fr w wr [(g, 107, us y.l), (w.heap.size, 107, us x.l)] [])
  case atStart => exact ⟨g6, x0, y0, rfl, hx0, HY, HG, hv1, F4.out⟩
  case round =>
    clear F4 HY HG hg6 hv1
    obtain ⟨g, x, y, rfl, hx, hl, hgo, hg, hF⟩ := hrel
    have ky := hF.get (g := g) (t := 107) (cs := us y.l) (by simp)
    have kx := hF.get (g := w.heap.size) (t := 107) (cs := us x.l) (by simp)
    have HF := Lib.hid hF
    clear hF
    have hyo := lowN_ok hx hl.out
    cases hs : y.same x
    · obtain ⟨j, y', rfl, h1, h2⟩ := goes_on hgo.out hs
      have he := number_eq y x false hs
      have H1 := Lib.hid h1
      have H2 := Lib.hid h2
      clear hs h1 h2 hgo hl
      have f1 : Fr w (wr.setRow (w.heap.size) (us y.l)) [(w.heap.size, 107, us y.l), (g, 107, us y.l)] [] := (HF.out.sub (L' := [(w.heap.size, 107, us x.l), (g, 107, us y.l)]) (by simp) (by simp)).setRowHead (by simp <;> omega) (by simp <;> omega) (us y.l) (Nat.le_refl _)
      have k6 := f1.get (g := g) (t := 107) (cs := us y.l) (by simp)
      have hsz : (wr.setRow (w.heap.size) (us y.l)).heap.size = wr.heap.size := by simp [World.setRow]
      have f2 := f1.row (us [0, 0, 0, 0]) 107 (g := wr.heap.size) hsz.symm
      have hg1 : w.heap.size < wr.heap.size := kx.lt
      have hg2 : g < wr.heap.size := ky.lt
      have k7 := f2.get (g := wr.heap.size) (t := 107) (cs := us [0, 0, 0, 0]) (by simp)
      have f3 := f2.setRowHead (by simp <;> omega) (by simp <;> omega) (us y.l) (by omega)
      rw [us_zero4] at k7 f3
      have k8 := f3.get (g := w.heap.size) (t := 107) (cs := us y.l) (by simp)
      have F3 := Lib.hid f3
      clear f1 f2 f3 HF
      go_wp2_with (first | (refine wpList_load_row rfl 107 (.tmp 6) rfl (g) rfl 107 (us y.l) (0, 0) _ ky Tryd.underlying107 rfl (info_us size_number rfl) ?_) | (refine wpList_load_row rfl 107 (.tmp 5) rfl (w.heap.size) rfl 107 (us x.l) (0, 0) _ kx Tryd.underlying107 rfl (info_us size_number rfl) ?_) | (refine wpList_store_row rfl 107 (.tmp 5) (.tmp 22) rfl (w.heap.size) (us y.l) rfl rfl 107 (_) kx (info_us size_number rfl) rfl (us_one _) ?_) | (refine wpList_load_row rfl 107 (.tmp 6) rfl (g) rfl 107 (us y.l) (0, 0) _ k6 Tryd.underlying107 rfl (info_us size_number rfl) ?_) | (refine wpList_store_row rfl 107 (.tmp 6) (.tmp 23) rfl (wr.heap.size) (us y.l) rfl rfl 107 (_) k7 (info_us size_number rfl) rfl (us_one _) ?_) | (refine wpList_load_row rfl 107 (.tmp 5) rfl (w.heap.size) rfl 107 (us y.l) (0, 0) _ k8 Tryd.underlying107 rfl (info_us size_number rfl) ?_))
      refine (lowered_any y y' n p _ hyo hn hp H1.out).mono ?_
      rintro e v2 ⟨rfl, hb⟩
      have f4 := F3.out.ext hb
      have k9 := f4.get (g := wr.heap.size) (t := 107) (cs := us y.l) (by simp)
      have f5 := f4.setRowHead (by simp <;> omega) (by simp <;> omega) (us y'.l) (by omega)
      have f6 := f5.sub (L' := [(wr.heap.size, 107, us y'.l), (w.heap.size, 107, us y.l)]) (R' := []) (by simp) (by simp)
      have F6 := Lib.hid f6
      clear f4 f5 f6 hb F3
      go_wp2_with (first | (refine wpList_store_row rfl 107 (.tmp 6) (.tmp 21) rfl (wr.heap.size) (us y'.l) rfl rfl 107 (_) k9 (info_us size_number rfl) rfl (us_one _) ?_))
      try simp only [Act.put, List.getElem_toArray, List.getElem_cons_succ, List.getElem_cons_zero, List.setIfInBounds_toArray, List.set_cons_zero, List.set_cons_succ]
      go_roundg j
      case measure => omega
      case rel => exact ⟨wr.heap.size, y, y', rfl, hyo, H1, H2, hg1, F6.out⟩
    · obtain rfl : x = _ := goes_end hgo.out hs
      have he := number_eq y _ true hs
      clear hs hgo hl
      have c1 := kx.cell 1
      rw [us_at (i := 1) (x := c) rfl] at c1
      go_wp2_with (first | (refine wpList_load_row rfl 107 (.tmp 6) rfl (g) rfl 107 (us y.l) (0, 0) _ ky Tryd.underlying107 rfl (info_us size_number rfl) ?_) | (refine wpList_load_row rfl 107 (.tmp 5) rfl (w.heap.size) rfl 107 (us _) (0, 0) _ kx Tryd.underlying107 rfl (info_us size_number rfl) ?_))
      go_ret
      exact ⟨rfl, HF.out.below⟩
/-- The global row of the primes, as the program's constants begin. -/
structure PM (w : World) : Prop where
  lt : 2 < w.heap.size
  c : ∀ i, i < 80 → w.cell? ⟨2, i, none⟩ = some (.int .u64 ((PR.getD i 0 : Nat) : Int))
theorem PM.below {w w' : World} {B : Nat} (h : PM w) (hb : Below B w w') (hB : 2 < B) (hs : w.heap.size ≤ w'.heap.size) : PM w' :=
  ⟨Nat.lt_of_lt_of_le h.lt hs, fun i hi => (hb.cell (p := ⟨2, i, none⟩) hB).trans (h.c i hi)⟩
theorem PM.ext {w w' : World} (h : PM w) (hb : Below w.heap.size w w') : PM w' := h.below hb h.lt hb.size
theorem PM.drew {w : World} (h : PM w) : PM w.drew := ⟨h.1, h.2⟩
theorem _root_.Go.Proofs.YtpagiffbjofihaaDoor.Fr.pm {w W : World} {L : List (Nat × TypeId × Array Value)} {R : List (Nat × TypeId × Nat)} (h : Fr w W L R) (hp : PM w) : PM W := hp.ext h.below
theorem low_ok : ((List.range 80).all fun i => Nat.ble (PR.getD i 0) 500 && (Nat.ble (rt2 (PR.getD i 0)) 60 && Nat.ble (rt3 (PR.getD i 0)) 60)) = true := by decide +kernel
theorem low_at {i : Nat} (hi : i < 80) : PR.getD i 0 ≤ 500 ∧ rt2 (PR.getD i 0) ≤ 60 ∧ rt3 (PR.getD i 0) ≤ 60 := by
  have h := List.all_eq_true.1 low_ok i (List.mem_range.2 hi)
  simp only [Bool.and_eq_true] at h
  exact ⟨Nat.le_of_ble_eq_true h.1, Nat.le_of_ble_eq_true h.2.1, Nat.le_of_ble_eq_true h.2.2⟩
theorem start_at {i : Nat} (hi : i < 8) : fracB (PR.getD i 0) 2 (rt2 (PR.getD i 0)) (HS.getD i 0) = true := List.all_eq_true.1 start_ok i (List.mem_range.2 hi)
theorem const_at {i : Nat} (hi : i < 80) : fracB (PR.getD i 0) 3 (rt3 (PR.getD i 0)) (HK.getD i 0) = true := List.all_eq_true.1 const_ok i (List.mem_range.2 hi)
/-- A call that answers a word. -/
def WPost (c : Nat) (w : World) (e : Ending) (w' : World) : Prop := e = .returned (.int .u64 (c : Int)) ∧ Below w.heap.size w w'
attribute [local irreducible] PR HS HK rt2 rt3
set_option maxHeartbeats 1000000 in
theorem start_in (k : Nat) (w : World) (hk : k < 8) (hp : PM w) : Calls Tryd.prog 67 #[.int .i64 k] w (WPost (HS.getD k 0) w) := by
  have hc := hp.c k (by omega)
  obtain ⟨l1, l2, l3⟩ := low_at (show k < 80 by omega)
  have hf := start_at hk
  generalize HH : HS.getD k 0 = c at *
  generalize rt2 (PR.getD k 0) = v at *
  generalize PR.getD k 0 = p at *
  have hx := fun W => fraction_any p 2 v c W (by omega) (by omega) (by omega) hf
  have HX := Lib.hid hx
  clear hx hf HH l2 l3
  go_enter Tryd.func67, Tryd.ntmps67
  go_wp2_with (fail)
  refine (HX.out _).mono ?_
  rintro e w' ⟨rfl, hb⟩
  go_wp2_with (fail)
  go_ret
  exact ⟨rfl, hb⟩
set_option maxHeartbeats 1000000 in
theorem constant_in (k : Nat) (w : World) (hk : k < 80) (hp : PM w) : Calls Tryd.prog 68 #[.int .i64 k] w (WPost (HK.getD k 0) w) := by
  have hc := hp.c k (by omega)
  obtain ⟨l1, l2, l3⟩ := low_at (show k < 80 by omega)
  have hf := const_at hk
  generalize HH : HK.getD k 0 = c at *
  generalize rt3 (PR.getD k 0) = v at *
  generalize PR.getD k 0 = p at *
  have hx := fun W => fraction_any p 3 v c W (by omega) (by omega) (by omega) hf
  have HX := Lib.hid hx
  clear hx hf HH l2 l3
  go_enter Tryd.func68, Tryd.ntmps68
  go_wp2_with (fail)
  refine (HX.out _).mono ?_
  rintro e w' ⟨rfl, hb⟩
  go_wp2_with (fail)
  go_ret
  exact ⟨rfl, hb⟩
end Go.Proofs.YtpagiffbjofihaaDoor.Sha
namespace Go.Proofs.YtpagiffbjofihaaDoor.Sha
set_option linter.unusedVariables false
set_option linter.unusedSimpArgs false
open Go Go.RowKit
/-- The first k of a row, then noughts. -/
def fill (l : List Nat) (k : Nat) : List Nat := l.take k ++ List.replicate (l.length - k) 0
theorem fill_full (l : List Nat) : fill l l.length = l := by simp [fill]
theorem fill_set {l : List Nat} {k : Nat} (h : k < l.length) : (fill l k).set k (l.getD k 0) = fill l (k + 1) := by
  have e : l.length - k = (l.length - (k + 1)) + 1 := by omega
  have e2 : l.take (k + 1) = l.take k ++ [l.getD k 0] := by rw [List.take_succ_eq_append_getElem h]; simp [List.getD, h]
  have e3 : (l.take k).length = k := by simp; omega
  unfold fill
  rw [e, List.replicate_succ, List.set_append_right _ _ (by omega), e2, e3]
  simp
theorem fill_get {l : List Nat} {k : Nat} (h : k < l.length) : (fill l k)[k]? = some 0 := by
  have e3 : (l.take k).length = k := by simp; omega
  unfold fill
  rw [List.getElem?_append_right (by omega), e3, Nat.sub_self, List.getElem?_replicate, if_pos (by omega)]
theorem us_zero8 : us (fill HS 0) = #[.int .u64 0, .int .u64 0, .int .u64 0, .int .u64 0, .int .u64 0, .int .u64 0, .int .u64 0, .int .u64 0] := rfl
theorem zlen_HS : (us (fill HS 0)).size = 8 := rfl
theorem zlen_HK : (us (fill HK 0)).size = 80 := rfl
theorem zero_k80 (w : World) : (zeroValue 75).run Tryd.prog w = .ok (.agg (us (fill HK 0))) w := by kernel_rfl
attribute [local irreducible] HS HK PR fill
set_option maxRecDepth 100000 in
set_option maxHeartbeats 2000000 in
theorem starts_any (w : World) (hp : PM w) : Calls Tryd.prog 46 #[] w (RowPost HS w) := by
  have f0 := ((Fr.start w).any (us (fill HS 0)) 73 8 zlen_HS (g := w.heap.size) rfl).row (us (fill HS 0)) 73 (g := w.heap.size + 1) (by simp)
  rw [us_zero8] at f0
  have F0 := Lib.hid f0
  have HP := Lib.hid hp
  clear f0 hp
  go_enter Tryd.func46, Tryd.ntmps46
  go_wp2_with (fail)
  go_loopw [3] (fun c wr => ∃ k : Nat, k ≤ 8 ∧ c = .int .i64 k ∧ Fr w wr [(w.heap.size + 1, 73, us (fill HS k))] [(w.heap.size, 73, 8)]) (fun c _ => 8 - (intOf c).toNat)
  case atStart => exact ⟨0, by omega, rfl, by rw [us_zero8]; exact F0.out⟩
  case round =>
    clear F0
    obtain ⟨k, hk, rfl, hF⟩ := hrel
    have HF := Lib.hid hF
    clear hF
    by_cases hlt : k < 8
    · go_wp2_with (fail)
      refine (start_in k _ hlt (HF.out.pm HP.out)).mono ?_
      rintro e v ⟨rfl, hb⟩
      have f1 := HF.out.ext hb
      have kb := f1.get (g := w.heap.size + 1) (t := 73) (cs := us (fill HS k)) (by simp)
      have z1 := kb.frozen k
      have c1 := kb.cell k
      rw [us_at (fill_get (l := HS) (by rw [HS_len]; exact hlt))] at c1
      have f2 := f1.setHead (by simp <;> omega) (by simp <;> omega) k (.int .u64 ((HS.getD k 0 : Nat) : Int)) (by omega)
      rw [us_set, fill_set (by rw [HS_len]; exact hlt)] at f2
      have F2 := Lib.hid f2
      clear f1 f2 hb
      generalize HS.getD k 0 = x at *
      go_wp2_with (fail)
      go_round
      case rel => exact ⟨k + 1, by omega, by go_num, F2.out⟩
      case measure => simp [intOf]; omega
    · obtain rfl : k = 8 := by omega
      have hf := HF.out
      have e1 : us (fill HS 8) = us HS := by rw [show (8 : Nat) = HS.length from HS_len.symm, fill_full]
      rw [e1] at hf
      have k1 := hf.get (g := w.heap.size + 1) (t := 73) (cs := us HS) (by simp)
      obtain ⟨old, ho, k0⟩ := hf.old (g := w.heap.size) (t := 73) (n := 8) (by simp)
      have kS := k0.setRow_same (us HS)
      have hB := below_setRow hf.below (Nat.le_refl _) (us HS)
      have ho' : old.size = (us HS).size := by rw [ho, us_size, HS_len]
      have KS := Lib.hid kS
      have HB := Lib.hid hB
      have HO := Lib.hid ho'
      have HI := Lib.hid (info_us (T := 73) size_hst HS_len)
      clear hf kS hB ho ho' HF e1
      go_wp2_with (first | (refine wpList_load_row rfl 73 (.tmp 1) rfl (w.heap.size + 1) rfl 73 (us HS) (0, 0) _ k1 Tryd.underlying73 rfl HI.out ?_) | (refine wpList_store_row rfl 73 (.tmp 0) (.tmp 11) rfl (w.heap.size) (us HS) rfl rfl 73 old k0 HI.out HO.out (us_one _) ?_))
      exact row_end (n0 := 8) rfl size_hst HS_len rfl rfl rfl KS.out HB.out
set_option maxRecDepth 100000 in
set_option maxHeartbeats 2000000 in
theorem constants_any (w : World) (hp : PM w) : Calls Tryd.prog 47 #[] w (RowPost HK w) := by
  have f0 := ((Fr.start w).any (us (fill HK 0)) 75 80 zlen_HK (g := w.heap.size) rfl).row (us (fill HK 0)) 75 (g := w.heap.size + 1) (by simp)
  have hz80 : ∀ W : World, (zeroValue 75).run Tryd.prog W = .ok (.agg (us (fill HK 0))) W := zero_k80
  have F0 := Lib.hid f0
  have HP := Lib.hid hp
  clear f0 hp
  go_enter Tryd.func47, Tryd.ntmps47
  go_wp2_with (fail)
  go_loopw [3] (fun c wr => ∃ k : Nat, k ≤ 80 ∧ c = .int .i64 k ∧ Fr w wr [(w.heap.size + 1, 75, us (fill HK k))] [(w.heap.size, 75, 80)]) (fun c _ => 80 - (intOf c).toNat)
  case atStart => exact ⟨0, by omega, rfl, F0.out⟩
  case round =>
    clear F0
    obtain ⟨k, hk, rfl, hF⟩ := hrel
    have HF := Lib.hid hF
    clear hF
    by_cases hlt : k < 80
    · go_wp2_with (fail)
      refine (constant_in k _ hlt (HF.out.pm HP.out)).mono ?_
      rintro e v ⟨rfl, hb⟩
      have f1 := HF.out.ext hb
      have kb := f1.get (g := w.heap.size + 1) (t := 75) (cs := us (fill HK k)) (by simp)
      have z1 := kb.frozen k
      have c1 := kb.cell k
      rw [us_at (fill_get (l := HK) (by rw [HK_len]; exact hlt))] at c1
      have f2 := f1.setHead (by simp <;> omega) (by simp <;> omega) k (.int .u64 ((HK.getD k 0 : Nat) : Int)) (by omega)
      rw [us_set, fill_set (by rw [HK_len]; exact hlt)] at f2
      have F2 := Lib.hid f2
      clear f1 f2 hb
      generalize HK.getD k 0 = x at *
      go_wp2_with (fail)
      go_round
      case rel => exact ⟨k + 1, by omega, by go_num, F2.out⟩
      case measure => simp [intOf]; omega
    · obtain rfl : k = 80 := by omega
      have hf := HF.out
      have e1 : us (fill HK 80) = us HK := by rw [show (80 : Nat) = HK.length from HK_len.symm, fill_full]
      rw [e1] at hf
      have k1 := hf.get (g := w.heap.size + 1) (t := 75) (cs := us HK) (by simp)
      obtain ⟨old, ho, k0⟩ := hf.old (g := w.heap.size) (t := 75) (n := 80) (by simp)
      have kS := k0.setRow_same (us HK)
      have hB := below_setRow hf.below (Nat.le_refl _) (us HK)
      have ho' : old.size = (us HK).size := by rw [ho, us_size, HK_len]
      have KS := Lib.hid kS
      have HB := Lib.hid hB
      have HO := Lib.hid ho'
      have HI := Lib.hid (info_us (T := 75) size_k80 HK_len)
      clear hf kS hB ho ho' HF e1
      go_wp2_with (first | (refine wpList_load_row rfl 75 (.tmp 1) rfl (w.heap.size + 1) rfl 75 (us HK) (0, 0) _ k1 Tryd.underlying75 rfl HI.out ?_) | (refine wpList_store_row rfl 75 (.tmp 0) (.tmp 11) rfl (w.heap.size) (us HK) rfl rfl 75 old k0 HI.out HO.out (us_one _) ?_))
      exact row_end (n0 := 80) rfl size_k80 HK_len rfl rfl rfl KS.out HB.out
end Go.Proofs.YtpagiffbjofihaaDoor.Sha
namespace Go.Proofs.YtpagiffbjofihaaDoor.Sha
set_option linter.unusedVariables false
set_option linter.unusedSimpArgs false
/-- A state: eight words. -/
structure S8 where
  a : Nat
  b : Nat
  c : Nat
  d : Nat
  e : Nat
  f : Nat
  g : Nat
  h : Nat
def S8.l (s : S8) : List Nat := [s.a, s.b, s.c, s.d, s.e, s.f, s.g, s.h]
structure S8.ok (s : S8) : Prop where
  a : s.a < 18446744073709551616
  b : s.b < 18446744073709551616
  c : s.c < 18446744073709551616
  d : s.d < 18446744073709551616
  e : s.e < 18446744073709551616
  f : s.f < 18446744073709551616
  g : s.g < 18446744073709551616
  h : s.h < 18446744073709551616
def chN (e f g : Nat) : Nat := e &&& f ^^^ (18446744073709551615 - e) &&& g
def majN (a b c : Nat) : Nat := a &&& b ^^^ a &&& c ^^^ b &&& c
/-- A round's two numbers, and the round. -/
def xN (k w : Nat) (s : S8) : Nat := ((((s.h + turnN s.e 14 18 41) % 18446744073709551616 + chN s.e s.f s.g) % 18446744073709551616 + k) % 18446744073709551616 + w) % 18446744073709551616
def yN (s : S8) : Nat := (turnN s.a 28 34 39 + majN s.a s.b s.c) % 18446744073709551616
def rnd (k w : Nat) (s : S8) : S8 := ⟨(xN k w s + yN s) % 18446744073709551616, s.a, s.b, s.c, (s.d + xN k w s) % 18446744073709551616, s.e, s.f, s.g⟩
theorem rnd_ok {k w : Nat} {s : S8} (h : s.ok) : (rnd k w s).ok := ⟨Nat.mod_lt _ (by omega), h.a, h.b, h.c, Nat.mod_lt _ (by omega), h.e, h.f, h.g⟩
def rnds (K W : List Nat) (s : S8) : Nat → S8
  | 0 => s
  | n + 1 => rnd (K.getD n 0) (W.getD n 0) (rnds K W s n)
theorem rnds_ok {K W : List Nat} {s : S8} (h : s.ok) : ∀ n, (rnds K W s n).ok
  | 0 => h
  | n + 1 => rnd_ok (rnds_ok h n)
/-- The words from the 16th on. -/
def sw (p : List Nat) (t : Nat) : Nat := (((p.getD (t - 16) 0 + mixN (p.getD (t - 15) 0) 1 8 7) % 18446744073709551616 + p.getD (t - 7) 0) % 18446744073709551616 + mixN (p.getD (t - 2) 0) 19 61 6) % 18446744073709551616
def sched (l : List Nat) : Nat → List Nat
  | 0 => l
  | n + 1 => (sched l n).set (16 + n) (sw (sched l n) (16 + n))
theorem sched_len (l : List Nat) : ∀ n, (sched l n).length = l.length
  | 0 => rfl
  | n + 1 => by rw [sched, List.length_set, sched_len l n]
theorem sched_lt {l : List Nat} (h : ∀ x ∈ l, x < 18446744073709551616) : ∀ n, ∀ x ∈ sched l n, x < 18446744073709551616
  | 0 => h
  | n + 1 => fun x hx => by
    rcases List.mem_or_eq_of_mem_set hx with hx | rfl
    · exact sched_lt h n x hx
    · exact Nat.mod_lt _ (by omega)
/-- Bytes as a number, the highest first. -/
def be (l : List Nat) : Nat := l.foldl (fun w x => w * 256 + x) 0
theorem be_snoc (l : List Nat) (x : Nat) : be (l ++ [x]) = be l * 256 + x := by simp [be]
theorem be_lt : ∀ (n : Nat) (l : List Nat), l.length = n → (∀ x ∈ l, x < 256) → be l < 256 ^ n
  | 0, l, h, _ => by rw [List.eq_nil_of_length_eq_zero h]; decide
  | n + 1, l, h, hb => by
    have hne : l ≠ [] := by intro e; rw [e] at h; simp at h
    rw [← List.dropLast_concat_getLast hne, be_snoc, Nat.pow_succ]
    have h1 := be_lt n l.dropLast (by simp [h]) (fun x hx => hb x (List.dropLast_subset l hx))
    have h2 := hb _ (List.getLast_mem hne)
    omega
def word8 (bl : List Nat) (i : Nat) : Nat := be ((bl.drop (8 * i)).take 8)
theorem word8_lt {bl : List Nat} (hb : ∀ x ∈ bl, x < 256) {i : Nat} (hi : 8 * i + 8 ≤ bl.length) : word8 bl i < 18446744073709551616 := by
  have := be_lt 8 ((bl.drop (8 * i)).take 8) (by simp; omega) (fun x hx => hb x (List.mem_of_mem_drop (List.mem_of_mem_take hx)))
  exact this
/-- The first n words of a block, then noughts. -/
def wordsTo (bl : List Nat) (n : Nat) : List Nat := (List.range n).map (word8 bl) ++ List.replicate (80 - n) 0
theorem wordsTo_len {bl : List Nat} {n : Nat} (h : n ≤ 80) : (wordsTo bl n).length = 80 := by simp [wordsTo]; omega
theorem wordsTo_set {bl : List Nat} {n : Nat} (h : n < 80) : (wordsTo bl n).set n (word8 bl n) = wordsTo bl (n + 1) := by
  have e : 80 - n = (80 - (n + 1)) + 1 := by omega
  unfold wordsTo
  rw [e, List.replicate_succ, List.set_append_right _ _ (by simp), List.range_succ, List.map_append]
  simp
theorem wordsTo_lt {bl : List Nat} (hb : ∀ x ∈ bl, x < 256) (hl : bl.length = 128) {n : Nat} (hn : n ≤ 16) : ∀ x ∈ wordsTo bl n, x < 18446744073709551616 := by
  intro x hx
  rcases List.mem_append.1 hx with hx | hx
  · obtain ⟨i, hi, rfl⟩ := List.mem_map.1 hx
    exact word8_lt hb (by have := List.mem_range.1 hi; omega)
  · rw [(List.mem_replicate.1 hx).2]; omega
def addS (s t : S8) : S8 := ⟨(s.a + t.a) % 18446744073709551616, (s.b + t.b) % 18446744073709551616, (s.c + t.c) % 18446744073709551616, (s.d + t.d) % 18446744073709551616, (s.e + t.e) % 18446744073709551616, (s.f + t.f) % 18446744073709551616, (s.g + t.g) % 18446744073709551616, (s.h + t.h) % 18446744073709551616⟩
theorem addS_ok (s t : S8) : (addS s t).ok := ⟨Nat.mod_lt _ (by omega), Nat.mod_lt _ (by omega), Nat.mod_lt _ (by omega), Nat.mod_lt _ (by omega), Nat.mod_lt _ (by omega), Nat.mod_lt _ (by omega), Nat.mod_lt _ (by omega), Nat.mod_lt _ (by omega)⟩
/-- The state behind a block. -/
def press (bl : List Nat) (h : S8) : S8 := addS (rnds HK (sched (wordsTo bl 16) 64) h 80) h
/-- The state behind the first n blocks of l. -/
def blocks (l : List Nat) (h : S8) : Nat → S8
  | 0 => h
  | n + 1 => press ((l.drop (128 * n)).take 128) (blocks l h n)
theorem blocks_ok {l : List Nat} {h : S8} (hh : h.ok) : ∀ n, (blocks l h n).ok
  | 0 => hh
  | n + 1 => addS_ok _ _
theorem blocks_append (l m : List Nat) (h : S8) : ∀ n, 128 * n ≤ l.length → blocks (l ++ m) h n = blocks l h n
  | 0, _ => rfl
  | n + 1, hn => by
    rw [blocks, blocks, blocks_append l m h n (by omega), List.drop_append_of_le_length (by omega), List.take_append_of_le_length (by simp; omega)]
def H0 : S8 := ⟨7640891576956012808, 13503953896175478587, 4354685564936845355, 11912009170470909681, 5840696475078001361, 11170449401992604703, 2270897969802886507, 6620516959819538809⟩
theorem H0_ok : H0.ok := by constructor <;> decide
/-- A word's eight bytes, the highest first. -/
def b8 (x : Nat) : List Nat := [x / 72057594037927936 % 256, x / 281474976710656 % 256, x / 1099511627776 % 256, x / 4294967296 % 256, x / 16777216 % 256, x / 65536 % 256, x / 256 % 256, x % 256]
/-- How many bytes stand behind a message of n bytes; what they are. -/
def padL (n : Nat) : Nat := if 128 - n % 128 < 17 then 128 - n % 128 + 128 else 128 - n % 128
def pad (n : Nat) : List Nat := 128 :: (List.replicate (padL n - 17) 0 ++ (b8 (8 * n / 18446744073709551616) ++ b8 (8 * n % 18446744073709551616)))
theorem padL_le (n : Nat) : 17 ≤ padL n := by unfold padL; split <;> omega
theorem pad_len (n : Nat) : (pad n).length = padL n := by
  have := padL_le n
  simp [pad, b8]; omega
def full (l : List Nat) : List Nat := l ++ pad l.length
def outS (s : S8) : List Nat := b8 s.a ++ (b8 s.b ++ (b8 s.c ++ (b8 s.d ++ (b8 s.e ++ (b8 s.f ++ (b8 s.g ++ b8 s.h))))))
def hashS (l : List Nat) : S8 := blocks (full l) H0 ((full l).length / 128)
def hashN (l : List Nat) : List Nat := outS (hashS l)
end Go.Proofs.YtpagiffbjofihaaDoor.Sha
namespace Go.Proofs.YtpagiffbjofihaaDoor.Sha
set_option linter.unusedVariables false
set_option linter.unusedSimpArgs false
open Go Go.RowKit
def bn (l : List UInt8) : List Nat := l.map UInt8.toNat
theorem bn_len (l : List UInt8) : (bn l).length = l.length := by simp [bn]
theorem bn_lt (l : List UInt8) : ∀ x ∈ bn l, x < 256 := by
  intro x hx
  obtain ⟨y, _, rfl⟩ := List.mem_map.1 hx
  exact byte_lt y
theorem be_take {l : List UInt8} {k : Nat} {x : UInt8} (h : l[k]? = some x) : be (bn (l.take (k + 1))) = be (bn (l.take k)) * 256 + x.toNat := by
  obtain ⟨hk, hx⟩ := List.getElem?_eq_some_iff.1 h
  rw [List.take_succ_eq_append_getElem hk, hx, bn, List.map_append, List.map_singleton, be_snoc, bn]
theorem or_byte64 (a : Nat) (x : UInt8) (h : a < 72057594037927936) : bits .or .u64 ((a : Int) * 256) (x.toNat : Int) = ((a * 256 + x.toNat : Nat) : Int) := by
  have hx := byte_lt x
  have e : (a : Int) * 256 = ((a * 256 : Nat) : Int) := (Int.natCast_mul a 256).symm
  rw [e, u64_or_nat _ _ (by omega) (by omega)]
  have := Nat.two_pow_add_eq_or_of_lt (i := 8) (b := x.toNat) (by omega) a
  rw [show (2 : Nat) ^ 8 = 256 by decide] at this
  rw [Nat.mul_comm a 256, this]
theorem be_small {l : List UInt8} {k : Nat} (hk : k ≤ 7) : be (bn (l.take k)) < 72057594037927936 := by
  have h1 := be_lt (bn (l.take k)).length (bn (l.take k)) rfl (bn_lt _)
  have h2 : (bn (l.take k)).length ≤ 7 := by rw [bn_len, List.length_take]; omega
  exact Nat.lt_of_lt_of_le h1 (Nat.pow_le_pow_right (n := 256) (by omega) h2)
attribute [local irreducible] be
set_option maxHeartbeats 400000 in
theorem hget_any (A : Option Addr) (n c B : Nat) (l : List UInt8) (w : World) (hl : BS w B A n c l) (h2 : n ≤ 8) :
    Calls Tryd.prog 83 #[.slice A n c] w fun e w' => e = .returned (.int .u64 (be (bn l) : Nat)) ∧ w = w' := by
  go_enter Tryd.func83, Tryd.ntmps83
  go_wp2
  go_loop [3, 8] (fun a i => ∃ k : Nat, k ≤ n ∧ i = .int .i64 k ∧ ∃ m : Nat, a = .int .u64 m ∧ Hid (m = be (bn (l.take k)))) (fun _ i => n - (intOf i).toNat)
  case atStart => exact ⟨0, Nat.zero_le _, rfl, 0, rfl, Lib.hid (by unfold be; rfl)⟩
  case round =>
    obtain ⟨k, hk, rfl, m, rfl, hm⟩ := hrel
    by_cases hlt : k < n
    · obtain ⟨b, o, x, rfl, hb, hx, hc⟩ := hl.at' hlt
      have hx2 := be_take hx
      have hml : m < 72057594037927936 := by rw [hm.out]; exact be_small (by omega)
      have hxb := byte_lt x
      have hor := or_byte64 m x hml
      rw [hm.out, ← hx2] at hor
      rw [← hm.out] at hor
      have HX := Lib.hid hx2
      have HY := Lib.hid hx
      obtain ⟨m2, e2⟩ : ∃ q, q = be (bn (l.take (k + 1))) := ⟨_, rfl⟩
      rw [← e2] at hor
      have E2 := Lib.hid e2
      clear hx2 hx e2 hm
      go_wp2
      go_round
      case rel => exact ⟨k + 1, by omega, by go_num, m2, rfl, E2⟩
      case measure => simp [intOf]; omega
    · obtain rfl : k = n := by omega
      have e9 : m = be (bn l) := by rw [hm.out, List.take_of_length_le (by rw [hl.len]; omega)]
      have E9 := Lib.hid e9
      clear e9 hm
      go_wp2
      go_ret
      refine ⟨?_, rfl⟩
      rw [← E9.out]
      rfl
/-- 'b[i:j]'. -/
theorem _root_.Go.Proofs.YtpagiffbjofihaaDoor.BS.mid {P : Program} (t e : TypeId) (ht : P.underlying t = some (.slice e)) (he : (P.info? e).map (fun i => (i.zero, i.size, i.bytes)) = some (some (.int .u8 0), 1, 1)) {w : World} {B n c : Nat} {A : Option Addr} {l : List UInt8}
    (h : BS w B A n c l) {i j : Nat} (hij : i < j) (hj : j ≤ n) :
    ∃ A', (∀ W, (Instr.slice t (.slice A n c) (some (.int .i64 (i : Int))) (some (.int .i64 (j : Int))) none).run P W = .ok (.slice A' (j - i) (c - i)) W) ∧ BS w B A' (j - i) (c - i) ((l.drop i).take (j - i)) := by
  obtain ⟨A', h1, h2⟩ := h.tail t e ht he (k := i) (by omega)
  have hel : P.elem t = e := by simp [Program.elem, ht]
  have hnc := h.cap
  refine ⟨A', fun W => ?_, h2.head2 (by omega)⟩
  have h3 := h1 W
  rw [run_slice_l W t A n c (by rw [hel]; exact ht) _ _ (by omega) (by omega), hel, size_u8 he] at h3
  rw [run_slice_lh W t A n c (by rw [hel]; exact ht) _ _ _ _ (by omega) (by omega) (by omega), hel, size_u8 he]
  simp only [Result.andThen, sliced, Int.toNat_natCast, Nat.mul_one] at h3 ⊢
  injection h3 with h3
  injection h3 with h4 h5 h6
  rw [h4]
/-- The cells of a row in which the first j of a word's lowest bytes were put, from the eighth cell behind o down. -/
def putC (cs : Array Value) (o x : Nat) : Nat → Array Value
  | 0 => cs
  | j + 1 => (putC cs o x j).setIfInBounds (o + 7 - j) (.int .u8 ((x / 256 ^ j % 256 : Nat) : Int))
theorem putC_at (cs : Array Value) (o x : Nat) : ∀ j i, i < 8 - j → j ≤ 8 → (putC cs o x j)[o + i]? = cs[o + i]?
  | 0, _, _, _ => rfl
  | j + 1, i, hi, hj => by
    rw [putC, Array.getElem?_setIfInBounds_ne (by omega)]
    exact putC_at cs o x j i (by omega) (by omega)
theorem byte_nat (x j : Nat) : (x : Int) / 2 ^ (8 * j) % 256 = ((x / 256 ^ j % 256 : Nat) : Int) := by
  have h : (x : Int) / 2 ^ (8 * j) = ((x / 256 ^ j : Nat) : Int) := by
    rw [show (256 : Nat) ^ j = 2 ^ (8 * j) by rw [show (256 : Nat) = 2 ^ 8 from rfl, ← Nat.pow_mul]]
    push_cast
    rfl
  rw [h]
  omega
/-- A call that puts a word into a block, and answers nothing. -/
def PutPost (g : Nat) (t : TypeId) (cs : Array Value) (w : World) (e : Ending) (w' : World) : Prop := e = .returned (.tuple #[]) ∧ Blk w' g t cs ∧ w.grownBy w' (some g)
set_option maxHeartbeats 400000 in
theorem hput_any (g o c : Nat) (t : TypeId) (cs : Array Value) (x : Nat) (w : World) (hx : x < 18446744073709551616) (hc8 : 8 ≤ c) (hb : Blk w g t cs) (hcs : ∀ i, i < 8 → ∃ y : Int, cs[o + i]? = some (.int .u8 y)) :
    Calls Tryd.prog 71 #[.slice (some ⟨g, o, none⟩) 8 c, .int .u64 x] w (PutPost g t (putC cs o x 8) w) := by
  go_enter Tryd.func71, Tryd.ntmps71
  go_wp2
  go_loopw [7] (fun i wr => ∃ j : Nat, j ≤ 8 ∧ i = .int .i64 j ∧ Blk wr g t (putC cs o x j) ∧ w.grownBy wr (some g)) (fun i _ => 8 - (intOf i).toNat)
  case atStart => exact ⟨0, by omega, rfl, hb, World.grownBy.refl _ _⟩
  case round =>
    clear hb
    obtain ⟨j, hj, rfl, hB, hg⟩ := hrel
    by_cases hlt : j < 8
    · obtain ⟨y, hy⟩ := hcs (7 - j) (by omega)
      have hc : wr.cell? ⟨g, o + (7 - j), none⟩ = some (.int .u8 y) := by rw [hB.cell, putC_at cs o x j (7 - j) (by omega) (by omega), hy]
      have hf := hB.frozen (o + (7 - j))
      have h8 : (8 : Int) * (j : Int) < 65 := by omega
      have hset := hB.set_ (o + 7 - j) (.int .u8 ((x / 256 ^ j % 256 : Nat) : Int))
      have hgr := grown_trans hg (grown_set wr g (o + 7 - j) (.int .u8 ((x / 256 ^ j % 256 : Nat) : Int)))
      have e1 : o + 7 - j = o + (7 - j) := by omega
      rw [e1] at hset hgr
      have hset2 : Blk (wr.setCell ⟨g, o + (7 - j), none⟩ (.int .u8 ((x / 256 ^ j % 256 : Nat) : Int))) g t (putC cs o x (j + 1)) := by rw [putC, e1]; exact hset
      have hbn := byte_nat x j
      have HS := Lib.hid hset2
      have HG := Lib.hid hgr
      have HN := Lib.hid hbn
      clear hset hset2 hgr hbn hy hcs
      go_wp2
      go_roundw
      case rel =>
        refine ⟨j + 1, by omega, by go_num, ?_⟩
        rw [HN.out]
        exact ⟨HS.out, HG.out⟩
      case measure => simp [intOf]; omega
    · obtain rfl : j = 8 := by omega
      go_wp2
      go_end0
      exact ⟨rfl, hB, hg⟩
end Go.Proofs.YtpagiffbjofihaaDoor.Sha
namespace Go.Proofs.YtpagiffbjofihaaDoor.Sha
set_option linter.unusedVariables false
set_option linter.unusedSimpArgs false
open Go Go.RowKit
theorem info_u8h : (Tryd.prog.info? 5).map (fun i => (i.zero, i.size, i.bytes)) = some (some (.int .u8 0), 1, 1) := by kernel_rfl
theorem words_zero (bl : List Nat) : wordsTo bl 0 = fill HK 0 := by simp [wordsTo, fill, HK_len]
theorem us_getD {l : List Nat} {i : Nat} (h : i < l.length) : (us l)[i]? = some (.int .u64 ((l.getD i 0 : Nat) : Int)) := by
  rw [us_get]
  simp [List.getD, h]
  rfl
theorem getD_mem {l : List Nat} {i : Nat} (h : i < l.length) : l.getD i 0 ∈ l := by
  rw [show l.getD i 0 = l[i] by simp [List.getD, h]]
  exact List.getElem_mem h
theorem bn_mid (l : List UInt8) (i : Nat) : bn ((l.drop (8 * i)).take 8) = ((bn l).drop (8 * i)).take 8 := by simp [bn, List.map_take, List.map_drop]
theorem sched_succ (l : List Nat) (n : Nat) : sched l (n + 1) = (sched l n).set (16 + n) (sw (sched l n) (16 + n)) := rfl
attribute [local irreducible] be HK fill wordsTo sched sw
set_option maxRecDepth 100000 in
set_option maxHeartbeats 4000000 in
theorem schedule_any (A : Option Addr) (c B : Nat) (l : List UInt8) (w : World) (hl : BS w B A 128 c l) (hBw : B ≤ w.heap.size) :
    Calls Tryd.prog 78 #[.slice A 128 c] w (RowPost (sched (wordsTo (bn l) 16) 64) w) := by
  have hz80 : ∀ W : World, (zeroValue 75).run Tryd.prog W = .ok (.agg (us (wordsTo (bn l) 0))) W := fun W => by rw [words_zero]; exact zero_k80 W
  have f0 := ((Fr.start w).any (us (wordsTo (bn l) 0)) 75 80 (by rw [us_size, wordsTo_len (by omega)]) (g := w.heap.size) rfl).row (us (wordsTo (bn l) 0)) 75 (g := w.heap.size + 1) (by simp)
  have F0 := Lib.hid f0
  have hcap := hl.cap
  have hlen : (bn l).length = 128 := by rw [bn_len, hl.len]
  have HL := Lib.hid hl
  have HN := Lib.hid hlen
  clear f0 hl hlen
  go_enter Tryd.func78, Tryd.ntmps78
  go_wp2_with (fail)
  go_loopw [6] (fun i wr => ∃ k : Nat, k ≤ 16 ∧ i = .int .i64 k ∧ Fr w wr [(w.heap.size + 1, 75, us (wordsTo (bn l) k))] [(w.heap.size, 75, 80)]) (fun i _ => 16 - (intOf i).toNat)
  case atStart => exact ⟨0, by omega, rfl, F0.out⟩
  case round =>
    clear F0
    obtain ⟨k, hk, rfl, hF⟩ := hrel
    have HF := Lib.hid hF
    clear hF
    by_cases hlt : k < 16
    · obtain ⟨A', hsl, hm⟩ := HL.out.mid (P := Tryd.prog) 24 5 Tryd.underlying24 info_u8h (i := 8 * k) (j := 8 * k + 8) (by omega) (by omega)
      rw [show 8 * k + 8 - 8 * k = 8 by omega] at hsl hm
      rw [show ((8 * k : Nat) : Int) = (k : Int) * 8 by omega, show ((8 * k + 8 : Nat) : Int) = ((k : Int) + 1) * 8 by omega] at hsl
      have hget := fun (W : World) (h : Below w.heap.size w W) => hget_any A' 8 (c - 8 * k) B _ W (hm.below (h.mono hBw)) (by omega)
      rw [bn_mid] at hget
      have hset := wordsTo_set (bl := bn l) (n := k) (by omega)
      have hwl : (wordsTo (bn l) k).length = 80 := wordsTo_len (by omega)
      obtain ⟨x, ex⟩ : ∃ x, x = word8 (bn l) k := ⟨_, rfl⟩
      rw [show be (((bn l).drop (8 * k)).take 8) = x by rw [ex]; rfl] at hget
      rw [← ex] at hset
      have hf := HF.out
      have kb := hf.get (g := w.heap.size + 1) (t := 75) (cs := us (wordsTo (bn l) k)) (by simp)
      have z1 := kb.frozen k
      have c1 := kb.cell k
      rw [us_getD (by omega)] at c1
      have f2 := hf.setHead (by simp <;> omega) (by simp <;> omega) k (.int .u64 (x : Int)) (by omega)
      rw [us_set, hset] at f2
      have F2 := Lib.hid f2
      have HG := Lib.hid hget
      clear hf f2 hget hm ex hset
      go_wp2_with (fail)
      refine (HG.out _ HF.out.below).mono ?_
      rintro e v ⟨rfl, rfl⟩
      go_wp2_with (fail)
      go_roundw
      case rel => exact ⟨k + 1, by omega, by go_num, F2.out⟩
      case measure => simp [intOf]; omega
    · have e16 : k = 16 := by omega
      have hf := HF.out
      rw [e16] at hf
      have HF := Lib.hid hf
      clear hf e16
      have hs0 : sched (wordsTo (bn l) 16) 0 = wordsTo (bn l) 16 := by unfold sched; rfl
      have HS0 := Lib.hid hs0
      clear hs0
      go_wp2_with (fail)
      go_loopw [5] (fun i wr => ∃ j : Nat, 16 ≤ j ∧ j ≤ 80 ∧ i = .int .i64 (j : Int) ∧ Fr w wr [(w.heap.size + 1, 75, us (sched (wordsTo (bn l) 16) (j - 16)))] [(w.heap.size, 75, 80)]) (fun i _ => 80 - (intOf i).toNat)
      case atStart => exact ⟨16, by omega, by omega, rfl, by rw [Nat.sub_self, HS0.out]; exact HF.out⟩
      case round =>
        clear HF HS0
        obtain ⟨j, hj16, hj, rfl, hF⟩ := hrel
        have hlen : (sched (wordsTo (bn l) 16) (j - 16)).length = 80 := by rw [sched_len, wordsTo_len (by omega)]
        have hwl : ∀ x ∈ sched (wordsTo (bn l) 16) (j - 16), x < 18446744073709551616 := sched_lt (wordsTo_lt (bn_lt l) HN.out (by omega)) _
        have hstep : sched (wordsTo (bn l) 16) (j - 16 + 1) = (sched (wordsTo (bn l) 16) (j - 16)).set (16 + (j - 16)) (sw (sched (wordsTo (bn l) 16) (j - 16)) (16 + (j - 16))) := sched_succ _ _
        rw [show 16 + (j - 16) = j by omega] at hstep
        by_cases hlt : j < 80
        · have hsw : sw (sched (wordsTo (bn l) 16) (j - 16)) j = ((((sched (wordsTo (bn l) 16) (j - 16)).getD (j - 16) 0 + mixN ((sched (wordsTo (bn l) 16) (j - 16)).getD (j - 15) 0) 1 8 7) % 18446744073709551616 + (sched (wordsTo (bn l) 16) (j - 16)).getD (j - 7) 0) % 18446744073709551616 + mixN ((sched (wordsTo (bn l) 16) (j - 16)).getD (j - 2) 0) 19 61 6) % 18446744073709551616 := by unfold sw; rfl
          have hnx : sched (wordsTo (bn l) 16) (j + 1 - 16) = sched (wordsTo (bn l) 16) (j - 16 + 1) := by rw [show j + 1 - 16 = j - 16 + 1 by omega]
          rw [hstep] at hnx
          generalize sched (wordsTo (bn l) 16) (j - 16) = p at *
          have kb := hF.get (g := w.heap.size + 1) (t := 75) (cs := us p) (by simp)
          have b15 : p.getD (j - 15) 0 < 18446744073709551616 := hwl _ (getD_mem (by omega))
          have b2 : p.getD (j - 2) 0 < 18446744073709551616 := hwl _ (getD_mem (by omega))
          have c16 := kb.cell (j - 16)
          rw [us_getD (by omega)] at c16
          have c15 := kb.cell (j - 15)
          rw [us_getD (by omega)] at c15
          have c7 := kb.cell (j - 7)
          rw [us_getD (by omega)] at c7
          have c2 := kb.cell (j - 2)
          rw [us_getD (by omega)] at c2
          have c0 := kb.cell j
          rw [us_getD (by omega)] at c0
          have z1 := kb.frozen j
          obtain ⟨x1, e1⟩ : ∃ x, x = (p.getD (j - 16) 0 + mixN (p.getD (j - 15) 0) 1 8 7) % 18446744073709551616 := ⟨_, rfl⟩
          have a1 := add_nat (p.getD (j - 16) 0) (mixN (p.getD (j - 15) 0) 1 8 7)
          rw [← e1] at a1 hsw
          obtain ⟨x2, e2⟩ : ∃ x, x = (x1 + p.getD (j - 7) 0) % 18446744073709551616 := ⟨_, rfl⟩
          have a2 := add_nat x1 (p.getD (j - 7) 0)
          rw [← e2] at a2 hsw
          obtain ⟨x3, e3⟩ : ∃ x, x = (x2 + mixN (p.getD (j - 2) 0) 19 61 6) % 18446744073709551616 := ⟨_, rfl⟩
          have a3 := add_nat x2 (mixN (p.getD (j - 2) 0) 19 61 6)
          rw [← e3] at a3 hsw
          have m1 := fun W => mixed_any (p.getD (j - 15) 0) 1 8 7 W b15 (by omega) (by omega) (by omega) (by omega) (by omega)
          have m2 := fun W => mixed_any (p.getD (j - 2) 0) 19 61 6 W b2 (by omega) (by omega) (by omega) (by omega) (by omega)
          have f2 := hF.setHead (by simp <;> omega) (by simp <;> omega) j (.int .u64 (x3 : Int)) (by omega)
          rw [hsw] at hnx
          rw [us_set, ← hnx] at f2
          have kb2 := f2.get (g := w.heap.size + 1) (t := 75) (cs := us (sched (wordsTo (bn l) 16) (j + 1 - 16))) (by simp)
          rw [hnx] at kb2
          have q4 : ∀ d, 0 < d → d ≤ 16 → (wr.setCell ⟨w.heap.size + 1, j, none⟩ (.int .u64 (x3 : Int))).cell? ⟨w.heap.size + 1, j - d, none⟩ = some (.int .u64 ((p.getD (j - d) 0 : Nat) : Int)) := fun d d0 d1 => by
            rw [kb2.cell, us_getD (by rw [List.length_set]; omega), List.getD, List.getD, List.getElem?_set_ne (by omega)]
          have Q4S := Lib.hid (show _ ∧ _ ∧ _ ∧ _ from ⟨q4 16 (by omega) (by omega), q4 15 (by omega) (by omega), q4 7 (by omega) (by omega), q4 2 (by omega) (by omega)⟩)
          have F2 := Lib.hid f2
          clear kb2 q4 e1 e2 e3 f2 hsw hnx hstep hwl hF
          generalize mixN (p.getD (j - 15) 0) 1 8 7 = n1 at *
          generalize mixN (p.getD (j - 2) 0) 19 61 6 = n2 at *
          generalize p.getD (j - 16) 0 = v16 at *
          generalize p.getD (j - 15) 0 = v15 at *
          generalize p.getD (j - 7) 0 = v7 at *
          generalize p.getD (j - 2) 0 = v2 at *
          generalize p.getD j 0 = v0 at *
          have i16a : (16 : Int) ≤ (j : Int) := by omega
          have i16b : (j : Int) - 16 < 80 := by omega
          have i16w : IntKind.i64.wrap ((j : Int) - 16) = (j : Int) - 16 := by rw [IntKind.wrap_i64]; omega
          have i16n : ((j : Int) - 16).toNat = j - 16 := by omega
          have i15a : (15 : Int) ≤ (j : Int) := by omega
          have i15b : (j : Int) - 15 < 80 := by omega
          have i15w : IntKind.i64.wrap ((j : Int) - 15) = (j : Int) - 15 := by rw [IntKind.wrap_i64]; omega
          have i15n : ((j : Int) - 15).toNat = j - 15 := by omega
          have i7a : (7 : Int) ≤ (j : Int) := by omega
          have i7b : (j : Int) - 7 < 80 := by omega
          have i7w : IntKind.i64.wrap ((j : Int) - 7) = (j : Int) - 7 := by rw [IntKind.wrap_i64]; omega
          have i7n : ((j : Int) - 7).toNat = j - 7 := by omega
          have i2a : (2 : Int) ≤ (j : Int) := by omega
          have i2b : (j : Int) - 2 < 80 := by omega
          have i2w : IntKind.i64.wrap ((j : Int) - 2) = (j : Int) - 2 := by rw [IntKind.wrap_i64]; omega
          have i2n : ((j : Int) - 2).toNat = j - 2 := by omega
          have M1 := Lib.hid m1
          have M2 := Lib.hid m2
          clear m1 m2
          go_wp2_with (fail)
          refine wp_region_held_drew (S := fun W => W.cell? ⟨w.heap.size + 1, j - 16, none⟩ = some (.int .u64 (v16 : Int)) ∧ W.cell? ⟨w.heap.size + 1, j - 15, none⟩ = some (.int .u64 (v15 : Int)) ∧ W.cell? ⟨w.heap.size + 1, j - 7, none⟩ = some (.int .u64 (v7 : Int)) ∧ W.cell? ⟨w.heap.size + 1, j - 2, none⟩ = some (.int .u64 (v2 : Int))) (by kernel_rfl) ?_ (fun hHeld => ?_)
          · exact ⟨c16, c15, c7, c2⟩
          refine wpAnyH_take (i := 0) (v := ?_) rfl (by kernel_rfl) (by kernel_rfl) (by kernel_rfl) (fun _ _ _ h => h) (Or.inl ⟨by rfl, ?_⟩) hHeld ?_
          rotate_left
          · (intro W hSw; (try dsimp only at hSw); (try simp only [List.getElem_toArray, List.getElem_cons_succ, List.getElem_cons_zero]); go_simp; try with_reducible rfl)
          try simp only [Act.put, List.getElem_toArray, List.getElem_cons_succ, List.getElem_cons_zero, List.setIfInBounds_toArray, List.set_cons_zero, List.set_cons_succ]
          refine wpAnyH_take (i := 1) (v := ?_) rfl (by kernel_rfl) (by kernel_rfl) (by kernel_rfl) (fun _ _ _ h => h) (Or.inl ⟨by rfl, ?_⟩) hHeld ?_
          rotate_left
          · (intro W hSw; (try dsimp only at hSw); (try simp only [List.getElem_toArray, List.getElem_cons_succ, List.getElem_cons_zero]); go_simp; try with_reducible rfl)
          try simp only [Act.put, List.getElem_toArray, List.getElem_cons_succ, List.getElem_cons_zero, List.setIfInBounds_toArray, List.set_cons_zero, List.set_cons_succ]
          refine wpAnyH_take (i := 2) (v := ?_) rfl (by kernel_rfl) (by kernel_rfl) (by kernel_rfl) (fun _ _ _ h => h) (Or.inl ⟨by rfl, ?_⟩) hHeld ?_
          rotate_left
          · (intro W hSw; (try dsimp only at hSw); (try simp only [List.getElem_toArray, List.getElem_cons_succ, List.getElem_cons_zero]); go_simp; try with_reducible rfl)
          try simp only [Act.put, List.getElem_toArray, List.getElem_cons_succ, List.getElem_cons_zero, List.setIfInBounds_toArray, List.set_cons_zero, List.set_cons_succ]
          refine wpAnyH_take (i := 3) (v := ?_) rfl (by kernel_rfl) (by kernel_rfl) (by kernel_rfl) (fun _ _ _ h => h) (Or.inl ⟨by rfl, ?_⟩) hHeld ?_
          rotate_left
          · (intro W hSw; (try dsimp only at hSw); (try simp only [List.getElem_toArray, List.getElem_cons_succ, List.getElem_cons_zero]); go_simp; try with_reducible rfl)
          try simp only [Act.put, List.getElem_toArray, List.getElem_cons_succ, List.getElem_cons_zero, List.setIfInBounds_toArray, List.set_cons_zero, List.set_cons_succ]
          refine wpAnyH_take (i := 4) (v := ?_) rfl (by kernel_rfl) (by kernel_rfl) (by kernel_rfl) (fun _ _ _ h => h) (Or.inl ⟨by rfl, ?_⟩) hHeld ?_
          rotate_left
          · (intro W hSw; (try dsimp only at hSw); (try simp only [List.getElem_toArray, List.getElem_cons_succ, List.getElem_cons_zero]); go_simp; try with_reducible rfl)
          try simp only [Act.put, List.getElem_toArray, List.getElem_cons_succ, List.getElem_cons_zero, List.setIfInBounds_toArray, List.set_cons_zero, List.set_cons_succ]
          refine wpAnyH_take (i := 5) (v := ?_) rfl (by kernel_rfl) (by kernel_rfl) (by kernel_rfl) (fun _ _ _ h => h) (Or.inl ⟨by rfl, ?_⟩) hHeld ?_
          rotate_left
          · (intro W hSw; (try dsimp only at hSw); (try simp only [List.getElem_toArray, List.getElem_cons_succ, List.getElem_cons_zero]); go_simp; try with_reducible rfl)
          try simp only [Act.put, List.getElem_toArray, List.getElem_cons_succ, List.getElem_cons_zero, List.setIfInBounds_toArray, List.set_cons_zero, List.set_cons_succ]
          refine wpAnyH_take (i := 6) (v := ?_) rfl (by kernel_rfl) (by kernel_rfl) (by kernel_rfl) (fun _ _ _ h => h) (Or.inl ⟨by rfl, ?_⟩) hHeld ?_
          rotate_left
          · (intro W hSw; (try dsimp only at hSw); (try simp only [List.getElem_toArray, List.getElem_cons_succ, List.getElem_cons_zero]); go_simp; try with_reducible rfl)
          try simp only [Act.put, List.getElem_toArray, List.getElem_cons_succ, List.getElem_cons_zero, List.setIfInBounds_toArray, List.set_cons_zero, List.set_cons_succ]
          refine wpAnyH_take (i := 7) (v := ?_) rfl (by kernel_rfl) (by kernel_rfl) (by kernel_rfl) (fun _ _ _ h => h) (Or.inl ⟨by rfl, ?_⟩) hHeld ?_
          rotate_left
          · (intro W hSw; (try dsimp only at hSw); (try simp only [List.getElem_toArray, List.getElem_cons_succ, List.getElem_cons_zero]); go_simp; try with_reducible rfl)
          try simp only [Act.put, List.getElem_toArray, List.getElem_cons_succ, List.getElem_cons_zero, List.setIfInBounds_toArray, List.set_cons_zero, List.set_cons_succ]
          refine wpAnyH_take (i := 8) (v := ?_) rfl (by kernel_rfl) (by kernel_rfl) (by kernel_rfl) (fun _ _ _ h => h) (Or.inl ⟨by rfl, ?_⟩) hHeld ?_
          rotate_left
          · (intro W hSw; (try dsimp only at hSw); (try simp only [List.getElem_toArray, List.getElem_cons_succ, List.getElem_cons_zero]); go_simp; try with_reducible rfl)
          try simp only [Act.put, List.getElem_toArray, List.getElem_cons_succ, List.getElem_cons_zero, List.setIfInBounds_toArray, List.set_cons_zero, List.set_cons_succ]
          refine wpAnyH_take (i := 11) (v := ?_) rfl (by kernel_rfl) (by kernel_rfl) (by kernel_rfl) (fun _ _ _ h => h) (Or.inl ⟨by rfl, ?_⟩) hHeld ?_
          rotate_left
          · (intro W hSw; (try dsimp only at hSw); (try simp only [List.getElem_toArray, List.getElem_cons_succ, List.getElem_cons_zero]); go_simp; try with_reducible rfl)
          try simp only [Act.put, List.getElem_toArray, List.getElem_cons_succ, List.getElem_cons_zero, List.setIfInBounds_toArray, List.set_cons_zero, List.set_cons_succ]
          refine wpAnyH_take (i := 12) (v := ?_) rfl (by kernel_rfl) (by kernel_rfl) (by kernel_rfl) (fun _ _ _ h => h) (Or.inl ⟨by rfl, ?_⟩) hHeld ?_
          rotate_left
          · (intro W hSw; (try dsimp only at hSw); (try simp only [List.getElem_toArray, List.getElem_cons_succ, List.getElem_cons_zero]); go_simp; try with_reducible rfl)
          try simp only [Act.put, List.getElem_toArray, List.getElem_cons_succ, List.getElem_cons_zero, List.setIfInBounds_toArray, List.set_cons_zero, List.set_cons_succ]
          refine wpAnyH_take (i := 13) (v := ?_) rfl (by kernel_rfl) (by kernel_rfl) (by kernel_rfl) (fun _ _ _ h => h) (Or.inl ⟨by rfl, ?_⟩) hHeld ?_
          rotate_left
          · (intro W hSw; (try dsimp only at hSw); (try simp only [List.getElem_toArray, List.getElem_cons_succ, List.getElem_cons_zero]); go_simp; try with_reducible rfl)
          try simp only [Act.put, List.getElem_toArray, List.getElem_cons_succ, List.getElem_cons_zero, List.setIfInBounds_toArray, List.set_cons_zero, List.set_cons_succ]
          refine wpAnyH_take (i := 14) (v := ?_) rfl (by kernel_rfl) (by kernel_rfl) (by kernel_rfl) (fun _ _ _ h => h) (Or.inl ⟨by rfl, ?_⟩) hHeld ?_
          rotate_left
          · (intro W hSw; (try dsimp only at hSw); (try simp only [List.getElem_toArray, List.getElem_cons_succ, List.getElem_cons_zero]); go_simp; try with_reducible rfl)
          try simp only [Act.put, List.getElem_toArray, List.getElem_cons_succ, List.getElem_cons_zero, List.setIfInBounds_toArray, List.set_cons_zero, List.set_cons_succ]
          refine wpAnyH_take (i := 16) (v := ?_) rfl (by kernel_rfl) (by kernel_rfl) (by kernel_rfl) (fun _ _ _ h => h) (Or.inl ⟨by rfl, ?_⟩) hHeld ?_
          rotate_left
          · (intro W hSw; (try dsimp only at hSw); (try simp only [List.getElem_toArray, List.getElem_cons_succ, List.getElem_cons_zero]); go_simp; try with_reducible rfl)
          try simp only [Act.put, List.getElem_toArray, List.getElem_cons_succ, List.getElem_cons_zero, List.setIfInBounds_toArray, List.set_cons_zero, List.set_cons_succ]
          refine wpAnyH_take (i := 17) (v := ?_) rfl (by kernel_rfl) (by kernel_rfl) (by kernel_rfl) (fun _ _ _ h => h) (Or.inl ⟨by rfl, ?_⟩) hHeld ?_
          rotate_left
          · (intro W hSw; (try dsimp only at hSw); (try simp only [List.getElem_toArray, List.getElem_cons_succ, List.getElem_cons_zero]); go_simp; try with_reducible rfl)
          try simp only [Act.put, List.getElem_toArray, List.getElem_cons_succ, List.getElem_cons_zero, List.setIfInBounds_toArray, List.set_cons_zero, List.set_cons_succ]
          refine wpAnyH_take (i := 18) (v := ?_) rfl (by kernel_rfl) (by kernel_rfl) (by kernel_rfl) (fun _ _ _ h => h) (Or.inl ⟨by rfl, ?_⟩) hHeld ?_
          rotate_left
          · (intro W hSw; (try dsimp only at hSw); (try simp only [List.getElem_toArray, List.getElem_cons_succ, List.getElem_cons_zero]); go_simp; try with_reducible rfl)
          try simp only [Act.put, List.getElem_toArray, List.getElem_cons_succ, List.getElem_cons_zero, List.setIfInBounds_toArray, List.set_cons_zero, List.set_cons_succ]
          refine wpAnyH_take (i := 19) (v := ?_) rfl (by kernel_rfl) (by kernel_rfl) (by kernel_rfl) (fun _ _ _ h => h) (Or.inl ⟨by rfl, ?_⟩) hHeld ?_
          rotate_left
          · (intro W hSw; (try dsimp only at hSw); (try simp only [List.getElem_toArray, List.getElem_cons_succ, List.getElem_cons_zero]); go_simp; try with_reducible rfl)
          try simp only [Act.put, List.getElem_toArray, List.getElem_cons_succ, List.getElem_cons_zero, List.setIfInBounds_toArray, List.set_cons_zero, List.set_cons_succ]
          refine wpAnyH_ready (rs := [9]) (by kernel_rfl) (by simp) (AllReadyH.cons rfl (fun K hK => ?_) AllReadyH.nil)
          have h0 := hHeld
          clear hHeld
          try simp only [List.getElem_toArray, List.getElem_cons_succ, List.getElem_cons_zero]
          go_simp
          go_at_call 84
          refine (M1.out _).mono ?_
          rintro e vv ⟨rfl, rfl⟩
          go_wp2_with (fail)
          refine hK.out _ _ (by exact h0) (fun hHeld => ?_)
          clear hK K h0
          try simp only [Act.put, List.getElem_toArray, List.getElem_cons_succ, List.getElem_cons_zero, List.setIfInBounds_toArray, List.set_cons_zero, List.set_cons_succ]
          refine wpAnyH_take (i := 10) (v := ?_) rfl (by kernel_rfl) (by kernel_rfl) (by kernel_rfl) (fun _ _ _ h => h) (Or.inl ⟨by rfl, ?_⟩) hHeld ?_
          rotate_left
          · (intro W hSw; (try dsimp only at hSw); (try simp only [List.getElem_toArray, List.getElem_cons_succ, List.getElem_cons_zero]); go_simp; try with_reducible rfl)
          try simp only [Act.put, List.getElem_toArray, List.getElem_cons_succ, List.getElem_cons_zero, List.setIfInBounds_toArray, List.set_cons_zero, List.set_cons_succ]
          refine wpAnyH_take (i := 15) (v := ?_) rfl (by kernel_rfl) (by kernel_rfl) (by kernel_rfl) (fun _ _ _ h => h) (Or.inl ⟨by rfl, ?_⟩) hHeld ?_
          rotate_left
          · (intro W hSw; (try dsimp only at hSw); (try simp only [List.getElem_toArray, List.getElem_cons_succ, List.getElem_cons_zero]); go_simp; try with_reducible rfl)
          try simp only [Act.put, List.getElem_toArray, List.getElem_cons_succ, List.getElem_cons_zero, List.setIfInBounds_toArray, List.set_cons_zero, List.set_cons_succ]
          refine wpAnyH_ready (rs := [20]) (by kernel_rfl) (by simp) (AllReadyH.cons rfl (fun K hK => ?_) AllReadyH.nil)
          have h0 := hHeld
          clear hHeld
          try simp only [List.getElem_toArray, List.getElem_cons_succ, List.getElem_cons_zero]
          go_simp
          go_at_call 84
          refine (M2.out _).mono ?_
          rintro e vv ⟨rfl, rfl⟩
          go_wp2_with (fail)
          refine hK.out _ _ (by exact h0) (fun hHeld => ?_)
          clear hK K h0
          try simp only [Act.put, List.getElem_toArray, List.getElem_cons_succ, List.getElem_cons_zero, List.setIfInBounds_toArray, List.set_cons_zero, List.set_cons_succ]
          refine wpAnyH_take (i := 21) (v := ?_) rfl (by kernel_rfl) (by kernel_rfl) (by kernel_rfl) (fun _ _ _ h => h) (Or.inl ⟨by rfl, ?_⟩) hHeld ?_
          rotate_left
          · (intro W hSw; (try dsimp only at hSw); (try simp only [List.getElem_toArray, List.getElem_cons_succ, List.getElem_cons_zero]); go_simp; try with_reducible rfl)
          try simp only [Act.put, List.getElem_toArray, List.getElem_cons_succ, List.getElem_cons_zero, List.setIfInBounds_toArray, List.set_cons_zero, List.set_cons_succ]
          refine wpAnyH_take (i := 22) (v := ?_) rfl (by kernel_rfl) (by kernel_rfl) (by kernel_rfl) (fun _ _ _ h => h) (Or.inl ⟨by rfl, ?_⟩) hHeld ?_
          rotate_left
          · (intro W hSw; (try dsimp only at hSw); (try simp only [List.getElem_toArray, List.getElem_cons_succ, List.getElem_cons_zero]); go_simp; try with_reducible rfl)
          try simp only [Act.put, List.getElem_toArray, List.getElem_cons_succ, List.getElem_cons_zero, List.setIfInBounds_toArray, List.set_cons_zero, List.set_cons_succ]
          refine wpAnyH_ready (rs := [23]) (by kernel_rfl) (by simp) (AllReadyH.cons rfl (fun K hK => ?_) AllReadyH.nil)
          have h0 := hHeld
          clear hHeld
          try simp only [List.getElem_toArray, List.getElem_cons_succ, List.getElem_cons_zero]
          go_simp
          refine hK.out _ _ (by exact Q4S.out) (fun hHeld => ?_)
          clear hK K h0
          try simp only [Act.put, List.getElem_toArray, List.getElem_cons_succ, List.getElem_cons_zero, List.setIfInBounds_toArray, List.set_cons_zero, List.set_cons_succ]
          refine wpAnyH_done (by kernel_rfl) ?_ _
          go_wp2_with (fail)
          go_round
          case rel => exact ⟨j + 1, by omega, by omega, by go_num, F2.out.drew.drew.drew⟩
          case measure => simp [intOf]; omega
        · obtain rfl : j = 80 := by omega
          rw [show 80 - 16 = 64 by omega] at hF hlen
          clear hstep hwl
          generalize sched (wordsTo (bn l) 16) 64 = p at *
          have k1 := hF.get (g := w.heap.size + 1) (t := 75) (cs := us p) (by simp)
          obtain ⟨old, ho, k0⟩ := hF.old (g := w.heap.size) (t := 75) (n := 80) (by simp)
          have kS := k0.setRow_same (us p)
          have hB := below_setRow hF.below (Nat.le_refl _) (us p)
          have ho' : old.size = (us p).size := by rw [ho, us_size, hlen]
          have KS := Lib.hid kS
          have HB := Lib.hid hB
          have HO := Lib.hid ho'
          have HI := Lib.hid (info_us (T := 75) size_k80 hlen)
          clear hF kS hB ho ho'
          go_wp2_with (first | (refine wpList_load_row rfl 75 (.tmp 3) rfl (w.heap.size + 1) rfl 75 (us p) (0, 0) _ k1 Tryd.underlying75 rfl HI.out ?_) | (refine wpList_store_row rfl 75 (.tmp 2) (.tmp 47) rfl (w.heap.size) (us p) rfl rfl 75 old k0 HI.out HO.out (us_one _) ?_))
          exact row_end (n0 := 80) rfl size_k80 hlen rfl rfl rfl KS.out HB.out
end Go.Proofs.YtpagiffbjofihaaDoor.Sha
namespace Go.Proofs.YtpagiffbjofihaaDoor.Sha
set_option linter.unusedVariables false
set_option linter.unusedSimpArgs false
open Go Go.RowKit
theorem rnds_succ (K W : List Nat) (s : S8) (n : Nat) : rnds K W s (n + 1) = rnd (K.getD n 0) (W.getD n 0) (rnds K W s n) := rfl
theorem rnds_zero (K W : List Nat) (s : S8) : rnds K W s 0 = s := rfl
theorem press_def (bl : List Nat) (h : S8) : press bl h = addS (rnds HK (sched (wordsTo bl 16) 64) h 80) h := rfl
/-- The first k of a row added. -/
def addl (p q : List Nat) : Nat → List Nat
  | 0 => p
  | k + 1 => (addl p q k).set k ((p.getD k 0 + q.getD k 0) % 18446744073709551616)
theorem addl_len (p q : List Nat) : ∀ k, (addl p q k).length = p.length
  | 0 => rfl
  | k + 1 => by rw [addl, List.length_set, addl_len p q k]
theorem addl_get (p q : List Nat) : ∀ k i, k ≤ i → (addl p q k).getD i 0 = p.getD i 0
  | 0, _, _ => rfl
  | k + 1, i, h => by
    rw [addl, List.getD, List.getElem?_set_ne (by omega), ← List.getD]
    exact addl_get p q k i (by omega)
theorem addl_zero (p q : List Nat) : addl p q 0 = p := rfl
theorem addl_succ (p q : List Nat) (k : Nat) : addl p q (k + 1) = (addl p q k).set k ((p.getD k 0 + q.getD k 0) % 18446744073709551616) := rfl
theorem addl_eight (s t : S8) : addl s.l t.l 8 = (addS s t).l := rfl
theorem rnd_eq (k w : Nat) (s : S8) (x y z u : Nat) (hx : x = xN k w s) (hy : y = yN s) (hz : z = (x + y) % 18446744073709551616) (hu : u = (s.d + x) % 18446744073709551616) : rnd k w s = ⟨z, s.a, s.b, s.c, u, s.e, s.f, s.g⟩ := by
  rw [hz, hu, hx, hy]
  rfl
theorem ones_xor (x : Nat) (hx : x < 18446744073709551616) : 18446744073709551615 ^^^ x = 18446744073709551615 - x := by
  have h := BitVec.toNat_not (x := BitVec.ofNat 64 x)
  rw [BitVec.not_def, BitVec.toNat_xor, BitVec.toNat_allOnes, BitVec.toNat_ofNat, Nat.mod_eq_of_lt (by omega)] at h
  exact h
theorem not_nat (x : Nat) (hx : x < 18446744073709551616) : bits .xor .u64 (if IntKind.u64.signed = true then -1 else IntKind.u64.max) (x : Int) = ((18446744073709551615 - x : Nat) : Int) := by
  rw [← ones_xor x hx, ← u64_xor_nat _ _ (by omega) hx]
  rfl
attribute [local irreducible] be HK fill wordsTo sched sw rnds rnd xN yN chN majN turnN addl addS press
set_option maxRecDepth 100000 in
set_option maxHeartbeats 4000000 in
theorem pressed_any (s : S8) (A : Option Addr) (c B : Nat) (l : List UInt8) (gk ok : Nat) (w : World) (hs : s.ok) (hl : BS w B A 128 c l) (hBw : B ≤ w.heap.size) (hgk : gk < w.heap.size)
    (hK : ∀ t, t < 80 → w.cell? ⟨gk, ok + t, none⟩ = some (.int .u64 ((HK.getD t 0 : Nat) : Int))) :
    Calls Tryd.prog 69 #[.agg (us s.l), .slice A 128 c, .pointer (some ⟨gk, ok, none⟩)] w (RowPost (press (bn l) s).l w) := by
  have f0 := ((Fr.start w).row (us s.l) 73 (g := w.heap.size) rfl).any (us (fill HS 0)) 73 8 zlen_HS (g := w.heap.size + 1) (by simp)
  rw [us_zero8] at f0
  have k3 := f0.get (g := w.heap.size) (t := 73) (cs := us s.l) (by simp)
  have hcap := hl.cap
  have hlen : (bn l).length = 128 := by rw [bn_len, hl.len]
  have hl0 := (hl.alloc hBw (.cells (us s.l) 73)).alloc (by simp; omega) (.cells #[.int .u64 0, .int .u64 0, .int .u64 0, .int .u64 0, .int .u64 0, .int .u64 0, .int .u64 0, .int .u64 0] 73)
  have hsc := schedule_any A c B l _ hl0 (by simp; omega)
  have HSC := Lib.hid hsc
  have hwl : (sched (wordsTo (bn l) 16) 64).length = 80 := by rw [sched_len, wordsTo_len (by omega)]
  rw [press_def]
  obtain ⟨Wl, hW⟩ : ∃ q, q = sched (wordsTo (bn l) 16) 64 := ⟨_, rfl⟩
  rw [← hW] at hwl ⊢
  obtain ⟨R, hR⟩ : ∃ q, q = addS (rnds HK Wl s 80) s := ⟨_, rfl⟩
  rw [← hR]
  have HR := Lib.hid hR
  clear hR
  have HW := Lib.hid hW
  have F0 := Lib.hid f0
  have HKK := Lib.hid hK
  have HSO := Lib.hid hs
  clear f0 hl hl0 hlen hsc hW hK hs
  have hz80 : ∀ W : World, (zeroValue 75).run Tryd.prog W = .ok (.agg (us (fill HK 0))) W := zero_k80
  go_enter Tryd.func69, Tryd.ntmps69
  go_wp2_with (fail)
  refine HSC.out.mono ?_
  rintro e v ⟨rfl, hb⟩
  rw [← HW.out]
  have f1 := F0.out.ext hb
  have hv : w.heap.size + 1 < v.heap.size := by have := hb.size; simp at this; omega
  have f2 := f1.row (us (fill HK 0)) 75 rfl
  generalize hg7 : v.heap.size = g7 at *
  have k7 := f2.get (g := g7) (t := 75) (cs := us (fill HK 0)) (by simp)
  have f3 := f2.setRowHead (by simp <;> omega) (by simp <;> omega) (us Wl) (by omega)
  have k3b := f3.get (g := w.heap.size) (t := 73) (cs := us s.l) (by simp)
  have hs7 : ((v.alloc (.cells (us (fill HK 0)) 75)).setRow g7 (us Wl)).heap.size = g7 + 1 := by simp [World.setRow, hg7]
  have f4 := f3.row (us (fill HS 0)) 73 (g := g7 + 1) hs7.symm
  have k8 := f4.get (g := g7 + 1) (t := 73) (cs := us (fill HS 0)) (by simp)
  have f5 := f4.setRowHead (by simp <;> omega) (by simp <;> omega) (us s.l) (by omega)
  rw [us_zero8] at k8 f5
  have k9 := f5.get (g := g7 + 1) (t := 73) (cs := us s.l) (by simp)
  have c0 := k9.cell 0
  rw [us_at (i := 0) (x := s.a) rfl] at c0
  have c1 := k9.cell 1
  rw [us_at (i := 1) (x := s.b) rfl] at c1
  have c2 := k9.cell 2
  rw [us_at (i := 2) (x := s.c) rfl] at c2
  have c3 := k9.cell 3
  rw [us_at (i := 3) (x := s.d) rfl] at c3
  have c4 := k9.cell 4
  rw [us_at (i := 4) (x := s.e) rfl] at c4
  have c5 := k9.cell 5
  rw [us_at (i := 5) (x := s.f) rfl] at c5
  have c6 := k9.cell 6
  rw [us_at (i := 6) (x := s.g) rfl] at c6
  have c7 := k9.cell 7
  rw [us_at (i := 7) (x := s.h) rfl] at c7
  have F5 := Lib.hid f5
  have HI := Lib.hid (info_us (T := 75) size_k80 hwl)
  have HZ := Lib.hid (show (us (fill HK 0)).size = (us Wl).size by rw [zlen_HK, us_size, hwl])
  clear f1 f2 f3 f4 f5 hb F0 k9 HSC
  go_wp2_with (first | (refine wpList_store_row rfl 75 (.tmp 7) (.tmp 22) rfl g7 (us Wl) rfl rfl 75 _ k7 HI.out HZ.out (us_one _) ?_) | (refine wpList_load_row rfl 73 (.tmp 3) rfl (w.heap.size) rfl 73 (us s.l) (0, 0) _ k3b Tryd.underlying73 rfl (info_us size_hst rfl) ?_) | (refine wpList_store_row rfl 73 (.tmp 8) (.tmp 23) rfl (g7 + 1) (us s.l) rfl rfl 73 _ k8 (info_us size_hst rfl) rfl (us_one _) ?_))
  refine wp_region_held_drew (S := fun W => W.cell? ⟨g7 + 1, 0, none⟩ = some (.int .u64 (s.a : Int)) ∧ W.cell? ⟨g7 + 1, 1, none⟩ = some (.int .u64 (s.b : Int)) ∧ W.cell? ⟨g7 + 1, 2, none⟩ = some (.int .u64 (s.c : Int)) ∧ W.cell? ⟨g7 + 1, 3, none⟩ = some (.int .u64 (s.d : Int)) ∧ W.cell? ⟨g7 + 1, 4, none⟩ = some (.int .u64 (s.e : Int)) ∧ W.cell? ⟨g7 + 1, 5, none⟩ = some (.int .u64 (s.f : Int)) ∧ W.cell? ⟨g7 + 1, 6, none⟩ = some (.int .u64 (s.g : Int)) ∧ W.cell? ⟨g7 + 1, 7, none⟩ = some (.int .u64 (s.h : Int))) (by kernel_rfl) ?_ (fun hHeld => ?_)
  · exact ⟨c0, c1, c2, c3, c4, c5, c6, c7⟩
  refine wpAnyH_take (i := 0) (v := ?_) rfl (by kernel_rfl) (by kernel_rfl) (by kernel_rfl) (fun _ _ _ h => h) (Or.inl ⟨by rfl, ?_⟩) hHeld ?_
  rotate_left
  · (intro W hSw; (try dsimp only at hSw); (try simp only [List.getElem_toArray, List.getElem_cons_succ, List.getElem_cons_zero]); go_simp; try with_reducible rfl)
  try simp only [Act.put, List.getElem_toArray, List.getElem_cons_succ, List.getElem_cons_zero, List.setIfInBounds_toArray, List.set_cons_zero, List.set_cons_succ]
  refine wpAnyH_take (i := 1) (v := ?_) rfl (by kernel_rfl) (by kernel_rfl) (by kernel_rfl) (fun _ _ _ h => h) (Or.inl ⟨by rfl, ?_⟩) hHeld ?_
  rotate_left
  · (intro W hSw; (try dsimp only at hSw); (try simp only [List.getElem_toArray, List.getElem_cons_succ, List.getElem_cons_zero]); go_simp; try with_reducible rfl)
  try simp only [Act.put, List.getElem_toArray, List.getElem_cons_succ, List.getElem_cons_zero, List.setIfInBounds_toArray, List.set_cons_zero, List.set_cons_succ]
  refine wpAnyH_take (i := 2) (v := ?_) rfl (by kernel_rfl) (by kernel_rfl) (by kernel_rfl) (fun _ _ _ h => h) (Or.inl ⟨by rfl, ?_⟩) hHeld ?_
  rotate_left
  · (intro W hSw; (try dsimp only at hSw); (try simp only [List.getElem_toArray, List.getElem_cons_succ, List.getElem_cons_zero]); go_simp; try with_reducible rfl)
  try simp only [Act.put, List.getElem_toArray, List.getElem_cons_succ, List.getElem_cons_zero, List.setIfInBounds_toArray, List.set_cons_zero, List.set_cons_succ]
  refine wpAnyH_take (i := 3) (v := ?_) rfl (by kernel_rfl) (by kernel_rfl) (by kernel_rfl) (fun _ _ _ h => h) (Or.inl ⟨by rfl, ?_⟩) hHeld ?_
  rotate_left
  · (intro W hSw; (try dsimp only at hSw); (try simp only [List.getElem_toArray, List.getElem_cons_succ, List.getElem_cons_zero]); go_simp; try with_reducible rfl)
  try simp only [Act.put, List.getElem_toArray, List.getElem_cons_succ, List.getElem_cons_zero, List.setIfInBounds_toArray, List.set_cons_zero, List.set_cons_succ]
  refine wpAnyH_take (i := 4) (v := ?_) rfl (by kernel_rfl) (by kernel_rfl) (by kernel_rfl) (fun _ _ _ h => h) (Or.inl ⟨by rfl, ?_⟩) hHeld ?_
  rotate_left
  · (intro W hSw; (try dsimp only at hSw); (try simp only [List.getElem_toArray, List.getElem_cons_succ, List.getElem_cons_zero]); go_simp; try with_reducible rfl)
  try simp only [Act.put, List.getElem_toArray, List.getElem_cons_succ, List.getElem_cons_zero, List.setIfInBounds_toArray, List.set_cons_zero, List.set_cons_succ]
  refine wpAnyH_take (i := 5) (v := ?_) rfl (by kernel_rfl) (by kernel_rfl) (by kernel_rfl) (fun _ _ _ h => h) (Or.inl ⟨by rfl, ?_⟩) hHeld ?_
  rotate_left
  · (intro W hSw; (try dsimp only at hSw); (try simp only [List.getElem_toArray, List.getElem_cons_succ, List.getElem_cons_zero]); go_simp; try with_reducible rfl)
  try simp only [Act.put, List.getElem_toArray, List.getElem_cons_succ, List.getElem_cons_zero, List.setIfInBounds_toArray, List.set_cons_zero, List.set_cons_succ]
  refine wpAnyH_take (i := 6) (v := ?_) rfl (by kernel_rfl) (by kernel_rfl) (by kernel_rfl) (fun _ _ _ h => h) (Or.inl ⟨by rfl, ?_⟩) hHeld ?_
  rotate_left
  · (intro W hSw; (try dsimp only at hSw); (try simp only [List.getElem_toArray, List.getElem_cons_succ, List.getElem_cons_zero]); go_simp; try with_reducible rfl)
  try simp only [Act.put, List.getElem_toArray, List.getElem_cons_succ, List.getElem_cons_zero, List.setIfInBounds_toArray, List.set_cons_zero, List.set_cons_succ]
  refine wpAnyH_take (i := 7) (v := ?_) rfl (by kernel_rfl) (by kernel_rfl) (by kernel_rfl) (fun _ _ _ h => h) (Or.inl ⟨by rfl, ?_⟩) hHeld ?_
  rotate_left
  · (intro W hSw; (try dsimp only at hSw); (try simp only [List.getElem_toArray, List.getElem_cons_succ, List.getElem_cons_zero]); go_simp; try with_reducible rfl)
  try simp only [Act.put, List.getElem_toArray, List.getElem_cons_succ, List.getElem_cons_zero, List.setIfInBounds_toArray, List.set_cons_zero, List.set_cons_succ]
  refine wpAnyH_take (i := 8) (v := ?_) rfl (by kernel_rfl) (by kernel_rfl) (by kernel_rfl) (fun _ _ _ h => h) (Or.inl ⟨by rfl, ?_⟩) hHeld ?_
  rotate_left
  · (intro W hSw; (try dsimp only at hSw); (try simp only [List.getElem_toArray, List.getElem_cons_succ, List.getElem_cons_zero]); go_simp; try with_reducible rfl)
  try simp only [Act.put, List.getElem_toArray, List.getElem_cons_succ, List.getElem_cons_zero, List.setIfInBounds_toArray, List.set_cons_zero, List.set_cons_succ]
  refine wpAnyH_take (i := 9) (v := ?_) rfl (by kernel_rfl) (by kernel_rfl) (by kernel_rfl) (fun _ _ _ h => h) (Or.inl ⟨by rfl, ?_⟩) hHeld ?_
  rotate_left
  · (intro W hSw; (try dsimp only at hSw); (try simp only [List.getElem_toArray, List.getElem_cons_succ, List.getElem_cons_zero]); go_simp; try with_reducible rfl)
  try simp only [Act.put, List.getElem_toArray, List.getElem_cons_succ, List.getElem_cons_zero, List.setIfInBounds_toArray, List.set_cons_zero, List.set_cons_succ]
  refine wpAnyH_take (i := 10) (v := ?_) rfl (by kernel_rfl) (by kernel_rfl) (by kernel_rfl) (fun _ _ _ h => h) (Or.inl ⟨by rfl, ?_⟩) hHeld ?_
  rotate_left
  · (intro W hSw; (try dsimp only at hSw); (try simp only [List.getElem_toArray, List.getElem_cons_succ, List.getElem_cons_zero]); go_simp; try with_reducible rfl)
  try simp only [Act.put, List.getElem_toArray, List.getElem_cons_succ, List.getElem_cons_zero, List.setIfInBounds_toArray, List.set_cons_zero, List.set_cons_succ]
  refine wpAnyH_take (i := 11) (v := ?_) rfl (by kernel_rfl) (by kernel_rfl) (by kernel_rfl) (fun _ _ _ h => h) (Or.inl ⟨by rfl, ?_⟩) hHeld ?_
  rotate_left
  · (intro W hSw; (try dsimp only at hSw); (try simp only [List.getElem_toArray, List.getElem_cons_succ, List.getElem_cons_zero]); go_simp; try with_reducible rfl)
  try simp only [Act.put, List.getElem_toArray, List.getElem_cons_succ, List.getElem_cons_zero, List.setIfInBounds_toArray, List.set_cons_zero, List.set_cons_succ]
  refine wpAnyH_take (i := 12) (v := ?_) rfl (by kernel_rfl) (by kernel_rfl) (by kernel_rfl) (fun _ _ _ h => h) (Or.inl ⟨by rfl, ?_⟩) hHeld ?_
  rotate_left
  · (intro W hSw; (try dsimp only at hSw); (try simp only [List.getElem_toArray, List.getElem_cons_succ, List.getElem_cons_zero]); go_simp; try with_reducible rfl)
  try simp only [Act.put, List.getElem_toArray, List.getElem_cons_succ, List.getElem_cons_zero, List.setIfInBounds_toArray, List.set_cons_zero, List.set_cons_succ]
  refine wpAnyH_take (i := 13) (v := ?_) rfl (by kernel_rfl) (by kernel_rfl) (by kernel_rfl) (fun _ _ _ h => h) (Or.inl ⟨by rfl, ?_⟩) hHeld ?_
  rotate_left
  · (intro W hSw; (try dsimp only at hSw); (try simp only [List.getElem_toArray, List.getElem_cons_succ, List.getElem_cons_zero]); go_simp; try with_reducible rfl)
  try simp only [Act.put, List.getElem_toArray, List.getElem_cons_succ, List.getElem_cons_zero, List.setIfInBounds_toArray, List.set_cons_zero, List.set_cons_succ]
  refine wpAnyH_take (i := 14) (v := ?_) rfl (by kernel_rfl) (by kernel_rfl) (by kernel_rfl) (fun _ _ _ h => h) (Or.inl ⟨by rfl, ?_⟩) hHeld ?_
  rotate_left
  · (intro W hSw; (try dsimp only at hSw); (try simp only [List.getElem_toArray, List.getElem_cons_succ, List.getElem_cons_zero]); go_simp; try with_reducible rfl)
  try simp only [Act.put, List.getElem_toArray, List.getElem_cons_succ, List.getElem_cons_zero, List.setIfInBounds_toArray, List.set_cons_zero, List.set_cons_succ]
  refine wpAnyH_take (i := 15) (v := ?_) rfl (by kernel_rfl) (by kernel_rfl) (by kernel_rfl) (fun _ _ _ h => h) (Or.inl ⟨by rfl, ?_⟩) hHeld ?_
  rotate_left
  · (intro W hSw; (try dsimp only at hSw); (try simp only [List.getElem_toArray, List.getElem_cons_succ, List.getElem_cons_zero]); go_simp; try with_reducible rfl)
  try simp only [Act.put, List.getElem_toArray, List.getElem_cons_succ, List.getElem_cons_zero, List.setIfInBounds_toArray, List.set_cons_zero, List.set_cons_succ]
  refine wpAnyH_take (i := 16) (v := ?_) rfl (by kernel_rfl) (by kernel_rfl) (by kernel_rfl) (fun _ _ _ h => h) (Or.inl ⟨by rfl, ?_⟩) hHeld ?_
  rotate_left
  · (intro W hSw; (try dsimp only at hSw); (try simp only [List.getElem_toArray, List.getElem_cons_succ, List.getElem_cons_zero]); go_simp; try with_reducible rfl)
  try simp only [Act.put, List.getElem_toArray, List.getElem_cons_succ, List.getElem_cons_zero, List.setIfInBounds_toArray, List.set_cons_zero, List.set_cons_succ]
  refine wpAnyH_take (i := 17) (v := ?_) rfl (by kernel_rfl) (by kernel_rfl) (by kernel_rfl) (fun _ _ _ h => h) (Or.inl ⟨by rfl, ?_⟩) hHeld ?_
  rotate_left
  · (intro W hSw; (try dsimp only at hSw); (try simp only [List.getElem_toArray, List.getElem_cons_succ, List.getElem_cons_zero]); go_simp; try with_reducible rfl)
  try simp only [Act.put, List.getElem_toArray, List.getElem_cons_succ, List.getElem_cons_zero, List.setIfInBounds_toArray, List.set_cons_zero, List.set_cons_succ]
  refine wpAnyH_take (i := 18) (v := ?_) rfl (by kernel_rfl) (by kernel_rfl) (by kernel_rfl) (fun _ _ _ h => h) (Or.inl ⟨by rfl, ?_⟩) hHeld ?_
  rotate_left
  · (intro W hSw; (try dsimp only at hSw); (try simp only [List.getElem_toArray, List.getElem_cons_succ, List.getElem_cons_zero]); go_simp; try with_reducible rfl)
  try simp only [Act.put, List.getElem_toArray, List.getElem_cons_succ, List.getElem_cons_zero, List.setIfInBounds_toArray, List.set_cons_zero, List.set_cons_succ]
  refine wpAnyH_take (i := 19) (v := ?_) rfl (by kernel_rfl) (by kernel_rfl) (by kernel_rfl) (fun _ _ _ h => h) (Or.inl ⟨by rfl, ?_⟩) hHeld ?_
  rotate_left
  · (intro W hSw; (try dsimp only at hSw); (try simp only [List.getElem_toArray, List.getElem_cons_succ, List.getElem_cons_zero]); go_simp; try with_reducible rfl)
  try simp only [Act.put, List.getElem_toArray, List.getElem_cons_succ, List.getElem_cons_zero, List.setIfInBounds_toArray, List.set_cons_zero, List.set_cons_succ]
  refine wpAnyH_take (i := 20) (v := ?_) rfl (by kernel_rfl) (by kernel_rfl) (by kernel_rfl) (fun _ _ _ h => h) (Or.inl ⟨by rfl, ?_⟩) hHeld ?_
  rotate_left
  · (intro W hSw; (try dsimp only at hSw); (try simp only [List.getElem_toArray, List.getElem_cons_succ, List.getElem_cons_zero]); go_simp; try with_reducible rfl)
  try simp only [Act.put, List.getElem_toArray, List.getElem_cons_succ, List.getElem_cons_zero, List.setIfInBounds_toArray, List.set_cons_zero, List.set_cons_succ]
  refine wpAnyH_take (i := 21) (v := ?_) rfl (by kernel_rfl) (by kernel_rfl) (by kernel_rfl) (fun _ _ _ h => h) (Or.inl ⟨by rfl, ?_⟩) hHeld ?_
  rotate_left
  · (intro W hSw; (try dsimp only at hSw); (try simp only [List.getElem_toArray, List.getElem_cons_succ, List.getElem_cons_zero]); go_simp; try with_reducible rfl)
  try simp only [Act.put, List.getElem_toArray, List.getElem_cons_succ, List.getElem_cons_zero, List.setIfInBounds_toArray, List.set_cons_zero, List.set_cons_succ]
  refine wpAnyH_take (i := 22) (v := ?_) rfl (by kernel_rfl) (by kernel_rfl) (by kernel_rfl) (fun _ _ _ h => h) (Or.inl ⟨by rfl, ?_⟩) hHeld ?_
  rotate_left
  · (intro W hSw; (try dsimp only at hSw); (try simp only [List.getElem_toArray, List.getElem_cons_succ, List.getElem_cons_zero]); go_simp; try with_reducible rfl)
  try simp only [Act.put, List.getElem_toArray, List.getElem_cons_succ, List.getElem_cons_zero, List.setIfInBounds_toArray, List.set_cons_zero, List.set_cons_succ]
  refine wpAnyH_take (i := 23) (v := ?_) rfl (by kernel_rfl) (by kernel_rfl) (by kernel_rfl) (fun _ _ _ h => h) (Or.inl ⟨by rfl, ?_⟩) hHeld ?_
  rotate_left
  · (intro W hSw; (try dsimp only at hSw); (try simp only [List.getElem_toArray, List.getElem_cons_succ, List.getElem_cons_zero]); go_simp; try with_reducible rfl)
  try simp only [Act.put, List.getElem_toArray, List.getElem_cons_succ, List.getElem_cons_zero, List.setIfInBounds_toArray, List.set_cons_zero, List.set_cons_succ]
  refine wpAnyH_done (by kernel_rfl) ?_ _
  go_wp2_with (fail)
  clear k7 k3b k8 HZ
  clear c0
  clear c1
  clear c2
  clear c3
  clear c4
  clear c5
  clear c6
  clear c7
  go_loopw [9, 10, 11, 12, 13, 14, 15, 16, 40] (fun va vb vc vd ve vf vg vh i wr => ∃ (k : Nat) (S : S8), k ≤ 80 ∧ i = .int .i64 k ∧ Hid (S = rnds HK Wl s k) ∧ va = .int .u64 (S.a : Int) ∧ vb = .int .u64 (S.b : Int) ∧ vc = .int .u64 (S.c : Int) ∧ vd = .int .u64 (S.d : Int) ∧ ve = .int .u64 (S.e : Int) ∧ vf = .int .u64 (S.f : Int) ∧ vg = .int .u64 (S.g : Int) ∧ vh = .int .u64 (S.h : Int) ∧ Fr w wr [(g7 + 1, 73, us s.l), (g7, 75, us Wl), (w.heap.size, 73, us s.l)] [(w.heap.size + 1, 73, 8)]) (fun va vb vc vd ve vf vg vh i _ => 80 - (intOf i).toNat)
  case atStart => exact ⟨0, s, by omega, rfl, Lib.hid (rnds_zero _ _ _).symm, rfl, rfl, rfl, rfl, rfl, rfl, rfl, rfl, F5.out.drew⟩
  case round =>
    clear F5
    obtain ⟨k, S, hk, rfl, hS, rfl, rfl, rfl, rfl, rfl, rfl, rfl, rfl, hF⟩ := hrel
    have hSo : S.ok := by rw [hS.out]; exact rnds_ok HSO.out k
    by_cases hlt : k < 80
    · have hnx := rnds_succ HK Wl s k
      rw [← hS.out] at hnx
      obtain ⟨kk, ekk⟩ : ∃ q, q = HK.getD k 0 := ⟨_, rfl⟩
      obtain ⟨ww, eww⟩ : ∃ q, q = Wl.getD k 0 := ⟨_, rfl⟩
      have ck : wr.cell? ⟨gk, ok + k, none⟩ = some (.int .u64 (kk : Int)) := by rw [ekk, ← HKK.out k hlt]; exact hF.below.cell (p := ⟨gk, ok + k, none⟩) hgk
      have kw := hF.get (g := g7) (t := 75) (cs := us Wl) (by simp)
      have cw := kw.cell k
      rw [us_getD (by omega), ← eww] at cw
      rw [← ekk, ← eww] at hnx
      obtain ⟨a, b, c, d, e, f, g, h⟩ := S
      obtain ⟨la, lb, lc, ld, le, lf, lg, lh⟩ := hSo
      simp only at la lb lc ld le lf lg lh
      obtain ⟨t1, et1⟩ : ∃ q, q = turnN e 14 18 41 := ⟨_, rfl⟩
      have H1 := fun W => turned_any e 14 18 41 W le (by omega) (by omega) (by omega) (by omega) (by omega) (by omega)
      rw [← et1] at H1
      obtain ⟨t2, et2⟩ : ∃ q, q = turnN a 28 34 39 := ⟨_, rfl⟩
      have H2 := fun W => turned_any a 28 34 39 W la (by omega) (by omega) (by omega) (by omega) (by omega) (by omega)
      rw [← et2] at H2
      have H1 := Lib.hid H1
      have H2 := Lib.hid H2
      obtain ⟨p1, ep1⟩ : ∃ q, q = (h + t1) % 18446744073709551616 := ⟨_, rfl⟩
      have a1 := add_nat h t1
      rw [← ep1] at a1
      obtain ⟨ef, eef⟩ : ∃ q, q = e &&& f := ⟨_, rfl⟩
      have b1 := u64_and_nat e f le lf
      rw [← eef] at b1
      have lef : ef < 18446744073709551616 := by rw [eef]; exact and_lt le lf
      obtain ⟨ne, ene⟩ : ∃ q, q = 18446744073709551615 - e := ⟨_, rfl⟩
      have b0 := not_nat e le
      rw [← ene] at b0
      have lne : ne < 18446744073709551616 := by omega
      obtain ⟨ng, eng⟩ : ∃ q, q = ne &&& g := ⟨_, rfl⟩
      have b2 := u64_and_nat ne g lne lg
      rw [← eng] at b2
      have lng : ng < 18446744073709551616 := by rw [eng]; exact and_lt lne lg
      obtain ⟨ch, ech⟩ : ∃ q, q = ef ^^^ ng := ⟨_, rfl⟩
      have b3 := u64_xor_nat ef ng lef lng
      rw [← ech] at b3
      obtain ⟨p2, ep2⟩ : ∃ q, q = (p1 + ch) % 18446744073709551616 := ⟨_, rfl⟩
      have a2 := add_nat p1 ch
      rw [← ep2] at a2
      obtain ⟨p3, ep3⟩ : ∃ q, q = (p2 + kk) % 18446744073709551616 := ⟨_, rfl⟩
      have a3 := add_nat p2 kk
      rw [← ep3] at a3
      obtain ⟨x, ex⟩ : ∃ q, q = (p3 + ww) % 18446744073709551616 := ⟨_, rfl⟩
      have a4 := add_nat p3 ww
      rw [← ex] at a4
      obtain ⟨ab, eab⟩ : ∃ q, q = a &&& b := ⟨_, rfl⟩
      have b4 := u64_and_nat a b la lb
      rw [← eab] at b4
      have lab : ab < 18446744073709551616 := by rw [eab]; exact and_lt la lb
      obtain ⟨ac, eac⟩ : ∃ q, q = a &&& c := ⟨_, rfl⟩
      have b5 := u64_and_nat a c la lc
      rw [← eac] at b5
      have lac : ac < 18446744073709551616 := by rw [eac]; exact and_lt la lc
      obtain ⟨bc, ebc⟩ : ∃ q, q = b &&& c := ⟨_, rfl⟩
      have b6 := u64_and_nat b c lb lc
      rw [← ebc] at b6
      have lbc : bc < 18446744073709551616 := by rw [ebc]; exact and_lt lb lc
      obtain ⟨m1, em1⟩ : ∃ q, q = ab ^^^ ac := ⟨_, rfl⟩
      have b7 := u64_xor_nat ab ac lab lac
      rw [← em1] at b7
      have lm1 : m1 < 18446744073709551616 := by rw [em1]; exact xor_lt lab lac
      obtain ⟨mj, emj⟩ : ∃ q, q = m1 ^^^ bc := ⟨_, rfl⟩
      have b8 := u64_xor_nat m1 bc lm1 lbc
      rw [← emj] at b8
      obtain ⟨y, ey⟩ : ∃ q, q = (t2 + mj) % 18446744073709551616 := ⟨_, rfl⟩
      have a5 := add_nat t2 mj
      rw [← ey] at a5
      obtain ⟨z, ez⟩ : ∃ q, q = (x + y) % 18446744073709551616 := ⟨_, rfl⟩
      have a6 := add_nat x y
      rw [← ez] at a6
      obtain ⟨u, eu⟩ : ∃ q, q = (d + x) % 18446744073709551616 := ⟨_, rfl⟩
      have a7 := add_nat d x
      rw [← eu] at a7
      have hch : chN e f g = ch := by rw [ech, eef, eng, ene]; unfold chN; rfl
      have hmj : majN a b c = mj := by rw [emj, em1, eab, eac, ebc]; unfold majN; rfl
      have hxx : x = xN kk ww ⟨a, b, c, d, e, f, g, h⟩ := by unfold xN; rw [ex, ep3, ep2, ep1, et1, ← hch]
      have hyy : y = yN ⟨a, b, c, d, e, f, g, h⟩ := by unfold yN; rw [ey, et2, ← hmj]
      rw [rnd_eq kk ww _ x y z u hxx hyy ez eu] at hnx
      have HNX := Lib.hid hnx
      have HF := Lib.hid hF
      clear ene hnx hF hS ekk eww et1 et2 ep1 eef eng ech ep2 ep3 ex eab eac ebc em1 emj ey ez eu hch hmj hxx hyy kw
      go_wp2_with (fail)
      refine wp_region_held_drew (S := fun W => W.cell? ⟨gk, ok + k, none⟩ = some (.int .u64 (kk : Int)) ∧ W.cell? ⟨g7, k, none⟩ = some (.int .u64 (ww : Int))) (by kernel_rfl) ?_ (fun hHeld => ?_)
      · exact ⟨ck, cw⟩
      refine wpAnyH_take (i := 0) (v := ?_) rfl (by kernel_rfl) (by kernel_rfl) (by kernel_rfl) (fun _ _ _ h => h) (Or.inl ⟨by rfl, ?_⟩) hHeld ?_
      rotate_left
      · (intro W hSw; (try dsimp only at hSw); (try simp only [List.getElem_toArray, List.getElem_cons_succ, List.getElem_cons_zero]); go_simp; try with_reducible rfl)
      try simp only [Act.put, List.getElem_toArray, List.getElem_cons_succ, List.getElem_cons_zero, List.setIfInBounds_toArray, List.set_cons_zero, List.set_cons_succ]
      refine wpAnyH_take (i := 1) (v := ?_) rfl (by kernel_rfl) (by kernel_rfl) (by kernel_rfl) (fun _ _ _ h => h) (Or.inl ⟨by rfl, ?_⟩) hHeld ?_
      rotate_left
      · (intro W hSw; (try dsimp only at hSw); (try simp only [List.getElem_toArray, List.getElem_cons_succ, List.getElem_cons_zero]); go_simp; try with_reducible rfl)
      try simp only [Act.put, List.getElem_toArray, List.getElem_cons_succ, List.getElem_cons_zero, List.setIfInBounds_toArray, List.set_cons_zero, List.set_cons_succ]
      refine wpAnyH_take (i := 4) (v := ?_) rfl (by kernel_rfl) (by kernel_rfl) (by kernel_rfl) (fun _ _ _ h => h) (Or.inl ⟨by rfl, ?_⟩) hHeld ?_
      rotate_left
      · (intro W hSw; (try dsimp only at hSw); (try simp only [List.getElem_toArray, List.getElem_cons_succ, List.getElem_cons_zero]); go_simp; try with_reducible rfl)
      try simp only [Act.put, List.getElem_toArray, List.getElem_cons_succ, List.getElem_cons_zero, List.setIfInBounds_toArray, List.set_cons_zero, List.set_cons_succ]
      refine wpAnyH_take (i := 5) (v := ?_) rfl (by kernel_rfl) (by kernel_rfl) (by kernel_rfl) (fun _ _ _ h => h) (Or.inl ⟨by rfl, ?_⟩) hHeld ?_
      rotate_left
      · (intro W hSw; (try dsimp only at hSw); (try simp only [List.getElem_toArray, List.getElem_cons_succ, List.getElem_cons_zero]); go_simp; try with_reducible rfl)
      try simp only [Act.put, List.getElem_toArray, List.getElem_cons_succ, List.getElem_cons_zero, List.setIfInBounds_toArray, List.set_cons_zero, List.set_cons_succ]
      refine wpAnyH_take (i := 6) (v := ?_) rfl (by kernel_rfl) (by kernel_rfl) (by kernel_rfl) (fun _ _ _ h => h) (Or.inl ⟨by rfl, ?_⟩) hHeld ?_
      rotate_left
      · (intro W hSw; (try dsimp only at hSw); (try simp only [List.getElem_toArray, List.getElem_cons_succ, List.getElem_cons_zero]); go_simp; try with_reducible rfl)
      try simp only [Act.put, List.getElem_toArray, List.getElem_cons_succ, List.getElem_cons_zero, List.setIfInBounds_toArray, List.set_cons_zero, List.set_cons_succ]
      refine wpAnyH_take (i := 7) (v := ?_) rfl (by kernel_rfl) (by kernel_rfl) (by kernel_rfl) (fun _ _ _ h => h) (Or.inl ⟨by rfl, ?_⟩) hHeld ?_
      rotate_left
      · (intro W hSw; (try dsimp only at hSw); (try simp only [List.getElem_toArray, List.getElem_cons_succ, List.getElem_cons_zero]); go_simp; try with_reducible rfl)
      try simp only [Act.put, List.getElem_toArray, List.getElem_cons_succ, List.getElem_cons_zero, List.setIfInBounds_toArray, List.set_cons_zero, List.set_cons_succ]
      refine wpAnyH_take (i := 8) (v := ?_) rfl (by kernel_rfl) (by kernel_rfl) (by kernel_rfl) (fun _ _ _ h => h) (Or.inl ⟨by rfl, ?_⟩) hHeld ?_
      rotate_left
      · (intro W hSw; (try dsimp only at hSw); (try simp only [List.getElem_toArray, List.getElem_cons_succ, List.getElem_cons_zero]); go_simp; try with_reducible rfl)
      try simp only [Act.put, List.getElem_toArray, List.getElem_cons_succ, List.getElem_cons_zero, List.setIfInBounds_toArray, List.set_cons_zero, List.set_cons_succ]
      refine wpAnyH_take (i := 9) (v := ?_) rfl (by kernel_rfl) (by kernel_rfl) (by kernel_rfl) (fun _ _ _ h => h) (Or.inl ⟨by rfl, ?_⟩) hHeld ?_
      rotate_left
      · (intro W hSw; (try dsimp only at hSw); (try simp only [List.getElem_toArray, List.getElem_cons_succ, List.getElem_cons_zero]); go_simp; try with_reducible rfl)
      try simp only [Act.put, List.getElem_toArray, List.getElem_cons_succ, List.getElem_cons_zero, List.setIfInBounds_toArray, List.set_cons_zero, List.set_cons_succ]
      refine wpAnyH_take (i := 10) (v := ?_) rfl (by kernel_rfl) (by kernel_rfl) (by kernel_rfl) (fun _ _ _ h => h) (Or.inl ⟨by rfl, ?_⟩) hHeld ?_
      rotate_left
      · (intro W hSw; (try dsimp only at hSw); (try simp only [List.getElem_toArray, List.getElem_cons_succ, List.getElem_cons_zero]); go_simp; try with_reducible rfl)
      try simp only [Act.put, List.getElem_toArray, List.getElem_cons_succ, List.getElem_cons_zero, List.setIfInBounds_toArray, List.set_cons_zero, List.set_cons_succ]
      refine wpAnyH_take (i := 11) (v := ?_) rfl (by kernel_rfl) (by kernel_rfl) (by kernel_rfl) (fun _ _ _ h => h) (Or.inl ⟨by rfl, ?_⟩) hHeld ?_
      rotate_left
      · (intro W hSw; (try dsimp only at hSw); (try simp only [List.getElem_toArray, List.getElem_cons_succ, List.getElem_cons_zero]); go_simp; try with_reducible rfl)
      try simp only [Act.put, List.getElem_toArray, List.getElem_cons_succ, List.getElem_cons_zero, List.setIfInBounds_toArray, List.set_cons_zero, List.set_cons_succ]
      refine wpAnyH_take (i := 13) (v := ?_) rfl (by kernel_rfl) (by kernel_rfl) (by kernel_rfl) (fun _ _ _ h => h) (Or.inl ⟨by rfl, ?_⟩) hHeld ?_
      rotate_left
      · (intro W hSw; (try dsimp only at hSw); (try simp only [List.getElem_toArray, List.getElem_cons_succ, List.getElem_cons_zero]); go_simp; try with_reducible rfl)
      try simp only [Act.put, List.getElem_toArray, List.getElem_cons_succ, List.getElem_cons_zero, List.setIfInBounds_toArray, List.set_cons_zero, List.set_cons_succ]
      refine wpAnyH_take (i := 14) (v := ?_) rfl (by kernel_rfl) (by kernel_rfl) (by kernel_rfl) (fun _ _ _ h => h) (Or.inl ⟨by rfl, ?_⟩) hHeld ?_
      rotate_left
      · (intro W hSw; (try dsimp only at hSw); (try simp only [List.getElem_toArray, List.getElem_cons_succ, List.getElem_cons_zero]); go_simp; try with_reducible rfl)
      try simp only [Act.put, List.getElem_toArray, List.getElem_cons_succ, List.getElem_cons_zero, List.setIfInBounds_toArray, List.set_cons_zero, List.set_cons_succ]
      refine wpAnyH_take (i := 15) (v := ?_) rfl (by kernel_rfl) (by kernel_rfl) (by kernel_rfl) (fun _ _ _ h => h) (Or.inl ⟨by rfl, ?_⟩) hHeld ?_
      rotate_left
      · (intro W hSw; (try dsimp only at hSw); (try simp only [List.getElem_toArray, List.getElem_cons_succ, List.getElem_cons_zero]); go_simp; try with_reducible rfl)
      try simp only [Act.put, List.getElem_toArray, List.getElem_cons_succ, List.getElem_cons_zero, List.setIfInBounds_toArray, List.set_cons_zero, List.set_cons_succ]
      refine wpAnyH_take (i := 16) (v := ?_) rfl (by kernel_rfl) (by kernel_rfl) (by kernel_rfl) (fun _ _ _ h => h) (Or.inl ⟨by rfl, ?_⟩) hHeld ?_
      rotate_left
      · (intro W hSw; (try dsimp only at hSw); (try simp only [List.getElem_toArray, List.getElem_cons_succ, List.getElem_cons_zero]); go_simp; try with_reducible rfl)
      try simp only [Act.put, List.getElem_toArray, List.getElem_cons_succ, List.getElem_cons_zero, List.setIfInBounds_toArray, List.set_cons_zero, List.set_cons_succ]
      refine wpAnyH_take (i := 17) (v := ?_) rfl (by kernel_rfl) (by kernel_rfl) (by kernel_rfl) (fun _ _ _ h => h) (Or.inl ⟨by rfl, ?_⟩) hHeld ?_
      rotate_left
      · (intro W hSw; (try dsimp only at hSw); (try simp only [List.getElem_toArray, List.getElem_cons_succ, List.getElem_cons_zero]); go_simp; try with_reducible rfl)
      try simp only [Act.put, List.getElem_toArray, List.getElem_cons_succ, List.getElem_cons_zero, List.setIfInBounds_toArray, List.set_cons_zero, List.set_cons_succ]
      refine wpAnyH_take (i := 19) (v := ?_) rfl (by kernel_rfl) (by kernel_rfl) (by kernel_rfl) (fun _ _ _ h => h) (Or.inl ⟨by rfl, ?_⟩) hHeld ?_
      rotate_left
      · (intro W hSw; (try dsimp only at hSw); (try simp only [List.getElem_toArray, List.getElem_cons_succ, List.getElem_cons_zero]); go_simp; try with_reducible rfl)
      try simp only [Act.put, List.getElem_toArray, List.getElem_cons_succ, List.getElem_cons_zero, List.setIfInBounds_toArray, List.set_cons_zero, List.set_cons_succ]
      refine wpAnyH_take (i := 20) (v := ?_) rfl (by kernel_rfl) (by kernel_rfl) (by kernel_rfl) (fun _ _ _ h => h) (Or.inl ⟨by rfl, ?_⟩) hHeld ?_
      rotate_left
      · (intro W hSw; (try dsimp only at hSw); (try simp only [List.getElem_toArray, List.getElem_cons_succ, List.getElem_cons_zero]); go_simp; try with_reducible rfl)
      try simp only [Act.put, List.getElem_toArray, List.getElem_cons_succ, List.getElem_cons_zero, List.setIfInBounds_toArray, List.set_cons_zero, List.set_cons_succ]
      refine wpAnyH_take (i := 21) (v := ?_) rfl (by kernel_rfl) (by kernel_rfl) (by kernel_rfl) (fun _ _ _ h => h) (Or.inl ⟨by rfl, ?_⟩) hHeld ?_
      rotate_left
      · (intro W hSw; (try dsimp only at hSw); (try simp only [List.getElem_toArray, List.getElem_cons_succ, List.getElem_cons_zero]); go_simp; try with_reducible rfl)
      try simp only [Act.put, List.getElem_toArray, List.getElem_cons_succ, List.getElem_cons_zero, List.setIfInBounds_toArray, List.set_cons_zero, List.set_cons_succ]
      refine wpAnyH_ready (rs := [2]) (by kernel_rfl) (by simp) (AllReadyH.cons rfl (fun K hK => ?_) AllReadyH.nil)
      have h0 := hHeld
      clear hHeld
      try simp only [List.getElem_toArray, List.getElem_cons_succ, List.getElem_cons_zero]
      go_simp
      go_at_call 79
      refine (H1.out _).mono ?_
      rintro e vv ⟨rfl, rfl⟩
      go_wp2_with (fail)
      refine hK.out _ _ h0 (fun hHeld => ?_)
      clear hK K h0
      try simp only [Act.put, List.getElem_toArray, List.getElem_cons_succ, List.getElem_cons_zero, List.setIfInBounds_toArray, List.set_cons_zero, List.set_cons_succ]
      refine wpAnyH_take (i := 3) (v := ?_) rfl (by kernel_rfl) (by kernel_rfl) (by kernel_rfl) (fun _ _ _ h => h) (Or.inl ⟨by rfl, ?_⟩) hHeld ?_
      rotate_left
      · (intro W hSw; (try dsimp only at hSw); (try simp only [List.getElem_toArray, List.getElem_cons_succ, List.getElem_cons_zero]); go_simp; try with_reducible rfl)
      try simp only [Act.put, List.getElem_toArray, List.getElem_cons_succ, List.getElem_cons_zero, List.setIfInBounds_toArray, List.set_cons_zero, List.set_cons_succ]
      refine wpAnyH_take (i := 12) (v := ?_) rfl (by kernel_rfl) (by kernel_rfl) (by kernel_rfl) (fun _ _ _ h => h) (Or.inl ⟨by rfl, ?_⟩) hHeld ?_
      rotate_left
      · (intro W hSw; (try dsimp only at hSw); (try simp only [List.getElem_toArray, List.getElem_cons_succ, List.getElem_cons_zero]); go_simp; try with_reducible rfl)
      try simp only [Act.put, List.getElem_toArray, List.getElem_cons_succ, List.getElem_cons_zero, List.setIfInBounds_toArray, List.set_cons_zero, List.set_cons_succ]
      refine wpAnyH_take (i := 18) (v := ?_) rfl (by kernel_rfl) (by kernel_rfl) (by kernel_rfl) (fun _ _ _ h => h) (Or.inl ⟨by rfl, ?_⟩) hHeld ?_
      rotate_left
      · (intro W hSw; (try dsimp only at hSw); (try simp only [List.getElem_toArray, List.getElem_cons_succ, List.getElem_cons_zero]); go_simp; try with_reducible rfl)
      try simp only [Act.put, List.getElem_toArray, List.getElem_cons_succ, List.getElem_cons_zero, List.setIfInBounds_toArray, List.set_cons_zero, List.set_cons_succ]
      refine wpAnyH_take (i := 22) (v := ?_) rfl (by kernel_rfl) (by kernel_rfl) (by kernel_rfl) (fun _ _ _ h => h) (Or.inl ⟨by rfl, ?_⟩) hHeld ?_
      rotate_left
      · (intro W hSw; (try dsimp only at hSw); (try simp only [List.getElem_toArray, List.getElem_cons_succ, List.getElem_cons_zero]); go_simp; try with_reducible rfl)
      try simp only [Act.put, List.getElem_toArray, List.getElem_cons_succ, List.getElem_cons_zero, List.setIfInBounds_toArray, List.set_cons_zero, List.set_cons_succ]
      refine wpAnyH_take (i := 23) (v := ?_) rfl (by kernel_rfl) (by kernel_rfl) (by kernel_rfl) (fun _ _ _ h => h) (Or.inl ⟨by rfl, ?_⟩) hHeld ?_
      rotate_left
      · (intro W hSw; (try dsimp only at hSw); (try simp only [List.getElem_toArray, List.getElem_cons_succ, List.getElem_cons_zero]); go_simp; try with_reducible rfl)
      try simp only [Act.put, List.getElem_toArray, List.getElem_cons_succ, List.getElem_cons_zero, List.setIfInBounds_toArray, List.set_cons_zero, List.set_cons_succ]
      refine wpAnyH_done (by kernel_rfl) ?_ _
      go_wp2_with (fail)
      refine (H2.out _).mono ?_
      rintro e9 vv ⟨rfl, rfl⟩
      go_wp2_with (fail)
      go_round
      case rel => exact ⟨k + 1, ⟨z, a, b, c, u, e, f, g⟩, by omega, by go_num, Lib.hid HNX.out.symm, rfl, rfl, rfl, rfl, rfl, rfl, rfl, rfl, HF.out.drew⟩
      case measure => simp [intOf]; omega
    · have hkE : k = 80 := by omega
      have hS8 := hS.out
      rw [hkE] at hS8
      have kS0 := hF.get (g := g7 + 1) (t := 73) (cs := us s.l) (by simp)
      have f1 := hF.setRowHead (by simp <;> omega) (by simp <;> omega) (us S.l) (by omega)
      have F1 := Lib.hid f1
      have HKE := Lib.hid hkE
      have HS8 := Lib.hid hS8
      have ebl : us S.l = #[.int .u64 (S.a : Int), .int .u64 (S.b : Int), .int .u64 (S.c : Int), .int .u64 (S.d : Int), .int .u64 (S.e : Int), .int .u64 (S.f : Int), .int .u64 (S.g : Int), .int .u64 (S.h : Int)] := rfl
      have HE := Lib.hid ebl
      clear hS hF f1 hkE hS8 ebl
      go_wp2_with (first | (refine wpList_store_row rfl 73 (.tmp 8) (.tmp 101) rfl (g7 + 1) (us S.l) rfl (by rw [HE.out]; rfl) 73 _ kS0 (info_us size_hst rfl) rfl (us_one _) ?_))
      clear kS0
      go_loopw [102] (fun i wr => ∃ j : Nat, j ≤ 8 ∧ i = .int .i64 j ∧ Fr w wr [(g7 + 1, 73, us (addl S.l s.l j)), (w.heap.size, 73, us s.l)] [(w.heap.size + 1, 73, 8)]) (fun i _ => 8 - (intOf i).toNat)
      case atStart => exact ⟨0, by omega, rfl, by rw [addl_zero]; exact F1.out.sub (by simp) (by simp)⟩
      case round =>
        clear F1
        obtain ⟨j, hj, rfl, hF⟩ := hrel
        have hal : (addl S.l s.l j).length = 8 := addl_len _ _ j
        by_cases hlt : j < 8
        · have hnx := addl_succ S.l s.l j
          have hgt := addl_get S.l s.l j j (Nat.le_refl _)
          have kp := hF.get (g := g7 + 1) (t := 73) (cs := us (addl S.l s.l j)) (by simp)
          have kq := hF.get (g := w.heap.size) (t := 73) (cs := us s.l) (by simp)
          have cp := kp.cell j
          rw [us_getD (by omega), hgt] at cp
          have cq := kq.cell j
          rw [us_getD (show j < s.l.length from hlt)] at cq
          have z1 := kp.frozen j
          obtain ⟨x, ex⟩ : ∃ q, q = (S.l.getD j 0 + s.l.getD j 0) % 18446744073709551616 := ⟨_, rfl⟩
          have a1 := add_nat (S.l.getD j 0) (s.l.getD j 0)
          rw [← ex] at a1 hnx
          have f2 := hF.setHead (by simp <;> omega) (by simp <;> omega) j (.int .u64 (x : Int)) (by omega)
          rw [us_set, ← hnx] at f2
          have F2 := Lib.hid f2
          clear ex f2 hF hnx hgt kq
          generalize S.l.getD j 0 = v1 at *
          generalize s.l.getD j 0 = v2 at *
          go_wp2_with (fail)
          go_region
          go_wp2_with (fail)
          go_round
          case rel => exact ⟨j + 1, by omega, by go_num, F2.out.drew⟩
          case measure => simp [intOf]; omega
        · have e8 : addl S.l s.l j = R.l := by rw [show j = 8 by omega, HR.out, ← HS8.out]; exact addl_eight S s
          rw [e8] at hF
          have k1 := hF.get (g := g7 + 1) (t := 73) (cs := us R.l) (by simp)
          obtain ⟨old, ho, k0⟩ := hF.old (g := w.heap.size + 1) (t := 73) (n := 8) (by simp)
          have kS := k0.setRow_same (us R.l)
          have hB := below_setRow hF.below (show w.heap.size ≤ w.heap.size + 1 by omega) (us R.l)
          have ho' : old.size = (us R.l).size := by rw [ho]; rfl
          have KS := Lib.hid kS
          have HB := Lib.hid hB
          have HO := Lib.hid ho'
          clear hF kS hB ho ho' e8 hal
          go_wp2_with (first | (refine wpList_load_row rfl 73 (.tmp 8) rfl (g7 + 1) rfl 73 (us R.l) (0, 0) _ k1 Tryd.underlying73 rfl (info_us size_hst rfl) ?_) | (refine wpList_store_row rfl 73 (.tmp 6) (.tmp 114) rfl (w.heap.size + 1) (us R.l) rfl rfl 73 old k0 (info_us size_hst rfl) HO.out (us_one _) ?_))
          exact row_end (n0 := 8) rfl size_hst rfl rfl rfl rfl KS.out HB.out
end Go.Proofs.YtpagiffbjofihaaDoor.Sha
namespace Go.Proofs.YtpagiffbjofihaaDoor.Sha
set_option linter.unusedVariables false
set_option linter.unusedSimpArgs false
open Go Go.RowKit
theorem _root_.Go.Proofs.YtpagiffbjofihaaDoor.Fr.grownHead {w W W' : World} {L : List (Nat × TypeId × Array Value)} {R : List (Nat × TypeId × Nat)} {g : Nat} {t : TypeId} {cs cs' : Array Value} (h : Fr w W ((g, t, cs) :: L) R) (hg : W.grownBy W' (some g)) (hb : Blk W' g t cs') (hw : w.heap.size ≤ g) (hL : ∀ p ∈ L, p.1 ≠ g) (hR : ∀ p ∈ R, p.1 ≠ g) :
    Fr w W' ((g, t, cs') :: L) R := by
  refine ⟨h.below.grown hg h.below.size (by rintro k hk; cases hk; exact hw), fun p hp => ?_, fun p hp => ?_, h.own⟩
  · rcases List.mem_cons.1 hp with rfl | hp
    · exact hb
    · exact (h.rows p (by simp [hp])).row hg (hL p hp)
  · obtain ⟨c, e, k⟩ := h.some_ p hp
    exact ⟨c, e, k.row hg (hR p hp)⟩
/-- The lowest j bytes of a word, the highest first. -/
def lowb (x : Nat) : Nat → List Nat
  | 0 => []
  | j + 1 => (x / 256 ^ j % 256) :: lowb x j
theorem lowb_eight (x : Nat) : lowb x 8 = b8 x := by simp [lowb, b8]
theorem putC_list (l : List Nat) (o x : Nat) (h : o + 8 ≤ l.length) : ∀ j, j ≤ 8 → putC (ncs .u8 l) o x j = ncs .u8 (l.take (o + 8 - j) ++ (lowb x j ++ l.drop (o + 8)))
  | 0, _ => by rw [putC, lowb, List.nil_append, Nat.sub_zero, List.take_append_drop]
  | j + 1, hj => by
    rw [putC, putC_list l o x h j (by omega), ncs_set]
    congr 1
    have e : o + 8 - j = (o + 8 - (j + 1)) + 1 := by omega
    have e1 : (l.take (o + 8 - (j + 1))).length = o + 7 - j := by simp; omega
    rw [e, List.take_succ_eq_append_getElem (show o + 8 - (j + 1) < l.length by omega), List.append_assoc, List.set_append_right _ _ (by omega), e1, Nat.sub_self]
    rfl
theorem put_list (l : List Nat) (o x : Nat) (h : o + 8 ≤ l.length) : putC (ncs .u8 l) o x 8 = ncs .u8 (l.take o ++ (b8 x ++ l.drop (o + 8))) := by
  rw [putC_list l o x h 8 (by omega), lowb_eight, show o + 8 - 8 = o by omega]
theorem bytes_at {l : List Nat} {i : Nat} (h : i < l.length) : ∃ y : Int, (ncs .u8 l)[i]? = some (.int .u8 y) := ⟨_, by rw [ncs_get, List.getElem?_eq_getElem h]; rfl⟩
theorem b8_len (x : Nat) : (b8 x).length = 8 := rfl
/-- The first k words' bytes, then noughts. -/
def rowN (l : List Nat) (k : Nat) : List Nat := (l.take k).flatMap b8 ++ List.replicate (64 - 8 * k) 0
theorem flat_len (l : List Nat) : (l.flatMap b8).length = 8 * l.length := by
  induction l with
  | nil => rfl
  | cons x l ih => rw [List.flatMap_cons, List.length_append, ih, b8_len, List.length_cons]; omega
theorem rowN_len {l : List Nat} (h : l.length = 8) {k : Nat} (hk : k ≤ 8) : (rowN l k).length = 64 := by
  rw [rowN, List.length_append, flat_len, List.length_take, List.length_replicate]; omega
def z64 : List Nat := List.replicate 64 0
theorem z64_len : z64.length = 64 := rfl
theorem rowN_zero (l : List Nat) : rowN l 0 = z64 := by simp [rowN, z64]
theorem rowN_step {l : List Nat} (h : l.length = 8) {k : Nat} (hk : k < 8) : (rowN l k).take (8 * k) ++ (b8 (l.getD k 0) ++ (rowN l k).drop (8 * k + 8)) = rowN l (k + 1) := by
  have h1 : ((l.take k).flatMap b8).length = 8 * k := by rw [flat_len, List.length_take]; omega
  have h2 : l.take (k + 1) = l.take k ++ [l.getD k 0] := by rw [List.take_succ_eq_append_getElem (by omega)]; simp [List.getD, show k < l.length by omega]
  unfold rowN
  rw [List.take_append_of_le_length (by omega), List.take_of_length_le (by omega), List.drop_append, h2, List.flatMap_append, List.drop_of_length_le (by omega), h1, List.drop_replicate]
  simp only [List.flatMap_cons, List.flatMap_nil, List.append_nil, List.nil_append, List.append_assoc]
  congr 3
  omega
theorem rowN_full (S : S8) : rowN S.l 8 = outS S := by simp [rowN, outS, S8.l]
theorem zero_long (w : World) : (zeroValue 27).run Tryd.prog w = .ok (.agg (ncs .u8 z64)) w := by kernel_rfl
theorem size_long : (Tryd.prog.info? 27).map (·.size) = some 64 := by kernel_rfl
theorem size_u64o (w : World) : (sizeOf 36).run Tryd.prog w = .ok 1 w := by kernel_rfl
/-- A call that answers a row of bytes. -/
def BytesRow (l : List Nat) (w : World) (e : Ending) (w' : World) : Prop := e = .returned (.agg (ncs .u8 l)) ∧ Below w.heap.size w w'
/-- 'a[i:j]' of an array of bytes that lies at an address. -/
theorem slice_arr (t : TypeId) (n : Nat) (ht : Tryd.prog.underlying t = some (.array n 5)) (g o i j : Nat) (hi : i < n) (hij : i ≤ j) (hj : j ≤ n) (W : World) :
    (Instr.sliceAt t (.pointer (some ⟨g, o, none⟩)) (some (.int .i64 (i : Int))) (some (.int .i64 (j : Int))) none).run Tryd.prog W = .ok (.slice (some ⟨g, o + i, none⟩) (j - i) (n - i)) W := by
  have h1 : Tryd.prog.arrayLen t = n := by simp [Program.arrayLen, ht]
  have h2 : Tryd.prog.elem t = 5 := by simp [Program.elem, ht]
  rw [run_sliceAt_array_lh W t _ (by rw [h1, h2]; exact ht) _ _ _ _ (by omega) (by omega) (by rw [h1]; omega), h1, h2, size_u8 info_u8h]
  simp only [Result.andThen, slicedAt, Int.toNat_natCast, Nat.mul_one, Addr.add_lit]
  rw [if_neg (by omega)]
attribute [local irreducible] b8 rowN outS z64
set_option maxRecDepth 100000 in
set_option maxHeartbeats 4000000 in
theorem hash_any (S : S8) (w : World) (hS : S.ok) : Calls Tryd.prog 50 #[.agg (us S.l)] w (BytesRow (outS S) w) := by
  obtain ⟨R, hR⟩ : ∃ q, q = outS S := ⟨_, rfl⟩
  rw [← hR]
  have HR := Lib.hid hR
  clear hR
  have hz64 : ∀ W : World, (zeroValue 27).run Tryd.prog W = .ok (.agg (ncs .u8 z64)) W := zero_long
  have f0 := ((Fr.start w).row (us S.l) 73 (g := w.heap.size) rfl).any (ncs .u8 z64) 27 64 (by rw [ncs_size, z64_len]) (g := w.heap.size + 1) (by simp)
  have f1 := f0.row (ncs .u8 z64) 27 (g := w.heap.size + 1 + 1) (by simp)
  have k1 := f1.get (g := w.heap.size) (t := 73) (cs := us S.l) (by simp)
  have hlt8 : ∀ x ∈ S.l, x < 18446744073709551616 := by
    obtain ⟨h1, h2, h3, h4, h5, h6, h7, h8⟩ := hS
    intro x hx
    simp only [S8.l, List.mem_cons, List.not_mem_nil, or_false] at hx
    rcases hx with rfl | rfl | rfl | rfl | rfl | rfl | rfl | rfl <;> assumption
  have F1 := Lib.hid f1
  have HLT := Lib.hid hlt8
  have hl8 : S.l.length = 8 := rfl
  have hend := rowN_full S
  have HEND := Lib.hid hend
  clear f0 f1 hlt8 hend hS
  generalize S.l = L at *
  go_enter Tryd.func50, Tryd.ntmps50
  go_wp2_with (first | (refine wpList_load_row rfl 73 (.tmp 1) rfl (w.heap.size) rfl 73 (us L) (0, 0) _ k1 Tryd.underlying73 rfl (info_us size_hst hl8) ?_))
  clear k1
  go_loopw [7] (fun i wr => ∃ k : Nat, k ≤ 8 ∧ i = .int .i64 k ∧ Fr w wr [(w.heap.size + 1 + 1, 27, ncs .u8 (rowN L k))] [(w.heap.size + 1, 27, 64)]) (fun i _ => 8 - (intOf i).toNat)
  case atStart => exact ⟨0, by omega, rfl, by rw [rowN_zero]; exact F1.out.sub (by simp) (by simp)⟩
  case round =>
    clear F1
    obtain ⟨k, hk, rfl, hF⟩ := hrel
    by_cases hlt : k < 8
    · have hrl := rowN_len hl8 hk
      have hx : L[k]? = some (L.getD k 0) := by simp [List.getD, show k < L.length by omega]
      have hxl := HLT.out _ (getD_mem (show k < L.length by omega))
      have hix := fun W => run_index_nats (P := Tryd.prog) W 73 36 8 .u64 Tryd.underlying73 Tryd.underlying36 size_u64o L k _ hlt hx
      have hix2 : ∀ W, (Instr.index 73 (.agg (us L)) (.int .i64 (k : Int))).run Tryd.prog W = .ok (.int .u64 ((L.getD k 0 : Nat) : Int)) W := hix
      have hst := rowN_step hl8 hlt
      have hpl := put_list (rowN L k) (8 * k) (L.getD k 0) (by omega)
      rw [hst] at hpl
      have kb := hF.get (g := w.heap.size + 1 + 1) (t := 27) (cs := ncs .u8 (rowN L k)) (by simp)
      have hput := hput_any (w.heap.size + 1 + 1) (8 * k) (64 - 8 * k) 27 _ (L.getD k 0) wr hxl (by omega) kb (fun i hi => bytes_at (by omega))
      rw [hpl] at hput
      generalize L.getD k 0 = x at *
      have HP := Lib.hid hput
      have HF := Lib.hid hF
      have hsl := fun W => slice_arr 27 64 Tryd.underlying27 (w.heap.size + 1 + 1) 0 (8 * k) (8 * k + 8) (by omega) (by omega) (by omega) W
      rw [show ((8 * k : Nat) : Int) = (k : Int) * 8 by omega, show ((8 * k + 8 : Nat) : Int) = ((k : Int) + 1) * 8 by omega, show 8 * k + 8 - 8 * k = 8 by omega, Nat.zero_add] at hsl
      clear hix hst hpl hx hxl kb hput hF hrl
      go_wp2_with (fail)
      refine HP.out.mono ?_
      rintro e v ⟨rfl, hb, hg⟩
      have f2 := HF.out.grownHead hg hb (by omega) (by simp) (by simp <;> omega)
      have F2 := Lib.hid f2
      clear f2 hb hg HF HP
      go_wp2_with (fail)
      go_round
      case rel => exact ⟨k + 1, by omega, by go_num, F2.out⟩
      case measure => simp [intOf]; omega
    · have e8 : rowN L k = R := by rw [show k = 8 by omega, HR.out]; exact HEND.out
      have hl64 : R.length = 64 := by rw [← e8]; exact rowN_len hl8 hk
      rw [e8] at hF
      have k1 := hF.get (g := w.heap.size + 1 + 1) (t := 27) (cs := ncs .u8 R) (by simp)
      obtain ⟨old, ho, k0⟩ := hF.old (g := w.heap.size + 1) (t := 27) (n := 64) (by simp)
      have kS := k0.setRow_same (ncs .u8 R)
      have hB := below_setRow hF.below (show w.heap.size ≤ w.heap.size + 1 by omega) (ncs .u8 R)
      have KS := Lib.hid kS
      have HB := Lib.hid hB
      have HO := Lib.hid (show old.size = (ncs .u8 R).size by rw [ho, ncs_size, hl64])
      have HI := Lib.hid (show (Tryd.prog.info? 27).map (·.size) = some (ncs .u8 R).size by rw [ncs_size, hl64]; exact size_long)
      clear hF kS hB ho e8 HEND
      go_wp2_with (first | (refine wpList_load_row rfl 27 (.tmp 3) rfl (w.heap.size + 1 + 1) rfl 27 (ncs .u8 R) (0, 0) _ k1 Tryd.underlying27 rfl HI.out ?_) | (refine wpList_store_row rfl 27 (.tmp 2) (.tmp 20) rfl (w.heap.size + 1) (ncs .u8 R) rfl rfl 27 old k0 HI.out HO.out (ncs_one _ _) ?_))
      exact bodyPost_ret (results_cell_row rfl _ _ (w.heap.size + 1) 27 (ncs .u8 R) (0, 0) _ rfl KS.out Tryd.underlying27 rfl HI.out) rfl ⟨rfl, HB.out⟩
end Go.Proofs.YtpagiffbjofihaaDoor.Sha
namespace Go.Proofs.YtpagiffbjofihaaDoor.Sha
set_option linter.unusedVariables false
set_option linter.unusedSimpArgs false
open Go Go.RowKit
def zr (k : Nat) : List Nat := List.replicate k 0
theorem zr_len (k : Nat) : (zr k).length = k := by simp [zr]
theorem bvs_zr (k : Nat) : bvs (zeros k) = ncs .u8 (zr k) := by
  simp only [bvs, ncs, zeros, zr, List.map_replicate]
  rfl
theorem slice_lo (g o n c i : Nat) (hi : i < c) (hn : i ≤ n) (W : World) : (Instr.slice 24 (.slice (some ⟨g, o, none⟩) n c) (some (.int .i64 (i : Int))) none none).run Tryd.prog W = .ok (.slice (some ⟨g, o + i, none⟩) (n - i) (c - i)) W := by
  have hel : Tryd.prog.elem 24 = 5 := by simp [Program.elem, Tryd.underlying24]
  rw [run_slice_l W 24 _ n c (by rw [hel]; exact Tryd.underlying24) _ _ (by omega) (by omega), hel, size_u8 info_u8h]
  simp only [Result.andThen, sliced, Int.toNat_natCast, Nat.mul_one]
  rw [if_neg (by omega)]
  simp [Addr.add_lit]
theorem slice_hi (g o n c j : Nat) (hj : j ≤ c) (hc : 0 < c) (W : World) : (Instr.slice 24 (.slice (some ⟨g, o, none⟩) n c) none (some (.int .i64 (j : Int))) none).run Tryd.prog W = .ok (.slice (some ⟨g, o, none⟩) j c) W := by
  have hel : Tryd.prog.elem 24 = 5 := by simp [Program.elem, Tryd.underlying24]
  rw [run_slice_h W 24 _ n c (by rw [hel]; exact Tryd.underlying24) _ _ (by omega) (by omega), hel, size_u8 info_u8h]
  simp only [Result.andThen, sliced, Int.toNat_natCast, Nat.zero_mul, Nat.sub_zero]
  rw [if_neg (by omega)]
  simp [Addr.add_lit]
theorem pad_eq (n K hi lo : Nat) (hK : K = padL n) (h1 : hi = 8 * n / 18446744073709551616) (h2 : lo = 8 * n % 18446744073709551616) :
    ((((zr K).set 0 128).take (K - 16) ++ (b8 hi ++ ((zr K).set 0 128).drop (K - 16 + 8))).take (K - 8) ++ (b8 lo ++ (((zr K).set 0 128).take (K - 16) ++ (b8 hi ++ ((zr K).set 0 128).drop (K - 16 + 8))).drop (K - 8 + 8))) = pad n := by
  have h17 := padL_le n
  rw [← hK] at h17
  have e1 : (zr K).set 0 128 = 128 :: List.replicate (K - 1) 0 := by
    rw [zr, show K = (K - 1) + 1 by omega, List.replicate_succ]
    rfl
  have e2 : (128 :: List.replicate (K - 1) 0).take (K - 16) = 128 :: List.replicate (K - 17) 0 := by
    rw [show K - 16 = (K - 17) + 1 by omega, List.take_succ_cons, List.take_replicate]
    congr 2
    omega
  rw [e1, e2]
  have lD : (List.drop (K - 16 + 8) (128 :: List.replicate (K - 1) 0)).length = 8 := by rw [List.length_drop, List.length_cons, List.length_replicate]; omega
  generalize List.drop (K - 16 + 8) (128 :: List.replicate (K - 1) 0) = D at *
  have lA : (128 :: List.replicate (K - 17) 0).length = K - 16 := by rw [List.length_cons, List.length_replicate]; omega
  have hpad : pad n = (128 :: List.replicate (K - 17) 0) ++ (b8 hi ++ b8 lo) := by rw [pad, ← hK, h1, h2]; rfl
  rw [hpad]
  generalize 128 :: List.replicate (K - 17) 0 = A at *
  have l2 : (A ++ b8 hi).length = K - 8 := by rw [List.length_append, b8_len]; omega
  have t1 : (A ++ (b8 hi ++ D)).take (K - 8) = A ++ b8 hi := by rw [← List.append_assoc, List.take_append_of_le_length (by omega), List.take_of_length_le (by omega)]
  have t2 : (A ++ (b8 hi ++ D)).drop (K - 8 + 8) = [] := List.drop_of_length_le (by rw [← List.append_assoc, List.length_append, l2]; omega)
  rw [t1, t2, List.append_nil, List.append_assoc]
theorem put_len (l : List Nat) (o x : Nat) (h : o + 8 ≤ l.length) : (l.take o ++ (b8 x ++ l.drop (o + 8))).length = l.length := by
  rw [List.length_append, List.length_append, b8_len, List.length_take, List.length_drop]; omega
attribute [local irreducible] zr pad b8 padL
/-- A call that answers a slice of a block of its own. -/
def PadPost (l : List Nat) (w : World) (e : Ending) (w' : World) : Prop := e = .returned (.slice (some ⟨w.heap.size, 0, none⟩) l.length l.length) ∧ Blk w' w.heap.size 5 (ncs .u8 l) ∧ Below w.heap.size w w'
theorem padL_cases (n : Nat) : (128 - n % 128 < 17 ∧ padL n = 128 - n % 128 + 128) ∨ (¬ 128 - n % 128 < 17 ∧ padL n = 128 - n % 128) := by
  unfold padL
  split
  · exact Or.inl ⟨by assumption, rfl⟩
  · exact Or.inr ⟨by assumption, rfl⟩
set_option maxRecDepth 100000 in
set_option maxHeartbeats 4000000 in
theorem padding_any (n : Nat) (w : World) (hn : n < 18446744073709551616) : Calls Tryd.prog 49 #[.int .u64 n] w (PadPost (pad n) w) := by
  have h17 := padL_le n
  have hkk : padL n ≤ 300 := by rcases padL_cases n with h | h <;> omega
  have hcs := padL_cases n
  obtain ⟨K, eK⟩ : ∃ q, q = padL n := ⟨_, rfl⟩
  obtain ⟨hi, lo, hm, em, lm⟩ := mul64_ex n 8 hn (by omega)
  have hp := pad_eq n K hi lo eK (by omega) (by omega)
  have hpl := pad_len n
  rw [← eK] at h17 hkk hcs hpl
  generalize pad n = P at *
  have hmk := fun W => run_mkb (P := Tryd.prog) 24 5 Tryd.underlying24 info_u8h K (by omega) W
  simp only [bvs_zr] at hmk
  have q1 := fun W => slice_lo w.heap.size 0 K K (K - 16) (by omega) (by omega) W
  rw [Nat.zero_add, show K - (K - 16) = 16 by omega, show ((K - 16 : Nat) : Int) = (K : Int) - 16 by omega] at q1
  have q2 := fun W => slice_hi w.heap.size (K - 16) 16 16 8 (by omega) (by omega) W
  have q3 := fun W => slice_lo w.heap.size (K - 16) 16 16 8 (by omega) (by omega) W
  rw [show K - 16 + 8 = K - 8 by omega] at q3
  have f0 := (Fr.start w).row (ncs .u8 (zr K)) 5 (g := w.heap.size) rfl
  have k0 := f0.get (g := w.heap.size) (t := 5) (cs := ncs .u8 (zr K)) (by simp)
  have z0 := k0.frozen 0
  have c0 := k0.cell 0
  have hc0 : (ncs .u8 (zr K))[0]? = some (.int .u8 0) := by
    rw [ncs_get, zr, List.getElem?_replicate, if_pos (by omega)]
    rfl
  rw [hc0] at c0
  have f1 : Fr w (w.alloc (.cells ((ncs .u8 (zr K)).setIfInBounds 0 (.int .u8 128)) 5)) [(w.heap.size, 5, ncs .u8 ((zr K).set 0 128))] [] := by
    rw [← show (ncs .u8 (zr K)).setIfInBounds 0 (.int .u8 128) = ncs .u8 ((zr K).set 0 128) from ncs_set _ _ _ _]
    exact (Fr.start w).row _ 5 rfl
  have hz1 : ((zr K).set 0 128).length = K := by rw [List.length_set, zr_len]
  generalize (zr K).set 0 128 = L1 at *
  have k1 := f1.get (g := w.heap.size) (t := 5) (cs := ncs .u8 L1) (by simp)
  have p1 := hput_any w.heap.size (K - 16) 16 5 _ hi _ (by have := mul_lt_sq hn (show 8 < 18446744073709551616 by omega); omega) (by omega) k1 (fun i hi => bytes_at (by omega))
  rw [put_list _ _ _ (by omega)] at p1
  have hz2 := put_len L1 (K - 16) hi (by omega)
  generalize L1.take (K - 16) ++ (b8 hi ++ L1.drop (K - 16 + 8)) = L2 at *
  have HP1 := Lib.hid p1
  have HP := Lib.hid hp
  have F1 := Lib.hid f1
  have HM := Lib.hid hm
  have HZ1 := Lib.hid hz1
  clear p1 hp f0 f1 k1 hc0 hm em hz1 eK
  go_enter Tryd.func49, Tryd.ntmps49
  rcases hcs with ⟨d1, d2⟩ | ⟨d1, d2⟩
  · have hr : (128 : Int) - (n : Int) % 128 + 128 = (K : Int) := by omega
    clear d2
    go_wp2_with (fail)
    refine (HM.out _).mono ?_
    rintro e w' ⟨rfl, rfl⟩
    go_wp2_with (fail)
    refine HP1.out.mono ?_
    rintro e v1 ⟨rfl, kb1, hg1⟩
    have p2 := hput_any w.heap.size (K - 8) 8 5 _ lo v1 lm (by omega) kb1 (fun i hi => bytes_at (by have := HZ1.out; omega))
    rw [put_list _ _ _ (by have := HZ1.out; omega), HP.out, show K - 8 = K - 16 + 8 by omega] at p2
    have f2 := F1.out.grownHead hg1 kb1 (Nat.le_refl _) (by simp) (by simp)
    have F2 := Lib.hid f2
    have HP2 := Lib.hid p2
    clear p2 f2 kb1 hg1 F1 HP1
    go_wp2_with (fail)
    refine HP2.out.mono ?_
    rintro e v2 ⟨rfl, kb2, hg2⟩
    have f3 := F2.out.grownHead hg2 kb2 (Nat.le_refl _) (by simp) (by simp)
    have F3 := Lib.hid f3
    have KB := Lib.hid kb2
    clear f3 kb2 hg2 F2
    go_wp2_with (fail)
    go_ret
    exact ⟨by rw [hpl]; rfl, KB.out, F3.out.below⟩
  · have hr : (128 : Int) - (n : Int) % 128 = (K : Int) := by omega
    clear d2
    go_wp2_with (fail)
    refine (HM.out _).mono ?_
    rintro e w' ⟨rfl, rfl⟩
    go_wp2_with (fail)
    refine HP1.out.mono ?_
    rintro e v1 ⟨rfl, kb1, hg1⟩
    have p2 := hput_any w.heap.size (K - 8) 8 5 _ lo v1 lm (by omega) kb1 (fun i hi => bytes_at (by have := HZ1.out; omega))
    rw [put_list _ _ _ (by have := HZ1.out; omega), HP.out, show K - 8 = K - 16 + 8 by omega] at p2
    have f2 := F1.out.grownHead hg1 kb1 (Nat.le_refl _) (by simp) (by simp)
    have F2 := Lib.hid f2
    have HP2 := Lib.hid p2
    clear p2 f2 kb1 hg1 F1 HP1
    go_wp2_with (fail)
    refine HP2.out.mono ?_
    rintro e v2 ⟨rfl, kb2, hg2⟩
    have f3 := F2.out.grownHead hg2 kb2 (Nat.le_refl _) (by simp) (by simp)
    have F3 := Lib.hid f3
    have KB := Lib.hid kb2
    clear f3 kb2 hg2 F2
    go_wp2_with (fail)
    go_ret
    exact ⟨by rw [hpl]; rfl, KB.out, F3.out.below⟩
end Go.Proofs.YtpagiffbjofihaaDoor.Sha
