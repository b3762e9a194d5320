/- Layer 3's rest: what 512 bits say, modulo L. -/
import Derived.Test.YtpliddkdahgbpaaDoorSn
import Derived.Deep.RegionHeld3
import Derived.Deep.DeepCutAuto
import Derived.Deep.CutBlock
namespace Go.Proofs.YtpliddkdahgbpaaDoor
set_option linter.unusedVariables false
set_option linter.unusedSimpArgs false
open Go.RowKit

/-- L. -/
def LL : Nat := 7237005577332262213973186563042994240857116359379907606001950938285454250989
theorem LL_eq : LL = 7237005577332262213973186563042994240857116359379907606001950938285454250989 := rfl
theorem ws_LL : ws 4 LL = #[.int .u64 6346243789798364141, .int .u64 1503914060200516822, .int .u64 0, .int .u64 1152921504606846976] := by kernel_rfl
/-- The program's variable order holds L's words. -/
structure OG (w : World) : Prop where
  lt : 0 < w.heap.size
  c0 : w.cell? ⟨0, 0, none⟩ = some (.int .u64 6346243789798364141)
  c1 : w.cell? ⟨0, 1, none⟩ = some (.int .u64 1503914060200516822)
  c2 : w.cell? ⟨0, 2, none⟩ = some (.int .u64 0)
  c3 : w.cell? ⟨0, 3, none⟩ = some (.int .u64 1152921504606846976)
theorem OG.below {w w' : World} {B : Nat} (h : OG w) (hb : Below B w w') (hB : 0 < B) (hs : w.heap.size ≤ w'.heap.size) : OG w' :=
  ⟨Nat.lt_of_lt_of_le h.lt hs, (hb.cell (p := ⟨0, 0, none⟩) hB).trans h.c0, (hb.cell (p := ⟨0, 1, none⟩) hB).trans h.c1, (hb.cell (p := ⟨0, 2, none⟩) hB).trans h.c2, (hb.cell (p := ⟨0, 3, none⟩) hB).trans h.c3⟩
theorem OG.ext {w w' : World} (h : OG w) (hb : Below w.heap.size w w') : OG w' := h.below hb h.lt hb.size
theorem OG.drew {w : World} (h : OG w) : OG w.drew := ⟨h.1, h.2, h.3, h.4, h.5⟩
theorem OG.alloc {w : World} (h : OG w) (o : Obj) : OG (w.alloc o) := h.ext ((Below.refl _ _).alloc (Nat.le_refl _) _)
theorem Fr.og {w W : World} {L : List (Nat × TypeId × Array Value)} {R : List (Nat × TypeId × Nat)} (h : Fr w W L R) (hp : OG w) : OG W := hp.ext h.below

/-- What is left behind k bits. -/
def lf (n k : Nat) : Nat := n / 2 ^ (512 - k) % LL
theorem lf_lt (n k : Nat) : lf n k < LL := Nat.mod_lt _ (by rw [LL_eq]; omega)
theorem b8 {x : Nat} (h : x = 512) : (18446744073709551616 : Nat) ^ 8 = 2 ^ x := by
  have e : (18446744073709551616 : Nat) = 2 ^ 64 := by decide
  rw [e, ← Nat.pow_mul]
  have e2 : 64 * 8 = x := by omega
  rw [e2]
theorem lf_zero {n : Nat} (h : n < 18446744073709551616 ^ 8) : lf n 0 = 0 := by
  unfold lf
  generalize hx : 512 - 0 = x
  have e := b8 (x := x) (by omega)
  rw [Nat.div_eq_of_lt (by rw [← e]; exact h), Nat.zero_mod]
theorem lf_end (n : Nat) : lf n 512 = n % LL := by
  unfold lf
  rw [Nat.sub_self, Nat.pow_zero, Nat.div_one]
theorem lf_step (n k : Nat) (hk : k < 512) : (2 * lf n k + n / 2 ^ (511 - k) % 2) % LL = lf n (k + 1) := by
  unfold lf
  have h1 : 512 - (k + 1) = 511 - k := by omega
  have h2 : 512 - k = 511 - k + 1 := by omega
  have h3 : n / 2 ^ (511 - k) = 2 * (n / 2 ^ (511 - k + 1)) + n / 2 ^ (511 - k) % 2 := by
    rw [Nat.pow_succ, ← Nat.div_div_eq_div_mul]
    omega
  rw [h1, h2]
  conv => rhs; rw [h3]
  rw [Nat.add_mod, Nat.mul_mod, Nat.mod_mod, ← Nat.mul_mod, ← Nat.add_mod]
theorem lf_more {n k m : Nat} (hk : k < 512) (h : m + LL = 2 * lf n k + n / 2 ^ (511 - k) % 2 + 115792089237316195423570985008687907853269984665640564039457584007913129639936 * 0) : m = lf n (k + 1) := by
  have h1 := lf_step n k hk
  have h2 := lf_lt n k
  have h3 : n / 2 ^ (511 - k) % 2 < 2 := Nat.mod_lt _ (by omega)
  rw [Nat.mul_zero, Nat.add_zero] at h
  rw [← h, Nat.add_mod_right, Nat.mod_eq_of_lt (by omega)] at h1
  exact h1
theorem lf_less {n k m : Nat} (hk : k < 512) (hm : m < 115792089237316195423570985008687907853269984665640564039457584007913129639936) (h : m + LL = 2 * lf n k + n / 2 ^ (511 - k) % 2 + 115792089237316195423570985008687907853269984665640564039457584007913129639936 * 1) : 2 * lf n k + n / 2 ^ (511 - k) % 2 = lf n (k + 1) := by
  have h1 := lf_step n k hk
  rw [Nat.mod_eq_of_lt (by omega)] at h1
  exact h1
theorem ws4_size (n : Nat) : (ws 4 n).size = 4 := ws_size 4 n
set_option maxRecDepth 100000 in
set_option maxHeartbeats 4000000 in
theorem rest_any (n : Nat) (w : World) (hog : OG w) (hn : n < 18446744073709551616 ^ 8) :
    Calls Tryd.prog 20 #[.agg (ws 8 n)] w (KeyPost (n % LL) w) := by
  have hfr := (((Fr.start w).row (ws 8 n) 40 (g := w.heap.size) rfl).any (ks 0) 25 32 (ks_size 0) (g := w.heap.size + 1) (by simp)).row (ws 4 0) 47 (g := w.heap.size + 1 + 1) (by simp)
  rw [ws4_zero] at hfr
  have hfr2 := hfr
  rw [ks_zero] at hfr2
  have HFR := Lib.hid hfr2
  have HOG := Lib.hid hog
  have hlz := lf_zero hn
  have HLZ := Lib.hid hlz
  clear hfr hfr2 hog hlz hn
  go_enter Tryd.func20, Tryd.ntmps20
  go_wp2_with (fail)
  go_loopw [7] (fun c wr => ∃ k : Nat, k ≤ 512 ∧ c = .int .i64 k ∧ Fr w wr [(w.heap.size + 1 + 1, 47, ws 4 (lf n k)), (w.heap.size, 40, ws 8 n)] [(w.heap.size + 1, 25, 32)]) (fun c _ => 512 - (intOf c).toNat)
  case atStart => exact ⟨0, by omega, rfl, by rw [HLZ.out, ws4_zero]; exact HFR.out⟩
  case round =>
    obtain ⟨k, hk, rfl, hF⟩ := hrel
    clear HFR HLZ
    by_cases hlt : k < 512
    · have hmore := fun m => @lf_more n k m hlt
      have hless := fun m => @lf_less n k m hlt
      have hl := lf_lt n k
      rw [LL_eq] at hl
      have hbit := bit_any n (511 - k)
      rw [show ((511 - k : Nat) : Int) = 511 - (k : Int) by omega] at hbit
      have hb2 : n / 2 ^ (511 - k) % 2 ≤ 1 := by omega
      generalize n / 2 ^ (511 - k) % 2 = t at *
      generalize lf n k = r at *
      obtain ⟨q, hq⟩ : ∃ q, q = 2 * r + t := ⟨_, rfl⟩
      have hdbl := fun W => double_any r t W hb2 (by omega)
      rw [← hq] at hdbl
      simp only [← hq] at hmore hless
      have hql : q < 115792089237316195423570985008687907853269984665640564039457584007913129639936 := by omega
      clear hl hb2 hq
      have hS : Fr w wr [(w.heap.size, 40, ws 8 n)] [(w.heap.size + 1, 25, 32)] := hF.sub (by simp) (by simp)
      have kz := hF.get (g := w.heap.size + 1 + 1) (t := 47) (cs := ws 4 r) (by simp)
      have KZ0 := Lib.hid kz.drew
      have HS := Lib.hid hS
      have hsz := hF.size
      have hzz : w.heap.size + 1 + 1 < wr.heap.size := kz.lt
      have HMORE := Lib.hid hmore
      have HLESS := Lib.hid hless
      have HBIT := Lib.hid hbit
      have HDBL := Lib.hid hdbl
      clear hmore hless hbit hdbl hS kz hF
      have b1 : IntKind.i64.wrap (511 - (k : Int)) = 511 - (k : Int) := by rw [IntKind.wrap_i64]; omega
      go_wp2_with (fail)
      go_cut [] (fun wz => Fr w wz [(w.heap.size + 1 + 1, 47, ws 4 q), (w.heap.size, 40, ws 8 n)] [(w.heap.size + 1, 25, 32)])
      case first =>
        refine wp_region_held_drew (S := fun W => Fr w W [(w.heap.size, 40, ws 8 n)] [(w.heap.size + 1, 25, 32)]) (by kernel_rfl) ?_ (fun hHeld => ?_)
        · exact HS.out.drew
        refine wpAnyH_take (i := 1) (v := .agg (ws 8 n)) rfl (by kernel_rfl) (by kernel_rfl) (by kernel_rfl) (fun _ _ _ h => h) (yields_row (by rfl) 40 (.tmp 1) rfl (w.heap.size) rfl 40 (ws 8 n) _ (fun W (h : Fr _ W _ _) => h.get (by simp)) Tryd.underlying40 rfl (info_ws8 n)) hHeld ?_
        try simp only [Act.put, List.getElem_toArray, List.getElem_cons_succ, List.getElem_cons_zero, List.setIfInBounds_toArray, List.set_cons_zero, List.set_cons_succ]
        refine wpAnyH_take (i := 2) (v := ?_) rfl (by kernel_rfl) (by kernel_rfl) (by kernel_rfl) (fun _ _ _ h => h) (Or.inl ⟨by rfl, ?_⟩) hHeld ?_
        rotate_left
        · (intro W hSw; (try dsimp only at hSw); (try simp only [List.getElem_toArray, List.getElem_cons_succ, List.getElem_cons_zero]); go_simp; try with_reducible rfl)
        try simp only [Act.put, List.getElem_toArray, List.getElem_cons_succ, List.getElem_cons_zero, List.setIfInBounds_toArray, List.set_cons_zero, List.set_cons_succ]
        refine wpAnyH_take (i := 3) (v := ?_) rfl (by kernel_rfl) (by kernel_rfl) (by kernel_rfl) (fun _ _ _ h => h) (Or.inl ⟨by rfl, ?_⟩) hHeld ?_
        rotate_left
        · (intro W hSw; (try dsimp only at hSw); (try simp only [List.getElem_toArray, List.getElem_cons_succ, List.getElem_cons_zero]); go_simp; try with_reducible rfl)
        try simp only [Act.put, List.getElem_toArray, List.getElem_cons_succ, List.getElem_cons_zero, List.setIfInBounds_toArray, List.set_cons_zero, List.set_cons_succ]
        have KZ := KZ0
        clear KZ0
        refine wpAnyH_ready (rs := [0, 4]) (by kernel_rfl) (by simp) (AllReadyH.cons rfl (fun K hK => ?_) (AllReadyH.cons rfl (fun K hK => ?_) AllReadyH.nil))
        · have h0 := hHeld
          clear hHeld
          try simp only [List.getElem_toArray, List.getElem_cons_succ, List.getElem_cons_zero]
          rw [if_pos (by rfl)]
          refine wp_load_row 47 (.tmp 3) rfl (w.heap.size + 1 + 1) rfl 47 (ws 4 r) (0, 0) _ KZ.out Tryd.underlying47 rfl (info_ws4 r) ?_
          refine hK.out _ _ h0 (fun hHeld => ?_)
          clear hK K h0
          try simp only [Act.put, List.getElem_toArray, List.getElem_cons_succ, List.getElem_cons_zero, List.setIfInBounds_toArray, List.set_cons_zero, List.set_cons_succ]
          refine wpAnyH_ready (rs := [4]) (by kernel_rfl) (by simp) (AllReadyH.cons rfl (fun K hK => ?_) AllReadyH.nil)
          have h0 := hHeld
          clear hHeld
          try simp only [List.getElem_toArray, List.getElem_cons_succ, List.getElem_cons_zero]
          have H0 := Lib.hid h0
          clear h0
          go_simp
          go_at_call 32
          refine (HBIT.out _ (by omega)).mono ?_
          rintro e vv ⟨rfl, hb⟩
          have kz := KZ.out.below hb KZ.out.lt
          clear KZ
          have KZ := Lib.hid kz
          clear kz
          have h1 := H0.out.ext hb
          clear hb H0
          go_wp2_with (fail)
          refine hK.out _ _ h1 (fun hHeld => ?_)
          clear hK K h1
          try simp only [Act.put, List.getElem_toArray, List.getElem_cons_succ, List.getElem_cons_zero, List.setIfInBounds_toArray, List.set_cons_zero, List.set_cons_succ]
          refine wpAnyH_ready (rs := [5]) (by kernel_rfl) (by simp) (AllReadyH.cons rfl (fun K hK => ?_) AllReadyH.nil)
          have h0 := hHeld
          clear hHeld
          try simp only [List.getElem_toArray, List.getElem_cons_succ, List.getElem_cons_zero]
          have H0 := Lib.hid h0
          clear h0
          go_simp
          go_at_call 31
          refine (HDBL.out _).mono ?_
          rintro e vv ⟨rfl, hb⟩
          have kz := KZ.out.below hb KZ.out.lt
          clear KZ
          have KZ := Lib.hid kz
          clear kz
          have h1 := H0.out.ext hb
          clear hb H0
          go_wp2_with (fail)
          refine hK.out _ _ h1 (fun hHeld => ?_)
          clear hK K h1
          try simp only [Act.put, List.getElem_toArray, List.getElem_cons_succ, List.getElem_cons_zero, List.setIfInBounds_toArray, List.set_cons_zero, List.set_cons_succ]
          refine wpAnyH_ready (rs := [6]) (by kernel_rfl) (by simp) (AllReadyH.cons rfl (fun K hK => ?_) AllReadyH.nil)
          have h0 := hHeld
          clear hHeld
          try simp only [List.getElem_toArray, List.getElem_cons_succ, List.getElem_cons_zero]
          rw [if_pos (by rfl)]
          refine wp_store_row 47 (.tmp 3) (.tmp 15) rfl (w.heap.size + 1 + 1) (ws 4 q) rfl rfl 47 _ KZ.out (info_ws4 q) rfl (ws_one _ _) ?_
          refine hK.out _ _ (Fr.setOut h0 (g := w.heap.size + 1 + 1) (by omega) (by simp <;> omega) (by simp <;> omega) _) (fun hHeld => ?_)
          have kb := KZ.out.setRow_same (ws 4 q)
          clear hK K h0
          try simp only [Act.put, List.getElem_toArray, List.getElem_cons_succ, List.getElem_cons_zero, List.setIfInBounds_toArray, List.set_cons_zero, List.set_cons_succ]
          refine wpAnyH_done (by kernel_rfl) ?_ _
          have hf4 := hHeld.more kb
          have HF4 := Lib.hid hf4
          clear hHeld hf4 kb
          go_wp2_with (fail)
          go_meet
          exact HF4.out
        · have h0 := hHeld
          clear hHeld
          try simp only [List.getElem_toArray, List.getElem_cons_succ, List.getElem_cons_zero]
          have H0 := Lib.hid h0
          clear h0
          go_simp
          go_at_call 32
          refine (HBIT.out _ (by omega)).mono ?_
          rintro e vv ⟨rfl, hb⟩
          have kz := KZ.out.below hb KZ.out.lt
          clear KZ
          have KZ := Lib.hid kz
          clear kz
          have h1 := H0.out.ext hb
          clear hb H0
          go_wp2_with (fail)
          refine hK.out _ _ h1 (fun hHeld => ?_)
          clear hK K h1
          try simp only [Act.put, List.getElem_toArray, List.getElem_cons_succ, List.getElem_cons_zero, List.setIfInBounds_toArray, List.set_cons_zero, List.set_cons_succ]
          refine wpAnyH_ready (rs := [0]) (by kernel_rfl) (by simp) (AllReadyH.cons rfl (fun K hK => ?_) AllReadyH.nil)
          have h0 := hHeld
          clear hHeld
          try simp only [List.getElem_toArray, List.getElem_cons_succ, List.getElem_cons_zero]
          rw [if_pos (by rfl)]
          refine wp_load_row 47 (.tmp 3) rfl (w.heap.size + 1 + 1) rfl 47 (ws 4 r) (0, 0) _ KZ.out Tryd.underlying47 rfl (info_ws4 r) ?_
          refine hK.out _ _ h0 (fun hHeld => ?_)
          clear hK K h0
          try simp only [Act.put, List.getElem_toArray, List.getElem_cons_succ, List.getElem_cons_zero, List.setIfInBounds_toArray, List.set_cons_zero, List.set_cons_succ]
          refine wpAnyH_ready (rs := [5]) (by kernel_rfl) (by simp) (AllReadyH.cons rfl (fun K hK => ?_) AllReadyH.nil)
          have h0 := hHeld
          clear hHeld
          try simp only [List.getElem_toArray, List.getElem_cons_succ, List.getElem_cons_zero]
          have H0 := Lib.hid h0
          clear h0
          go_simp
          go_at_call 31
          refine (HDBL.out _).mono ?_
          rintro e vv ⟨rfl, hb⟩
          have kz := KZ.out.below hb KZ.out.lt
          clear KZ
          have KZ := Lib.hid kz
          clear kz
          have h1 := H0.out.ext hb
          clear hb H0
          go_wp2_with (fail)
          refine hK.out _ _ h1 (fun hHeld => ?_)
          clear hK K h1
          try simp only [Act.put, List.getElem_toArray, List.getElem_cons_succ, List.getElem_cons_zero, List.setIfInBounds_toArray, List.set_cons_zero, List.set_cons_succ]
          refine wpAnyH_ready (rs := [6]) (by kernel_rfl) (by simp) (AllReadyH.cons rfl (fun K hK => ?_) AllReadyH.nil)
          have h0 := hHeld
          clear hHeld
          try simp only [List.getElem_toArray, List.getElem_cons_succ, List.getElem_cons_zero]
          rw [if_pos (by rfl)]
          refine wp_store_row 47 (.tmp 3) (.tmp 15) rfl (w.heap.size + 1 + 1) (ws 4 q) rfl rfl 47 _ KZ.out (info_ws4 q) rfl (ws_one _ _) ?_
          refine hK.out _ _ (Fr.setOut h0 (g := w.heap.size + 1 + 1) (by omega) (by simp <;> omega) (by simp <;> omega) _) (fun hHeld => ?_)
          have kb := KZ.out.setRow_same (ws 4 q)
          clear hK K h0
          try simp only [Act.put, List.getElem_toArray, List.getElem_cons_succ, List.getElem_cons_zero, List.setIfInBounds_toArray, List.set_cons_zero, List.set_cons_succ]
          refine wpAnyH_done (by kernel_rfl) ?_ _
          have hf4 := hHeld.more kb
          have HF4 := Lib.hid hf4
          clear hHeld hf4 kb
          go_wp2_with (fail)
          go_meet
          exact HF4.out
      case rest =>
        have hF := hcut
        have hO := hF.og HOG.out
        obtain ⟨hz, p0, p1, p2, p3⟩ := hO
        have k5 := hF.get (g := w.heap.size + 1 + 1) (t := 47) (cs := ws 4 q) (by simp)
        have HF := Lib.hid hF
        clear hF hcut
        go_wp2_with (first | (refine wpList_load_row rfl 47 (.tmp 3) rfl (w.heap.size + 1 + 1) rfl 47 (ws 4 q) (0, 0) _ k5 Tryd.underlying47 rfl (info_ws4 q) ?_))
        have hm := fun W => minus_any q LL W hql (by rw [LL_eq]; omega)
        simp only [ws_LL] at hm
        refine (hm _).mono ?_
        clear hm
        rintro e v1 ⟨m, c, rfl, e1, l1, c1, hb⟩
        have f1 := HF.out.ext hb
        have f2 := f1.row (ws 4 0) 47 (g := v1.heap.size) rfl
        rw [ws4_zero] at f2
        have hz2 : w.heap.size + 1 + 1 < v1.heap.size := by have := (f1.get (g := w.heap.size + 1 + 1) (t := 47) (cs := ws 4 q) (by simp)).lt; omega
        have kl := f2.get (g := v1.heap.size) (t := 47) (cs := #[.int .u64 0, .int .u64 0, .int .u64 0, .int .u64 0]) (by simp)
        have f3 := f2.setRowHead (by simp <;> omega) (by simp <;> omega) (ws 4 m) (by omega)
        have F3 := Lib.hid f3
        have KL := Lib.hid kl
        clear f1 f2 f3 kl hb k5
        have hcc : c = 0 ∨ c = 1 := by omega
        rcases hcc with rfl | rfl
        · have hr := HMORE.out m (by rw [e1])
          have HR := Lib.hid hr
          have k6 := F3.out.get (g := v1.heap.size) (t := 47) (cs := ws 4 m) (by simp)
          have k7 := F3.out.get (g := w.heap.size + 1 + 1) (t := 47) (cs := ws 4 q) (by simp)
          have f4 := (F3.out.sub (L' := [(w.heap.size + 1 + 1, 47, ws 4 q), (w.heap.size, 40, ws 8 n)]) (R' := [(w.heap.size + 1, 25, 32)]) (by simp) (by simp)).setRowHead (by simp <;> omega) (by simp) (ws 4 m) (by omega)
          have F4 := Lib.hid f4
          have K6 := Lib.hid k6
          have K7 := Lib.hid k7
          clear hr f4 e1 k6 k7
          go_wp2_with (first | (refine wpList_store_row rfl 47 (.tmp 5) (.tmp 20) rfl (v1.heap.size) (ws 4 m) rfl rfl 47 _ KL.out (info_ws4 m) rfl (ws_one _ _) ?_) | (refine wpList_load_row rfl 47 (.tmp 5) rfl (v1.heap.size) rfl 47 (ws 4 m) (0, 0) _ K6.out Tryd.underlying47 rfl (info_ws4 m) ?_) | (refine wpList_store_row rfl 47 (.tmp 3) (.tmp 24) rfl (w.heap.size + 1 + 1) (ws 4 m) rfl rfl 47 _ K7.out (info_ws4 m) rfl (ws_one _ _) ?_))
          go_roundw
          case rel => exact ⟨k + 1, by omega, by go_num, by rw [← HR.out]; exact F4.out⟩
          case measure => simp [intOf] <;> omega
        · have hr := HLESS.out m l1 (by rw [e1])
          have HR := Lib.hid hr
          have f4 := (F3.out.sub (L' := [(w.heap.size + 1 + 1, 47, ws 4 q), (w.heap.size, 40, ws 8 n)]) (R' := [(w.heap.size + 1, 25, 32)]) (by simp) (by simp))
          have F4 := Lib.hid f4
          clear hr f4 e1
          go_wp2_with (first | (refine wpList_store_row rfl 47 (.tmp 5) (.tmp 20) rfl (v1.heap.size) (ws 4 m) rfl rfl 47 _ KL.out (info_ws4 m) rfl (ws_one _ _) ?_))
          go_roundw
          case rel => exact ⟨k + 1, by omega, by go_num, by rw [← HR.out]; exact F4.out⟩
          case measure => simp [intOf] <;> omega
    · obtain rfl : k = 512 := by omega
      have hl := lf_lt n 512
      rw [lf_end] at hF hl
      generalize n % LL = m at *
      rw [LL_eq] at hl
      have kT := hF.get (g := w.heap.size + 1 + 1) (t := 47) (cs := ws 4 m) (by simp)
      have HF := Lib.hid hF
      clear hF
      go_wp2_with (first | (refine wpList_load_row rfl 47 (.tmp 3) rfl (w.heap.size + 1 + 1) rfl 47 (ws 4 m) (0, 0) _ kT Tryd.underlying47 rfl (info_ws4 m) ?_))
      have hby := fun W => bytesOf_any m W (by omega)
      simp only [es_ws] at hby
      refine (hby _).mono ?_
      rintro e v1 ⟨rfl, hb⟩
      have f1 := HF.out.ext hb
      obtain ⟨old, hold, kR⟩ := f1.old (g := w.heap.size + 1) (t := 25) (n := 32) (by simp)
      have kS := kR.setRow_same (ks m)
      have hB := below_setRow f1.below (show w.heap.size ≤ w.heap.size + 1 by omega) (ks m)
      have hold' : old.size = (ks m).size := by rw [hold, ks_size]
      have HS := Lib.hid kS
      have HB := Lib.hid hB
      have HO := Lib.hid hold'
      clear hby hb f1 kS hB hold hold' kT
      go_wp2_with (first | (refine wpList_store_row rfl 25 (.tmp 2) (.tmp 27) rfl (w.heap.size + 1) (ks m) rfl rfl 25 old kR (info_ks m) HO.out (ks_one _) ?_))
      exact bodyPost_ret (results_cell_row rfl _ _ (w.heap.size + 1) 25 (ks m) (0, 0) _ rfl HS.out Tryd.underlying25 rfl (info_ks m)) rfl ⟨rfl, HB.out⟩
end Go.Proofs.YtpliddkdahgbpaaDoor
