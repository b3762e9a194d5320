/- The walk of Power. -/
import Derived.Test.YtnfckoamjeafhaaDoorFo
namespace Go.Proofs.YtnfckoamjeafhaaDoor
set_option linter.unusedVariables false
set_option linter.unusedSimpArgs false
open Go.RowKit

theorem Fr.pg {w W : World} {L : List (Nat × TypeId × Array Value)} {R : List (Nat × TypeId × Nat)} (h : Fr w W L R) (hp : PG w) : PG W := hp.ext h.below
/-- What Power has come to behind k rounds. -/
def pw (x e k : Nat) : Nat := x ^ (e / 2 ^ (256 - k)) % PP
theorem pw_lt (x e k : Nat) : pw x e k < PP := Nat.mod_lt _ (by rw [PP_eq]; omega)
theorem pw_zero (x e : Nat) (he : e < 115792089237316195423570985008687907853269984665640564039457584007913129639936) : pw x e 0 = 1 := by
  have h : e / 2 ^ (256 - 0) = 0 := Nat.div_eq_of_lt he
  unfold pw
  rw [h, Nat.pow_zero, PP_eq]
theorem pw_all (x e : Nat) : pw x e 256 = x ^ e % PP := by
  unfold pw
  rw [Nat.sub_self, Nat.pow_zero, Nat.div_one]
theorem half_step (e k : Nat) (hk : k < 256) : e / 2 ^ (256 - (k + 1)) = 2 * (e / 2 ^ (256 - k)) + e / 2 ^ (255 - k) % 2 := by
  have h1 : 256 - (k + 1) = 255 - k := by omega
  have h2 : 256 - k = (255 - k) + 1 := by omega
  rw [h1, h2, Nat.pow_succ, ← Nat.div_div_eq_div_mul]
  omega
theorem pw_no (x e k : Nat) (hk : k < 256) (hb : bitB e (255 - k) = false) : pw x e k * pw x e k % PP = pw x e (k + 1) := by
  unfold pw
  rw [half_step e k hk]
  have : e / 2 ^ (255 - k) % 2 = 0 := by
    unfold bitB at hb
    have := of_decide_eq_false hb
    omega
  rw [this, Nat.add_zero, ← Nat.mul_mod, ← Nat.pow_add]
  congr 2
  omega
theorem pw_yes (x e k : Nat) (hk : k < 256) (hb : bitB e (255 - k) = true) : pw x e k * pw x e k % PP * x % PP = pw x e (k + 1) := by
  unfold pw
  rw [half_step e k hk]
  have : e / 2 ^ (255 - k) % 2 = 1 := of_decide_eq_true hb
  rw [this, ← Nat.mul_mod, ← Nat.pow_add, Nat.mod_mul_mod, ← Nat.pow_succ]
  congr 2
  omega

set_option maxRecDepth 100000 in
set_option maxHeartbeats 2000000 in
theorem power_any (x e : Nat) (w : World) (hpg : PG w) (hx : x < PP) (he : e < 115792089237316195423570985008687907853269984665640564039457584007913129639936) :
    Calls Tryd.prog 21 #[.agg (es x), .agg (ks e)] w (ElemPost (x ^ e % PP) w) := by
  have hfr := (((Fr.start w).row (es x) 27 (g := w.heap.size) rfl).row (ks e) 23 (g := w.heap.size + 1) (by simp)).any (es 0) 27 4 rfl (g := w.heap.size + 1 + 1) (by simp)
  rw [es_zero] at hfr
  have HFR := Lib.hid hfr
  have HPG := Lib.hid hpg
  have hpz := pw_zero x e he
  have HPZ := Lib.hid hpz
  clear hfr hpg hpz he
  go_enter Tryd.func21, Tryd.ntmps21
  go_wp2_with (fail)
  refine (small_any 1 _ (by omega)).mono ?_
  rintro r v ⟨hr, hb⟩
  rw [es_small (by omega)] at hr
  subst hr
  have hf := (HFR.out.ext hb).row (es 1) 27 (g := v.heap.size) rfl
  rw [es_small (show 1 < 18446744073709551616 by omega)] at hf
  have hz : w.heap.size + 1 + 1 < v.heap.size := by have := hb.size; simp at this; omega
  have HF0 := Lib.hid hf
  clear hb hf
  go_wp2_with (fail)
  generalize hgp : v.heap.size = gp at *
  have HGP := Lib.hid hgp
  clear hgp
  go_loopw [8] (fun c wr => ∃ k : Nat, k ≤ 256 ∧ c = .int .i64 k ∧ Fr w wr [(gp, 27, es (pw x e k)), (w.heap.size + 1, 23, ks e), (w.heap.size, 27, es x)] [(w.heap.size + 1 + 1, 27, 4)]) (fun c _ => 256 - (intOf c).toNat)
  case atStart => exact ⟨0, by omega, rfl, by rw [HPZ.out, es_small (by omega)]; exact HF0.out⟩
  case round =>
    obtain ⟨k, hk, rfl, hF⟩ := hrel
    have hr := pw_lt x e k
    have k5 := hF.get (g := gp) (t := 27) (cs := es (pw x e k)) (by simp)
    by_cases hlt : k < 256
    · have hno := pw_no x e k hlt
      have hyes := pw_yes x e k hlt
      have hbit := bit_any e (255 - k)
      rw [show ((255 - k : Nat) : Int) = 255 - (k : Int) by omega] at hbit
      have hr2 : pw x e k * pw x e k % PP < PP := Nat.mod_lt _ (by rw [PP_eq]; omega)
      obtain ⟨r2, hq2⟩ : ∃ r2, r2 = pw x e k * pw x e k % PP := ⟨_, rfl⟩
      rw [← hq2] at hno hyes hr2
      have HQ := Lib.hid hq2
      have HN := Lib.hid hno
      have HY := Lib.hid hyes
      clear hq2
      generalize pw x e k = r0 at *
      have HF := Lib.hid hF
      clear hno hyes hF
      cases hbv : bitB e (255 - k)
      · rw [hbv] at hbit
        have hst := HN.out hbv
        have HST := Lib.hid hst
        have HBI := Lib.hid hbit
        clear hbv hst hbit
        go_wp2_with (first | (refine wpList_load_row rfl 27 (.tmp 5) rfl gp rfl 27 (es r0) (0, 0) _ k5 Tryd.underlying27 rfl info_elem ?_))
        refine (square_any r0 _ (HF.out.pg HPG.out) hr).mono ?_
        rintro r v1 ⟨hq, hb⟩
        rw [← HQ.out] at hq
        subst hq
        have f1 := HF.out.ext hb
        have k6 := f1.get (g := gp) (t := 27) (cs := es r0) (by simp)
        have f2 := f1.setRowHead (by simp <;> omega) (by simp <;> omega) (es r2) (by omega)
        have k7 := f2.get (g := w.heap.size + 1) (t := 23) (cs := ks e) (by simp)
        have F2 := Lib.hid f2
        clear f1 f2 hb k5
        go_wp2_with (first | (refine wpList_store_row rfl 27 (.tmp 5) (.tmp 12) rfl gp (es r2) rfl rfl 27 (es r0) k6 info_elem rfl (es_one _) ?_) | (refine wpList_load_row rfl 23 (.tmp 3) rfl (w.heap.size + 1) rfl 23 (ks e) (0, 0) _ k7 Tryd.underlying23 rfl (info_ks e) ?_))
        refine (HBI.out _ (by omega)).mono ?_
        rintro r v2 ⟨rfl, hb⟩
        have f3 := F2.out.ext hb
        have F3 := Lib.hid f3
        clear f3 hb k6 k7
        go_wp2_with (fail)
        go_roundw
        case rel => exact ⟨k + 1, by omega, by go_num, by rw [← HST.out]; exact F3.out⟩
        case measure => simp [intOf]; omega
      · rw [hbv] at hbit
        have hst := HY.out hbv
        have HST := Lib.hid hst
        have HBI := Lib.hid hbit
        clear hbv hst hbit
        go_wp2_with (first | (refine wpList_load_row rfl 27 (.tmp 5) rfl gp rfl 27 (es r0) (0, 0) _ k5 Tryd.underlying27 rfl info_elem ?_))
        refine (square_any r0 _ (HF.out.pg HPG.out) hr).mono ?_
        rintro r v1 ⟨hq, hb⟩
        rw [← HQ.out] at hq
        subst hq
        have f1 := HF.out.ext hb
        have k6 := f1.get (g := gp) (t := 27) (cs := es r0) (by simp)
        have f2 := f1.setRowHead (by simp <;> omega) (by simp <;> omega) (es r2) (by omega)
        have k7 := f2.get (g := w.heap.size + 1) (t := 23) (cs := ks e) (by simp)
        have F2 := Lib.hid f2
        clear f1 f2 hb k5
        go_wp2_with (first | (refine wpList_store_row rfl 27 (.tmp 5) (.tmp 12) rfl gp (es r2) rfl rfl 27 (es r0) k6 info_elem rfl (es_one _) ?_) | (refine wpList_load_row rfl 23 (.tmp 3) rfl (w.heap.size + 1) rfl 23 (ks e) (0, 0) _ k7 Tryd.underlying23 rfl (info_ks e) ?_))
        refine (HBI.out _ (by omega)).mono ?_
        rintro r v2 ⟨rfl, hb⟩
        have f3 := F2.out.ext hb
        have k8 := f3.get (g := gp) (t := 27) (cs := es r2) (by simp)
        have k9 := f3.get (g := w.heap.size) (t := 27) (cs := es x) (by simp)
        have F3 := Lib.hid f3
        clear f3 hb k6 k7
        go_wp2_with (first | (refine wpList_load_row rfl 27 (.tmp 5) rfl gp rfl 27 (es r2) (0, 0) _ k8 Tryd.underlying27 rfl info_elem ?_) | (refine wpList_load_row rfl 27 (.tmp 2) rfl w.heap.size rfl 27 (es x) (0, 0) _ k9 Tryd.underlying27 rfl info_elem ?_))
        refine (mul_any r2 x _ (F3.out.pg HPG.out) hr2 hx).mono ?_
        rintro r v3 ⟨hq, hb⟩
        rw [HST.out] at hq
        subst hq
        have f4 := F3.out.ext hb
        have ka := f4.get (g := gp) (t := 27) (cs := es r2) (by simp)
        have f5 := f4.setRowHead (by simp <;> omega) (by simp <;> omega) (es (pw x e (k + 1))) (by omega)
        have F5 := Lib.hid f5
        clear f4 f5 hb k8 k9
        go_wp2_with (first | (refine wpList_store_row rfl 27 (.tmp 5) (.tmp 19) rfl gp (es (pw x e (k + 1))) rfl rfl 27 (es r2) ka info_elem rfl (es_one _) ?_))
        go_roundw
        case rel => exact ⟨k + 1, by omega, by go_num, F5.out⟩
        case measure => simp [intOf]; omega
    · obtain rfl : k = 256 := by omega
      rw [pw_all] at hF k5
      obtain ⟨old, hold, kR⟩ := hF.old (g := w.heap.size + 1 + 1) (t := 27) (n := 4) (by simp)
      generalize x ^ e % PP = r at *
      have kS := kR.setRow_same (es r)
      have hB := below_setRow hF.below (show w.heap.size ≤ w.heap.size + 1 + 1 by omega) (es r)
      have HS := Lib.hid kS
      have HB := Lib.hid hB
      have HO := Lib.hid hold
      clear hF kS hB hold hr
      go_wp2_with (first | (refine wpList_load_row rfl 27 (.tmp 5) rfl gp rfl 27 (es r) (0, 0) _ k5 Tryd.underlying27 rfl info_elem ?_) | (refine wpList_store_row rfl 27 (.tmp 4) (.tmp 21) rfl (w.heap.size + 1 + 1) (es r) rfl rfl 27 old kR info_elem HO.out (es_one _) ?_))
      exact elem_end (g := w.heap.size + 1 + 1) rfl rfl rfl HS.out HB.out
end Go.Proofs.YtnfckoamjeafhaaDoor
