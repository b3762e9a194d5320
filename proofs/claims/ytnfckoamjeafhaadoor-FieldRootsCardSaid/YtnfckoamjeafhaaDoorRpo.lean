/- The document's Power: squares, and products where a bit is set. -/
import Derived.Test.YtnfckoamjeafhaaDoorRmu
namespace Go.Proofs.YtnfckoamjeafhaaDoor
set_option linter.unusedVariables false
set_option linter.unusedSimpArgs false
open Go Go.RowKit

/-- What Power has come to with n bits left. -/
def pn (x e n : Nat) : Nat := x ^ (e / 2 ^ n) % PP
theorem tmod_bit (x k : Nat) : ((x : Int) / 2 ^ k).tmod 2 = ((x / 2 ^ k % 2 : Nat) : Int) := by
  have h : (x : Int) / 2 ^ k = ((x / 2 ^ k : Nat) : Int) := by simp
  rw [h]
  generalize x / 2 ^ k = y
  rw [Int.tmod_eq_emod_of_nonneg (by omega)]
  omega
theorem pn_lt (x e n : Nat) : pn x e n < PP := Nat.mod_lt _ (by rw [PP_eq]; omega)
theorem pn_top (x e : Nat) (he : e < 2 ^ 256) : pn x e 256 = 1 := by
  unfold pn
  rw [Nat.div_eq_of_lt he, Nat.pow_zero, PP_eq]
theorem pn_zero (x e : Nat) : pn x e 0 = x ^ e % PP := by
  unfold pn
  rw [Nat.pow_zero, Nat.div_one]
theorem pn_half (e n : Nat) : e / 2 ^ n = 2 * (e / 2 ^ (n + 1)) + e / 2 ^ n % 2 := by
  rw [Nat.pow_succ, ← Nat.div_div_eq_div_mul]
  omega
theorem pn_no (x e n : Nat) (hb : e / 2 ^ n % 2 = 0) : pn x e (n + 1) * pn x e (n + 1) % PP = pn x e n := by
  unfold pn
  rw [pn_half e n, hb, Nat.add_zero, ← Nat.mul_mod, ← Nat.pow_add]
  congr 2
  omega
theorem pn_yes (x e n : Nat) (hb : e / 2 ^ n % 2 = 1) : pn x e (n + 1) * pn x e (n + 1) % PP * x % PP = pn x e n := by
  unfold pn
  rw [pn_half e n, hb, ← Nat.mul_mod, ← Nat.pow_add, Nat.mod_mul_mod, ← Nat.pow_succ]
  congr 2
  omega
set_option maxRecDepth 100000 in
set_option maxHeartbeats 2000000 in
theorem rpower_any (a e : Nat) (w : World) (ha : a < 115792089237316195423570985008687907853269984665640564039457584007913129639936) (he : e < 115792089237316195423570985008687907853269984665640564039457584007913129639936) :
    Calls Tryd.prog 28 #[.agg (ds a), .agg (ks e)] w (NumPost (a ^ e % PP) w) := by
  have hfr := (((Fr.start w).row (ds a) 32 (g := w.heap.size) rfl).row (ks e) 23 (g := w.heap.size + 1) (by simp)).any (ds 0) 32 16 (ds_size 0) (g := w.heap.size + 1 + 1) (by simp)
  rw [ds_zero] at hfr
  have htop := pn_top a e (by rw [show (2 : Nat) ^ 256 = 115792089237316195423570985008687907853269984665640564039457584007913129639936 by decide]; exact he)
  have hend := pn_zero a e
  have hmulA := fun r W h => rmul_any r a W h ha
  obtain ⟨V, hV⟩ : ∃ V, V = a ^ e % PP := ⟨_, rfl⟩
  rw [← hV] at hend ⊢
  have HFR := Lib.hid hfr
  have HTOP := Lib.hid htop
  have HEND := Lib.hid hend
  have HMA := Lib.hid hmulA
  clear hfr htop hend hmulA hV ha he
  go_enter Tryd.func28, Tryd.ntmps28
  go_wp2_with (fail)
  refine (rsmall_any 1 _ (by omega)).mono ?_
  rintro r v ⟨rfl, hb⟩
  have hf0 := HFR.out.ext hb
  have hf := hf0.row (ds 0) 32 (g := v.heap.size) rfl
  have ka := hf.get (g := v.heap.size) (t := 32) (cs := ds 0) (by simp)
  have hz1 : w.heap.size + 1 < v.heap.size := (hf0.get (g := w.heap.size + 1) (t := 23) (cs := ks e) (by simp)).lt
  have hz2 : w.heap.size + 1 + 1 < v.heap.size := by obtain ⟨cs, _, k⟩ := hf0.old (g := w.heap.size + 1 + 1) (t := 32) (n := 16) (by simp); exact k.lt
  have hf2 := hf.setRowHead (by simp <;> omega) (by simp <;> omega) (ds 1) (by omega)
  rw [ds_zero] at hf2 ka
  have hso : (#[.int .u64 0, .int .u64 0, .int .u64 0, .int .u64 0, .int .u64 0, .int .u64 0, .int .u64 0, .int .u64 0, .int .u64 0, .int .u64 0, .int .u64 0, .int .u64 0, .int .u64 0, .int .u64 0, .int .u64 0, .int .u64 0] : Array Value).size = (ds 1).size := by rw [ds_size]; rfl
  have KA := Lib.hid ka
  have HSO := Lib.hid hso
  have HF0 := Lib.hid hf2
  clear hb hf0 hf hf2 ka hso HFR
  go_wp2_with (first | (refine wpList_store_row rfl 32 (.tmp 5) (.tmp 7) rfl (v.heap.size) (ds 1) rfl rfl 32 _ KA.out (info_ds _) HSO.out (ds_one _) ?_))
  clear KA HSO
  generalize hgp : v.heap.size = gp at *
  have HGP := Lib.hid hgp
  clear hgp
  go_loopw [6] (fun c wr => ∃ n : Nat, n ≤ 256 ∧ c = .int .i64 ((n : Int) - 1) ∧ Fr w wr [(gp, 32, ds (pn a e n)), (w.heap.size + 1, 23, ks e), (w.heap.size, 32, ds a)] [(w.heap.size + 1 + 1, 32, 16)]) (fun c _ => (intOf c + 1).toNat)
  case atStart => exact ⟨256, by omega, rfl, by rw [HTOP.out]; exact HF0.out⟩
  case round =>
    obtain ⟨n, hn, rfl, hF⟩ := hrel
    clear HF0
    cases n with
    | succ n =>
      have hr := pn_lt a e (n + 1)
      have k5 := hF.get (g := gp) (t := 32) (cs := ds (pn a e (n + 1))) (by simp)
      have kk := hF.get (g := w.heap.size + 1) (t := 23) (cs := ks e) (by simp)
      have hc : ∀ W, Blk W (w.heap.size + 1) 23 (ks e) → W.cell? ⟨w.heap.size + 1, n / 8, none⟩ = some (.int .u8 ((e / 256 ^ (n / 8) % 256 : Nat) : Int)) := fun W h => by rw [h.cell, ks_get _ (by omega)]
      have hbt := bit_at e n
      have hno := pn_no a e n
      have hyes := pn_yes a e n
      have hxl : e / 256 ^ (n / 8) % 256 < 256 := Nat.mod_lt _ (by omega)
      have hPl := PP_lim
      have hsq := fun W => rmul_any (pn a e (n + 1)) (pn a e (n + 1)) W (by omega) (by omega)
      obtain ⟨r2, hq2⟩ : ∃ r2, r2 = pn a e (n + 1) * pn a e (n + 1) % PP := ⟨_, rfl⟩
      have hr2 : r2 < PP := by rw [hq2]; exact modPP_lt _
      have hma := fun W => HMA.out r2 W (by omega)
      rw [← hq2] at hsq hno hyes
      have HSQ := Lib.hid hsq
      have HM2 := Lib.hid hma
      have HN := Lib.hid hno
      have HY := Lib.hid hyes
      have HF := Lib.hid hF
      have HC := Lib.hid hc
      have e1 : ((n + 1 : Nat) : Int) - 1 = (n : Int) := by omega
      rw [e1]
      clear hq2 hsq hma hno hyes hF hc hr hr2 hPl e1
      generalize pn a e (n + 1) = r0 at *
      generalize e / 256 ^ (n / 8) % 256 = x at *
      have b1 : (0 : Int) ≤ (n : Int) / 8 := by omega
      have b2 : (n : Int) / 8 < 32 := by omega
      have b3 : ((n : Int) % 8) < 65 := by omega
      have b4 : (0 : Int) ≤ (n : Int) % 8 := by omega
      have b5 : decide ((0 : Int) ≤ (n : Int)) = true := decide_eq_true (by omega)
      have hw8 : IntKind.u64.wrap ((n : Int) % 8) = (n : Int) % 8 := by rw [IntKind.wrap_u64]; omega
      go_wp2_with (first | (refine wpList_load_row rfl 32 (.tmp 5) rfl gp rfl 32 (ds r0) (0, 0) _ k5 Tryd.underlying32 rfl (info_ds _) ?_))
      refine (HSQ.out _).mono ?_
      rintro r v1 ⟨rfl, hb⟩
      have f1 := HF.out.ext hb
      have k6 := f1.get (g := gp) (t := 32) (cs := ds r0) (by simp)
      have hz6 : (ds r0).size = (ds r2).size := by rw [ds_size, ds_size]
      have f2 := f1.setRowHead (by simp <;> omega) (by simp <;> omega) (ds r2) (by omega)
      have k7 := f2.get (g := w.heap.size + 1) (t := 23) (cs := ks e) (by simp)
      have cx := HC.out _ k7
      have F2 := Lib.hid f2
      have HZ6 := Lib.hid hz6
      clear f1 f2 hb k5 kk hz6 k7
      have hbb : x / 2 ^ (n % 8) % 2 = 0 ∨ x / 2 ^ (n % 8) % 2 = 1 := by omega
      rcases hbb with hbv | hbv
      · have hst := HN.out (by rw [← hbt]; exact hbv)
        have HST := Lib.hid hst
        have hbi : ((x : Int) / 2 ^ (n % 8)).tmod 2 = 0 := by rw [tmod_bit, hbv]; rfl
        clear hbv hst hbt HN HY
        go_wp2_with (first | (refine wpList_store_row rfl 32 (.tmp 5) (.tmp 14) rfl gp (ds r2) rfl rfl 32 (ds r0) k6 (info_ds _) HZ6.out (ds_one _) ?_))
        go_roundw
        case rel => exact ⟨n, by omega, rfl, by rw [← HST.out]; exact F2.out⟩
        case measure => simp [intOf] <;> omega
      · have hst := HY.out (by rw [← hbt]; exact hbv)
        have HST := Lib.hid hst
        have hbi : ((x : Int) / 2 ^ (n % 8)).tmod 2 = 1 := by rw [tmod_bit, hbv]; rfl
        clear hbv hst hbt HN HY
        have k8 := F2.out.get (g := gp) (t := 32) (cs := ds r2) (by simp)
        have k9 := F2.out.get (g := w.heap.size) (t := 32) (cs := ds a) (by simp)
        go_wp2_with (first | (refine wpList_store_row rfl 32 (.tmp 5) (.tmp 14) rfl gp (ds r2) rfl rfl 32 (ds r0) k6 (info_ds _) HZ6.out (ds_one _) ?_) | (refine wpList_load_row rfl 32 (.tmp 5) rfl gp rfl 32 (ds r2) (0, 0) _ k8 Tryd.underlying32 rfl (info_ds _) ?_) | (refine wpList_load_row rfl 32 (.tmp 2) rfl w.heap.size rfl 32 (ds a) (0, 0) _ k9 Tryd.underlying32 rfl (info_ds _) ?_))
        refine (HM2.out _).mono ?_
        rintro r v2 ⟨rfl, hb⟩
        rw [HST.out]
        have f3 := F2.out.ext hb
        have ka := f3.get (g := gp) (t := 32) (cs := ds r2) (by simp)
        have hza : (ds r2).size = (ds (pn a e n)).size := by rw [ds_size, ds_size]
        have f4 := f3.setRowHead (by simp <;> omega) (by simp <;> omega) (ds (pn a e n)) (by omega)
        have F4 := Lib.hid f4
        have KA := Lib.hid ka
        have HZA := Lib.hid hza
        clear f3 f4 hb k6 k8 k9 ka hza
        obtain ⟨r3, hr3⟩ : ∃ r3, r3 = pn a e n := ⟨_, rfl⟩
        rw [← hr3] at F4 HZA ⊢
        have HR3 := Lib.hid hr3
        clear hr3
        go_wp2_with (first | (refine wpList_store_row rfl 32 (.tmp 5) (.tmp 27) rfl gp (ds r3) rfl rfl 32 (ds r2) KA.out (info_ds _) HZA.out (ds_one _) ?_))
        go_roundw
        case rel => exact ⟨n, by omega, rfl, by rw [← HR3.out]; exact F4.out⟩
        case measure => simp [intOf] <;> omega
    | zero =>
      rw [HEND.out] at hF
      have kT := hF.get (g := gp) (t := 32) (cs := ds V) (by simp)
      obtain ⟨old, hold, kR⟩ := hF.old (g := w.heap.size + 1 + 1) (t := 32) (n := 16) (by simp)
      have kS := kR.setRow_same (ds V)
      have hB2 := below_setRow hF.below (show w.heap.size ≤ w.heap.size + 1 + 1 by omega) (ds V)
      have hold' : old.size = (ds V).size := by rw [hold, ds_size]
      have HS := Lib.hid kS
      have HB2 := Lib.hid hB2
      have HO := Lib.hid hold'
      clear hF kS hB2 hold hold'
      go_wp2_with (first | (refine wpList_load_row rfl 32 (.tmp 5) rfl gp rfl 32 (ds V) (0, 0) _ kT Tryd.underlying32 rfl (info_ds _) ?_) | (refine wpList_store_row rfl 32 (.tmp 4) (.tmp 28) rfl (w.heap.size + 1 + 1) (ds V) rfl rfl 32 old kR (info_ds _) HO.out (ds_one _) ?_))
      exact bodyPost_ret (results_cell_row rfl _ _ (w.heap.size + 1 + 1) 32 (ds V) (0, 0) _ rfl HS.out Tryd.underlying32 rfl (info_ds V)) rfl ⟨rfl, HB2.out⟩
end Go.Proofs.YtnfckoamjeafhaaDoor
