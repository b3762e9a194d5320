/- The document's Order of layer 3. -/
import Derived.Test.YtpliddkdahgbpaaDoorRn
import Derived.Test.YtpliddkdahgbpaaDoorSo
namespace Go.Proofs.YtpliddkdahgbpaaDoor
set_option linter.unusedVariables false
set_option linter.unusedSimpArgs false
open Go.RowKit

/-- The decimals of the text. -/
def NT : Nat := 27742317777372353535851937790883648493
def TXT : ByteArray := { data := #[50, 55, 55, 52, 50, 51, 49, 55, 55, 55, 55, 51, 55, 50, 51, 53, 51, 53, 51, 53, 56, 53, 49, 57, 51, 55, 55, 57, 48, 56, 56, 51, 54, 52, 56, 52, 57, 51] }
theorem TXT_size : TXT.size = 38 := rfl
def dgt (j : Nat) : Nat := NT / 10 ^ (37 - j) % 10
theorem dgt_lt (j : Nat) : dgt j < 10 := Nat.mod_lt _ (by omega)
theorem txt_at : ∀ j : Fin 38, TXT.data[j.val]?.map (·.toNat) = some (48 + dgt j.val) := by decide +kernel
theorem txt_index (j : Nat) (hj : j < 38) (W : World) : (Instr.index 9 (.string TXT) (.int .i64 (j : Int))).run Tryd.prog W = .ok (.int .u8 ((48 + dgt j : Nat) : Int)) W := by
  have h := txt_at ⟨j, hj⟩
  have hs : TXT.data.size = 38 := TXT_size
  rw [run_index_string (P := Tryd.prog) W 9 TXT .i64 (j : Int) Tryd.underlying9, dif_pos (by rw [TXT_size]; omega)]
  simp only [Array.getElem?_eq_getElem (show j < TXT.data.size by omega), Option.map_some, Option.some.injEq] at h
  congr 3
def pre (j : Nat) : Nat := NT / 10 ^ (38 - j)
theorem pre_step {j : Nat} (hj : j < 38) : pre (j + 1) = 10 * pre j + dgt j := by
  unfold pre dgt
  have h1 : 38 - (j + 1) = 37 - j := by omega
  have h2 : 38 - j = 37 - j + 1 := by omega
  rw [h1, h2, Nat.pow_succ, ← Nat.div_div_eq_div_mul]
  omega
theorem pre_le (j : Nat) : pre j ≤ NT := Nat.div_le_self _ _
theorem pre_end : pre 38 = NT := by decide
theorem pre_start : pre 0 = 0 := by decide
theorem order_put : (ds NT).setIfInBounds 15 (.int .u64 4096) = ds LL := by kernel_rfl
theorem order_top : (ds NT)[15]? = some (.int .u64 0) := by kernel_rfl
set_option maxRecDepth 100000 in
set_option maxHeartbeats 2000000 in
theorem rorder_any (w : World) : Calls Tryd.prog 28 #[] w (NumPost LL w) := by
  have hfr := ((Fr.start w).any (ds 0) 44 16 (ds_size 0) (g := w.heap.size) rfl).row (ds 0) 44 (g := w.heap.size + 1) (by simp)
  rw [ds_zero] at hfr
  have HFR := Lib.hid hfr
  clear hfr
  go_enter Tryd.func28, Tryd.ntmps28
  go_wp2_with (fail)
  obtain ⟨TX, hTX⟩ : ∃ TX, TX = TXT := ⟨_, rfl⟩
  have hix := txt_index
  have hsz := TXT_size
  rw [← hTX] at hix hsz
  have hT : ({ data := #[50, 55, 55, 52, 50, 51, 49, 55, 55, 55, 55, 51, 55, 50, 51, 53, 51, 53, 51, 53, 56, 53, 49, 57, 51, 55, 55, 57, 48, 56, 56, 51, 54, 52, 56, 52, 57, 51] } : ByteArray) = TX := hTX.symm
  rw [hT]
  have HIX := Lib.hid hix
  clear hix hTX hT
  go_loopw [3] (fun i wr => ∃ j : Nat, j ≤ 38 ∧ i = .int .i64 j ∧ Fr w wr [(w.heap.size + 1, 44, ds (pre j))] [(w.heap.size, 44, 16)]) (fun i _ => 38 - (intOf i).toNat)
  case atStart => exact ⟨0, by omega, rfl, by rw [pre_start, ds_zero]; exact HFR.out⟩
  case round =>
    obtain ⟨j, hj, rfl, hF⟩ := hrel
    clear HFR
    by_cases hlt : j < 38
    · have hx := HIX.out j hlt
      have hd := dgt_lt j
      have hps := pre_step hlt
      have hpl := pre_le (j + 1)
      have HPS := Lib.hid hps
      have HPL := Lib.hid hpl
      have HF := Lib.hid hF
      clear hF hps hpl
      generalize dgt j = d at *
      go_wp2_with (fail)
      have e0 : (48 : Int) + (d : Int) - 48 = (d : Int) := by omega
      rw [e0]
      rw [decide_eq_true (show (j : Int) < 38 by omega)]
      have hst := @scale_start 65536 (pre j) 10 d hd
      have HST0 := Lib.hid hst
      have hN : 10 * pre j + d < 65536 ^ 16 := by rw [← HPS.out, d16]; have := HPL.out; unfold NT at this; omega
      have HN := Lib.hid hN
      clear hst hN
      go_loopw [5, 4] (fun i c' wq => ∃ k v c : Nat, k ≤ 16 ∧ i = .int .i64 k ∧ c' = .int .u64 c ∧ ScaleAt 65536 10 (pre j) d k v c ∧ Fr w wq [(w.heap.size + 1, 44, ds v)] [(w.heap.size, 44, 16)]) (fun i _ _ => 16 - (intOf i).toNat)
      case atStart => exact ⟨0, pre j, d, by omega, rfl, rfl, HST0.out, HF.out⟩
      case round =>
        obtain ⟨k, v, c, hk, rfl, rfl, hS, hF⟩ := hrel
        clear HF HST0
        by_cases hkt : k < 16
        · have hV := hF.get (g := w.heap.size + 1) (t := 44) (cs := ds v) (by simp)
          have cv : wr.cell? ⟨w.heap.size + 1, k, none⟩ = some (.int .u64 ((v / 65536 ^ k % 65536 : Nat) : Int)) := by rw [hV.cell, ds_get _ hkt]
          have hf := hV.frozen k
          have hc := hS.2.2
          have hx : v / 65536 ^ k % 65536 < 65536 := Nat.mod_lt _ (by omega)
          have hst := @scale_step 65536 10 (pre j) d k v c (by omega) (by omega) hS
          have hpt := @ds_put v k ((10 * (v / 65536 ^ k % 65536) + c) % 65536) hkt (Nat.mod_lt _ (by omega))
          have HST := Lib.hid hst
          have HPT := Lib.hid hpt
          have HF := Lib.hid hF
          clear hst hpt hS hF hV
          generalize v / 65536 ^ k % 65536 = x at *
          go_wp2
          go_roundw
          case rel =>
            have e1 : (10 * (x : Int) + c) % 65536 = (((10 * x + c) % 65536 : Nat) : Int) := by omega
            have e2 : (10 * (x : Int) + c) / 65536 = (((10 * x + c) / 65536 : Nat) : Int) := by omega
            rw [e1, e2]
            refine ⟨k + 1, _, _, by omega, by go_num, rfl, HST.out, ?_⟩
            rw [← HPT.out]
            exact HF.out.setHead (by simp <;> omega) (by simp <;> omega) _ _ (by omega)
          case measure => simp [intOf] <;> omega
        · obtain rfl : k = 16 := by omega
          have hp : pre j < 65536 ^ 16 := by rw [d16]; have := pre_le j; unfold NT at this; omega
          obtain rfl := scale_end hS hp (by omega) HN.out
          have HF := Lib.hid hF
          clear hF hS hp
          go_wp2_with (fail)
          go_roundw
          case rel => exact ⟨j + 1, by omega, by go_num, by rw [HPS.out]; exact HF.out⟩
          case measure => simp [intOf] <;> omega
    · obtain rfl : j = 38 := by omega
      rw [pre_end] at hF
      have hV := hF.get (g := w.heap.size + 1) (t := 44) (cs := ds NT) (by simp)
      have cv : wr.cell? ⟨w.heap.size + 1, 15, none⟩ = some (.int .u64 0) := by rw [hV.cell, order_top]
      have hf := hV.frozen 15
      have hF2 := hF.setHead (by simp) (by simp) 15 (.int .u64 4096) (by omega)
      rw [order_put] at hF2
      have kT := hF2.get (g := w.heap.size + 1) (t := 44) (cs := ds LL) (by simp)
      obtain ⟨old, hold, kR⟩ := hF2.old (g := w.heap.size) (t := 44) (n := 16) (by simp)
      have kS := kR.setRow_same (ds LL)
      have hB := below_setRow hF2.below (Nat.le_refl _) (ds LL)
      have hold' : old.size = (ds LL).size := by rw [hold, ds_size]
      have HS := Lib.hid kS
      have HB := Lib.hid hB
      have HO := Lib.hid hold'
      have KT := Lib.hid kT
      have KR := Lib.hid kR
      clear hF hF2 kS hB hold hold' hV kT kR
      go_wp2_with (first | (refine wpList_load_row rfl 44 (.tmp 1) rfl (w.heap.size + 1) rfl 44 (ds LL) (0, 0) _ KT.out Tryd.underlying44 rfl (info_ds LL) ?_) | (refine wpList_store_row rfl 44 (.tmp 0) (.tmp 38) rfl (w.heap.size) (ds LL) rfl rfl 44 old KR.out (info_ds LL) HO.out (ds_one _) ?_))
      exact bodyPost_ret (results_cell_row rfl _ _ (w.heap.size) 44 (ds LL) (0, 0) _ rfl HS.out Tryd.underlying44 rfl (info_ds LL)) rfl ⟨rfl, HB.out⟩
end Go.Proofs.YtpliddkdahgbpaaDoor
