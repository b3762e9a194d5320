/- The rows of the start and of the constants. -/
import Derived.Test.YtagifgadcbhinaaDoorHz
namespace Go.Proofs.YtagifgadcbhinaaDoor
set_option linter.unusedVariables false
set_option linter.unusedSimpArgs false
open Go Go.RowKit

/-- The first k of a row, then noughts. -/
def fill (l : List Nat) (k : Nat) : List Nat := l.take k ++ List.replicate (l.length - k) 0
theorem fill_len {l : List Nat} {k : Nat} (h : k ≤ l.length) : (fill l k).length = l.length := by simp [fill]; omega
theorem fill_full (l : List Nat) : fill l l.length = l := by simp [fill]
theorem fill_set {l : List Nat} {k : Nat} (h : k < l.length) : (fill l k).set k (l.getD k 0) = fill l (k + 1) := by
  have e : l.length - k = (l.length - (k + 1)) + 1 := by omega
  have e2 : l.take (k + 1) = l.take k ++ [l.getD k 0] := by rw [List.take_succ_eq_append_getElem h]; simp [List.getD, h]
  have e3 : (l.take k).length = k := by simp; omega
  unfold fill
  rw [e, List.replicate_succ, List.set_append_right _ _ (by omega), e2, e3]
  simp
theorem fill_get {l : List Nat} {k : Nat} (h : k < l.length) : (fill l k)[k]? = some 0 := by
  have e3 : (l.take k).length = k := by simp; omega
  unfold fill
  rw [List.getElem?_append_right (by omega), e3, Nat.sub_self, List.getElem?_replicate, if_pos (by omega)]
theorem us_zero8 : us (fill HS 0) = #[.int .u64 0, .int .u64 0, .int .u64 0, .int .u64 0, .int .u64 0, .int .u64 0, .int .u64 0, .int .u64 0] := rfl
theorem us_zero80 : us (fill HK 0) = #[.int .u64 0, .int .u64 0, .int .u64 0, .int .u64 0, .int .u64 0, .int .u64 0, .int .u64 0, .int .u64 0, .int .u64 0, .int .u64 0, .int .u64 0, .int .u64 0, .int .u64 0, .int .u64 0, .int .u64 0, .int .u64 0, .int .u64 0, .int .u64 0, .int .u64 0, .int .u64 0, .int .u64 0, .int .u64 0, .int .u64 0, .int .u64 0, .int .u64 0, .int .u64 0, .int .u64 0, .int .u64 0, .int .u64 0, .int .u64 0, .int .u64 0, .int .u64 0, .int .u64 0, .int .u64 0, .int .u64 0, .int .u64 0, .int .u64 0, .int .u64 0, .int .u64 0, .int .u64 0, .int .u64 0, .int .u64 0, .int .u64 0, .int .u64 0, .int .u64 0, .int .u64 0, .int .u64 0, .int .u64 0, .int .u64 0, .int .u64 0, .int .u64 0, .int .u64 0, .int .u64 0, .int .u64 0, .int .u64 0, .int .u64 0, .int .u64 0, .int .u64 0, .int .u64 0, .int .u64 0, .int .u64 0, .int .u64 0, .int .u64 0, .int .u64 0, .int .u64 0, .int .u64 0, .int .u64 0, .int .u64 0, .int .u64 0, .int .u64 0, .int .u64 0, .int .u64 0, .int .u64 0, .int .u64 0, .int .u64 0, .int .u64 0, .int .u64 0, .int .u64 0, .int .u64 0, .int .u64 0] := rfl
theorem zlen_HS : (us (fill HS 0)).size = 8 := rfl
theorem zlen_HK : (us (fill HK 0)).size = 80 := rfl
theorem zero_k80 (w : World) : (zeroValue 41).run Tryd.prog w = .ok (.agg (us (fill HK 0))) w := by kernel_rfl
attribute [local irreducible] HS HK PR fill
set_option maxRecDepth 100000 in
set_option maxHeartbeats 2000000 in
theorem starts_any (w : World) (hp : PM w) : Calls Tryd.prog 11 #[] w (RowPost HS w) := by
  have f0 := ((Fr.start w).any (us (fill HS 0)) 39 8 zlen_HS (g := w.heap.size) rfl).row (us (fill HS 0)) 39 (g := w.heap.size + 1) (by simp)
  rw [us_zero8] at f0
  have F0 := Lib.hid f0
  have HP := Lib.hid hp
  clear f0 hp
  go_enter Tryd.func11, Tryd.ntmps11
  go_wp2_with (fail)
  go_loopw [3] (fun c wr => ∃ k : Nat, k ≤ 8 ∧ c = .int .i64 k ∧ Fr w wr [(w.heap.size + 1, 39, us (fill HS k))] [(w.heap.size, 39, 8)]) (fun c _ => 8 - (intOf c).toNat)
  case atStart => exact ⟨0, by omega, rfl, by rw [us_zero8]; exact F0.out⟩
  case round =>
    clear F0
    obtain ⟨k, hk, rfl, hF⟩ := hrel
    have HF := Lib.hid hF
    clear hF
    by_cases hlt : k < 8
    · go_wp2_with (fail)
      refine (start_in k _ hlt (HF.out.pm HP.out)).mono ?_
      rintro e v ⟨rfl, hb⟩
      have f1 := HF.out.ext hb
      have kb := f1.get (g := w.heap.size + 1) (t := 39) (cs := us (fill HS k)) (by simp)
      have z1 := kb.frozen k
      have c1 := kb.cell k
      rw [us_at (fill_get (l := HS) (by rw [HS_len]; exact hlt))] at c1
      have f2 := f1.setHead (by simp <;> omega) (by simp <;> omega) k (.int .u64 ((HS.getD k 0 : Nat) : Int)) (by omega)
      rw [us_set, fill_set (by rw [HS_len]; exact hlt)] at f2
      have F2 := Lib.hid f2
      clear f1 f2 hb
      generalize HS.getD k 0 = x at *
      go_wp2_with (fail)
      go_round
      case rel => exact ⟨k + 1, by omega, by go_num, F2.out⟩
      case measure => simp [intOf]; omega
    · obtain rfl : k = 8 := by omega
      have hf := HF.out
      have e1 : us (fill HS 8) = us HS := by rw [show (8 : Nat) = HS.length from HS_len.symm, fill_full]
      rw [e1] at hf
      have k1 := hf.get (g := w.heap.size + 1) (t := 39) (cs := us HS) (by simp)
      obtain ⟨old, ho, k0⟩ := hf.old (g := w.heap.size) (t := 39) (n := 8) (by simp)
      have kS := k0.setRow_same (us HS)
      have hB := below_setRow hf.below (Nat.le_refl _) (us HS)
      have ho' : old.size = (us HS).size := by rw [ho, us_size, HS_len]
      have KS := Lib.hid kS
      have HB := Lib.hid hB
      have HO := Lib.hid ho'
      have HI := Lib.hid (info_us (T := 39) size_hst HS_len)
      clear hf kS hB ho ho' HF e1
      go_wp2_with (first | (refine wpList_load_row rfl 39 (.tmp 1) rfl (w.heap.size + 1) rfl 39 (us HS) (0, 0) _ k1 Tryd.underlying39 rfl HI.out ?_) | (refine wpList_store_row rfl 39 (.tmp 0) (.tmp 11) rfl (w.heap.size) (us HS) rfl rfl 39 old k0 HI.out HO.out (us_one _) ?_))
      exact row_end (n0 := 8) rfl size_hst HS_len rfl rfl rfl KS.out HB.out
set_option maxRecDepth 100000 in
set_option maxHeartbeats 2000000 in
theorem constants_any (w : World) (hp : PM w) : Calls Tryd.prog 12 #[] w (RowPost HK w) := by
  have f0 := ((Fr.start w).any (us (fill HK 0)) 41 80 zlen_HK (g := w.heap.size) rfl).row (us (fill HK 0)) 41 (g := w.heap.size + 1) (by simp)
  have hz80 : ∀ W : World, (zeroValue 41).run Tryd.prog W = .ok (.agg (us (fill HK 0))) W := zero_k80
  have F0 := Lib.hid f0
  have HP := Lib.hid hp
  clear f0 hp
  go_enter Tryd.func12, Tryd.ntmps12
  go_wp2_with (fail)
  go_loopw [3] (fun c wr => ∃ k : Nat, k ≤ 80 ∧ c = .int .i64 k ∧ Fr w wr [(w.heap.size + 1, 41, us (fill HK k))] [(w.heap.size, 41, 80)]) (fun c _ => 80 - (intOf c).toNat)
  case atStart => exact ⟨0, by omega, rfl, F0.out⟩
  case round =>
    clear F0
    obtain ⟨k, hk, rfl, hF⟩ := hrel
    have HF := Lib.hid hF
    clear hF
    by_cases hlt : k < 80
    · go_wp2_with (fail)
      refine (constant_in k _ hlt (HF.out.pm HP.out)).mono ?_
      rintro e v ⟨rfl, hb⟩
      have f1 := HF.out.ext hb
      have kb := f1.get (g := w.heap.size + 1) (t := 41) (cs := us (fill HK k)) (by simp)
      have z1 := kb.frozen k
      have c1 := kb.cell k
      rw [us_at (fill_get (l := HK) (by rw [HK_len]; exact hlt))] at c1
      have f2 := f1.setHead (by simp <;> omega) (by simp <;> omega) k (.int .u64 ((HK.getD k 0 : Nat) : Int)) (by omega)
      rw [us_set, fill_set (by rw [HK_len]; exact hlt)] at f2
      have F2 := Lib.hid f2
      clear f1 f2 hb
      generalize HK.getD k 0 = x at *
      go_wp2_with (fail)
      go_round
      case rel => exact ⟨k + 1, by omega, by go_num, F2.out⟩
      case measure => simp [intOf]; omega
    · obtain rfl : k = 80 := by omega
      have hf := HF.out
      have e1 : us (fill HK 80) = us HK := by rw [show (80 : Nat) = HK.length from HK_len.symm, fill_full]
      rw [e1] at hf
      have k1 := hf.get (g := w.heap.size + 1) (t := 41) (cs := us HK) (by simp)
      obtain ⟨old, ho, k0⟩ := hf.old (g := w.heap.size) (t := 41) (n := 80) (by simp)
      have kS := k0.setRow_same (us HK)
      have hB := below_setRow hf.below (Nat.le_refl _) (us HK)
      have ho' : old.size = (us HK).size := by rw [ho, us_size, HK_len]
      have KS := Lib.hid kS
      have HB := Lib.hid hB
      have HO := Lib.hid ho'
      have HI := Lib.hid (info_us (T := 41) size_k80 HK_len)
      clear hf kS hB ho ho' HF e1
      go_wp2_with (first | (refine wpList_load_row rfl 41 (.tmp 1) rfl (w.heap.size + 1) rfl 41 (us HK) (0, 0) _ k1 Tryd.underlying41 rfl HI.out ?_) | (refine wpList_store_row rfl 41 (.tmp 0) (.tmp 11) rfl (w.heap.size) (us HK) rfl rfl 41 old k0 HI.out HO.out (us_one _) ?_))
      exact row_end (n0 := 80) rfl size_k80 HK_len rfl rfl rfl KS.out HB.out
end Go.Proofs.YtagifgadcbhinaaDoor
