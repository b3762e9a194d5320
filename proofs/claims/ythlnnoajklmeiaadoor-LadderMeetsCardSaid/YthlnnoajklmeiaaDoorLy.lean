/- The ladder's Public and Shared; the laws' rows. -/
import Derived.Test.YthlnnoajklmeiaaDoorLmu
import Derived.Test.YthlnnoajklmeiaaDoorLk
import Derived.Test.YthlnnoajklmeiaaDoorLv
namespace Go.Proofs.YthlnnoajklmeiaaDoor
set_option linter.unusedVariables false
set_option linter.unusedSimpArgs false
open Go Go.RowKit

attribute [local irreducible] lad lgo
theorem lmulR {k n m : Nat} {y : Fin PP} (hy : y = lad Q0 (clampN k) (ofK n)) (h : m = y.val) (hk : k < 115792089237316195423570985008687907853269984665640564039457584007913129639936) (hn : n < 115792089237316195423570985008687907853269984665640564039457584007913129639936) (w : World) (hp : PG w) : Calls Tryd.prog 9 #[.agg (ks k), .agg (ks n)] w (KeyPost m w) := by
  rw [h]
  exact lmul_any hy w hp hk hn
theorem lit9 : ks 9 = #[.int .u8 9, .int .u8 0, .int .u8 0, .int .u8 0, .int .u8 0, .int .u8 0, .int .u8 0, .int .u8 0, .int .u8 0, .int .u8 0, .int .u8 0, .int .u8 0, .int .u8 0, .int .u8 0, .int .u8 0, .int .u8 0, .int .u8 0, .int .u8 0, .int .u8 0, .int .u8 0, .int .u8 0, .int .u8 0, .int .u8 0, .int .u8 0, .int .u8 0, .int .u8 0, .int .u8 0, .int .u8 0, .int .u8 0, .int .u8 0, .int .u8 0, .int .u8 0] := by kernel_rfl
theorem lit7 : ks 7 = #[.int .u8 7, .int .u8 0, .int .u8 0, .int .u8 0, .int .u8 0, .int .u8 0, .int .u8 0, .int .u8 0, .int .u8 0, .int .u8 0, .int .u8 0, .int .u8 0, .int .u8 0, .int .u8 0, .int .u8 0, .int .u8 0, .int .u8 0, .int .u8 0, .int .u8 0, .int .u8 0, .int .u8 0, .int .u8 0, .int .u8 0, .int .u8 0, .int .u8 0, .int .u8 0, .int .u8 0, .int .u8 0, .int .u8 0, .int .u8 0, .int .u8 0, .int .u8 0] := by kernel_rfl
theorem lit1 : ks 1 = #[.int .u8 1, .int .u8 0, .int .u8 0, .int .u8 0, .int .u8 0, .int .u8 0, .int .u8 0, .int .u8 0, .int .u8 0, .int .u8 0, .int .u8 0, .int .u8 0, .int .u8 0, .int .u8 0, .int .u8 0, .int .u8 0, .int .u8 0, .int .u8 0, .int .u8 0, .int .u8 0, .int .u8 0, .int .u8 0, .int .u8 0, .int .u8 0, .int .u8 0, .int .u8 0, .int .u8 0, .int .u8 0, .int .u8 0, .int .u8 0, .int .u8 0, .int .u8 0] := by kernel_rfl
theorem lit2 : ks 2 = #[.int .u8 2, .int .u8 0, .int .u8 0, .int .u8 0, .int .u8 0, .int .u8 0, .int .u8 0, .int .u8 0, .int .u8 0, .int .u8 0, .int .u8 0, .int .u8 0, .int .u8 0, .int .u8 0, .int .u8 0, .int .u8 0, .int .u8 0, .int .u8 0, .int .u8 0, .int .u8 0, .int .u8 0, .int .u8 0, .int .u8 0, .int .u8 0, .int .u8 0, .int .u8 0, .int .u8 0, .int .u8 0, .int .u8 0, .int .u8 0, .int .u8 0, .int .u8 0] := by kernel_rfl
set_option maxRecDepth 100000 in
set_option maxHeartbeats 2000000 in
theorem public_any {k m : Nat} {y : Fin PP} (hy : y = lad Q0 (clampN k) (ofK 9)) (h : m = y.val) (hk : k < 115792089237316195423570985008687907853269984665640564039457584007913129639936) (w : World) (hpg : PG w) : Calls Tryd.prog 11 #[.agg (ks k)] w (KeyPost m w) := by
  have hmu := fun W hp => lmulR hy h hk (show 9 < 115792089237316195423570985008687907853269984665640564039457584007913129639936 by omega) W hp
  rw [lit9] at hmu
  have hfr := ((Fr.start w).row (ks k) 23 (g := w.heap.size) rfl).any (ks 0) 23 32 (ks_size 0) (g := w.heap.size + 1) (by simp)
  rw [ks_zero] at hfr
  have k0 := hfr.get (g := w.heap.size) (t := 23) (cs := ks k) (by simp)
  have HMU := Lib.hid hmu
  have HF := Lib.hid hfr
  have K0 := Lib.hid k0
  have HP := Lib.hid hpg
  clear hmu hfr k0 hpg hy h hk
  go_enter Tryd.func11, Tryd.ntmps11
  go_wp2_with (first | (refine wpList_load_row rfl 23 (.tmp 1) rfl (w.heap.size) rfl 23 (ks k) (0, 0) _ K0.out Tryd.underlying23 rfl (info_ks _) ?_))
  clear K0
  refine (HMU.out _ (Fr.pg HF.out HP.out)).mono ?_
  rintro e v1 ⟨rfl, hb⟩
  have hf := HF.out.ext hb
  obtain ⟨old, hold, kR⟩ := hf.old (g := w.heap.size + 1) (t := 23) (n := 32) (by simp)
  have kS := kR.setRow_same (ks m)
  have hB2 := below_setRow hf.below (show w.heap.size ≤ w.heap.size + 1 by omega) (ks m)
  have hold' : old.size = (ks m).size := by rw [hold, ks_size]
  have HS := Lib.hid kS
  have HB2 := Lib.hid hB2
  have HO := Lib.hid hold'
  clear hb hf kS hB2 hold hold' HF
  go_wp2_with (first | (refine wpList_store_row rfl 23 (.tmp 2) (.tmp 5) rfl (w.heap.size + 1) (ks m) rfl rfl 23 old kR (info_ks _) HO.out (ks_one _) ?_))
  exact key_end (g := w.heap.size + 1) rfl rfl rfl HS.out HB2.out
/-- What Shared answers. -/
def ShPost (m : Nat) (c : Int) (w : World) (e : Ending) (w' : World) : Prop := e = .returned (.tuple #[.agg (ks m), .int .i64 c]) ∧ Below w.heap.size w w'
set_option maxRecDepth 100000 in
set_option maxHeartbeats 2000000 in
theorem shared_yes {k n m : Nat} {y : Fin PP} (hy : y = lad Q0 (clampN k) (ofK n)) (h : m = y.val) (hk : k < 115792089237316195423570985008687907853269984665640564039457584007913129639936) (hn : n < 115792089237316195423570985008687907853269984665640564039457584007913129639936) (hz : m ≠ 0) (w : World) (hpg : PG w) : Calls Tryd.prog 8 #[.agg (ks k), .agg (ks n)] w (ShPost m 0 w) := by
  have hmu := fun W hp => lmulR hy h hk hn W hp
  have hml : m < 115792089237316195423570985008687907853269984665640564039457584007913129639936 := by rw [h]; exact PP_lt256 y.isLt
  have hke := fun W => keys_eq (n := m) (m := 0) (b := false) hml (by omega) (decide_eq_false hz) W
  rw [ks_zero] at hke
  have hfr := (((Fr.start w).row (ks k) 23 (g := w.heap.size) rfl).row (ks n) 23 (g := w.heap.size + 1) (by simp)).any (ks 0) 23 32 (ks_size 0) (g := w.heap.size + 1 + 1) (by simp)
  rw [ks_zero] at hfr
  have k0 := hfr.get (g := w.heap.size) (t := 23) (cs := ks k) (by simp)
  have k1 := hfr.get (g := w.heap.size + 1) (t := 23) (cs := ks n) (by simp)
  have HMU := Lib.hid hmu
  have HF := Lib.hid hfr
  have K0 := Lib.hid k0
  have K1 := Lib.hid k1
  have HP := Lib.hid hpg
  clear hmu hfr k0 k1 hpg hk hn hy hz hml h
  go_enter Tryd.func8, Tryd.ntmps8
  go_wp2_with (first | (refine wpList_load_row rfl 23 (.tmp 2) rfl (w.heap.size) rfl 23 (ks k) (0, 0) _ K0.out Tryd.underlying23 rfl (info_ks _) ?_) | (refine wpList_load_row rfl 23 (.tmp 3) rfl (w.heap.size + 1) rfl 23 (ks n) (0, 0) _ K1.out Tryd.underlying23 rfl (info_ks _) ?_))
  clear K0 K1
  refine (HMU.out _ (Fr.pg HF.out HP.out)).mono ?_
  rintro e v1 ⟨rfl, hb⟩
  have hf := HF.out.ext hb
  have hr2 : w.heap.size + 1 + 1 < v1.heap.size := by obtain ⟨cs, _, k⟩ := hf.old (g := w.heap.size + 1 + 1) (t := 23) (n := 32) (by simp); exact k.lt
  have ka : Blk (v1.alloc (.cells #[.int .u8 0, .int .u8 0, .int .u8 0, .int .u8 0, .int .u8 0, .int .u8 0, .int .u8 0, .int .u8 0, .int .u8 0, .int .u8 0, .int .u8 0, .int .u8 0, .int .u8 0, .int .u8 0, .int .u8 0, .int .u8 0, .int .u8 0, .int .u8 0, .int .u8 0, .int .u8 0, .int .u8 0, .int .u8 0, .int .u8 0, .int .u8 0, .int .u8 0, .int .u8 0, .int .u8 0, .int .u8 0, .int .u8 0, .int .u8 0, .int .u8 0, .int .u8 0] 23)) v1.heap.size 23 #[.int .u8 0, .int .u8 0, .int .u8 0, .int .u8 0, .int .u8 0, .int .u8 0, .int .u8 0, .int .u8 0, .int .u8 0, .int .u8 0, .int .u8 0, .int .u8 0, .int .u8 0, .int .u8 0, .int .u8 0, .int .u8 0, .int .u8 0, .int .u8 0, .int .u8 0, .int .u8 0, .int .u8 0, .int .u8 0, .int .u8 0, .int .u8 0, .int .u8 0, .int .u8 0, .int .u8 0, .int .u8 0, .int .u8 0, .int .u8 0, .int .u8 0, .int .u8 0] := Blk.new _ _ _
  have kc := ka.setRow_same (ks m)
  have hf3 := ((hf.pass (.cells #[.int .u8 0, .int .u8 0, .int .u8 0, .int .u8 0, .int .u8 0, .int .u8 0, .int .u8 0, .int .u8 0, .int .u8 0, .int .u8 0, .int .u8 0, .int .u8 0, .int .u8 0, .int .u8 0, .int .u8 0, .int .u8 0, .int .u8 0, .int .u8 0, .int .u8 0, .int .u8 0, .int .u8 0, .int .u8 0, .int .u8 0, .int .u8 0, .int .u8 0, .int .u8 0, .int .u8 0, .int .u8 0, .int .u8 0, .int .u8 0, .int .u8 0, .int .u8 0] 23)).setOut (g := v1.heap.size) (by omega) (by simp <;> omega) (by simp <;> omega) (ks m)).more kc
  have hsz : (#[.int .u8 0, .int .u8 0, .int .u8 0, .int .u8 0, .int .u8 0, .int .u8 0, .int .u8 0, .int .u8 0, .int .u8 0, .int .u8 0, .int .u8 0, .int .u8 0, .int .u8 0, .int .u8 0, .int .u8 0, .int .u8 0, .int .u8 0, .int .u8 0, .int .u8 0, .int .u8 0, .int .u8 0, .int .u8 0, .int .u8 0, .int .u8 0, .int .u8 0, .int .u8 0, .int .u8 0, .int .u8 0, .int .u8 0, .int .u8 0, .int .u8 0, .int .u8 0] : Array Value).size = (ks m).size := by rw [ks_size]; rfl
  have kd := hf3.get (g := v1.heap.size) (t := 23) (cs := ks m) (by simp)
  obtain ⟨old, hold, kR⟩ := hf3.old (g := w.heap.size + 1 + 1) (t := 23) (n := 32) (by simp)
  have kS := kR.setRow_same (ks m)
  have hB2 := below_setRow hf3.below (show w.heap.size ≤ w.heap.size + 1 + 1 by omega) (ks m)
  have hold' : old.size = (ks m).size := by rw [hold, ks_size]
  have KA := Lib.hid ka
  have KD := Lib.hid kd
  have KR := Lib.hid kR
  have HSZ := Lib.hid hsz
  have HS := Lib.hid kS
  have HB2 := Lib.hid hB2
  have HO := Lib.hid hold'
  clear hb hf ka kc hf3 hsz kd kR kS hB2 hold hold' HF HMU
  go_wp2_with (first | (refine wpList_store_row rfl 23 (.tmp 6) (.tmp 9) rfl (v1.heap.size) (ks m) rfl rfl 23 _ KA.out (info_ks _) HSZ.out (ks_one _) ?_) | (refine wpList_load_row rfl 23 (.tmp 6) rfl (v1.heap.size) rfl 23 (ks m) (0, 0) _ KD.out Tryd.underlying23 rfl (info_ks _) ?_) | (refine wpList_store_row rfl 23 (.tmp 4) (.tmp 14) rfl (w.heap.size + 1 + 1) (ks m) rfl rfl 23 old KR.out (info_ks _) HO.out (ks_one _) ?_))
  exact bodyPost_ret (results_row_tmp rfl rfl rfl HS.out Tryd.underlying23 rfl (info_ks _)) rfl ⟨rfl, HB2.out⟩
set_option maxRecDepth 100000 in
set_option maxHeartbeats 2000000 in
theorem shared_no {k n m : Nat} {y : Fin PP} (hy : y = lad Q0 (clampN k) (ofK n)) (h : m = y.val) (hk : k < 115792089237316195423570985008687907853269984665640564039457584007913129639936) (hn : n < 115792089237316195423570985008687907853269984665640564039457584007913129639936) (hz : m = 0) (w : World) (hpg : PG w) : Calls Tryd.prog 8 #[.agg (ks k), .agg (ks n)] w (ShPost m 8 w) := by
  have hmu := fun W hp => lmulR hy h hk hn W hp
  have hml : m < 115792089237316195423570985008687907853269984665640564039457584007913129639936 := by rw [h]; exact PP_lt256 y.isLt
  have hke := fun W => keys_eq (n := m) (m := 0) (b := true) hml (by omega) (decide_eq_true hz) W
  rw [ks_zero] at hke
  clear hml
  have hy0 : (0 : Nat) = y.val := by rw [← h, hz]
  clear h
  subst hz
  have hfr := (((Fr.start w).row (ks k) 23 (g := w.heap.size) rfl).row (ks n) 23 (g := w.heap.size + 1) (by simp)).any (ks 0) 23 32 (ks_size 0) (g := w.heap.size + 1 + 1) (by simp)
  rw [ks_zero] at hfr
  have k0 := hfr.get (g := w.heap.size) (t := 23) (cs := ks k) (by simp)
  have k1 := hfr.get (g := w.heap.size + 1) (t := 23) (cs := ks n) (by simp)
  have HMU := Lib.hid hmu
  have HF := Lib.hid hfr
  have K0 := Lib.hid k0
  have K1 := Lib.hid k1
  have HP := Lib.hid hpg
  clear hmu hfr k0 k1 hpg hk hn hy hy0
  go_enter Tryd.func8, Tryd.ntmps8
  go_wp2_with (first | (refine wpList_load_row rfl 23 (.tmp 2) rfl (w.heap.size) rfl 23 (ks k) (0, 0) _ K0.out Tryd.underlying23 rfl (info_ks _) ?_) | (refine wpList_load_row rfl 23 (.tmp 3) rfl (w.heap.size + 1) rfl 23 (ks n) (0, 0) _ K1.out Tryd.underlying23 rfl (info_ks _) ?_))
  clear K0 K1
  refine (HMU.out _ (Fr.pg HF.out HP.out)).mono ?_
  rintro e v1 ⟨rfl, hb⟩
  have hf := HF.out.ext hb
  have hr2 : w.heap.size + 1 + 1 < v1.heap.size := by obtain ⟨cs, _, k⟩ := hf.old (g := w.heap.size + 1 + 1) (t := 23) (n := 32) (by simp); exact k.lt
  have ka : Blk (v1.alloc (.cells #[.int .u8 0, .int .u8 0, .int .u8 0, .int .u8 0, .int .u8 0, .int .u8 0, .int .u8 0, .int .u8 0, .int .u8 0, .int .u8 0, .int .u8 0, .int .u8 0, .int .u8 0, .int .u8 0, .int .u8 0, .int .u8 0, .int .u8 0, .int .u8 0, .int .u8 0, .int .u8 0, .int .u8 0, .int .u8 0, .int .u8 0, .int .u8 0, .int .u8 0, .int .u8 0, .int .u8 0, .int .u8 0, .int .u8 0, .int .u8 0, .int .u8 0, .int .u8 0] 23)) v1.heap.size 23 #[.int .u8 0, .int .u8 0, .int .u8 0, .int .u8 0, .int .u8 0, .int .u8 0, .int .u8 0, .int .u8 0, .int .u8 0, .int .u8 0, .int .u8 0, .int .u8 0, .int .u8 0, .int .u8 0, .int .u8 0, .int .u8 0, .int .u8 0, .int .u8 0, .int .u8 0, .int .u8 0, .int .u8 0, .int .u8 0, .int .u8 0, .int .u8 0, .int .u8 0, .int .u8 0, .int .u8 0, .int .u8 0, .int .u8 0, .int .u8 0, .int .u8 0, .int .u8 0] := Blk.new _ _ _
  have kc := ka.setRow_same (ks 0)
  have hf3 := ((hf.pass (.cells #[.int .u8 0, .int .u8 0, .int .u8 0, .int .u8 0, .int .u8 0, .int .u8 0, .int .u8 0, .int .u8 0, .int .u8 0, .int .u8 0, .int .u8 0, .int .u8 0, .int .u8 0, .int .u8 0, .int .u8 0, .int .u8 0, .int .u8 0, .int .u8 0, .int .u8 0, .int .u8 0, .int .u8 0, .int .u8 0, .int .u8 0, .int .u8 0, .int .u8 0, .int .u8 0, .int .u8 0, .int .u8 0, .int .u8 0, .int .u8 0, .int .u8 0, .int .u8 0] 23)).setOut (g := v1.heap.size) (by omega) (by simp <;> omega) (by simp <;> omega) (ks 0)).more kc
  have hsz : (#[.int .u8 0, .int .u8 0, .int .u8 0, .int .u8 0, .int .u8 0, .int .u8 0, .int .u8 0, .int .u8 0, .int .u8 0, .int .u8 0, .int .u8 0, .int .u8 0, .int .u8 0, .int .u8 0, .int .u8 0, .int .u8 0, .int .u8 0, .int .u8 0, .int .u8 0, .int .u8 0, .int .u8 0, .int .u8 0, .int .u8 0, .int .u8 0, .int .u8 0, .int .u8 0, .int .u8 0, .int .u8 0, .int .u8 0, .int .u8 0, .int .u8 0, .int .u8 0] : Array Value).size = (ks 0).size := by rw [ks_size]; rfl
  have kd := hf3.get (g := v1.heap.size) (t := 23) (cs := ks 0) (by simp)
  obtain ⟨old, hold, kR⟩ := hf3.old (g := w.heap.size + 1 + 1) (t := 23) (n := 32) (by simp)
  have kS := kR.setRow_same (ks 0)
  have hB2 := below_setRow hf3.below (show w.heap.size ≤ w.heap.size + 1 + 1 by omega) (ks 0)
  have hold' : old.size = (ks 0).size := by rw [hold, ks_size]
  have KA := Lib.hid ka
  have KD := Lib.hid kd
  have KR := Lib.hid kR
  have HSZ := Lib.hid hsz
  have HS := Lib.hid kS
  have HB2 := Lib.hid hB2
  have HO := Lib.hid hold'
  clear hb hf ka kc hf3 hsz kd kR kS hB2 hold hold' HF HMU
  go_wp2_with (first | (refine wpList_store_row rfl 23 (.tmp 6) (.tmp 9) rfl (v1.heap.size) (ks 0) rfl rfl 23 _ KA.out (info_ks _) HSZ.out (ks_one _) ?_) | (refine wpList_load_row rfl 23 (.tmp 6) rfl (v1.heap.size) rfl 23 (ks 0) (0, 0) _ KD.out Tryd.underlying23 rfl (info_ks _) ?_) | (refine wpList_store_row rfl 23 (.tmp 4) (.tmp 13) rfl (w.heap.size + 1 + 1) #[.int .u8 0, .int .u8 0, .int .u8 0, .int .u8 0, .int .u8 0, .int .u8 0, .int .u8 0, .int .u8 0, .int .u8 0, .int .u8 0, .int .u8 0, .int .u8 0, .int .u8 0, .int .u8 0, .int .u8 0, .int .u8 0, .int .u8 0, .int .u8 0, .int .u8 0, .int .u8 0, .int .u8 0, .int .u8 0, .int .u8 0, .int .u8 0, .int .u8 0, .int .u8 0, .int .u8 0, .int .u8 0, .int .u8 0, .int .u8 0, .int .u8 0, .int .u8 0] rfl rfl 23 old KR.out (by rw [← ks_zero]; exact info_ks 0) (by rw [HO.out, ks_size]; rfl) (by rw [← ks_zero]; exact ks_one 0) ?_))
  have hs2 := HS.out
  have hb2 := HB2.out
  rw [show ks 0 = #[.int .u8 0, .int .u8 0, .int .u8 0, .int .u8 0, .int .u8 0, .int .u8 0, .int .u8 0, .int .u8 0, .int .u8 0, .int .u8 0, .int .u8 0, .int .u8 0, .int .u8 0, .int .u8 0, .int .u8 0, .int .u8 0, .int .u8 0, .int .u8 0, .int .u8 0, .int .u8 0, .int .u8 0, .int .u8 0, .int .u8 0, .int .u8 0, .int .u8 0, .int .u8 0, .int .u8 0, .int .u8 0, .int .u8 0, .int .u8 0, .int .u8 0, .int .u8 0] from ks_zero] at hs2
  simp only [ks_zero] at hs2 hb2 ⊢
  exact bodyPost_ret (results_row_tmp rfl rfl rfl hs2 Tryd.underlying23 rfl (by rw [← ks_zero]; exact info_ks 0)) rfl ⟨by rw [ks_zero]; rfl, hb2⟩
end Go.Proofs.YthlnnoajklmeiaaDoor
