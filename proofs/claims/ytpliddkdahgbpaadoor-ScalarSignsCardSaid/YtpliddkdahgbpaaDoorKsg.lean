/- The walk of ScalarSigns. -/
import Derived.Test.YtpliddkdahgbpaaDoorSy
import Derived.Deep.DeepCutAuto
import Derived.Deep.CutBlock
namespace Go.Proofs.YtpliddkdahgbpaaDoor
set_option linter.unusedVariables false
set_option linter.unusedSimpArgs false
open Go.RowKit

section
variable {a b r m t n : Nat}
theorem LL_pos : 0 < LL := by rw [LL_eq]; omega
theorem opp (x : Nat) {M : Nat} (hM : 0 < M) : (x + x * (M - 1) % M) % M = 0 := by
  obtain ⟨l, rfl⟩ : ∃ l, M = l + 1 := ⟨M - 1, by omega⟩
  rw [Nat.add_mod_mod, Nat.add_sub_cancel, Nat.add_comm, ← Nat.mul_succ]
  exact Nat.mul_mod_left _ _
theorem opp_opp (x : Nat) {M : Nat} (hM : 0 < M) : x * (M - 1) % M * (M - 1) % M = x % M := by
  have h := opp x hM
  have h2 := opp (x * (M - 1) % M) hM
  have e : (x + x * (M - 1) % M + x * (M - 1) % M * (M - 1) % M) % M = x * (M - 1) % M * (M - 1) % M := by
    rw [Nat.add_mod, h, Nat.zero_add, Nat.mod_mod, Nat.mod_mod]
  rw [← e, Nat.add_assoc, Nat.add_mod, h2, Nat.add_zero, Nat.mod_mod]
theorem sg1 {M : Nat} (hr : r = a % M) : (a * 1 + 0) % M = r := by rw [Nat.mul_one, Nat.add_zero, hr]
theorem sg2 {M : Nat} (hM : 0 < M) (hm : m = a * (M - 1) % M) (hr : r = a % M) : m * (M - 1) % M = r := by rw [hm, hr, opp_opp _ hM]
theorem sg3 {M : Nat} (ht : t = a * b % M) : (a * b + 0) % M = t := by rw [ht]; rfl
theorem sg4 {M : Nat} (hM : 0 < M) (hm : m = a * (M - 1) % M) (ht : t = a * b % M) : (m * b + t) % M = 0 := by
  have h := opp (a * b) hM
  rw [Nat.add_mod_mod] at h
  rw [hm, ht, Nat.add_mod_mod, Nat.add_mod, Nat.mod_mul_mod, ← Nat.add_mod, Nat.add_comm, Nat.mul_right_comm]
  exact h
theorem sg5 {M : Nat} (hM : 0 < M) (hm : m = a * (M - 1) % M) (hn : n = b * (M - 1) % M) (ht : t = a * b % M) : (m * n + 0) % M = t := by
  rw [Nat.add_zero, hm, hn, ht, Nat.mod_mul_mod, Nat.mul_mod_mod]
  have h := opp_opp (a * b) hM
  rw [Nat.mod_mul_mod] at h
  rw [← h]
  congr 1
  ac_rfl
end
set_option maxRecDepth 100000 in
set_option maxHeartbeats 16000000 in
theorem law_signs (a b : Nat) (w : World) (hog : OG w) (ha : a < 115792089237316195423570985008687907853269984665640564039457584007913129639936) (hb : b < 115792089237316195423570985008687907853269984665640564039457584007913129639936) : Calls Tryd.prog 7 #[.agg (ks a), .agg (ks b)] w (BPost true w) := by
  obtain ⟨r, hr⟩ : ∃ q, q = a % LL := ⟨_, rfl⟩
  have lr := red_lt hr
  obtain ⟨m, hm⟩ : ∃ q, q = a * (LL - 1) % LL := ⟨_, rfl⟩
  have lm := red_lt hm
  obtain ⟨n, hn⟩ : ∃ q, q = b * (LL - 1) % LL := ⟨_, rfl⟩
  have ln := red_lt hn
  obtain ⟨t, ht⟩ : ∃ q, q = a * b % LL := ⟨_, rfl⟩
  have lt := red_lt ht
  have lo : 1 < 115792089237316195423570985008687907853269984665640564039457584007913129639936 := by omega
  have lz : 0 < 115792089237316195423570985008687907853269984665640564039457584007913129639936 := by omega
  have HA := Lib.hid ha
  clear ha
  have HB := Lib.hid hb
  clear hb
  have HR := Lib.hid hr
  clear hr
  have HM := Lib.hid hm
  clear hm
  have HN := Lib.hid hn
  clear hn
  have HT := Lib.hid ht
  clear ht
  have LR := Lib.hid lr
  clear lr
  have LM := Lib.hid lm
  clear lm
  have LN := Lib.hid ln
  clear ln
  have LT := Lib.hid lt
  clear lt
  have LO := Lib.hid lo
  clear lo
  have LZ := Lib.hid lz
  clear lz
  have hfr := ((Fr.start w).row (ks a) 25 (g := w.heap.size) rfl).row (ks b) 25 (g := w.heap.size + 1) (by simp)
  have HO := Lib.hid hog
  have HF := Lib.hid hfr
  clear hfr hog
  have hke := keys_same
  have ka : Blk (((w.alloc (.cells (ks a) 25)).alloc (.cells (ks b) 25)).alloc (.cells #[.int .u8 0, .int .u8 0, .int .u8 0, .int .u8 0, .int .u8 0, .int .u8 0, .int .u8 0, .int .u8 0, .int .u8 0, .int .u8 0, .int .u8 0, .int .u8 0, .int .u8 0, .int .u8 0, .int .u8 0, .int .u8 0, .int .u8 0, .int .u8 0, .int .u8 0, .int .u8 0, .int .u8 0, .int .u8 0, .int .u8 0, .int .u8 0, .int .u8 0, .int .u8 0, .int .u8 0, .int .u8 0, .int .u8 0, .int .u8 0, .int .u8 0, .int .u8 0] 25)) (w.heap.size + 1 + 1) 25 #[.int .u8 0, .int .u8 0, .int .u8 0, .int .u8 0, .int .u8 0, .int .u8 0, .int .u8 0, .int .u8 0, .int .u8 0, .int .u8 0, .int .u8 0, .int .u8 0, .int .u8 0, .int .u8 0, .int .u8 0, .int .u8 0, .int .u8 0, .int .u8 0, .int .u8 0, .int .u8 0, .int .u8 0, .int .u8 0, .int .u8 0, .int .u8 0, .int .u8 0, .int .u8 0, .int .u8 0, .int .u8 0, .int .u8 0, .int .u8 0, .int .u8 0, .int .u8 0] := Blk.new' _ _ _ _ (by simp)
  have kc := ka.setRow_same (ks 1)
  have hf3 := ((HF.out.pass (.cells #[.int .u8 0, .int .u8 0, .int .u8 0, .int .u8 0, .int .u8 0, .int .u8 0, .int .u8 0, .int .u8 0, .int .u8 0, .int .u8 0, .int .u8 0, .int .u8 0, .int .u8 0, .int .u8 0, .int .u8 0, .int .u8 0, .int .u8 0, .int .u8 0, .int .u8 0, .int .u8 0, .int .u8 0, .int .u8 0, .int .u8 0, .int .u8 0, .int .u8 0, .int .u8 0, .int .u8 0, .int .u8 0, .int .u8 0, .int .u8 0, .int .u8 0, .int .u8 0] 25)).setOut (g := w.heap.size + 1 + 1) (by omega) (by simp <;> omega) (by simp) (ks 1)).more kc
  have hin : (Tryd.prog.info? 25).map (·.size) = some (#[.int .u8 1, .int .u8 0, .int .u8 0, .int .u8 0, .int .u8 0, .int .u8 0, .int .u8 0, .int .u8 0, .int .u8 0, .int .u8 0, .int .u8 0, .int .u8 0, .int .u8 0, .int .u8 0, .int .u8 0, .int .u8 0, .int .u8 0, .int .u8 0, .int .u8 0, .int .u8 0, .int .u8 0, .int .u8 0, .int .u8 0, .int .u8 0, .int .u8 0, .int .u8 0, .int .u8 0, .int .u8 0, .int .u8 0, .int .u8 0, .int .u8 0, .int .u8 0] : Array Value).size := by rw [← lit1]; exact info_ks _
  have hone : (#[.int .u8 1, .int .u8 0, .int .u8 0, .int .u8 0, .int .u8 0, .int .u8 0, .int .u8 0, .int .u8 0, .int .u8 0, .int .u8 0, .int .u8 0, .int .u8 0, .int .u8 0, .int .u8 0, .int .u8 0, .int .u8 0, .int .u8 0, .int .u8 0, .int .u8 0, .int .u8 0, .int .u8 0, .int .u8 0, .int .u8 0, .int .u8 0, .int .u8 0, .int .u8 0, .int .u8 0, .int .u8 0, .int .u8 0, .int .u8 0, .int .u8 0, .int .u8 0] : Array Value).all (·.oneCell') = true := by rw [← lit1]; exact ks_one _
  rw [lit1] at hf3
  have l2 := hf3.get (g := w.heap.size) (t := 25) (cs := ks a) (by simp)
  have l5 := hf3.get (g := w.heap.size + 1 + 1) (t := 25) (cs := #[.int .u8 1, .int .u8 0, .int .u8 0, .int .u8 0, .int .u8 0, .int .u8 0, .int .u8 0, .int .u8 0, .int .u8 0, .int .u8 0, .int .u8 0, .int .u8 0, .int .u8 0, .int .u8 0, .int .u8 0, .int .u8 0, .int .u8 0, .int .u8 0, .int .u8 0, .int .u8 0, .int .u8 0, .int .u8 0, .int .u8 0, .int .u8 0, .int .u8 0, .int .u8 0, .int .u8 0, .int .u8 0, .int .u8 0, .int .u8 0, .int .u8 0, .int .u8 0]) (by simp)
  have KA := Lib.hid ka
  have HIN := Lib.hid hin
  have HON := Lib.hid hone
  have HF4 := Lib.hid hf3
  clear ka kc hf3 HF hin hone
  have h1 := fun W ho => mulR (sg1 HR.out) W ho HA.out LO.out LZ.out
  rw [lit0, lit1] at h1
  have H1 := Lib.hid h1
  clear h1
  go_enter Tryd.func7, Tryd.ntmps7
  go_wp2_with (first | (refine wpList_store_row rfl 25 (.tmp 5) (.tmp 8) rfl (w.heap.size + 1 + 1) (#[.int .u8 1, .int .u8 0, .int .u8 0, .int .u8 0, .int .u8 0, .int .u8 0, .int .u8 0, .int .u8 0, .int .u8 0, .int .u8 0, .int .u8 0, .int .u8 0, .int .u8 0, .int .u8 0, .int .u8 0, .int .u8 0, .int .u8 0, .int .u8 0, .int .u8 0, .int .u8 0, .int .u8 0, .int .u8 0, .int .u8 0, .int .u8 0, .int .u8 0, .int .u8 0, .int .u8 0, .int .u8 0, .int .u8 0, .int .u8 0, .int .u8 0, .int .u8 0]) rfl rfl 25 _ KA.out HIN.out rfl HON.out ?_) | (refine wpList_load_row rfl 25 (.tmp 2) rfl (w.heap.size) rfl 25 (ks a) (0, 0) _ l2 Tryd.underlying25 rfl (by first | exact info_ks _ | exact HIN.out) ?_) | (refine wpList_load_row rfl 25 (.tmp 5) rfl (w.heap.size + 1 + 1) rfl 25 (#[.int .u8 1, .int .u8 0, .int .u8 0, .int .u8 0, .int .u8 0, .int .u8 0, .int .u8 0, .int .u8 0, .int .u8 0, .int .u8 0, .int .u8 0, .int .u8 0, .int .u8 0, .int .u8 0, .int .u8 0, .int .u8 0, .int .u8 0, .int .u8 0, .int .u8 0, .int .u8 0, .int .u8 0, .int .u8 0, .int .u8 0, .int .u8 0, .int .u8 0, .int .u8 0, .int .u8 0, .int .u8 0, .int .u8 0, .int .u8 0, .int .u8 0, .int .u8 0]) (0, 0) _ l5 Tryd.underlying25 rfl (by first | exact info_ks _ | exact HIN.out) ?_))
  have hO1 := HF4.out.og HO.out
  have HO1 := Lib.hid hO1
  clear hO1
  have hf5 := HF4.out
  rw [← lit1] at hf5
  have HF := Lib.hid hf5
  clear hf5 HF4 KA HIN HON l2 l5
  have hf5 := HF.out
  have HF6 := HF
  rw [lit1] at hf5
  clear HF
  refine (H1.out _ HO1.out).mono ?_
  rintro e v1 ⟨rfl, hb⟩
  have hf7 := hf5.ext hb
  rw [← lit1] at hf7
  have HF := Lib.hid hf7
  clear HF6 H1 HO1 hf5 hf7 hb
  have hf := HF.out
  have ka : Blk (v1.alloc (.cells #[.int .u8 0, .int .u8 0, .int .u8 0, .int .u8 0, .int .u8 0, .int .u8 0, .int .u8 0, .int .u8 0, .int .u8 0, .int .u8 0, .int .u8 0, .int .u8 0, .int .u8 0, .int .u8 0, .int .u8 0, .int .u8 0, .int .u8 0, .int .u8 0, .int .u8 0, .int .u8 0, .int .u8 0, .int .u8 0, .int .u8 0, .int .u8 0, .int .u8 0, .int .u8 0, .int .u8 0, .int .u8 0, .int .u8 0, .int .u8 0, .int .u8 0, .int .u8 0] 25)) v1.heap.size 25 #[.int .u8 0, .int .u8 0, .int .u8 0, .int .u8 0, .int .u8 0, .int .u8 0, .int .u8 0, .int .u8 0, .int .u8 0, .int .u8 0, .int .u8 0, .int .u8 0, .int .u8 0, .int .u8 0, .int .u8 0, .int .u8 0, .int .u8 0, .int .u8 0, .int .u8 0, .int .u8 0, .int .u8 0, .int .u8 0, .int .u8 0, .int .u8 0, .int .u8 0, .int .u8 0, .int .u8 0, .int .u8 0, .int .u8 0, .int .u8 0, .int .u8 0, .int .u8 0] := Blk.new _ _ _
  have kc := ka.setRow_same (ks r)
  have hf3 := ((hf.pass (.cells #[.int .u8 0, .int .u8 0, .int .u8 0, .int .u8 0, .int .u8 0, .int .u8 0, .int .u8 0, .int .u8 0, .int .u8 0, .int .u8 0, .int .u8 0, .int .u8 0, .int .u8 0, .int .u8 0, .int .u8 0, .int .u8 0, .int .u8 0, .int .u8 0, .int .u8 0, .int .u8 0, .int .u8 0, .int .u8 0, .int .u8 0, .int .u8 0, .int .u8 0, .int .u8 0, .int .u8 0, .int .u8 0, .int .u8 0, .int .u8 0, .int .u8 0, .int .u8 0] 25)).setOut (g := v1.heap.size) (by have := hf.size; omega) (by intro p hp; exact Nat.ne_of_lt (hf.rows p hp).lt) (by simp) (ks r)).more kc
  have hsz : (#[.int .u8 0, .int .u8 0, .int .u8 0, .int .u8 0, .int .u8 0, .int .u8 0, .int .u8 0, .int .u8 0, .int .u8 0, .int .u8 0, .int .u8 0, .int .u8 0, .int .u8 0, .int .u8 0, .int .u8 0, .int .u8 0, .int .u8 0, .int .u8 0, .int .u8 0, .int .u8 0, .int .u8 0, .int .u8 0, .int .u8 0, .int .u8 0, .int .u8 0, .int .u8 0, .int .u8 0, .int .u8 0, .int .u8 0, .int .u8 0, .int .u8 0, .int .u8 0] : Array Value).size = (ks r).size := by rw [ks_size]; rfl
  have l2 := hf3.get (g := w.heap.size) (t := 25) (cs := ks a) (by simp)
  have KA := Lib.hid ka
  have HSZ := Lib.hid hsz
  have HF4 := Lib.hid hf3
  clear hf kc ka hf3 HF hsz
  go_wp2_with (first | (refine wpList_store_row rfl 25 (.tmp 6) (.tmp 12) rfl (v1.heap.size) (ks r) rfl rfl 25 _ KA.out (info_ks _) HSZ.out (ks_one _) ?_) | (refine wpList_load_row rfl 25 (.tmp 2) rfl (w.heap.size) rfl 25 (ks a) (0, 0) _ l2 Tryd.underlying25 rfl (info_ks _) ?_))
  have HF := HF4
  clear HF4 KA HSZ l2
  refine (negR HM.out.symm _ (HF.out.og HO.out) HA.out).mono ?_
  rintro e v2 ⟨rfl, hb⟩
  have hf := HF.out.ext hb
  have ka : Blk (v2.alloc (.cells #[.int .u8 0, .int .u8 0, .int .u8 0, .int .u8 0, .int .u8 0, .int .u8 0, .int .u8 0, .int .u8 0, .int .u8 0, .int .u8 0, .int .u8 0, .int .u8 0, .int .u8 0, .int .u8 0, .int .u8 0, .int .u8 0, .int .u8 0, .int .u8 0, .int .u8 0, .int .u8 0, .int .u8 0, .int .u8 0, .int .u8 0, .int .u8 0, .int .u8 0, .int .u8 0, .int .u8 0, .int .u8 0, .int .u8 0, .int .u8 0, .int .u8 0, .int .u8 0] 25)) v2.heap.size 25 #[.int .u8 0, .int .u8 0, .int .u8 0, .int .u8 0, .int .u8 0, .int .u8 0, .int .u8 0, .int .u8 0, .int .u8 0, .int .u8 0, .int .u8 0, .int .u8 0, .int .u8 0, .int .u8 0, .int .u8 0, .int .u8 0, .int .u8 0, .int .u8 0, .int .u8 0, .int .u8 0, .int .u8 0, .int .u8 0, .int .u8 0, .int .u8 0, .int .u8 0, .int .u8 0, .int .u8 0, .int .u8 0, .int .u8 0, .int .u8 0, .int .u8 0, .int .u8 0] := Blk.new _ _ _
  have kc := ka.setRow_same (ks m)
  have hf3 := ((hf.pass (.cells #[.int .u8 0, .int .u8 0, .int .u8 0, .int .u8 0, .int .u8 0, .int .u8 0, .int .u8 0, .int .u8 0, .int .u8 0, .int .u8 0, .int .u8 0, .int .u8 0, .int .u8 0, .int .u8 0, .int .u8 0, .int .u8 0, .int .u8 0, .int .u8 0, .int .u8 0, .int .u8 0, .int .u8 0, .int .u8 0, .int .u8 0, .int .u8 0, .int .u8 0, .int .u8 0, .int .u8 0, .int .u8 0, .int .u8 0, .int .u8 0, .int .u8 0, .int .u8 0] 25)).setOut (g := v2.heap.size) (by have := hf.size; omega) (by intro p hp; exact Nat.ne_of_lt (hf.rows p hp).lt) (by simp) (ks m)).more kc
  have hsz : (#[.int .u8 0, .int .u8 0, .int .u8 0, .int .u8 0, .int .u8 0, .int .u8 0, .int .u8 0, .int .u8 0, .int .u8 0, .int .u8 0, .int .u8 0, .int .u8 0, .int .u8 0, .int .u8 0, .int .u8 0, .int .u8 0, .int .u8 0, .int .u8 0, .int .u8 0, .int .u8 0, .int .u8 0, .int .u8 0, .int .u8 0, .int .u8 0, .int .u8 0, .int .u8 0, .int .u8 0, .int .u8 0, .int .u8 0, .int .u8 0, .int .u8 0, .int .u8 0] : Array Value).size = (ks m).size := by rw [ks_size]; rfl
  have KA := Lib.hid ka
  have HSZ := Lib.hid hsz
  have HF4 := Lib.hid hf3
  clear hb hf kc ka hf3 HF hsz
  go_wp2_with (first | (refine wpList_store_row rfl 25 (.tmp 7) (.tmp 14) rfl (v2.heap.size) (ks m) rfl rfl 25 _ KA.out (info_ks _) HSZ.out (ks_one _) ?_))
  have HF := HF4
  clear HF4 KA HSZ
  as_aux_lemma =>
    refine wp_region_held_drew (S := fun W => Fr w W [(v2.heap.size, 25, ks m), (v1.heap.size, 25, ks r), (w.heap.size + 1 + 1, 25, ks 1), (w.heap.size + 1, 25, ks b), (w.heap.size, 25, ks a)] []) (by kernel_rfl) ?_ (fun hHeld => ?_)
    · exact (HF.out.sub (by simp) (by simp)).drew
    refine wpAnyH_take (i := 0) (v := .agg (ks m)) rfl (by kernel_rfl) (by kernel_rfl) (by kernel_rfl) (fun _ _ _ h => h) (yields_row (by rfl) 25 (.tmp 7) rfl (v2.heap.size) rfl 25 (ks m) _ (fun W (h : Fr _ W _ _) => h.get (by simp)) Tryd.underlying25 rfl (info_ks _)) hHeld ?_
    try simp only [Act.put, List.getElem_toArray, List.getElem_cons_succ, List.getElem_cons_zero, List.setIfInBounds_toArray, List.set_cons_zero, List.set_cons_succ]
    refine wpAnyH_take (i := 2) (v := .agg (ks r)) rfl (by kernel_rfl) (by kernel_rfl) (by kernel_rfl) (fun _ _ _ h => h) (yields_row (by rfl) 25 (.tmp 6) rfl (v1.heap.size) rfl 25 (ks r) _ (fun W (h : Fr _ W _ _) => h.get (by simp)) Tryd.underlying25 rfl (info_ks _)) hHeld ?_
    try simp only [Act.put, List.getElem_toArray, List.getElem_cons_succ, List.getElem_cons_zero, List.setIfInBounds_toArray, List.set_cons_zero, List.set_cons_succ]
    refine wpAnyH_ready (rs := [1]) (by kernel_rfl) (by simp) (AllReadyH.cons rfl (fun K hK => ?_) AllReadyH.nil)
    have h0 := hHeld
    clear hHeld
    try simp only [List.getElem_toArray, List.getElem_cons_succ, List.getElem_cons_zero]
    have H0 := Lib.hid h0
    clear h0
    go_simp
    go_at_call 15
    refine (negR (sg2 LL_pos HM.out HR.out) _ (Fr.og H0.out HO.out) LM.out).mono ?_
    rintro e vv ⟨rfl, hb⟩
    have h1 := H0.out.ext hb
    clear hb H0
    go_wp2_with (fail)
    refine hK.out _ _ h1 (fun hHeld => ?_)
    clear hK K h1
    try simp only [Act.put, List.getElem_toArray, List.getElem_cons_succ, List.getElem_cons_zero, List.setIfInBounds_toArray, List.set_cons_zero, List.set_cons_succ]
    refine wpAnyH_take (i := 3) (v := ?_) rfl (by kernel_rfl) (by kernel_rfl) (by kernel_rfl) (fun _ _ _ h => h) (Or.inl ⟨by rfl, ?_⟩) hHeld ?_
    rotate_left
    · (intro W hSw; (try dsimp only at hSw); (try simp only [List.getElem_toArray, List.getElem_cons_succ, List.getElem_cons_zero]); go_simp; try with_reducible rfl)
    try simp only [Act.put, List.getElem_toArray, List.getElem_cons_succ, List.getElem_cons_zero, List.setIfInBounds_toArray, List.set_cons_zero, List.set_cons_succ]
    refine wpAnyH_take (i := 4) (v := ?_) rfl (by kernel_rfl) (by kernel_rfl) (by kernel_rfl) (fun _ _ _ h => h) (Or.inl ⟨by rfl, ?_⟩) hHeld ?_
    rotate_left
    · (intro W hSw; (try dsimp only at hSw); (try simp only [List.getElem_toArray, List.getElem_cons_succ, List.getElem_cons_zero]); go_simp; try with_reducible rfl)
    try simp only [Act.put, List.getElem_toArray, List.getElem_cons_succ, List.getElem_cons_zero, List.setIfInBounds_toArray, List.set_cons_zero, List.set_cons_succ]
    refine wpAnyH_take (i := 5) (v := .agg (ks m)) rfl (by kernel_rfl) (by kernel_rfl) (by kernel_rfl) (fun _ _ _ h => h) (yields_row (by rfl) 25 (.tmp 7) rfl (v2.heap.size) rfl 25 (ks m) _ (fun W (h : Fr _ W _ _) => h.get (by simp)) Tryd.underlying25 rfl (info_ks _)) hHeld ?_
    try simp only [Act.put, List.getElem_toArray, List.getElem_cons_succ, List.getElem_cons_zero, List.setIfInBounds_toArray, List.set_cons_zero, List.set_cons_succ]
    refine wpAnyH_take (i := 6) (v := .agg (ks b)) rfl (by kernel_rfl) (by kernel_rfl) (by kernel_rfl) (fun _ _ _ h => h) (yields_row (by rfl) 25 (.tmp 3) rfl (w.heap.size + 1) rfl 25 (ks b) _ (fun W (h : Fr _ W _ _) => h.get (by simp)) Tryd.underlying25 rfl (info_ks _)) hHeld ?_
    try simp only [Act.put, List.getElem_toArray, List.getElem_cons_succ, List.getElem_cons_zero, List.setIfInBounds_toArray, List.set_cons_zero, List.set_cons_succ]
    refine wpAnyH_take (i := 7) (v := .agg (ks a)) rfl (by kernel_rfl) (by kernel_rfl) (by kernel_rfl) (fun _ _ _ h => h) (yields_row (by rfl) 25 (.tmp 2) rfl (w.heap.size) rfl 25 (ks a) _ (fun W (h : Fr _ W _ _) => h.get (by simp)) Tryd.underlying25 rfl (info_ks _)) hHeld ?_
    try simp only [Act.put, List.getElem_toArray, List.getElem_cons_succ, List.getElem_cons_zero, List.setIfInBounds_toArray, List.set_cons_zero, List.set_cons_succ]
    refine wpAnyH_take (i := 8) (v := .agg (ks b)) rfl (by kernel_rfl) (by kernel_rfl) (by kernel_rfl) (fun _ _ _ h => h) (yields_row (by rfl) 25 (.tmp 3) rfl (w.heap.size + 1) rfl 25 (ks b) _ (fun W (h : Fr _ W _ _) => h.get (by simp)) Tryd.underlying25 rfl (info_ks _)) hHeld ?_
    try simp only [Act.put, List.getElem_toArray, List.getElem_cons_succ, List.getElem_cons_zero, List.setIfInBounds_toArray, List.set_cons_zero, List.set_cons_succ]
    refine wpAnyH_take (i := 9) (v := .agg (ks 0)) rfl (by kernel_rfl) (by kernel_rfl) (by kernel_rfl) (fun _ _ _ h => h) (Or.inl ⟨by rfl, ?_⟩) hHeld ?_
    · (intro W hSw; clear hSw; rw [lit0]; (try simp only [List.getElem_toArray, List.getElem_cons_succ, List.getElem_cons_zero]); go_simp; try with_reducible rfl)
    try simp only [Act.put, List.getElem_toArray, List.getElem_cons_succ, List.getElem_cons_zero, List.setIfInBounds_toArray, List.set_cons_zero, List.set_cons_succ]
    refine wpAnyH_take (i := 12) (v := .agg (ks 0)) rfl (by kernel_rfl) (by kernel_rfl) (by kernel_rfl) (fun _ _ _ h => h) (Or.inl ⟨by rfl, ?_⟩) hHeld ?_
    · (intro W hSw; clear hSw; rw [lit0]; (try simp only [List.getElem_toArray, List.getElem_cons_succ, List.getElem_cons_zero]); go_simp; try with_reducible rfl)
    try simp only [Act.put, List.getElem_toArray, List.getElem_cons_succ, List.getElem_cons_zero, List.setIfInBounds_toArray, List.set_cons_zero, List.set_cons_succ]
    refine wpAnyH_ready (rs := [10]) (by kernel_rfl) (by simp) (AllReadyH.cons rfl (fun K hK => ?_) AllReadyH.nil)
    have h0 := hHeld
    clear hHeld
    try simp only [List.getElem_toArray, List.getElem_cons_succ, List.getElem_cons_zero]
    have H0 := Lib.hid h0
    clear h0
    go_simp
    go_at_call 16
    refine (mulR (sg3 HT.out) _ (Fr.og H0.out HO.out) HA.out HB.out LZ.out).mono ?_
    rintro e vv ⟨rfl, hb⟩
    have h1 := H0.out.ext hb
    clear hb H0
    go_wp2_with (fail)
    refine hK.out _ _ h1 (fun hHeld => ?_)
    clear hK K h1
    try simp only [Act.put, List.getElem_toArray, List.getElem_cons_succ, List.getElem_cons_zero, List.setIfInBounds_toArray, List.set_cons_zero, List.set_cons_succ]
    refine wpAnyH_ready (rs := [11]) (by kernel_rfl) (by simp) (AllReadyH.cons rfl (fun K hK => ?_) AllReadyH.nil)
    have h0 := hHeld
    clear hHeld
    try simp only [List.getElem_toArray, List.getElem_cons_succ, List.getElem_cons_zero]
    have H0 := Lib.hid h0
    clear h0
    go_simp
    go_at_call 16
    refine (mulR (sg4 LL_pos HM.out HT.out) _ (Fr.og H0.out HO.out) LM.out HB.out LT.out).mono ?_
    rintro e vv ⟨rfl, hb⟩
    have h1 := H0.out.ext hb
    clear hb H0
    go_wp2_with (fail)
    refine hK.out _ _ h1 (fun hHeld => ?_)
    clear hK K h1
    try simp only [Act.put, List.getElem_toArray, List.getElem_cons_succ, List.getElem_cons_zero, List.setIfInBounds_toArray, List.set_cons_zero, List.set_cons_succ]
    refine wpAnyH_take (i := 13) (v := ?_) rfl (by kernel_rfl) (by kernel_rfl) (by kernel_rfl) (fun _ _ _ h => h) (Or.inl ⟨by rfl, ?_⟩) hHeld ?_
    rotate_left
    · (intro W hSw; (try dsimp only at hSw); (try simp only [List.getElem_toArray, List.getElem_cons_succ, List.getElem_cons_zero]); go_simp; try with_reducible rfl)
    try simp only [Act.put, List.getElem_toArray, List.getElem_cons_succ, List.getElem_cons_zero, List.setIfInBounds_toArray, List.set_cons_zero, List.set_cons_succ]
    refine wpAnyH_take (i := 14) (v := ?_) rfl (by kernel_rfl) (by kernel_rfl) (by kernel_rfl) (fun _ _ _ h => h) (Or.inl ⟨by rfl, ?_⟩) hHeld ?_
    rotate_left
    · (intro W hSw; (try dsimp only at hSw); (try simp only [List.getElem_toArray, List.getElem_cons_succ, List.getElem_cons_zero]); go_simp; try with_reducible rfl)
    try simp only [Act.put, List.getElem_toArray, List.getElem_cons_succ, List.getElem_cons_zero, List.setIfInBounds_toArray, List.set_cons_zero, List.set_cons_succ]
    refine wpAnyH_take (i := 15) (v := ?_) rfl (by kernel_rfl) (by kernel_rfl) (by kernel_rfl) (fun _ _ _ h => h) (Or.inl ⟨by rfl, ?_⟩) hHeld ?_
    rotate_left
    · (intro W hSw; (try dsimp only at hSw); (try simp only [List.getElem_toArray, List.getElem_cons_succ, List.getElem_cons_zero]); go_simp; try with_reducible rfl)
    try simp only [Act.put, List.getElem_toArray, List.getElem_cons_succ, List.getElem_cons_zero, List.setIfInBounds_toArray, List.set_cons_zero, List.set_cons_succ]
    refine wpAnyH_take (i := 16) (v := .agg (ks m)) rfl (by kernel_rfl) (by kernel_rfl) (by kernel_rfl) (fun _ _ _ h => h) (yields_row (by rfl) 25 (.tmp 7) rfl (v2.heap.size) rfl 25 (ks m) _ (fun W (h : Fr _ W _ _) => h.get (by simp)) Tryd.underlying25 rfl (info_ks _)) hHeld ?_
    try simp only [Act.put, List.getElem_toArray, List.getElem_cons_succ, List.getElem_cons_zero, List.setIfInBounds_toArray, List.set_cons_zero, List.set_cons_succ]
    refine wpAnyH_take (i := 17) (v := .agg (ks b)) rfl (by kernel_rfl) (by kernel_rfl) (by kernel_rfl) (fun _ _ _ h => h) (yields_row (by rfl) 25 (.tmp 3) rfl (w.heap.size + 1) rfl 25 (ks b) _ (fun W (h : Fr _ W _ _) => h.get (by simp)) Tryd.underlying25 rfl (info_ks _)) hHeld ?_
    try simp only [Act.put, List.getElem_toArray, List.getElem_cons_succ, List.getElem_cons_zero, List.setIfInBounds_toArray, List.set_cons_zero, List.set_cons_succ]
    refine wpAnyH_take (i := 19) (v := .agg (ks 0)) rfl (by kernel_rfl) (by kernel_rfl) (by kernel_rfl) (fun _ _ _ h => h) (Or.inl ⟨by rfl, ?_⟩) hHeld ?_
    · (intro W hSw; clear hSw; rw [lit0]; (try simp only [List.getElem_toArray, List.getElem_cons_succ, List.getElem_cons_zero]); go_simp; try with_reducible rfl)
    try simp only [Act.put, List.getElem_toArray, List.getElem_cons_succ, List.getElem_cons_zero, List.setIfInBounds_toArray, List.set_cons_zero, List.set_cons_succ]
    refine wpAnyH_take (i := 21) (v := .agg (ks a)) rfl (by kernel_rfl) (by kernel_rfl) (by kernel_rfl) (fun _ _ _ h => h) (yields_row (by rfl) 25 (.tmp 2) rfl (w.heap.size) rfl 25 (ks a) _ (fun W (h : Fr _ W _ _) => h.get (by simp)) Tryd.underlying25 rfl (info_ks _)) hHeld ?_
    try simp only [Act.put, List.getElem_toArray, List.getElem_cons_succ, List.getElem_cons_zero, List.setIfInBounds_toArray, List.set_cons_zero, List.set_cons_succ]
    refine wpAnyH_take (i := 22) (v := .agg (ks b)) rfl (by kernel_rfl) (by kernel_rfl) (by kernel_rfl) (fun _ _ _ h => h) (yields_row (by rfl) 25 (.tmp 3) rfl (w.heap.size + 1) rfl 25 (ks b) _ (fun W (h : Fr _ W _ _) => h.get (by simp)) Tryd.underlying25 rfl (info_ks _)) hHeld ?_
    try simp only [Act.put, List.getElem_toArray, List.getElem_cons_succ, List.getElem_cons_zero, List.setIfInBounds_toArray, List.set_cons_zero, List.set_cons_succ]
    refine wpAnyH_take (i := 23) (v := .agg (ks 0)) rfl (by kernel_rfl) (by kernel_rfl) (by kernel_rfl) (fun _ _ _ h => h) (Or.inl ⟨by rfl, ?_⟩) hHeld ?_
    · (intro W hSw; clear hSw; rw [lit0]; (try simp only [List.getElem_toArray, List.getElem_cons_succ, List.getElem_cons_zero]); go_simp; try with_reducible rfl)
    try simp only [Act.put, List.getElem_toArray, List.getElem_cons_succ, List.getElem_cons_zero, List.setIfInBounds_toArray, List.set_cons_zero, List.set_cons_succ]
    refine wpAnyH_ready (rs := [18]) (by kernel_rfl) (by simp) (AllReadyH.cons rfl (fun K hK => ?_) AllReadyH.nil)
    have h0 := hHeld
    clear hHeld
    try simp only [List.getElem_toArray, List.getElem_cons_succ, List.getElem_cons_zero]
    have H0 := Lib.hid h0
    clear h0
    go_simp
    go_at_call 15
    refine (negR HN.out.symm _ (Fr.og H0.out HO.out) HB.out).mono ?_
    rintro e vv ⟨rfl, hb⟩
    have h1 := H0.out.ext hb
    clear hb H0
    go_wp2_with (fail)
    refine hK.out _ _ h1 (fun hHeld => ?_)
    clear hK K h1
    try simp only [Act.put, List.getElem_toArray, List.getElem_cons_succ, List.getElem_cons_zero, List.setIfInBounds_toArray, List.set_cons_zero, List.set_cons_succ]
    refine wpAnyH_ready (rs := [20]) (by kernel_rfl) (by simp) (AllReadyH.cons rfl (fun K hK => ?_) AllReadyH.nil)
    have h0 := hHeld
    clear hHeld
    try simp only [List.getElem_toArray, List.getElem_cons_succ, List.getElem_cons_zero]
    have H0 := Lib.hid h0
    clear h0
    go_simp
    go_at_call 16
    refine (mulR (sg5 LL_pos HM.out HN.out HT.out) _ (Fr.og H0.out HO.out) LM.out LN.out LZ.out).mono ?_
    rintro e vv ⟨rfl, hb⟩
    have h1 := H0.out.ext hb
    clear hb H0
    go_wp2_with (fail)
    refine hK.out _ _ h1 (fun hHeld => ?_)
    clear hK K h1
    try simp only [Act.put, List.getElem_toArray, List.getElem_cons_succ, List.getElem_cons_zero, List.setIfInBounds_toArray, List.set_cons_zero, List.set_cons_succ]
    refine wpAnyH_ready (rs := [24]) (by kernel_rfl) (by simp) (AllReadyH.cons rfl (fun K hK => ?_) AllReadyH.nil)
    have h0 := hHeld
    clear hHeld
    try simp only [List.getElem_toArray, List.getElem_cons_succ, List.getElem_cons_zero]
    have H0 := Lib.hid h0
    clear h0
    go_simp
    go_at_call 16
    refine (mulR (sg3 HT.out) _ (Fr.og H0.out HO.out) HA.out HB.out LZ.out).mono ?_
    rintro e vv ⟨rfl, hb⟩
    have h1 := H0.out.ext hb
    clear hb H0
    go_wp2_with (fail)
    refine hK.out _ _ h1 (fun hHeld => ?_)
    clear hK K h1
    try simp only [Act.put, List.getElem_toArray, List.getElem_cons_succ, List.getElem_cons_zero, List.setIfInBounds_toArray, List.set_cons_zero, List.set_cons_succ]
    refine wpAnyH_take (i := 25) (v := ?_) rfl (by kernel_rfl) (by kernel_rfl) (by kernel_rfl) (fun _ _ _ h => h) (Or.inl ⟨by rfl, ?_⟩) hHeld ?_
    rotate_left
    · (intro W hSw; (try dsimp only at hSw); (try simp only [List.getElem_toArray, List.getElem_cons_succ, List.getElem_cons_zero]); go_simp; try with_reducible rfl)
    try simp only [Act.put, List.getElem_toArray, List.getElem_cons_succ, List.getElem_cons_zero, List.setIfInBounds_toArray, List.set_cons_zero, List.set_cons_succ]
    refine wpAnyH_take (i := 26) (v := ?_) rfl (by kernel_rfl) (by kernel_rfl) (by kernel_rfl) (fun _ _ _ h => h) (Or.inl ⟨by rfl, ?_⟩) hHeld ?_
    rotate_left
    · (intro W hSw; (try dsimp only at hSw); (try simp only [List.getElem_toArray, List.getElem_cons_succ, List.getElem_cons_zero]); go_simp; try with_reducible rfl)
    try simp only [Act.put, List.getElem_toArray, List.getElem_cons_succ, List.getElem_cons_zero, List.setIfInBounds_toArray, List.set_cons_zero, List.set_cons_succ]
    refine wpAnyH_take (i := 27) (v := ?_) rfl (by kernel_rfl) (by kernel_rfl) (by kernel_rfl) (fun _ _ _ h => h) (Or.inl ⟨by rfl, ?_⟩) hHeld ?_
    rotate_left
    · (intro W hSw; (try dsimp only at hSw); (try simp only [List.getElem_toArray, List.getElem_cons_succ, List.getElem_cons_zero]); go_simp; try with_reducible rfl)
    try simp only [Act.put, List.getElem_toArray, List.getElem_cons_succ, List.getElem_cons_zero, List.setIfInBounds_toArray, List.set_cons_zero, List.set_cons_succ]
    refine wpAnyH_ready (rs := [28]) (by kernel_rfl) (by simp) (AllReadyH.cons rfl (fun K hK => ?_) AllReadyH.nil)
    have h0 := hHeld
    clear hHeld
    try simp only [List.getElem_toArray, List.getElem_cons_succ, List.getElem_cons_zero]
    have H0 := Lib.hid h0
    clear h0
    go_simp
    go_at_call 14
    refine (known_any _ (Fr.og H0.out HO.out)).mono ?_
    rintro e vv ⟨rfl, hb⟩
    have h1 := H0.out.ext hb
    clear hb H0
    go_wp2_with (fail)
    refine hK.out _ _ h1 (fun hHeld => ?_)
    clear hK K h1
    try simp only [Act.put, List.getElem_toArray, List.getElem_cons_succ, List.getElem_cons_zero, List.setIfInBounds_toArray, List.set_cons_zero, List.set_cons_succ]
    refine wpAnyH_take (i := 29) (v := ?_) rfl (by kernel_rfl) (by kernel_rfl) (by kernel_rfl) (fun _ _ _ h => h) (Or.inl ⟨by rfl, ?_⟩) hHeld ?_
    rotate_left
    · (intro W hSw; (try dsimp only at hSw); (try simp only [List.getElem_toArray, List.getElem_cons_succ, List.getElem_cons_zero]); go_simp; try with_reducible rfl)
    try simp only [Act.put, List.getElem_toArray, List.getElem_cons_succ, List.getElem_cons_zero, List.setIfInBounds_toArray, List.set_cons_zero, List.set_cons_succ]
    refine wpAnyH_take (i := 30) (v := ?_) rfl (by kernel_rfl) (by kernel_rfl) (by kernel_rfl) (fun _ _ _ h => h) (Or.inl ⟨by rfl, ?_⟩) hHeld ?_
    rotate_left
    · (intro W hSw; (try dsimp only at hSw); (try simp only [List.getElem_toArray, List.getElem_cons_succ, List.getElem_cons_zero]); go_simp; try with_reducible rfl)
    try simp only [Act.put, List.getElem_toArray, List.getElem_cons_succ, List.getElem_cons_zero, List.setIfInBounds_toArray, List.set_cons_zero, List.set_cons_succ]
    refine wpAnyH_done (by kernel_rfl) ?_ _
    have HB := Lib.hid hHeld.below
    clear hHeld
    go_wp2_with (fail)
    go_ret
    exact ⟨rfl, HB.out⟩
end Go.Proofs.YtpliddkdahgbpaaDoor
