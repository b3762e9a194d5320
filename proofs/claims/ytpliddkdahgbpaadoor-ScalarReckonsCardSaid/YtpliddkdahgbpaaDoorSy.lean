/- Small words for layer 3's laws; 'known' answers true. -/
import Derived.Test.YtpliddkdahgbpaaDoorSr
import Derived.Deep.DeepCutAuto
import Derived.Deep.CutBlock
namespace Go.Proofs.YtpliddkdahgbpaaDoor
set_option linter.unusedVariables false
set_option linter.unusedSimpArgs false
open Go.RowKit

def BPost (b : Bool) (w : World) (e : Ending) (w' : World) : Prop := e = .returned (.bool b) ∧ Below w.heap.size w w'
theorem dig_all : ∀ (k n m : Nat), n < 256 ^ k → m < 256 ^ k → (∀ i, i < k → n / 256 ^ i % 256 = m / 256 ^ i % 256) → n = m
  | 0, n, m, h1, h2, _ => by simp at h1 h2; omega
  | k + 1, n, m, h1, h2, h => by
    rw [Nat.pow_succ] at h1 h2
    have h0 := h 0 (by omega)
    simp at h0
    have := dig_all k (n / 256) (m / 256) (by omega) (by omega) (fun i hi => by
      have := h (i + 1) (by omega)
      rw [Nat.pow_succ', ← Nat.div_div_eq_div_mul, ← Nat.div_div_eq_div_mul] at this
      exact this)
    omega
theorem kb_inj {n m : Nat} (hn : n < 115792089237316195423570985008687907853269984665640564039457584007913129639936) (hm : m < 115792089237316195423570985008687907853269984665640564039457584007913129639936) (h : kb n = kb m) : n = m := by
  refine dig_all 32 n m hn hm fun i hi => ?_
  have h1 := kb_get n hi
  rw [h, kb_get m hi] at h1
  injection h1 with h1
  exact h1.symm
theorem size_u8' (W : World) : (sizeOf 5).run Tryd.prog W = .ok 1 W := by kernel_rfl
/-- '==' of two keys. -/
theorem keys_eq {n m : Nat} {b : Bool} (hn : n < 115792089237316195423570985008687907853269984665640564039457584007913129639936) (hm : m < 115792089237316195423570985008687907853269984665640564039457584007913129639936) (h : decide (n = m) = b) (W : World) : (Op.equalIn 10000 25 (.agg (ks n)) (.agg (ks m))).run Tryd.prog W = .ok b W := by
  have h2 := run_equalIn_nats (P := Tryd.prog) W 9998 25 5 32 .u8 Tryd.underlying25 Tryd.underlying5 size_u8' (kb n) (kb m) (kb_len n) (kb_len m)
  have e : (kb n == kb m) = b := by
    rw [← h, Bool.eq_iff_iff]
    simp
    exact ⟨fun h => kb_inj hn hm h, fun h => by rw [h]⟩
  rw [e] at h2
  exact h2
theorem key_at0 (n b : Nat) (h : b = n % 256) (W : World) : (Instr.index 25 (.agg (ks n)) (.int .i64 0)).run Tryd.prog W = .ok (.int .u8 (b : Int)) W := by
  have h2 := run_index_nats (P := Tryd.prog) W 25 5 32 .u8 Tryd.underlying25 Tryd.underlying5 size_u8' (kb n) 0 b (by omega) (by rw [kb_get n (by omega), h]; simp)
  exact h2
theorem keys_same (n : Nat) (W : World) : (Op.equalIn 10000 25 (.agg (ks n)) (.agg (ks n))).run Tryd.prog W = .ok true W := by
  have h2 := run_equalIn_nats (P := Tryd.prog) W 9998 25 5 32 .u8 Tryd.underlying25 Tryd.underlying5 size_u8' (kb n) (kb n) (kb_len n) (kb_len n)
  rw [show (kb n == kb n) = true by simp] at h2
  exact h2
theorem lit_byte (t : Nat) (h : t < 256) : ks t = #[.int .u8 (t : Int), .int .u8 0, .int .u8 0, .int .u8 0, .int .u8 0, .int .u8 0, .int .u8 0, .int .u8 0, .int .u8 0, .int .u8 0, .int .u8 0, .int .u8 0, .int .u8 0, .int .u8 0, .int .u8 0, .int .u8 0, .int .u8 0, .int .u8 0, .int .u8 0, .int .u8 0, .int .u8 0, .int .u8 0, .int .u8 0, .int .u8 0, .int .u8 0, .int .u8 0, .int .u8 0, .int .u8 0, .int .u8 0, .int .u8 0, .int .u8 0, .int .u8 0] := by
  have e : kb t = [t, 0, 0, 0, 0, 0, 0, 0, 0, 0, 0, 0, 0, 0, 0, 0, 0, 0, 0, 0, 0, 0, 0, 0, 0, 0, 0, 0, 0, 0, 0, 0] := by
    apply List.ext_getElem?
    intro i
    by_cases hi : i < 32
    · rw [kb_get t hi]
      rcases byte_cases hi with rfl | rfl | rfl | rfl | rfl | rfl | rfl | rfl | rfl | rfl | rfl | rfl | rfl | rfl | rfl | rfl | rfl | rfl | rfl | rfl | rfl | rfl | rfl | rfl | rfl | rfl | rfl | rfl | rfl | rfl | rfl | rfl
      all_goals
        simp only [Nat.reducePow, Nat.div_one, List.getElem?_cons_zero, List.getElem?_cons_succ]
        congr 1
        omega
    · rw [List.getElem?_eq_none (by rw [kb_len]; omega), List.getElem?_eq_none (by simp; omega)]
  rw [ks, e]
  rfl
theorem lit0 : ks 0 = #[.int .u8 0, .int .u8 0, .int .u8 0, .int .u8 0, .int .u8 0, .int .u8 0, .int .u8 0, .int .u8 0, .int .u8 0, .int .u8 0, .int .u8 0, .int .u8 0, .int .u8 0, .int .u8 0, .int .u8 0, .int .u8 0, .int .u8 0, .int .u8 0, .int .u8 0, .int .u8 0, .int .u8 0, .int .u8 0, .int .u8 0, .int .u8 0, .int .u8 0, .int .u8 0, .int .u8 0, .int .u8 0, .int .u8 0, .int .u8 0, .int .u8 0, .int .u8 0] := ks_zero
theorem lit1 : ks 1 = #[.int .u8 1, .int .u8 0, .int .u8 0, .int .u8 0, .int .u8 0, .int .u8 0, .int .u8 0, .int .u8 0, .int .u8 0, .int .u8 0, .int .u8 0, .int .u8 0, .int .u8 0, .int .u8 0, .int .u8 0, .int .u8 0, .int .u8 0, .int .u8 0, .int .u8 0, .int .u8 0, .int .u8 0, .int .u8 0, .int .u8 0, .int .u8 0, .int .u8 0, .int .u8 0, .int .u8 0, .int .u8 0, .int .u8 0, .int .u8 0, .int .u8 0, .int .u8 0] := ks_one_cells
theorem lit2 : ks 2 = #[.int .u8 2, .int .u8 0, .int .u8 0, .int .u8 0, .int .u8 0, .int .u8 0, .int .u8 0, .int .u8 0, .int .u8 0, .int .u8 0, .int .u8 0, .int .u8 0, .int .u8 0, .int .u8 0, .int .u8 0, .int .u8 0, .int .u8 0, .int .u8 0, .int .u8 0, .int .u8 0, .int .u8 0, .int .u8 0, .int .u8 0, .int .u8 0, .int .u8 0, .int .u8 0, .int .u8 0, .int .u8 0, .int .u8 0, .int .u8 0, .int .u8 0, .int .u8 0] := by kernel_rfl
theorem lit3 : ks 3 = #[.int .u8 3, .int .u8 0, .int .u8 0, .int .u8 0, .int .u8 0, .int .u8 0, .int .u8 0, .int .u8 0, .int .u8 0, .int .u8 0, .int .u8 0, .int .u8 0, .int .u8 0, .int .u8 0, .int .u8 0, .int .u8 0, .int .u8 0, .int .u8 0, .int .u8 0, .int .u8 0, .int .u8 0, .int .u8 0, .int .u8 0, .int .u8 0, .int .u8 0, .int .u8 0, .int .u8 0, .int .u8 0, .int .u8 0, .int .u8 0, .int .u8 0, .int .u8 0] := by kernel_rfl
theorem lit4 : ks 4 = #[.int .u8 4, .int .u8 0, .int .u8 0, .int .u8 0, .int .u8 0, .int .u8 0, .int .u8 0, .int .u8 0, .int .u8 0, .int .u8 0, .int .u8 0, .int .u8 0, .int .u8 0, .int .u8 0, .int .u8 0, .int .u8 0, .int .u8 0, .int .u8 0, .int .u8 0, .int .u8 0, .int .u8 0, .int .u8 0, .int .u8 0, .int .u8 0, .int .u8 0, .int .u8 0, .int .u8 0, .int .u8 0, .int .u8 0, .int .u8 0, .int .u8 0, .int .u8 0] := by kernel_rfl
theorem lit10 : ks 10 = #[.int .u8 10, .int .u8 0, .int .u8 0, .int .u8 0, .int .u8 0, .int .u8 0, .int .u8 0, .int .u8 0, .int .u8 0, .int .u8 0, .int .u8 0, .int .u8 0, .int .u8 0, .int .u8 0, .int .u8 0, .int .u8 0, .int .u8 0, .int .u8 0, .int .u8 0, .int .u8 0, .int .u8 0, .int .u8 0, .int .u8 0, .int .u8 0, .int .u8 0, .int .u8 0, .int .u8 0, .int .u8 0, .int .u8 0, .int .u8 0, .int .u8 0, .int .u8 0] := by kernel_rfl

section
variable {x y z r : Nat}
theorem mulR (h : (x * y + z) % LL = r) (w : World) (hog : OG w) (hx : x < 115792089237316195423570985008687907853269984665640564039457584007913129639936) (hy : y < 115792089237316195423570985008687907853269984665640564039457584007913129639936) (hz : z < 115792089237316195423570985008687907853269984665640564039457584007913129639936) : Calls Tryd.prog 16 #[.agg (ks x), .agg (ks y), .agg (ks z)] w (KeyPost r w) := by
  rw [← h]
  exact mulAdd_key x y z w hog hx hy hz
theorem addR (h : (x + y) % LL = r) (w : World) (hog : OG w) (hx : x < 115792089237316195423570985008687907853269984665640564039457584007913129639936) (hy : y < 115792089237316195423570985008687907853269984665640564039457584007913129639936) : Calls Tryd.prog 18 #[.agg (ks x), .agg (ks y)] w (KeyPost r w) := by
  rw [← h]
  exact add_key x y w hog hx hy
theorem negR (h : x * (LL - 1) % LL = r) (w : World) (hog : OG w) (hx : x < 115792089237316195423570985008687907853269984665640564039457584007913129639936) : Calls Tryd.prog 15 #[.agg (ks x)] w (KeyPost r w) := by
  rw [← h]
  exact neg_key x w hog hx
theorem mayR {b : Bool} (h : decide (x < LL) = b) (w : World) (hog : OG w) (hx : x < 115792089237316195423570985008687907853269984665640564039457584007913129639936) : Calls Tryd.prog 10 #[.agg (ks x)] w (BPost b w) := by
  rw [← h]
  exact may_key x w hog hx
theorem red_lt (h : r = x % LL) : r < 115792089237316195423570985008687907853269984665640564039457584007913129639936 := by
  rw [h]
  have := Nat.mod_lt x (show 0 < LL by rw [LL_eq]; omega)
  have := LL_lt
  omega
end
theorem neg_one : 1 * (LL - 1) % LL = LL - 1 := by
  rw [Nat.one_mul, Nat.mod_eq_of_lt (by rw [LL_eq]; omega)]
theorem two_three_four : (2 * 3 + 4) % LL = 10 := by decide +kernel
theorem order_236 : 236 = (LL - 1) % 256 := by decide +kernel
set_option maxRecDepth 100000 in
set_option maxHeartbeats 2000000 in
theorem known_any (w : World) (hog : OG w) : Calls Tryd.prog 14 #[] w (BPost true w) := by
  have hfr := Fr.start w
  have HF := Lib.hid hfr
  have HO := Lib.hid hog
  have h1 := fun W ho => mulR two_three_four W ho (by omega) (by omega) (by omega)
  rw [lit2, lit3, lit4] at h1
  have h2 := fun W ho => negR neg_one W ho (by omega)
  rw [lit1] at h2
  obtain ⟨K10, h10⟩ : ∃ K, K = ks 10 := ⟨_, rfl⟩
  have hke : ∀ W, (Op.equalIn 10000 25 (.agg K10) (.agg #[.int .u8 10, .int .u8 0, .int .u8 0, .int .u8 0, .int .u8 0, .int .u8 0, .int .u8 0, .int .u8 0, .int .u8 0, .int .u8 0, .int .u8 0, .int .u8 0, .int .u8 0, .int .u8 0, .int .u8 0, .int .u8 0, .int .u8 0, .int .u8 0, .int .u8 0, .int .u8 0, .int .u8 0, .int .u8 0, .int .u8 0, .int .u8 0, .int .u8 0, .int .u8 0, .int .u8 0, .int .u8 0, .int .u8 0, .int .u8 0, .int .u8 0, .int .u8 0])).run Tryd.prog W = .ok true W := fun W => by rw [h10, ← lit10]; exact keys_same 10 W
  unfold KeyPost at h1
  rw [← h10] at h1
  obtain ⟨q, hq⟩ : ∃ q, q = LL - 1 := ⟨_, rfl⟩
  have hix := key_at0 q 236 (by rw [hq]; exact order_236)
  rw [← hq] at h2
  have hks := keys_same LL
  have hor := fun W ho => order_key W ho
  have hro := rorder_any
  have hby := fun W => rbytes_any LL W LL_lt
  generalize LL = l at *
  have H1 := Lib.hid h1
  have H2 := Lib.hid h2
  have HOR := Lib.hid hor
  have HRO := Lib.hid hro
  have HBY := Lib.hid hby
  clear h1 h2 hor hro hby hq h10 hog hfr
  go_enter Tryd.func14, Tryd.ntmps14
  go_wp2_with (fail)
  refine (H1.out _ HO.out).mono ?_
  rintro e v1 ⟨rfl, hb⟩
  have hf := HF.out.ext hb
  have G1 := Lib.hid hf
  clear hb hf
  go_wp2_with (fail)
  refine (H2.out _ (G1.out.og HO.out)).mono ?_
  rintro e v2 ⟨rfl, hb⟩
  have hf := G1.out.ext hb
  have G2 := Lib.hid hf
  clear hb hf
  go_wp2_with (fail)
  refine (HOR.out _ (G2.out.og HO.out)).mono ?_
  rintro e v3 ⟨rfl, hb⟩
  have hf := G2.out.ext hb
  have G3 := Lib.hid hf
  clear hb hf
  go_wp2_with (fail)
  refine (HRO.out _).mono ?_
  rintro e v4 ⟨rfl, hb⟩
  have hf := G3.out.ext hb
  have G4 := Lib.hid hf
  clear hb hf
  go_wp2_with (fail)
  refine (HBY.out _).mono ?_
  rintro e v5 ⟨rfl, hb⟩
  have hf := G4.out.ext hb
  have G5 := Lib.hid hf.below
  clear hb hf
  go_wp2_with (fail)
  go_ret
  exact ⟨rfl, G5.out⟩
end Go.Proofs.YtpliddkdahgbpaaDoor
