/- The contracts of the field's calls over numbers modulo p; the walks of Inv and rootOfMinusOne. -/
import Derived.Test.YtnfckoamjeafhaaDoorFw
import Derived.Test.YtnfckoamjeafhaaDoorFsw
namespace Go.Proofs.YtnfckoamjeafhaaDoor
set_option linter.unusedVariables false
set_option linter.unusedSimpArgs false
open Go.RowKit

/-- An element's cells. -/
def ev (x : Fin PP) : Array Value := es x.val
theorem ev_size (x : Fin PP) : (ev x).size = 4 := rfl
theorem ev_one (x : Fin PP) : (ev x).all (·.oneCell') = true := es_one _
theorem info_ev (x : Fin PP) : (Tryd.prog.info? 27).map (·.size) = some (ev x).size := info_elem
def EPost (x : Fin PP) (w : World) (e : Ending) (w' : World) : Prop := e = .returned (.agg (ev x)) ∧ Below w.heap.size w w'
def BPost (b : Bool) (w : World) (e : Ending) (w' : World) : Prop := e = .returned (.bool b) ∧ Below w.heap.size w w'
section
variable (x y : Fin PP) (w : World)
theorem subF (hp : PG w) : Calls Tryd.prog 34 #[.agg (ev x), .agg (ev y)] w (EPost (x - y) w) := by
  have h := sub_any x.val y.val w hp x.isLt y.isLt
  rw [Nat.add_comm] at h
  exact h
theorem mulF (hp : PG w) : Calls Tryd.prog 6 #[.agg (ev x), .agg (ev y)] w (EPost (x * y) w) := mul_any x.val y.val w hp x.isLt y.isLt
theorem squareF (hp : PG w) : Calls Tryd.prog 5 #[.agg (ev x)] w (EPost (x * x) w) := square_any x.val w hp x.isLt
theorem negF (hp : PG w) : Calls Tryd.prog 23 #[.agg (ev x)] w (EPost (-x) w) := neg_any x.val w hp x.isLt
theorem powerF (e : Nat) (hp : PG w) (he : e < 115792089237316195423570985008687907853269984665640564039457584007913129639936) : Calls Tryd.prog 21 #[.agg (ev x), .agg (ks e)] w (EPost (x ^ e) w) := by
  have h := power_any x.val e w hp x.isLt he
  rw [← fp_pow_val] at h
  exact h
theorem equalF : Calls Tryd.prog 13 #[.agg (ev x), .agg (ev y)] w (BPost (decide (x = y)) w) := by
  have h := equal_any x.val y.val w x.isLt y.isLt
  have e : decide (x.val = y.val) = decide (x = y) := by
    rw [Bool.eq_iff_iff]
    simp [Fin.ext_iff]
  rw [e] at h
  exact h
theorem equal_yes {x y : Fin PP} (h : x = y) (w : World) : Calls Tryd.prog 13 #[.agg (ev x), .agg (ev y)] w (BPost true w) := by
  have := equalF x y w
  rw [decide_eq_true h] at this
  exact this
theorem equal_no {x y : Fin PP} (h : ¬ x = y) (w : World) : Calls Tryd.prog 13 #[.agg (ev x), .agg (ev y)] w (BPost false w) := by
  have := equalF x y w
  rw [decide_eq_false h] at this
  exact this
theorem oddF : Calls Tryd.prog 12 #[.agg (ev x)] w (BPost (decide (x.val % 2 = 1)) w) := odd_any x.val w
theorem odd_yes {x : Fin PP} (h : x.val % 2 = 1) (w : World) : Calls Tryd.prog 12 #[.agg (ev x)] w (BPost true w) := by
  have := oddF x w
  rw [decide_eq_true h] at this
  exact this
theorem odd_no {x : Fin PP} (h : ¬ x.val % 2 = 1) (w : World) : Calls Tryd.prog 12 #[.agg (ev x)] w (BPost false w) := by
  have := oddF x w
  rw [decide_eq_false h] at this
  exact this
theorem selF_no : Calls Tryd.prog 25 #[.agg (ev x), .agg (ev y), .bool false] w (EPost x w) := select_no x.val y.val w
theorem selF_yes : Calls Tryd.prog 25 #[.agg (ev x), .agg (ev y), .bool true] w (EPost y w) := select_yes x.val y.val w
theorem bytesF : Calls Tryd.prog 8 #[.agg (ev x)] w (KeyPost x.val w) := bytes_any x.val w (PP_lt256 x.isLt)
end
/-- The number of a key's lowest 255 bits. -/
def ofK (n : Nat) : Fin PP := Fin.ofNat PP (n % 57896044618658097711785492504343953926634992332820282019728792003956564819968)
theorem ofF (n : Nat) (w : World) (hp : PG w) (hn : n < 115792089237316195423570985008687907853269984665640564039457584007913129639936) : Calls Tryd.prog 4 #[.agg (ks n)] w (EPost (ofK n) w) := of_any n w hp hn
/-- A small number. -/
def sm (n : Nat) : Fin PP := Fin.ofNat PP n
theorem smallF (n : Nat) (w : World) (hn : n < 18446744073709551616) : Calls Tryd.prog 33 #[.int .u64 (n : Int)] w (EPost (sm n) w) := by
  have h := small_any n w hn
  have e : n = (Fin.ofNat PP n).val := by
    show n = n % PP
    rw [Nat.mod_eq_of_lt (by rw [PP_eq]; omega)]
  rw [e] at h
  have h2 : ((Fin.ofNat PP n).val : Int) = (n : Int) := by rw [← e]
  rw [h2] at h
  exact h

/-! -1's root. -/
theorem fourth_num : num4 18446744073709551611 18446744073709551615 18446744073709551615 2305843009213693951 = 2 * EE + 1 := by decide +kernel
theorem two_pow_II : sm 2 ^ (2 * EE + 1) = II := II_eq
set_option maxHeartbeats 1000000 in
theorem rootI_any (w : World) (hpg : PG w) : Calls Tryd.prog 24 #[] w (EPost II w) := by
  have hfr := (Fr.start w).any (es 0) 27 4 rfl (g := w.heap.size) rfl
  rw [es_zero] at hfr
  have HFR := Lib.hid hfr
  have HPG := Lib.hid hpg
  clear hfr hpg
  have hb0 := bytesOf_any (2 * EE + 1)
  rw [show es (2 * EE + 1) = #[.int .u64 18446744073709551611, .int .u64 18446744073709551615, .int .u64 18446744073709551615, .int .u64 2305843009213693951] from es_of_num4 fourth_num.symm (by decide) (by decide) (by decide) (by decide)] at hb0
  have HB0 := Lib.hid hb0
  clear hb0
  go_enter Tryd.func24, Tryd.ntmps24
  go_wp2_with (fail)
  refine (smallF 2 _ (by omega)).mono ?_
  rintro e v ⟨rfl, hb⟩
  have hf := HFR.out.ext hb
  have HF := Lib.hid hf
  clear hb hf
  go_wp2_with (fail)
  refine (HB0.out _ (by decide +kernel)).mono ?_
  rintro e v2 ⟨rfl, hb⟩
  have hf := HF.out.ext hb
  have HF2 := Lib.hid hf
  clear hb hf
  go_wp2_with (fail)
  refine (powerF _ _ _ (HF2.out.pg HPG.out) (by decide +kernel)).mono ?_
  rintro e v3 ⟨he, hb⟩
  rw [two_pow_II] at he
  subst he
  have hf := HF2.out.ext hb
  clear hb
  obtain ⟨old, hold, kR⟩ := hf.old (g := w.heap.size) (t := 27) (n := 4) (by simp)
  have kS := kR.setRow_same (ev II)
  have hB := below_setRow hf.below (show w.heap.size ≤ w.heap.size by omega) (ev II)
  have HS := Lib.hid kS
  have HB := Lib.hid hB
  have HO := Lib.hid hold
  clear hf kS hB hold
  go_wp2_with (first | (refine wpList_store_row rfl 27 (.tmp 0) (.tmp 4) rfl w.heap.size (ev II) rfl rfl 27 old kR (info_ev _) HO.out (ev_one _) ?_))
  exact elem_end (g := w.heap.size) rfl rfl rfl HS.out HB.out
end Go.Proofs.YtnfckoamjeafhaaDoor
