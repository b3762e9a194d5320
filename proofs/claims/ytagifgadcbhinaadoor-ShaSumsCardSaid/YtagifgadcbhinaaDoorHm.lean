/- The document's long numbers: products, and which is the greater. -/
import Derived.Test.YtagifgadcbhinaaDoorHu
import Derived.Test.YtagifgadcbhinaaDoorHn
namespace Go.Proofs.YtagifgadcbhinaaDoor
set_option linter.unusedVariables false
set_option linter.unusedSimpArgs false
open Go Go.RowKit

theorem getD_out {l : List Nat} {k : Nat} (h : l.length ≤ k) : l.getD k 0 = 0 := by simp [List.getD, List.getElem?_eq_none h]
theorem getD_of {l : List Nat} {k x : Nat} (h : l[k]? = some x) : l.getD k 0 = x := by simp [List.getD, h]
set_option maxRecDepth 100000 in
set_option maxHeartbeats 1000000 in
theorem rmost_any (la lb : List Nat) (A A2 : Option Addr) (na ca nb cb B B2 : Nat) (w : World) (ha : US w B A na ca la) (hb : US w B2 A2 nb cb lb) (da : Dig la) (db : Dig lb) (hna : na ≤ 100) (hnb : nb ≤ 100) :
    Calls Tryd.prog 24 #[.slice A na ca, .slice A2 nb cb] w fun e w' => e = .returned (.bool (decide (dv la ≤ dv lb))) ∧ w = w' := by
  have hlen := ha.len
  have hlen2 := hb.len
  have HA := Lib.hid ha
  have HB := Lib.hid hb
  have DA := Lib.hid da
  have DB := Lib.hid db
  have hs0 : IntKind.i64.wrap ((na : Int) + (nb : Int)) = (na : Int) + (nb : Int) := by rw [IntKind.wrap_i64]; omega
  have E0 := Lib.hid (show dv (la.drop (na + nb + 1)) = dv (lb.drop (na + nb + 1)) by rw [List.drop_of_length_le (by omega), List.drop_of_length_le (by omega)])
  have HL := Lib.hid hlen
  have HL2 := Lib.hid hlen2
  clear ha hb da db hlen hlen2
  go_enter Tryd.func24, Tryd.ntmps24
  go_wp2_with (fail)
  go_loopw [5] (fun i wq => wq = w ∧ ∃ (j : Nat) (z : Int), i = .int .i64 z ∧ z = (j : Int) - 1 ∧ j ≤ na + nb + 1 ∧ Hid (dv (la.drop j) = dv (lb.drop j))) (fun i _ => (intOf i + 1).toNat)
  case atStart => exact ⟨rfl, na + nb + 1, _, rfl, by omega, Nat.le_refl _, E0⟩
  case round =>
    obtain ⟨rfl, j, z, rfl, hz, hj, hE⟩ := hrel
    clear E0
    rcases Nat.eq_zero_or_pos j with h0 | h0
    · subst h0
      obtain rfl : z = -1 := by omega
      clear hz hs0
      have hd := hE.out
      rw [List.drop_zero, List.drop_zero] at hd
      have hdt : decide (dv la ≤ dv lb) = true := decide_eq_true (by omega)
      have HDT := Lib.hid hdt
      clear hd hE HL HL2 hdt
      go_wp2_with (fail)
      go_ret
      refine ⟨?_, rfl⟩
      rw [HDT.out]
      rfl
    · obtain ⟨k, rfl⟩ : ∃ k, j = k + 1 := ⟨j - 1, by omega⟩
      obtain rfl : z = (k : Int) := by omega
      clear hz h0
      have hms := most_step DA.out DB.out hE.out
      have HMS := Lib.hid hms
      have hg1 : na ≤ k → la.getD k 0 = 0 := fun h => getD_out (by rw [HL.out]; exact h)
      have hg2 : nb ≤ k → lb.getD k 0 = 0 := fun h => getD_out (by rw [HL2.out]; exact h)
      clear hms hE
      by_cases h1 : k < na
      · by_cases h2 : k < nb
        · skip
          obtain ⟨b1, o1, x, rfl, hb1, hx1, hc1⟩ := HA.out.at' h1
          have HX := Lib.hid (getD_of hx1)
          clear hx1
          obtain ⟨b2, o2, y, rfl, hb2, hx2, hc2⟩ := HB.out.at' h2
          have HY := Lib.hid (getD_of hx2)
          clear hx2
          clear hg1 hg2 HL HL2
          rcases Nat.decEq x y with hxy | hxy
          · skip
            have h2 := HMS.out.2 (by rw [HX.out, HY.out]; exact hxy)
            rw [HX.out, HY.out] at h2
            have hne : ¬ ((x : Int) = (y : Int)) := by omega
            have hdc : decide ((x : Int) < (y : Int)) = decide (x < y) := by simp only [decide_eq_decide]; omega
            have H2 := Lib.hid h2
            have HD := Lib.hid hdc
            clear h2 hxy hdc
            go_wp2_with (fail)
            go_ret
            refine ⟨?_, rfl⟩
            rw [← H2.out, ← HD.out]
            rfl
          · subst hxy
            have h2 := HMS.out.1 (by rw [HX.out, HY.out])
            have H2 := Lib.hid h2
            clear h2
            go_wp2_with (fail)
            go_round
            case rel => exact ⟨trivial, k, _, rfl, by go_num, by omega, H2⟩
            case measure => simp [intOf] <;> omega
        · skip
          obtain ⟨b1, o1, x, rfl, hb1, hx1, hc1⟩ := HA.out.at' h1
          have HX := Lib.hid (getD_of hx1)
          clear hx1
          have HY := Lib.hid (hg2 (by omega))
          clear hg1 hg2 HL HL2
          rcases Nat.decEq x 0 with hxy | hxy
          · skip
            have h2 := HMS.out.2 (by rw [HX.out, HY.out]; exact hxy)
            rw [HX.out, HY.out] at h2
            have hne : ¬ ((x : Int) = (0 : Int)) := by omega
            have hdc : decide ((x : Int) < (0 : Int)) = decide (x < 0) := by simp only [decide_eq_decide]; omega
            have H2 := Lib.hid h2
            have HD := Lib.hid hdc
            clear h2 hxy hdc
            go_wp2_with (fail)
            go_ret
            refine ⟨?_, rfl⟩
            rw [← H2.out, ← HD.out]
            rfl
          · subst hxy
            have h2 := HMS.out.1 (by rw [HX.out, HY.out])
            have H2 := Lib.hid h2
            clear h2
            go_wp2_with (fail)
            go_round
            case rel => exact ⟨trivial, k, _, rfl, by go_num, by omega, H2⟩
            case measure => simp [intOf] <;> omega
      · by_cases h2 : k < nb
        · skip
          have HX := Lib.hid (hg1 (by omega))
          obtain ⟨b2, o2, y, rfl, hb2, hx2, hc2⟩ := HB.out.at' h2
          have HY := Lib.hid (getD_of hx2)
          clear hx2
          clear hg1 hg2 HL HL2
          rcases Nat.decEq 0 y with hxy | hxy
          · skip
            have h2 := HMS.out.2 (by rw [HX.out, HY.out]; exact hxy)
            rw [HX.out, HY.out] at h2
            have hne : ¬ ((0 : Int) = (y : Int)) := by omega
            have hdc : decide ((0 : Int) < (y : Int)) = decide (0 < y) := by simp only [decide_eq_decide]; omega
            have H2 := Lib.hid h2
            have HD := Lib.hid hdc
            clear h2 hxy hdc
            go_wp2_with (fail)
            go_ret
            refine ⟨?_, rfl⟩
            rw [← H2.out, ← HD.out]
            rfl
          · subst hxy
            have h2 := HMS.out.1 (by rw [HX.out, HY.out])
            have H2 := Lib.hid h2
            clear h2
            go_wp2_with (fail)
            go_round
            case rel => exact ⟨trivial, k, _, rfl, by go_num, by omega, H2⟩
            case measure => simp [intOf] <;> omega
        · skip
          have HX := Lib.hid (hg1 (by omega))
          have HY := Lib.hid (hg2 (by omega))
          clear hg1 hg2 HL HL2
          have h2 := HMS.out.1 (by rw [HX.out, HY.out])
          have H2 := Lib.hid h2
          clear h2
          go_wp2_with (fail)
          go_round
          case rel => exact ⟨trivial, k, _, rfl, by go_num, by omega, H2⟩
          case measure => simp [intOf] <;> omega
end Go.Proofs.YtagifgadcbhinaaDoor
