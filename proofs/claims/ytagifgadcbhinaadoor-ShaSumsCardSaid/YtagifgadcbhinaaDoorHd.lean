/- math/bits: Len64, LeadingZeros64, Div64, as the pure words have them. -/
import Derived.Test.YtagifgadcbhinaaDoorHw
import Derived.Test.YtagifgadcbhinaaDoorHp
import Derived.Deep.DeepCutAuto
import Derived.Deep.CutBlock
namespace Go.Proofs.YtagifgadcbhinaaDoor
set_option linter.unusedVariables false
set_option linter.unusedSimpArgs false
open Go Go.RowKit

def tab8 : ByteArray := ⟨((List.range 256).map fun x => UInt8.ofNat (len8 x)).toArray⟩
theorem tab8_size : tab8.size = 256 := by simp [tab8, ByteArray.size]
theorem len8_lt : ∀ x : Fin 256, len8 x.val < 256 := by decide +kernel
theorem tab8_at (x : Nat) (h : x < 256) (h2 : x < tab8.size) : (tab8[x]'h2).toNat = len8 x := by
  have := len8_lt ⟨x, h⟩
  simp only at this
  simp only [tab8, ByteArray.getElem_eq_getElem_data, List.getElem_toArray, List.getElem_map, List.getElem_range, UInt8.toNat_ofNat']
  exact Nat.mod_eq_of_lt this
theorem len_at {tab : ByteArray} {y k : Nat} (ht : tab = tab8) (hk : k ≤ 56) (hy : y < 256) (h2 : y < tab.size) : wrap64 ((k : Int) + wrap64 ((tab[y]'h2).toNat : Int)) = ((k + len8 y : Nat) : Int) := by
  subst ht
  have h := len8_lt ⟨y, hy⟩
  simp only at h
  rw [tab8_at y hy h2]
  unfold wrap64
  omega
theorem len8_le8 : ∀ x : Fin 256, len8 x.val ≤ 8 := by decide +kernel
set_option maxRecDepth 100000 in
set_option maxHeartbeats 1000000 in
theorem len64_hhh (x : Nat) (w : World) (hx : x < 18446744073709551616) (h1 : 4294967296 ≤ x) (h2 : 65536 ≤ x / 4294967296) (h3 : 256 ≤ x / 4294967296 / 65536) :
    Calls Tryd.prog 38 #[.int .u64 x] w fun e w' => e = .returned (.int .i64 (lenN x : Nat)) ∧ w = w' := by
  have hl : lenN x = 56 + len8 (x / 4294967296 / 65536 / 256) := by
    unfold lenN
    simp only [if_pos h1, if_pos h2, if_pos h3]
  have b1 : decide ((4294967296 : Int) ≤ (x : Int)) = true := by simp; omega
  have e1 : (x : Int) / 4294967296 = ((x / 4294967296 : Nat) : Int) := by omega
  have l1 : x / 4294967296 ≤ 4294967295 := by omega
  obtain ⟨z1, hz1⟩ : ∃ m, m = x / 4294967296 := ⟨_, rfl⟩
  rw [← hz1] at e1 l1 hl h2 h3
  have b2 : decide ((65536 : Int) ≤ (z1 : Int)) = true := by simp; omega
  have e2 : (z1 : Int) / 65536 = ((z1 / 65536 : Nat) : Int) := by omega
  have l2 : z1 / 65536 ≤ 1000000000 := by omega
  obtain ⟨z2, hz2⟩ : ∃ m, m = z1 / 65536 := ⟨_, rfl⟩
  rw [← hz2] at e2 l2 hl h3
  have b3 : decide ((256 : Int) ≤ (z2 : Int)) = true := by simp; omega
  have e3 : (z2 : Int) / 256 = ((z2 / 256 : Nat) : Int) := by omega
  have l3 : z2 / 256 ≤ 1000000000 := by omega
  obtain ⟨z3, hz3⟩ : ∃ m, m = z2 / 256 := ⟨_, rfl⟩
  rw [← hz3] at e3 l3 hl
  have hy2 : z3 < 256 := by omega
  have hxi := Lib.hid hx
  rw [hl]
  clear h1 h2 h3 hx hl hz1 hz2 hz3
  go_enter Tryd.func38, Tryd.ntmps38
  generalize hs : (ByteArray.mk _ : ByteArray) = tab at ⊢
  have htab : tab = tab8 := by rw [← hs]; kernel_rfl
  clear hs
  have hsz : tab.size = 256 := by rw [htab]; exact tab8_size
  have HT := Lib.hid htab
  clear htab
  go_wp2
  go_ret
  refine ⟨?_, rfl⟩
  have hfin := len_at (k := 56) HT.out (by omega) hy2 (by rw [hsz]; exact hy2)
  skip
  rw [← hfin]
  rfl
set_option maxRecDepth 100000 in
set_option maxHeartbeats 1000000 in
theorem len64_hhl (x : Nat) (w : World) (hx : x < 18446744073709551616) (h1 : 4294967296 ≤ x) (h2 : 65536 ≤ x / 4294967296) (h3 : x / 4294967296 / 65536 < 256) :
    Calls Tryd.prog 38 #[.int .u64 x] w fun e w' => e = .returned (.int .i64 (lenN x : Nat)) ∧ w = w' := by
  have hl : lenN x = 48 + len8 (x / 4294967296 / 65536) := by
    unfold lenN
    simp only [if_pos h1, if_pos h2, if_neg (show ¬ 256 ≤ x / 4294967296 / 65536 by omega)]
  have b1 : decide ((4294967296 : Int) ≤ (x : Int)) = true := by simp; omega
  have e1 : (x : Int) / 4294967296 = ((x / 4294967296 : Nat) : Int) := by omega
  have l1 : x / 4294967296 ≤ 4294967295 := by omega
  obtain ⟨z1, hz1⟩ : ∃ m, m = x / 4294967296 := ⟨_, rfl⟩
  rw [← hz1] at e1 l1 hl h2 h3
  have b2 : decide ((65536 : Int) ≤ (z1 : Int)) = true := by simp; omega
  have e2 : (z1 : Int) / 65536 = ((z1 / 65536 : Nat) : Int) := by omega
  have l2 : z1 / 65536 ≤ 1000000000 := by omega
  obtain ⟨z2, hz2⟩ : ∃ m, m = z1 / 65536 := ⟨_, rfl⟩
  rw [← hz2] at e2 l2 hl h3
  have b3 : decide ((256 : Int) ≤ (z2 : Int)) = false := by simp; omega
  have hy2 : z2 < 256 := by omega
  have hxi := Lib.hid hx
  rw [hl]
  clear h1 h2 h3 hx hl hz1 hz2
  go_enter Tryd.func38, Tryd.ntmps38
  generalize hs : (ByteArray.mk _ : ByteArray) = tab at ⊢
  have htab : tab = tab8 := by rw [← hs]; kernel_rfl
  clear hs
  have hsz : tab.size = 256 := by rw [htab]; exact tab8_size
  have HT := Lib.hid htab
  clear htab
  go_wp2
  go_ret
  refine ⟨?_, rfl⟩
  have hfin := len_at (k := 48) HT.out (by omega) hy2 (by rw [hsz]; exact hy2)
  skip
  rw [← hfin]
  rfl
set_option maxRecDepth 100000 in
set_option maxHeartbeats 1000000 in
theorem len64_hlh (x : Nat) (w : World) (hx : x < 18446744073709551616) (h1 : 4294967296 ≤ x) (h2 : x / 4294967296 < 65536) (h3 : 256 ≤ x / 4294967296) :
    Calls Tryd.prog 38 #[.int .u64 x] w fun e w' => e = .returned (.int .i64 (lenN x : Nat)) ∧ w = w' := by
  have hl : lenN x = 40 + len8 (x / 4294967296 / 256) := by
    unfold lenN
    simp only [if_pos h1, if_neg (show ¬ 65536 ≤ x / 4294967296 by omega), if_pos h3]
  have b1 : decide ((4294967296 : Int) ≤ (x : Int)) = true := by simp; omega
  have e1 : (x : Int) / 4294967296 = ((x / 4294967296 : Nat) : Int) := by omega
  have l1 : x / 4294967296 ≤ 4294967295 := by omega
  obtain ⟨z1, hz1⟩ : ∃ m, m = x / 4294967296 := ⟨_, rfl⟩
  rw [← hz1] at e1 l1 hl h2 h3
  have b2 : decide ((65536 : Int) ≤ (z1 : Int)) = false := by simp; omega
  have b3 : decide ((256 : Int) ≤ (z1 : Int)) = true := by simp; omega
  have e3 : (z1 : Int) / 256 = ((z1 / 256 : Nat) : Int) := by omega
  have l3 : z1 / 256 ≤ 1000000000 := by omega
  obtain ⟨z3, hz3⟩ : ∃ m, m = z1 / 256 := ⟨_, rfl⟩
  rw [← hz3] at e3 l3 hl
  have hy2 : z3 < 256 := by omega
  have hxi := Lib.hid hx
  rw [hl]
  clear h1 h2 h3 hx hl hz1 hz3
  go_enter Tryd.func38, Tryd.ntmps38
  generalize hs : (ByteArray.mk _ : ByteArray) = tab at ⊢
  have htab : tab = tab8 := by rw [← hs]; kernel_rfl
  clear hs
  have hsz : tab.size = 256 := by rw [htab]; exact tab8_size
  have HT := Lib.hid htab
  clear htab
  go_wp2
  go_ret
  refine ⟨?_, rfl⟩
  have hfin := len_at (k := 40) HT.out (by omega) hy2 (by rw [hsz]; exact hy2)
  skip
  rw [← hfin]
  rfl
set_option maxRecDepth 100000 in
set_option maxHeartbeats 1000000 in
theorem len64_hll (x : Nat) (w : World) (hx : x < 18446744073709551616) (h1 : 4294967296 ≤ x) (h2 : x / 4294967296 < 65536) (h3 : x / 4294967296 < 256) :
    Calls Tryd.prog 38 #[.int .u64 x] w fun e w' => e = .returned (.int .i64 (lenN x : Nat)) ∧ w = w' := by
  have hl : lenN x = 32 + len8 (x / 4294967296) := by
    unfold lenN
    simp only [if_pos h1, if_neg (show ¬ 65536 ≤ x / 4294967296 by omega), if_neg (show ¬ 256 ≤ x / 4294967296 by omega)]
  have b1 : decide ((4294967296 : Int) ≤ (x : Int)) = true := by simp; omega
  have e1 : (x : Int) / 4294967296 = ((x / 4294967296 : Nat) : Int) := by omega
  have l1 : x / 4294967296 ≤ 4294967295 := by omega
  obtain ⟨z1, hz1⟩ : ∃ m, m = x / 4294967296 := ⟨_, rfl⟩
  rw [← hz1] at e1 l1 hl h2 h3
  have b2 : decide ((65536 : Int) ≤ (z1 : Int)) = false := by simp; omega
  have b3 : decide ((256 : Int) ≤ (z1 : Int)) = false := by simp; omega
  have hy2 : z1 < 256 := by omega
  have hxi := Lib.hid hx
  rw [hl]
  clear h1 h2 h3 hx hl hz1
  go_enter Tryd.func38, Tryd.ntmps38
  generalize hs : (ByteArray.mk _ : ByteArray) = tab at ⊢
  have htab : tab = tab8 := by rw [← hs]; kernel_rfl
  clear hs
  have hsz : tab.size = 256 := by rw [htab]; exact tab8_size
  have HT := Lib.hid htab
  clear htab
  go_wp2
  go_ret
  refine ⟨?_, rfl⟩
  have hfin := len_at (k := 32) HT.out (by omega) hy2 (by rw [hsz]; exact hy2)
  skip
  rw [← hfin]
  rfl
set_option maxRecDepth 100000 in
set_option maxHeartbeats 1000000 in
theorem len64_lhh (x : Nat) (w : World) (hx : x < 18446744073709551616) (h1 : x < 4294967296) (h2 : 65536 ≤ x) (h3 : 256 ≤ x / 65536) :
    Calls Tryd.prog 38 #[.int .u64 x] w fun e w' => e = .returned (.int .i64 (lenN x : Nat)) ∧ w = w' := by
  have hl : lenN x = 24 + len8 (x / 65536 / 256) := by
    unfold lenN
    simp only [if_neg (show ¬ 4294967296 ≤ x by omega), if_pos h2, if_pos h3]
  have b1 : decide ((4294967296 : Int) ≤ (x : Int)) = false := by simp; omega
  have b2 : decide ((65536 : Int) ≤ (x : Int)) = true := by simp; omega
  have e2 : (x : Int) / 65536 = ((x / 65536 : Nat) : Int) := by omega
  have l2 : x / 65536 ≤ 281474976710655 := by omega
  obtain ⟨z2, hz2⟩ : ∃ m, m = x / 65536 := ⟨_, rfl⟩
  rw [← hz2] at e2 l2 hl h3
  have b3 : decide ((256 : Int) ≤ (z2 : Int)) = true := by simp; omega
  have e3 : (z2 : Int) / 256 = ((z2 / 256 : Nat) : Int) := by omega
  have l3 : z2 / 256 ≤ 1000000000 := by omega
  obtain ⟨z3, hz3⟩ : ∃ m, m = z2 / 256 := ⟨_, rfl⟩
  rw [← hz3] at e3 l3 hl
  have hy2 : z3 < 256 := by omega
  have hxi := Lib.hid hx
  rw [hl]
  clear h1 h2 h3 hx hl hz2 hz3
  go_enter Tryd.func38, Tryd.ntmps38
  generalize hs : (ByteArray.mk _ : ByteArray) = tab at ⊢
  have htab : tab = tab8 := by rw [← hs]; kernel_rfl
  clear hs
  have hsz : tab.size = 256 := by rw [htab]; exact tab8_size
  have HT := Lib.hid htab
  clear htab
  go_wp2
  go_ret
  refine ⟨?_, rfl⟩
  have hfin := len_at (k := 24) HT.out (by omega) hy2 (by rw [hsz]; exact hy2)
  skip
  rw [← hfin]
  rfl
set_option maxRecDepth 100000 in
set_option maxHeartbeats 1000000 in
theorem len64_lhl (x : Nat) (w : World) (hx : x < 18446744073709551616) (h1 : x < 4294967296) (h2 : 65536 ≤ x) (h3 : x / 65536 < 256) :
    Calls Tryd.prog 38 #[.int .u64 x] w fun e w' => e = .returned (.int .i64 (lenN x : Nat)) ∧ w = w' := by
  have hl : lenN x = 16 + len8 (x / 65536) := by
    unfold lenN
    simp only [if_neg (show ¬ 4294967296 ≤ x by omega), if_pos h2, if_neg (show ¬ 256 ≤ x / 65536 by omega)]
  have b1 : decide ((4294967296 : Int) ≤ (x : Int)) = false := by simp; omega
  have b2 : decide ((65536 : Int) ≤ (x : Int)) = true := by simp; omega
  have e2 : (x : Int) / 65536 = ((x / 65536 : Nat) : Int) := by omega
  have l2 : x / 65536 ≤ 281474976710655 := by omega
  obtain ⟨z2, hz2⟩ : ∃ m, m = x / 65536 := ⟨_, rfl⟩
  rw [← hz2] at e2 l2 hl h3
  have b3 : decide ((256 : Int) ≤ (z2 : Int)) = false := by simp; omega
  have hy2 : z2 < 256 := by omega
  have hxi := Lib.hid hx
  rw [hl]
  clear h1 h2 h3 hx hl hz2
  go_enter Tryd.func38, Tryd.ntmps38
  generalize hs : (ByteArray.mk _ : ByteArray) = tab at ⊢
  have htab : tab = tab8 := by rw [← hs]; kernel_rfl
  clear hs
  have hsz : tab.size = 256 := by rw [htab]; exact tab8_size
  have HT := Lib.hid htab
  clear htab
  go_wp2
  go_ret
  refine ⟨?_, rfl⟩
  have hfin := len_at (k := 16) HT.out (by omega) hy2 (by rw [hsz]; exact hy2)
  skip
  rw [← hfin]
  rfl
set_option maxRecDepth 100000 in
set_option maxHeartbeats 1000000 in
theorem len64_llh (x : Nat) (w : World) (hx : x < 18446744073709551616) (h1 : x < 4294967296) (h2 : x < 65536) (h3 : 256 ≤ x) :
    Calls Tryd.prog 38 #[.int .u64 x] w fun e w' => e = .returned (.int .i64 (lenN x : Nat)) ∧ w = w' := by
  have hl : lenN x = 8 + len8 (x / 256) := by
    unfold lenN
    simp only [if_neg (show ¬ 4294967296 ≤ x by omega), if_neg (show ¬ 65536 ≤ x by omega), if_pos h3]
  have b1 : decide ((4294967296 : Int) ≤ (x : Int)) = false := by simp; omega
  have b2 : decide ((65536 : Int) ≤ (x : Int)) = false := by simp; omega
  have b3 : decide ((256 : Int) ≤ (x : Int)) = true := by simp; omega
  have e3 : (x : Int) / 256 = ((x / 256 : Nat) : Int) := by omega
  have l3 : x / 256 ≤ 72057594037927935 := by omega
  obtain ⟨z3, hz3⟩ : ∃ m, m = x / 256 := ⟨_, rfl⟩
  rw [← hz3] at e3 l3 hl
  have hy2 : z3 < 256 := by omega
  have hxi := Lib.hid hx
  rw [hl]
  clear h1 h2 h3 hx hl hz3
  go_enter Tryd.func38, Tryd.ntmps38
  generalize hs : (ByteArray.mk _ : ByteArray) = tab at ⊢
  have htab : tab = tab8 := by rw [← hs]; kernel_rfl
  clear hs
  have hsz : tab.size = 256 := by rw [htab]; exact tab8_size
  have HT := Lib.hid htab
  clear htab
  go_wp2
  go_ret
  refine ⟨?_, rfl⟩
  have hfin := len_at (k := 8) HT.out (by omega) hy2 (by rw [hsz]; exact hy2)
  skip
  rw [← hfin]
  rfl
set_option maxRecDepth 100000 in
set_option maxHeartbeats 1000000 in
theorem len64_lll (x : Nat) (w : World) (hx : x < 18446744073709551616) (h1 : x < 4294967296) (h2 : x < 65536) (h3 : x < 256) :
    Calls Tryd.prog 38 #[.int .u64 x] w fun e w' => e = .returned (.int .i64 (lenN x : Nat)) ∧ w = w' := by
  have hl : lenN x = 0 + len8 (x) := by
    unfold lenN
    simp only [if_neg (show ¬ 4294967296 ≤ x by omega), if_neg (show ¬ 65536 ≤ x by omega), if_neg (show ¬ 256 ≤ x by omega)]
  have b1 : decide ((4294967296 : Int) ≤ (x : Int)) = false := by simp; omega
  have b2 : decide ((65536 : Int) ≤ (x : Int)) = false := by simp; omega
  have b3 : decide ((256 : Int) ≤ (x : Int)) = false := by simp; omega
  have hy2 : x < 256 := by omega
  have hxi := Lib.hid hx
  rw [hl]
  clear h1 h2 h3 hx hl 
  go_enter Tryd.func38, Tryd.ntmps38
  generalize hs : (ByteArray.mk _ : ByteArray) = tab at ⊢
  have htab : tab = tab8 := by rw [← hs]; kernel_rfl
  clear hs
  have hsz : tab.size = 256 := by rw [htab]; exact tab8_size
  have HT := Lib.hid htab
  clear htab
  go_wp2
  go_ret
  refine ⟨?_, rfl⟩
  have hfin := len_at (k := 0) HT.out (by omega) hy2 (by rw [hsz]; exact hy2)
  rw [Int.natCast_zero, Int.zero_add] at hfin
  rw [← hfin]
  rfl
theorem len64_any (x : Nat) (w : World) (hx : x < 18446744073709551616) :
    Calls Tryd.prog 38 #[.int .u64 x] w fun e w' => e = .returned (.int .i64 (lenN x : Nat)) ∧ w = w' := by
  rcases Nat.lt_or_ge (x) 4294967296 with h1 | h1
  · rcases Nat.lt_or_ge (x) 65536 with h2 | h2
    · rcases Nat.lt_or_ge (x) 256 with h3 | h3
      · exact len64_lll x w hx h1 h2 h3
      · exact len64_llh x w hx h1 h2 h3
    · rcases Nat.lt_or_ge (x / 65536) 256 with h3 | h3
      · exact len64_lhl x w hx h1 h2 h3
      · exact len64_lhh x w hx h1 h2 h3
  · rcases Nat.lt_or_ge (x / 4294967296) 65536 with h2 | h2
    · rcases Nat.lt_or_ge (x / 4294967296) 256 with h3 | h3
      · exact len64_hll x w hx h1 h2 h3
      · exact len64_hlh x w hx h1 h2 h3
    · rcases Nat.lt_or_ge (x / 4294967296 / 65536) 256 with h3 | h3
      · exact len64_hhl x w hx h1 h2 h3
      · exact len64_hhh x w hx h1 h2 h3
theorem lenN_le (x : Nat) (hx : x < 18446744073709551616) : lenN x ≤ 64 := by
  unfold lenN
  simp only
  generalize hz : (if 256 ≤ _ then _ / 256 else _ : Nat) = z
  have hz2 : z < 256 := by
    rw [← hz]
    repeat' split
    all_goals omega
  have := len8_le8 ⟨z, hz2⟩
  simp only at this
  repeat' split
  all_goals omega
set_option maxHeartbeats 400000 in
theorem lead_any (x s : Nat) (w : World) (hx : x < 18446744073709551616) (hs : s = 64 - lenN x) :
    Calls Tryd.prog 36 #[.int .u64 x] w fun e w' => e = .returned (.int .i64 (s : Nat)) ∧ w = w' := by
  have hl := lenN_le x hx
  have h := fun W => len64_any x W hx
  generalize lenN x = y at *
  subst hs
  go_enter Tryd.func36, Tryd.ntmps36
  go_wp2_with (fail)
  refine (h _).mono ?_
  rintro e w' ⟨rfl, rfl⟩
  go_wp2_with (fail)
  go_ret
  refine ⟨?_, rfl⟩
  have e : ((64 - y : Nat) : Int) = 64 - (y : Int) := by omega
  rw [e]
  rfl
end Go.Proofs.YtagifgadcbhinaaDoor
