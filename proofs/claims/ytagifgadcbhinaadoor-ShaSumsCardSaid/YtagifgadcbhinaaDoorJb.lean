/- The document's Sum, whole. -/
import Derived.Test.YtagifgadcbhinaaDoorJa
import Derived.Test.YtagifgadcbhinaaDoorHe
namespace Go.Proofs.YtagifgadcbhinaaDoor
set_option linter.unusedVariables false
set_option linter.unusedSimpArgs false
open Go Go.RowKit

attribute [local irreducible] HS HK hashN z64
set_option maxRecDepth 100000 in
set_option maxHeartbeats 4000000 in
theorem rsum_any (A : Option Addr) (n c B : Nat) (l : List UInt8) (w : World) (hm : BS w B A n c l) (hB : B ≤ w.heap.size) (hn : n ≤ 100000) :
    Calls Tryd.prog 7 #[.slice A n c] w (BytesRow (hashN (bn l)) w) := by
  have hz64 : ∀ W : World, (zeroValue 27).run Tryd.prog W = .ok (.agg (ncs .u8 z64)) W := zero_long
  have f0 := (Fr.start w).any (ncs .u8 z64) 27 64 (by rw [ncs_size, z64_len]) (g := w.heap.size) rfl
  have F0 := Lib.hid f0
  have HM := Lib.hid hm
  obtain ⟨R, hR⟩ : ∃ R, R = hashN (bn l) := ⟨_, rfl⟩
  have hRl : R.length = 64 := by rw [hR]; exact hashN_len _
  rw [← hR]
  have HR := Lib.hid hR
  have HRL := Lib.hid hRl
  clear f0 hm hR hRl
  go_enter Tryd.func7, Tryd.ntmps7
  go_wp2_with (fail)
  refine (begin_any _).mono ?_
  rintro e v1 ⟨vS, vK, AS, cS, AK, cK, rfl, rfl, hS, rfl, hK, hb⟩
  obtain ⟨bS, oS, e1, _, _⟩ := hS.at_ (by omega)
  obtain ⟨bK, oK, e2, _, _⟩ := hK.at_ (by omega)
  subst e1; subst e2
  have f1 := F0.out.ext hb
  have hsum := rbsum_any bS oS cS bK oK cK A n c B l v1 (HM.out.below (f1.below.mono hB)) (Nat.le_trans hB f1.size) hn hS hK
  rw [← HR.out] at hsum
  have HSUM := Lib.hid hsum
  have F1 := Lib.hid f1
  clear hsum f1 hb hS hK F0
  go_wp2_with (fail)
  refine HSUM.out.mono ?_
  rintro e v2 ⟨rfl, hb⟩
  have f2 := F1.out.ext hb
  obtain ⟨old, ho, k0⟩ := f2.old (g := w.heap.size) (t := 27) (n := 64) (by simp)
  have kS := k0.setRow_same (ncs .u8 R)
  have hB2 := below_setRow f2.below (Nat.le_refl _) (ncs .u8 R)
  have HO := Lib.hid (show old.size = (ncs .u8 R).size by rw [ho, ncs_size, HRL.out])
  have HI := Lib.hid (show (Tryd.prog.info? 27).map (·.size) = some (ncs .u8 R).size by rw [ncs_size, HRL.out]; exact size_long)
  have KS := Lib.hid kS
  have HB2 := Lib.hid hB2
  clear f2 hb kS hB2 ho F1 HSUM
  go_wp2_with (first | (refine wpList_store_row rfl 27 (.tmp 2) (.tmp 5) rfl (w.heap.size) (ncs .u8 R) rfl rfl 27 old k0 HI.out HO.out (ncs_one _ _) ?_))
  exact bodyPost_ret (results_cell_row rfl _ _ w.heap.size 27 (ncs .u8 R) (0, 0) _ rfl KS.out Tryd.underlying27 rfl HI.out) rfl ⟨rfl, HB2.out⟩
end Go.Proofs.YtagifgadcbhinaaDoor
