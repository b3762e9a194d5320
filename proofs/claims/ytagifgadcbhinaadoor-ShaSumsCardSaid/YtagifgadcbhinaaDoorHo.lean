/- The hash's bytes; what stands behind a message. -/
import Derived.Test.YtagifgadcbhinaaDoorHk
namespace Go.Proofs.YtagifgadcbhinaaDoor
set_option linter.unusedVariables false
set_option linter.unusedSimpArgs false
open Go Go.RowKit

theorem Fr.grownHead {w W W' : World} {L : List (Nat × TypeId × Array Value)} {R : List (Nat × TypeId × Nat)} {g : Nat} {t : TypeId} {cs cs' : Array Value} (h : Fr w W ((g, t, cs) :: L) R) (hg : W.grownBy W' (some g)) (hb : Blk W' g t cs') (hw : w.heap.size ≤ g) (hL : ∀ p ∈ L, p.1 ≠ g) (hR : ∀ p ∈ R, p.1 ≠ g) :
    Fr w W' ((g, t, cs') :: L) R := by
  refine ⟨h.below.grown hg h.below.size (by rintro k hk; cases hk; exact hw), fun p hp => ?_, fun p hp => ?_, h.own⟩
  · rcases List.mem_cons.1 hp with rfl | hp
    · exact hb
    · exact (h.rows p (by simp [hp])).row hg (hL p hp)
  · obtain ⟨c, e, k⟩ := h.some_ p hp
    exact ⟨c, e, k.row hg (hR p hp)⟩
/-- The lowest j bytes of a word, the highest first. -/
def lowb (x : Nat) : Nat → List Nat
  | 0 => []
  | j + 1 => (x / 256 ^ j % 256) :: lowb x j
theorem lowb_len (x : Nat) : ∀ j, (lowb x j).length = j
  | 0 => rfl
  | j + 1 => by rw [lowb, List.length_cons, lowb_len x j]
theorem lowb_eight (x : Nat) : lowb x 8 = b8 x := by simp [lowb, b8]
theorem putC_list (l : List Nat) (o x : Nat) (h : o + 8 ≤ l.length) : ∀ j, j ≤ 8 → putC (ncs .u8 l) o x j = ncs .u8 (l.take (o + 8 - j) ++ (lowb x j ++ l.drop (o + 8)))
  | 0, _ => by rw [putC, lowb, List.nil_append, Nat.sub_zero, List.take_append_drop]
  | j + 1, hj => by
    rw [putC, putC_list l o x h j (by omega), ncs_set]
    congr 1
    have e : o + 8 - j = (o + 8 - (j + 1)) + 1 := by omega
    have e1 : (l.take (o + 8 - (j + 1))).length = o + 7 - j := by simp; omega
    rw [e, List.take_succ_eq_append_getElem (show o + 8 - (j + 1) < l.length by omega), List.append_assoc, List.set_append_right _ _ (by omega), e1, Nat.sub_self]
    rfl
theorem put_list (l : List Nat) (o x : Nat) (h : o + 8 ≤ l.length) : putC (ncs .u8 l) o x 8 = ncs .u8 (l.take o ++ (b8 x ++ l.drop (o + 8))) := by
  rw [putC_list l o x h 8 (by omega), lowb_eight, show o + 8 - 8 = o by omega]
theorem bytes_at {l : List Nat} {i : Nat} (h : i < l.length) : ∃ y : Int, (ncs .u8 l)[i]? = some (.int .u8 y) := ⟨_, by rw [ncs_get, List.getElem?_eq_getElem h]; rfl⟩
theorem b8_len (x : Nat) : (b8 x).length = 8 := rfl
/-- The first k words' bytes, then noughts. -/
def rowN (l : List Nat) (k : Nat) : List Nat := (l.take k).flatMap b8 ++ List.replicate (64 - 8 * k) 0
theorem flat_len (l : List Nat) : (l.flatMap b8).length = 8 * l.length := by
  induction l with
  | nil => rfl
  | cons x l ih => rw [List.flatMap_cons, List.length_append, ih, b8_len, List.length_cons]; omega
theorem rowN_len {l : List Nat} (h : l.length = 8) {k : Nat} (hk : k ≤ 8) : (rowN l k).length = 64 := by
  rw [rowN, List.length_append, flat_len, List.length_take, List.length_replicate]; omega
def z64 : List Nat := List.replicate 64 0
theorem z64_len : z64.length = 64 := rfl
theorem rowN_zero (l : List Nat) : rowN l 0 = z64 := by simp [rowN, z64]
theorem rowN_step {l : List Nat} (h : l.length = 8) {k : Nat} (hk : k < 8) : (rowN l k).take (8 * k) ++ (b8 (l.getD k 0) ++ (rowN l k).drop (8 * k + 8)) = rowN l (k + 1) := by
  have h1 : ((l.take k).flatMap b8).length = 8 * k := by rw [flat_len, List.length_take]; omega
  have h2 : l.take (k + 1) = l.take k ++ [l.getD k 0] := by rw [List.take_succ_eq_append_getElem (by omega)]; simp [List.getD, show k < l.length by omega]
  unfold rowN
  rw [List.take_append_of_le_length (by omega), List.take_of_length_le (by omega), List.drop_append, h2, List.flatMap_append, List.drop_of_length_le (by omega), h1, List.drop_replicate]
  simp only [List.flatMap_cons, List.flatMap_nil, List.append_nil, List.nil_append, List.append_assoc]
  congr 3
  omega
theorem rowN_full (S : S8) : rowN S.l 8 = outS S := by simp [rowN, outS, S8.l]
theorem zero_long (w : World) : (zeroValue 27).run Tryd.prog w = .ok (.agg (ncs .u8 z64)) w := by kernel_rfl
theorem size_long : (Tryd.prog.info? 27).map (·.size) = some 64 := by kernel_rfl
theorem size_u64o (w : World) : (sizeOf 35).run Tryd.prog w = .ok 1 w := by kernel_rfl
/-- A call that answers a row of bytes. -/
def BytesRow (l : List Nat) (w : World) (e : Ending) (w' : World) : Prop := e = .returned (.agg (ncs .u8 l)) ∧ Below w.heap.size w w'
/-- 'a[i:j]' of an array of bytes that lies at an address. -/
theorem slice_arr (t : TypeId) (n : Nat) (ht : Tryd.prog.underlying t = some (.array n 5)) (g o i j : Nat) (hi : i < n) (hij : i ≤ j) (hj : j ≤ n) (W : World) :
    (Instr.sliceAt t (.pointer (some ⟨g, o, none⟩)) (some (.int .i64 (i : Int))) (some (.int .i64 (j : Int))) none).run Tryd.prog W = .ok (.slice (some ⟨g, o + i, none⟩) (j - i) (n - i)) W := by
  have h1 : Tryd.prog.arrayLen t = n := by simp [Program.arrayLen, ht]
  have h2 : Tryd.prog.elem t = 5 := by simp [Program.elem, ht]
  rw [run_sliceAt_array_lh W t _ (by rw [h1, h2]; exact ht) _ _ _ _ (by omega) (by omega) (by rw [h1]; omega), h1, h2, size_u8 info_u8h]
  simp only [Result.andThen, slicedAt, Int.toNat_natCast, Nat.mul_one, Addr.add_lit]
  rw [if_neg (by omega)]
attribute [local irreducible] b8 rowN outS z64
set_option maxRecDepth 100000 in
set_option maxHeartbeats 4000000 in
theorem hash_any (S : S8) (w : World) (hS : S.ok) : Calls Tryd.prog 15 #[.agg (us S.l)] w (BytesRow (outS S) w) := by
  obtain ⟨R, hR⟩ : ∃ q, q = outS S := ⟨_, rfl⟩
  rw [← hR]
  have HR := Lib.hid hR
  clear hR
  have hz64 : ∀ W : World, (zeroValue 27).run Tryd.prog W = .ok (.agg (ncs .u8 z64)) W := zero_long
  have f0 := ((Fr.start w).row (us S.l) 39 (g := w.heap.size) rfl).any (ncs .u8 z64) 27 64 (by rw [ncs_size, z64_len]) (g := w.heap.size + 1) (by simp)
  have f1 := f0.row (ncs .u8 z64) 27 (g := w.heap.size + 1 + 1) (by simp)
  have k1 := f1.get (g := w.heap.size) (t := 39) (cs := us S.l) (by simp)
  have hlt8 : ∀ x ∈ S.l, x < 18446744073709551616 := by
    obtain ⟨h1, h2, h3, h4, h5, h6, h7, h8⟩ := hS
    intro x hx
    simp only [S8.l, List.mem_cons, List.not_mem_nil, or_false] at hx
    rcases hx with rfl | rfl | rfl | rfl | rfl | rfl | rfl | rfl <;> assumption
  have F1 := Lib.hid f1
  have HLT := Lib.hid hlt8
  have hl8 : S.l.length = 8 := rfl
  have hend := rowN_full S
  have HEND := Lib.hid hend
  clear f0 f1 hlt8 hend hS
  generalize S.l = L at *
  go_enter Tryd.func15, Tryd.ntmps15
  go_wp2_with (first | (refine wpList_load_row rfl 39 (.tmp 1) rfl (w.heap.size) rfl 39 (us L) (0, 0) _ k1 Tryd.underlying39 rfl (info_us size_hst hl8) ?_))
  clear k1
  go_loopw [7] (fun i wr => ∃ k : Nat, k ≤ 8 ∧ i = .int .i64 k ∧ Fr w wr [(w.heap.size + 1 + 1, 27, ncs .u8 (rowN L k))] [(w.heap.size + 1, 27, 64)]) (fun i _ => 8 - (intOf i).toNat)
  case atStart => exact ⟨0, by omega, rfl, by rw [rowN_zero]; exact F1.out.sub (by simp) (by simp)⟩
  case round =>
    clear F1
    obtain ⟨k, hk, rfl, hF⟩ := hrel
    by_cases hlt : k < 8
    · have hrl := rowN_len hl8 hk
      have hx : L[k]? = some (L.getD k 0) := by simp [List.getD, show k < L.length by omega]
      have hxl := HLT.out _ (getD_mem (show k < L.length by omega))
      have hix := fun W => run_index_nats (P := Tryd.prog) W 39 35 8 .u64 Tryd.underlying39 Tryd.underlying35 size_u64o L k _ hlt hx
      have hix2 : ∀ W, (Instr.index 39 (.agg (us L)) (.int .i64 (k : Int))).run Tryd.prog W = .ok (.int .u64 ((L.getD k 0 : Nat) : Int)) W := hix
      have hst := rowN_step hl8 hlt
      have hpl := put_list (rowN L k) (8 * k) (L.getD k 0) (by omega)
      rw [hst] at hpl
      have kb := hF.get (g := w.heap.size + 1 + 1) (t := 27) (cs := ncs .u8 (rowN L k)) (by simp)
      have hput := hput_any (w.heap.size + 1 + 1) (8 * k) (64 - 8 * k) 27 _ (L.getD k 0) wr hxl (by omega) kb (fun i hi => bytes_at (by omega))
      rw [hpl] at hput
      generalize L.getD k 0 = x at *
      have HP := Lib.hid hput
      have HF := Lib.hid hF
      have hsl := fun W => slice_arr 27 64 Tryd.underlying27 (w.heap.size + 1 + 1) 0 (8 * k) (8 * k + 8) (by omega) (by omega) (by omega) W
      rw [show ((8 * k : Nat) : Int) = (k : Int) * 8 by omega, show ((8 * k + 8 : Nat) : Int) = ((k : Int) + 1) * 8 by omega, show 8 * k + 8 - 8 * k = 8 by omega, Nat.zero_add] at hsl
      clear hix hst hpl hx hxl kb hput hF hrl
      go_wp2_with (fail)
      refine HP.out.mono ?_
      rintro e v ⟨rfl, hb, hg⟩
      have f2 := HF.out.grownHead hg hb (by omega) (by simp) (by simp <;> omega)
      have F2 := Lib.hid f2
      clear f2 hb hg HF HP
      go_wp2_with (fail)
      go_round
      case rel => exact ⟨k + 1, by omega, by go_num, F2.out⟩
      case measure => simp [intOf]; omega
    · have e8 : rowN L k = R := by rw [show k = 8 by omega, HR.out]; exact HEND.out
      have hl64 : R.length = 64 := by rw [← e8]; exact rowN_len hl8 hk
      rw [e8] at hF
      have k1 := hF.get (g := w.heap.size + 1 + 1) (t := 27) (cs := ncs .u8 R) (by simp)
      obtain ⟨old, ho, k0⟩ := hF.old (g := w.heap.size + 1) (t := 27) (n := 64) (by simp)
      have kS := k0.setRow_same (ncs .u8 R)
      have hB := below_setRow hF.below (show w.heap.size ≤ w.heap.size + 1 by omega) (ncs .u8 R)
      have KS := Lib.hid kS
      have HB := Lib.hid hB
      have HO := Lib.hid (show old.size = (ncs .u8 R).size by rw [ho, ncs_size, hl64])
      have HI := Lib.hid (show (Tryd.prog.info? 27).map (·.size) = some (ncs .u8 R).size by rw [ncs_size, hl64]; exact size_long)
      clear hF kS hB ho e8 HEND
      go_wp2_with (first | (refine wpList_load_row rfl 27 (.tmp 3) rfl (w.heap.size + 1 + 1) rfl 27 (ncs .u8 R) (0, 0) _ k1 Tryd.underlying27 rfl HI.out ?_) | (refine wpList_store_row rfl 27 (.tmp 2) (.tmp 20) rfl (w.heap.size + 1) (ncs .u8 R) rfl rfl 27 old k0 HI.out HO.out (ncs_one _ _) ?_))
      exact bodyPost_ret (results_cell_row rfl _ _ (w.heap.size + 1) 27 (ncs .u8 R) (0, 0) _ rfl KS.out Tryd.underlying27 rfl HI.out) rfl ⟨rfl, HB.out⟩
end Go.Proofs.YtagifgadcbhinaaDoor
