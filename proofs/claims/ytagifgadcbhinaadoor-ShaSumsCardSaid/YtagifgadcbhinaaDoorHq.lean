/- What stands behind a message, as the program makes it. -/
import Derived.Test.YtagifgadcbhinaaDoorHo
namespace Go.Proofs.YtagifgadcbhinaaDoor
set_option linter.unusedVariables false
set_option linter.unusedSimpArgs false
open Go Go.RowKit

def zr (k : Nat) : List Nat := List.replicate k 0
theorem zr_len (k : Nat) : (zr k).length = k := by simp [zr]
theorem bvs_zr (k : Nat) : bvs (zeros k) = ncs .u8 (zr k) := by
  simp only [bvs, ncs, zeros, zr, List.map_replicate]
  rfl
theorem slice_lo (g o n c i : Nat) (hi : i < c) (hn : i ≤ n) (W : World) : (Instr.slice 22 (.slice (some ⟨g, o, none⟩) n c) (some (.int .i64 (i : Int))) none none).run Tryd.prog W = .ok (.slice (some ⟨g, o + i, none⟩) (n - i) (c - i)) W := by
  have hel : Tryd.prog.elem 22 = 5 := by simp [Program.elem, Tryd.underlying22]
  rw [run_slice_l W 22 _ n c (by rw [hel]; exact Tryd.underlying22) _ _ (by omega) (by omega), hel, size_u8 info_u8h]
  simp only [Result.andThen, sliced, Int.toNat_natCast, Nat.mul_one]
  rw [if_neg (by omega)]
  simp [Addr.add_lit]
theorem slice_hi (g o n c j : Nat) (hj : j ≤ c) (hc : 0 < c) (W : World) : (Instr.slice 22 (.slice (some ⟨g, o, none⟩) n c) none (some (.int .i64 (j : Int))) none).run Tryd.prog W = .ok (.slice (some ⟨g, o, none⟩) j c) W := by
  have hel : Tryd.prog.elem 22 = 5 := by simp [Program.elem, Tryd.underlying22]
  rw [run_slice_h W 22 _ n c (by rw [hel]; exact Tryd.underlying22) _ _ (by omega) (by omega), hel, size_u8 info_u8h]
  simp only [Result.andThen, sliced, Int.toNat_natCast, Nat.zero_mul, Nat.sub_zero]
  rw [if_neg (by omega)]
  simp [Addr.add_lit]
theorem pad_eq (n K hi lo : Nat) (hK : K = padL n) (h1 : hi = 8 * n / 18446744073709551616) (h2 : lo = 8 * n % 18446744073709551616) :
    ((((zr K).set 0 128).take (K - 16) ++ (b8 hi ++ ((zr K).set 0 128).drop (K - 16 + 8))).take (K - 8) ++ (b8 lo ++ (((zr K).set 0 128).take (K - 16) ++ (b8 hi ++ ((zr K).set 0 128).drop (K - 16 + 8))).drop (K - 8 + 8))) = pad n := by
  have h17 := padL_le n
  rw [← hK] at h17
  have e1 : (zr K).set 0 128 = 128 :: List.replicate (K - 1) 0 := by
    rw [zr, show K = (K - 1) + 1 by omega, List.replicate_succ]
    rfl
  have e2 : (128 :: List.replicate (K - 1) 0).take (K - 16) = 128 :: List.replicate (K - 17) 0 := by
    rw [show K - 16 = (K - 17) + 1 by omega, List.take_succ_cons, List.take_replicate]
    congr 2
    omega
  rw [e1, e2]
  have lD : (List.drop (K - 16 + 8) (128 :: List.replicate (K - 1) 0)).length = 8 := by rw [List.length_drop, List.length_cons, List.length_replicate]; omega
  generalize List.drop (K - 16 + 8) (128 :: List.replicate (K - 1) 0) = D at *
  have lA : (128 :: List.replicate (K - 17) 0).length = K - 16 := by rw [List.length_cons, List.length_replicate]; omega
  have hpad : pad n = (128 :: List.replicate (K - 17) 0) ++ (b8 hi ++ b8 lo) := by rw [pad, ← hK, h1, h2]; rfl
  rw [hpad]
  generalize 128 :: List.replicate (K - 17) 0 = A at *
  have l2 : (A ++ b8 hi).length = K - 8 := by rw [List.length_append, b8_len]; omega
  have t1 : (A ++ (b8 hi ++ D)).take (K - 8) = A ++ b8 hi := by rw [← List.append_assoc, List.take_append_of_le_length (by omega), List.take_of_length_le (by omega)]
  have t2 : (A ++ (b8 hi ++ D)).drop (K - 8 + 8) = [] := List.drop_of_length_le (by rw [← List.append_assoc, List.length_append, l2]; omega)
  rw [t1, t2, List.append_nil, List.append_assoc]
theorem put_len (l : List Nat) (o x : Nat) (h : o + 8 ≤ l.length) : (l.take o ++ (b8 x ++ l.drop (o + 8))).length = l.length := by
  rw [List.length_append, List.length_append, b8_len, List.length_take, List.length_drop]; omega
attribute [local irreducible] zr pad b8 padL
/-- A call that answers a slice of a block of its own. -/
def PadPost (l : List Nat) (w : World) (e : Ending) (w' : World) : Prop := e = .returned (.slice (some ⟨w.heap.size, 0, none⟩) l.length l.length) ∧ Blk w' w.heap.size 5 (ncs .u8 l) ∧ Below w.heap.size w w'
theorem padL_cases (n : Nat) : (128 - n % 128 < 17 ∧ padL n = 128 - n % 128 + 128) ∨ (¬ 128 - n % 128 < 17 ∧ padL n = 128 - n % 128) := by
  unfold padL
  split
  · exact Or.inl ⟨by assumption, rfl⟩
  · exact Or.inr ⟨by assumption, rfl⟩
set_option maxRecDepth 100000 in
set_option maxHeartbeats 4000000 in
theorem padding_any (n : Nat) (w : World) (hn : n < 18446744073709551616) : Calls Tryd.prog 14 #[.int .u64 n] w (PadPost (pad n) w) := by
  have h17 := padL_le n
  have hkk : padL n ≤ 300 := by rcases padL_cases n with h | h <;> omega
  have hcs := padL_cases n
  obtain ⟨K, eK⟩ : ∃ q, q = padL n := ⟨_, rfl⟩
  obtain ⟨hi, lo, hm, em, lm⟩ := mul64_ex n 8 hn (by omega)
  have hp := pad_eq n K hi lo eK (by omega) (by omega)
  have hpl := pad_len n
  rw [← eK] at h17 hkk hcs hpl
  generalize pad n = P at *
  have hmk := fun W => run_mkb (P := Tryd.prog) 22 5 Tryd.underlying22 info_u8h K (by omega) W
  simp only [bvs_zr] at hmk
  have q1 := fun W => slice_lo w.heap.size 0 K K (K - 16) (by omega) (by omega) W
  rw [Nat.zero_add, show K - (K - 16) = 16 by omega, show ((K - 16 : Nat) : Int) = (K : Int) - 16 by omega] at q1
  have q2 := fun W => slice_hi w.heap.size (K - 16) 16 16 8 (by omega) (by omega) W
  have q3 := fun W => slice_lo w.heap.size (K - 16) 16 16 8 (by omega) (by omega) W
  rw [show K - 16 + 8 = K - 8 by omega] at q3
  have f0 := (Fr.start w).row (ncs .u8 (zr K)) 5 (g := w.heap.size) rfl
  have k0 := f0.get (g := w.heap.size) (t := 5) (cs := ncs .u8 (zr K)) (by simp)
  have z0 := k0.frozen 0
  have c0 := k0.cell 0
  have hc0 : (ncs .u8 (zr K))[0]? = some (.int .u8 0) := by
    rw [ncs_get, zr, List.getElem?_replicate, if_pos (by omega)]
    rfl
  rw [hc0] at c0
  have f1 : Fr w (w.alloc (.cells ((ncs .u8 (zr K)).setIfInBounds 0 (.int .u8 128)) 5)) [(w.heap.size, 5, ncs .u8 ((zr K).set 0 128))] [] := by
    rw [← show (ncs .u8 (zr K)).setIfInBounds 0 (.int .u8 128) = ncs .u8 ((zr K).set 0 128) from ncs_set _ _ _ _]
    exact (Fr.start w).row _ 5 rfl
  have hz1 : ((zr K).set 0 128).length = K := by rw [List.length_set, zr_len]
  generalize (zr K).set 0 128 = L1 at *
  have k1 := f1.get (g := w.heap.size) (t := 5) (cs := ncs .u8 L1) (by simp)
  have p1 := hput_any w.heap.size (K - 16) 16 5 _ hi _ (by have := mul_lt_sq hn (show 8 < 18446744073709551616 by omega); omega) (by omega) k1 (fun i hi => bytes_at (by omega))
  rw [put_list _ _ _ (by omega)] at p1
  have hz2 := put_len L1 (K - 16) hi (by omega)
  generalize L1.take (K - 16) ++ (b8 hi ++ L1.drop (K - 16 + 8)) = L2 at *
  have HP1 := Lib.hid p1
  have HP := Lib.hid hp
  have F1 := Lib.hid f1
  have HM := Lib.hid hm
  have HZ1 := Lib.hid hz1
  clear p1 hp f0 f1 k1 hc0 hm em hz1 eK
  go_enter Tryd.func14, Tryd.ntmps14
  rcases hcs with ⟨d1, d2⟩ | ⟨d1, d2⟩
  · have hr : (128 : Int) - (n : Int) % 128 + 128 = (K : Int) := by omega
    clear d2
    go_wp2_with (fail)
    refine (HM.out _).mono ?_
    rintro e w' ⟨rfl, rfl⟩
    go_wp2_with (fail)
    refine HP1.out.mono ?_
    rintro e v1 ⟨rfl, kb1, hg1⟩
    have p2 := hput_any w.heap.size (K - 8) 8 5 _ lo v1 lm (by omega) kb1 (fun i hi => bytes_at (by have := HZ1.out; omega))
    rw [put_list _ _ _ (by have := HZ1.out; omega), HP.out, show K - 8 = K - 16 + 8 by omega] at p2
    have f2 := F1.out.grownHead hg1 kb1 (Nat.le_refl _) (by simp) (by simp)
    have F2 := Lib.hid f2
    have HP2 := Lib.hid p2
    clear p2 f2 kb1 hg1 F1 HP1
    go_wp2_with (fail)
    refine HP2.out.mono ?_
    rintro e v2 ⟨rfl, kb2, hg2⟩
    have f3 := F2.out.grownHead hg2 kb2 (Nat.le_refl _) (by simp) (by simp)
    have F3 := Lib.hid f3
    have KB := Lib.hid kb2
    clear f3 kb2 hg2 F2
    go_wp2_with (fail)
    go_ret
    exact ⟨by rw [hpl]; rfl, KB.out, F3.out.below⟩
  · have hr : (128 : Int) - (n : Int) % 128 = (K : Int) := by omega
    clear d2
    go_wp2_with (fail)
    refine (HM.out _).mono ?_
    rintro e w' ⟨rfl, rfl⟩
    go_wp2_with (fail)
    refine HP1.out.mono ?_
    rintro e v1 ⟨rfl, kb1, hg1⟩
    have p2 := hput_any w.heap.size (K - 8) 8 5 _ lo v1 lm (by omega) kb1 (fun i hi => bytes_at (by have := HZ1.out; omega))
    rw [put_list _ _ _ (by have := HZ1.out; omega), HP.out, show K - 8 = K - 16 + 8 by omega] at p2
    have f2 := F1.out.grownHead hg1 kb1 (Nat.le_refl _) (by simp) (by simp)
    have F2 := Lib.hid f2
    have HP2 := Lib.hid p2
    clear p2 f2 kb1 hg1 F1 HP1
    go_wp2_with (fail)
    refine HP2.out.mono ?_
    rintro e v2 ⟨rfl, kb2, hg2⟩
    have f3 := F2.out.grownHead hg2 kb2 (Nat.le_refl _) (by simp) (by simp)
    have F3 := Lib.hid f3
    have KB := Lib.hid kb2
    clear f3 kb2 hg2 F2
    go_wp2_with (fail)
    go_ret
    exact ⟨by rw [hpl]; rfl, KB.out, F3.out.below⟩
end Go.Proofs.YtagifgadcbhinaaDoor
