/- A block's schedule. -/
import Derived.Test.YtagifgadcbhinaaDoorHg
namespace Go.Proofs.YtagifgadcbhinaaDoor
set_option linter.unusedVariables false
set_option linter.unusedSimpArgs false
open Go Go.RowKit

theorem info_u8h : (Tryd.prog.info? 5).map (fun i => (i.zero, i.size, i.bytes)) = some (some (.int .u8 0), 1, 1) := by kernel_rfl
theorem words_zero (bl : List Nat) : wordsTo bl 0 = fill HK 0 := by simp [wordsTo, fill, HK_len]
theorem us_getD {l : List Nat} {i : Nat} (h : i < l.length) : (us l)[i]? = some (.int .u64 ((l.getD i 0 : Nat) : Int)) := by
  rw [us_get]
  simp [List.getD, h]
  rfl
theorem getD_mem {l : List Nat} {i : Nat} (h : i < l.length) : l.getD i 0 ∈ l := by
  rw [show l.getD i 0 = l[i] by simp [List.getD, h]]
  exact List.getElem_mem h
theorem bn_mid (l : List UInt8) (i : Nat) : bn ((l.drop (8 * i)).take 8) = ((bn l).drop (8 * i)).take 8 := by simp [bn, List.map_take, List.map_drop]
theorem sched_succ (l : List Nat) (n : Nat) : sched l (n + 1) = (sched l n).set (16 + n) (sw (sched l n) (16 + n)) := rfl
attribute [local irreducible] be HK fill wordsTo sched sw
set_option maxRecDepth 100000 in
set_option maxHeartbeats 4000000 in
theorem schedule_any (A : Option Addr) (c B : Nat) (l : List UInt8) (w : World) (hl : BS w B A 128 c l) (hBw : B ≤ w.heap.size) :
    Calls Tryd.prog 27 #[.slice A 128 c] w (RowPost (sched (wordsTo (bn l) 16) 64) w) := by
  have hz80 : ∀ W : World, (zeroValue 41).run Tryd.prog W = .ok (.agg (us (wordsTo (bn l) 0))) W := fun W => by rw [words_zero]; exact zero_k80 W
  have f0 := ((Fr.start w).any (us (wordsTo (bn l) 0)) 41 80 (by rw [us_size, wordsTo_len (by omega)]) (g := w.heap.size) rfl).row (us (wordsTo (bn l) 0)) 41 (g := w.heap.size + 1) (by simp)
  have F0 := Lib.hid f0
  have hcap := hl.cap
  have hlen : (bn l).length = 128 := by rw [bn_len, hl.len]
  have HL := Lib.hid hl
  have HN := Lib.hid hlen
  clear f0 hl hlen
  go_enter Tryd.func27, Tryd.ntmps27
  go_wp2_with (fail)
  go_loopw [6] (fun i wr => ∃ k : Nat, k ≤ 16 ∧ i = .int .i64 k ∧ Fr w wr [(w.heap.size + 1, 41, us (wordsTo (bn l) k))] [(w.heap.size, 41, 80)]) (fun i _ => 16 - (intOf i).toNat)
  case atStart => exact ⟨0, by omega, rfl, F0.out⟩
  case round =>
    clear F0
    obtain ⟨k, hk, rfl, hF⟩ := hrel
    have HF := Lib.hid hF
    clear hF
    by_cases hlt : k < 16
    · obtain ⟨A', hsl, hm⟩ := HL.out.mid (P := Tryd.prog) 22 5 Tryd.underlying22 info_u8h (i := 8 * k) (j := 8 * k + 8) (by omega) (by omega)
      rw [show 8 * k + 8 - 8 * k = 8 by omega] at hsl hm
      rw [show ((8 * k : Nat) : Int) = (k : Int) * 8 by omega, show ((8 * k + 8 : Nat) : Int) = ((k : Int) + 1) * 8 by omega] at hsl
      have hget := fun (W : World) (h : Below w.heap.size w W) => hget_any A' 8 (c - 8 * k) B _ W (hm.below (h.mono hBw)) (by omega)
      rw [bn_mid] at hget
      have hset := wordsTo_set (bl := bn l) (n := k) (by omega)
      have hwl : (wordsTo (bn l) k).length = 80 := wordsTo_len (by omega)
      obtain ⟨x, ex⟩ : ∃ x, x = word8 (bn l) k := ⟨_, rfl⟩
      rw [show be (((bn l).drop (8 * k)).take 8) = x by rw [ex]; rfl] at hget
      rw [← ex] at hset
      have hf := HF.out
      have kb := hf.get (g := w.heap.size + 1) (t := 41) (cs := us (wordsTo (bn l) k)) (by simp)
      have z1 := kb.frozen k
      have c1 := kb.cell k
      rw [us_getD (by omega)] at c1
      have f2 := hf.setHead (by simp <;> omega) (by simp <;> omega) k (.int .u64 (x : Int)) (by omega)
      rw [us_set, hset] at f2
      have F2 := Lib.hid f2
      have HG := Lib.hid hget
      clear hf f2 hget hm ex hset
      go_wp2_with (fail)
      refine (HG.out _ HF.out.below).mono ?_
      rintro e v ⟨rfl, rfl⟩
      go_wp2_with (fail)
      go_roundw
      case rel => exact ⟨k + 1, by omega, by go_num, F2.out⟩
      case measure => simp [intOf]; omega
    · have e16 : k = 16 := by omega
      have hf := HF.out
      rw [e16] at hf
      have HF := Lib.hid hf
      clear hf e16
      have hs0 : sched (wordsTo (bn l) 16) 0 = wordsTo (bn l) 16 := by unfold sched; rfl
      have HS0 := Lib.hid hs0
      clear hs0
      go_wp2_with (fail)
      go_loopw [5] (fun i wr => ∃ j : Nat, 16 ≤ j ∧ j ≤ 80 ∧ i = .int .i64 (j : Int) ∧ Fr w wr [(w.heap.size + 1, 41, us (sched (wordsTo (bn l) 16) (j - 16)))] [(w.heap.size, 41, 80)]) (fun i _ => 80 - (intOf i).toNat)
      case atStart => exact ⟨16, by omega, by omega, rfl, by rw [Nat.sub_self, HS0.out]; exact HF.out⟩
      case round =>
        clear HF HS0
        obtain ⟨j, hj16, hj, rfl, hF⟩ := hrel
        have hlen : (sched (wordsTo (bn l) 16) (j - 16)).length = 80 := by rw [sched_len, wordsTo_len (by omega)]
        have hwl : ∀ x ∈ sched (wordsTo (bn l) 16) (j - 16), x < 18446744073709551616 := sched_lt (wordsTo_lt (bn_lt l) HN.out (by omega)) _
        have hstep : sched (wordsTo (bn l) 16) (j - 16 + 1) = (sched (wordsTo (bn l) 16) (j - 16)).set (16 + (j - 16)) (sw (sched (wordsTo (bn l) 16) (j - 16)) (16 + (j - 16))) := sched_succ _ _
        rw [show 16 + (j - 16) = j by omega] at hstep
        by_cases hlt : j < 80
        · have hsw : sw (sched (wordsTo (bn l) 16) (j - 16)) j = ((((sched (wordsTo (bn l) 16) (j - 16)).getD (j - 16) 0 + mixN ((sched (wordsTo (bn l) 16) (j - 16)).getD (j - 15) 0) 1 8 7) % 18446744073709551616 + (sched (wordsTo (bn l) 16) (j - 16)).getD (j - 7) 0) % 18446744073709551616 + mixN ((sched (wordsTo (bn l) 16) (j - 16)).getD (j - 2) 0) 19 61 6) % 18446744073709551616 := by unfold sw; rfl
          have hnx : sched (wordsTo (bn l) 16) (j + 1 - 16) = sched (wordsTo (bn l) 16) (j - 16 + 1) := by rw [show j + 1 - 16 = j - 16 + 1 by omega]
          rw [hstep] at hnx
          generalize sched (wordsTo (bn l) 16) (j - 16) = p at *
          have kb := hF.get (g := w.heap.size + 1) (t := 41) (cs := us p) (by simp)
          have b15 : p.getD (j - 15) 0 < 18446744073709551616 := hwl _ (getD_mem (by omega))
          have b2 : p.getD (j - 2) 0 < 18446744073709551616 := hwl _ (getD_mem (by omega))
          have c16 := kb.cell (j - 16)
          rw [us_getD (by omega)] at c16
          have c15 := kb.cell (j - 15)
          rw [us_getD (by omega)] at c15
          have c7 := kb.cell (j - 7)
          rw [us_getD (by omega)] at c7
          have c2 := kb.cell (j - 2)
          rw [us_getD (by omega)] at c2
          have c0 := kb.cell j
          rw [us_getD (by omega)] at c0
          have z1 := kb.frozen j
          obtain ⟨x1, e1⟩ : ∃ x, x = (p.getD (j - 16) 0 + mixN (p.getD (j - 15) 0) 1 8 7) % 18446744073709551616 := ⟨_, rfl⟩
          have a1 := add_nat (p.getD (j - 16) 0) (mixN (p.getD (j - 15) 0) 1 8 7)
          rw [← e1] at a1 hsw
          obtain ⟨x2, e2⟩ : ∃ x, x = (x1 + p.getD (j - 7) 0) % 18446744073709551616 := ⟨_, rfl⟩
          have a2 := add_nat x1 (p.getD (j - 7) 0)
          rw [← e2] at a2 hsw
          obtain ⟨x3, e3⟩ : ∃ x, x = (x2 + mixN (p.getD (j - 2) 0) 19 61 6) % 18446744073709551616 := ⟨_, rfl⟩
          have a3 := add_nat x2 (mixN (p.getD (j - 2) 0) 19 61 6)
          rw [← e3] at a3 hsw
          have m1 := fun W => mixed_any (p.getD (j - 15) 0) 1 8 7 W b15 (by omega) (by omega) (by omega) (by omega) (by omega)
          have m2 := fun W => mixed_any (p.getD (j - 2) 0) 19 61 6 W b2 (by omega) (by omega) (by omega) (by omega) (by omega)
          have f2 := hF.setHead (by simp <;> omega) (by simp <;> omega) j (.int .u64 (x3 : Int)) (by omega)
          rw [hsw] at hnx
          rw [us_set, ← hnx] at f2
          have kb2 := f2.get (g := w.heap.size + 1) (t := 41) (cs := us (sched (wordsTo (bn l) 16) (j + 1 - 16))) (by simp)
          rw [hnx] at kb2
          have q4 : ∀ d, 0 < d → d ≤ 16 → (wr.setCell ⟨w.heap.size + 1, j, none⟩ (.int .u64 (x3 : Int))).cell? ⟨w.heap.size + 1, j - d, none⟩ = some (.int .u64 ((p.getD (j - d) 0 : Nat) : Int)) := fun d d0 d1 => by
            rw [kb2.cell, us_getD (by rw [List.length_set]; omega), List.getD, List.getD, List.getElem?_set_ne (by omega)]
          have Q4S := Lib.hid (show _ ∧ _ ∧ _ ∧ _ from ⟨q4 16 (by omega) (by omega), q4 15 (by omega) (by omega), q4 7 (by omega) (by omega), q4 2 (by omega) (by omega)⟩)
          have F2 := Lib.hid f2
          clear kb2 q4 e1 e2 e3 f2 hsw hnx hstep hwl hF
          generalize mixN (p.getD (j - 15) 0) 1 8 7 = n1 at *
          generalize mixN (p.getD (j - 2) 0) 19 61 6 = n2 at *
          generalize p.getD (j - 16) 0 = v16 at *
          generalize p.getD (j - 15) 0 = v15 at *
          generalize p.getD (j - 7) 0 = v7 at *
          generalize p.getD (j - 2) 0 = v2 at *
          generalize p.getD j 0 = v0 at *
          have i16a : (16 : Int) ≤ (j : Int) := by omega
          have i16b : (j : Int) - 16 < 80 := by omega
          have i16w : IntKind.i64.wrap ((j : Int) - 16) = (j : Int) - 16 := by rw [IntKind.wrap_i64]; omega
          have i16n : ((j : Int) - 16).toNat = j - 16 := by omega
          have i15a : (15 : Int) ≤ (j : Int) := by omega
          have i15b : (j : Int) - 15 < 80 := by omega
          have i15w : IntKind.i64.wrap ((j : Int) - 15) = (j : Int) - 15 := by rw [IntKind.wrap_i64]; omega
          have i15n : ((j : Int) - 15).toNat = j - 15 := by omega
          have i7a : (7 : Int) ≤ (j : Int) := by omega
          have i7b : (j : Int) - 7 < 80 := by omega
          have i7w : IntKind.i64.wrap ((j : Int) - 7) = (j : Int) - 7 := by rw [IntKind.wrap_i64]; omega
          have i7n : ((j : Int) - 7).toNat = j - 7 := by omega
          have i2a : (2 : Int) ≤ (j : Int) := by omega
          have i2b : (j : Int) - 2 < 80 := by omega
          have i2w : IntKind.i64.wrap ((j : Int) - 2) = (j : Int) - 2 := by rw [IntKind.wrap_i64]; omega
          have i2n : ((j : Int) - 2).toNat = j - 2 := by omega
          have M1 := Lib.hid m1
          have M2 := Lib.hid m2
          clear m1 m2
          go_wp2_with (fail)
          refine wp_region_held_drew (S := fun W => W.cell? ⟨w.heap.size + 1, j - 16, none⟩ = some (.int .u64 (v16 : Int)) ∧ W.cell? ⟨w.heap.size + 1, j - 15, none⟩ = some (.int .u64 (v15 : Int)) ∧ W.cell? ⟨w.heap.size + 1, j - 7, none⟩ = some (.int .u64 (v7 : Int)) ∧ W.cell? ⟨w.heap.size + 1, j - 2, none⟩ = some (.int .u64 (v2 : Int))) (by kernel_rfl) ?_ (fun hHeld => ?_)
          · exact ⟨c16, c15, c7, c2⟩
          refine wpAnyH_take (i := 0) (v := ?_) rfl (by kernel_rfl) (by kernel_rfl) (by kernel_rfl) (fun _ _ _ h => h) (Or.inl ⟨by rfl, ?_⟩) hHeld ?_
          rotate_left
          · (intro W hSw; (try dsimp only at hSw); (try simp only [List.getElem_toArray, List.getElem_cons_succ, List.getElem_cons_zero]); go_simp; try with_reducible rfl)
          try simp only [Act.put, List.getElem_toArray, List.getElem_cons_succ, List.getElem_cons_zero, List.setIfInBounds_toArray, List.set_cons_zero, List.set_cons_succ]
          refine wpAnyH_take (i := 1) (v := ?_) rfl (by kernel_rfl) (by kernel_rfl) (by kernel_rfl) (fun _ _ _ h => h) (Or.inl ⟨by rfl, ?_⟩) hHeld ?_
          rotate_left
          · (intro W hSw; (try dsimp only at hSw); (try simp only [List.getElem_toArray, List.getElem_cons_succ, List.getElem_cons_zero]); go_simp; try with_reducible rfl)
          try simp only [Act.put, List.getElem_toArray, List.getElem_cons_succ, List.getElem_cons_zero, List.setIfInBounds_toArray, List.set_cons_zero, List.set_cons_succ]
          refine wpAnyH_take (i := 2) (v := ?_) rfl (by kernel_rfl) (by kernel_rfl) (by kernel_rfl) (fun _ _ _ h => h) (Or.inl ⟨by rfl, ?_⟩) hHeld ?_
          rotate_left
          · (intro W hSw; (try dsimp only at hSw); (try simp only [List.getElem_toArray, List.getElem_cons_succ, List.getElem_cons_zero]); go_simp; try with_reducible rfl)
          try simp only [Act.put, List.getElem_toArray, List.getElem_cons_succ, List.getElem_cons_zero, List.setIfInBounds_toArray, List.set_cons_zero, List.set_cons_succ]
          refine wpAnyH_take (i := 3) (v := ?_) rfl (by kernel_rfl) (by kernel_rfl) (by kernel_rfl) (fun _ _ _ h => h) (Or.inl ⟨by rfl, ?_⟩) hHeld ?_
          rotate_left
          · (intro W hSw; (try dsimp only at hSw); (try simp only [List.getElem_toArray, List.getElem_cons_succ, List.getElem_cons_zero]); go_simp; try with_reducible rfl)
          try simp only [Act.put, List.getElem_toArray, List.getElem_cons_succ, List.getElem_cons_zero, List.setIfInBounds_toArray, List.set_cons_zero, List.set_cons_succ]
          refine wpAnyH_take (i := 4) (v := ?_) rfl (by kernel_rfl) (by kernel_rfl) (by kernel_rfl) (fun _ _ _ h => h) (Or.inl ⟨by rfl, ?_⟩) hHeld ?_
          rotate_left
          · (intro W hSw; (try dsimp only at hSw); (try simp only [List.getElem_toArray, List.getElem_cons_succ, List.getElem_cons_zero]); go_simp; try with_reducible rfl)
          try simp only [Act.put, List.getElem_toArray, List.getElem_cons_succ, List.getElem_cons_zero, List.setIfInBounds_toArray, List.set_cons_zero, List.set_cons_succ]
          refine wpAnyH_take (i := 5) (v := ?_) rfl (by kernel_rfl) (by kernel_rfl) (by kernel_rfl) (fun _ _ _ h => h) (Or.inl ⟨by rfl, ?_⟩) hHeld ?_
          rotate_left
          · (intro W hSw; (try dsimp only at hSw); (try simp only [List.getElem_toArray, List.getElem_cons_succ, List.getElem_cons_zero]); go_simp; try with_reducible rfl)
          try simp only [Act.put, List.getElem_toArray, List.getElem_cons_succ, List.getElem_cons_zero, List.setIfInBounds_toArray, List.set_cons_zero, List.set_cons_succ]
          refine wpAnyH_take (i := 6) (v := ?_) rfl (by kernel_rfl) (by kernel_rfl) (by kernel_rfl) (fun _ _ _ h => h) (Or.inl ⟨by rfl, ?_⟩) hHeld ?_
          rotate_left
          · (intro W hSw; (try dsimp only at hSw); (try simp only [List.getElem_toArray, List.getElem_cons_succ, List.getElem_cons_zero]); go_simp; try with_reducible rfl)
          try simp only [Act.put, List.getElem_toArray, List.getElem_cons_succ, List.getElem_cons_zero, List.setIfInBounds_toArray, List.set_cons_zero, List.set_cons_succ]
          refine wpAnyH_take (i := 7) (v := ?_) rfl (by kernel_rfl) (by kernel_rfl) (by kernel_rfl) (fun _ _ _ h => h) (Or.inl ⟨by rfl, ?_⟩) hHeld ?_
          rotate_left
          · (intro W hSw; (try dsimp only at hSw); (try simp only [List.getElem_toArray, List.getElem_cons_succ, List.getElem_cons_zero]); go_simp; try with_reducible rfl)
          try simp only [Act.put, List.getElem_toArray, List.getElem_cons_succ, List.getElem_cons_zero, List.setIfInBounds_toArray, List.set_cons_zero, List.set_cons_succ]
          refine wpAnyH_take (i := 8) (v := ?_) rfl (by kernel_rfl) (by kernel_rfl) (by kernel_rfl) (fun _ _ _ h => h) (Or.inl ⟨by rfl, ?_⟩) hHeld ?_
          rotate_left
          · (intro W hSw; (try dsimp only at hSw); (try simp only [List.getElem_toArray, List.getElem_cons_succ, List.getElem_cons_zero]); go_simp; try with_reducible rfl)
          try simp only [Act.put, List.getElem_toArray, List.getElem_cons_succ, List.getElem_cons_zero, List.setIfInBounds_toArray, List.set_cons_zero, List.set_cons_succ]
          refine wpAnyH_take (i := 11) (v := ?_) rfl (by kernel_rfl) (by kernel_rfl) (by kernel_rfl) (fun _ _ _ h => h) (Or.inl ⟨by rfl, ?_⟩) hHeld ?_
          rotate_left
          · (intro W hSw; (try dsimp only at hSw); (try simp only [List.getElem_toArray, List.getElem_cons_succ, List.getElem_cons_zero]); go_simp; try with_reducible rfl)
          try simp only [Act.put, List.getElem_toArray, List.getElem_cons_succ, List.getElem_cons_zero, List.setIfInBounds_toArray, List.set_cons_zero, List.set_cons_succ]
          refine wpAnyH_take (i := 12) (v := ?_) rfl (by kernel_rfl) (by kernel_rfl) (by kernel_rfl) (fun _ _ _ h => h) (Or.inl ⟨by rfl, ?_⟩) hHeld ?_
          rotate_left
          · (intro W hSw; (try dsimp only at hSw); (try simp only [List.getElem_toArray, List.getElem_cons_succ, List.getElem_cons_zero]); go_simp; try with_reducible rfl)
          try simp only [Act.put, List.getElem_toArray, List.getElem_cons_succ, List.getElem_cons_zero, List.setIfInBounds_toArray, List.set_cons_zero, List.set_cons_succ]
          refine wpAnyH_take (i := 13) (v := ?_) rfl (by kernel_rfl) (by kernel_rfl) (by kernel_rfl) (fun _ _ _ h => h) (Or.inl ⟨by rfl, ?_⟩) hHeld ?_
          rotate_left
          · (intro W hSw; (try dsimp only at hSw); (try simp only [List.getElem_toArray, List.getElem_cons_succ, List.getElem_cons_zero]); go_simp; try with_reducible rfl)
          try simp only [Act.put, List.getElem_toArray, List.getElem_cons_succ, List.getElem_cons_zero, List.setIfInBounds_toArray, List.set_cons_zero, List.set_cons_succ]
          refine wpAnyH_take (i := 14) (v := ?_) rfl (by kernel_rfl) (by kernel_rfl) (by kernel_rfl) (fun _ _ _ h => h) (Or.inl ⟨by rfl, ?_⟩) hHeld ?_
          rotate_left
          · (intro W hSw; (try dsimp only at hSw); (try simp only [List.getElem_toArray, List.getElem_cons_succ, List.getElem_cons_zero]); go_simp; try with_reducible rfl)
          try simp only [Act.put, List.getElem_toArray, List.getElem_cons_succ, List.getElem_cons_zero, List.setIfInBounds_toArray, List.set_cons_zero, List.set_cons_succ]
          refine wpAnyH_take (i := 16) (v := ?_) rfl (by kernel_rfl) (by kernel_rfl) (by kernel_rfl) (fun _ _ _ h => h) (Or.inl ⟨by rfl, ?_⟩) hHeld ?_
          rotate_left
          · (intro W hSw; (try dsimp only at hSw); (try simp only [List.getElem_toArray, List.getElem_cons_succ, List.getElem_cons_zero]); go_simp; try with_reducible rfl)
          try simp only [Act.put, List.getElem_toArray, List.getElem_cons_succ, List.getElem_cons_zero, List.setIfInBounds_toArray, List.set_cons_zero, List.set_cons_succ]
          refine wpAnyH_take (i := 17) (v := ?_) rfl (by kernel_rfl) (by kernel_rfl) (by kernel_rfl) (fun _ _ _ h => h) (Or.inl ⟨by rfl, ?_⟩) hHeld ?_
          rotate_left
          · (intro W hSw; (try dsimp only at hSw); (try simp only [List.getElem_toArray, List.getElem_cons_succ, List.getElem_cons_zero]); go_simp; try with_reducible rfl)
          try simp only [Act.put, List.getElem_toArray, List.getElem_cons_succ, List.getElem_cons_zero, List.setIfInBounds_toArray, List.set_cons_zero, List.set_cons_succ]
          refine wpAnyH_take (i := 18) (v := ?_) rfl (by kernel_rfl) (by kernel_rfl) (by kernel_rfl) (fun _ _ _ h => h) (Or.inl ⟨by rfl, ?_⟩) hHeld ?_
          rotate_left
          · (intro W hSw; (try dsimp only at hSw); (try simp only [List.getElem_toArray, List.getElem_cons_succ, List.getElem_cons_zero]); go_simp; try with_reducible rfl)
          try simp only [Act.put, List.getElem_toArray, List.getElem_cons_succ, List.getElem_cons_zero, List.setIfInBounds_toArray, List.set_cons_zero, List.set_cons_succ]
          refine wpAnyH_take (i := 19) (v := ?_) rfl (by kernel_rfl) (by kernel_rfl) (by kernel_rfl) (fun _ _ _ h => h) (Or.inl ⟨by rfl, ?_⟩) hHeld ?_
          rotate_left
          · (intro W hSw; (try dsimp only at hSw); (try simp only [List.getElem_toArray, List.getElem_cons_succ, List.getElem_cons_zero]); go_simp; try with_reducible rfl)
          try simp only [Act.put, List.getElem_toArray, List.getElem_cons_succ, List.getElem_cons_zero, List.setIfInBounds_toArray, List.set_cons_zero, List.set_cons_succ]
          refine wpAnyH_ready (rs := [9]) (by kernel_rfl) (by simp) (AllReadyH.cons rfl (fun K hK => ?_) AllReadyH.nil)
          have h0 := hHeld
          clear hHeld
          try simp only [List.getElem_toArray, List.getElem_cons_succ, List.getElem_cons_zero]
          go_simp
          go_at_call 33
          refine (M1.out _).mono ?_
          rintro e vv ⟨rfl, rfl⟩
          go_wp2_with (fail)
          refine hK.out _ _ (by exact h0) (fun hHeld => ?_)
          clear hK K h0
          try simp only [Act.put, List.getElem_toArray, List.getElem_cons_succ, List.getElem_cons_zero, List.setIfInBounds_toArray, List.set_cons_zero, List.set_cons_succ]
          refine wpAnyH_take (i := 10) (v := ?_) rfl (by kernel_rfl) (by kernel_rfl) (by kernel_rfl) (fun _ _ _ h => h) (Or.inl ⟨by rfl, ?_⟩) hHeld ?_
          rotate_left
          · (intro W hSw; (try dsimp only at hSw); (try simp only [List.getElem_toArray, List.getElem_cons_succ, List.getElem_cons_zero]); go_simp; try with_reducible rfl)
          try simp only [Act.put, List.getElem_toArray, List.getElem_cons_succ, List.getElem_cons_zero, List.setIfInBounds_toArray, List.set_cons_zero, List.set_cons_succ]
          refine wpAnyH_take (i := 15) (v := ?_) rfl (by kernel_rfl) (by kernel_rfl) (by kernel_rfl) (fun _ _ _ h => h) (Or.inl ⟨by rfl, ?_⟩) hHeld ?_
          rotate_left
          · (intro W hSw; (try dsimp only at hSw); (try simp only [List.getElem_toArray, List.getElem_cons_succ, List.getElem_cons_zero]); go_simp; try with_reducible rfl)
          try simp only [Act.put, List.getElem_toArray, List.getElem_cons_succ, List.getElem_cons_zero, List.setIfInBounds_toArray, List.set_cons_zero, List.set_cons_succ]
          refine wpAnyH_ready (rs := [20]) (by kernel_rfl) (by simp) (AllReadyH.cons rfl (fun K hK => ?_) AllReadyH.nil)
          have h0 := hHeld
          clear hHeld
          try simp only [List.getElem_toArray, List.getElem_cons_succ, List.getElem_cons_zero]
          go_simp
          go_at_call 33
          refine (M2.out _).mono ?_
          rintro e vv ⟨rfl, rfl⟩
          go_wp2_with (fail)
          refine hK.out _ _ (by exact h0) (fun hHeld => ?_)
          clear hK K h0
          try simp only [Act.put, List.getElem_toArray, List.getElem_cons_succ, List.getElem_cons_zero, List.setIfInBounds_toArray, List.set_cons_zero, List.set_cons_succ]
          refine wpAnyH_take (i := 21) (v := ?_) rfl (by kernel_rfl) (by kernel_rfl) (by kernel_rfl) (fun _ _ _ h => h) (Or.inl ⟨by rfl, ?_⟩) hHeld ?_
          rotate_left
          · (intro W hSw; (try dsimp only at hSw); (try simp only [List.getElem_toArray, List.getElem_cons_succ, List.getElem_cons_zero]); go_simp; try with_reducible rfl)
          try simp only [Act.put, List.getElem_toArray, List.getElem_cons_succ, List.getElem_cons_zero, List.setIfInBounds_toArray, List.set_cons_zero, List.set_cons_succ]
          refine wpAnyH_take (i := 22) (v := ?_) rfl (by kernel_rfl) (by kernel_rfl) (by kernel_rfl) (fun _ _ _ h => h) (Or.inl ⟨by rfl, ?_⟩) hHeld ?_
          rotate_left
          · (intro W hSw; (try dsimp only at hSw); (try simp only [List.getElem_toArray, List.getElem_cons_succ, List.getElem_cons_zero]); go_simp; try with_reducible rfl)
          try simp only [Act.put, List.getElem_toArray, List.getElem_cons_succ, List.getElem_cons_zero, List.setIfInBounds_toArray, List.set_cons_zero, List.set_cons_succ]
          refine wpAnyH_ready (rs := [23]) (by kernel_rfl) (by simp) (AllReadyH.cons rfl (fun K hK => ?_) AllReadyH.nil)
          have h0 := hHeld
          clear hHeld
          try simp only [List.getElem_toArray, List.getElem_cons_succ, List.getElem_cons_zero]
          go_simp
          refine hK.out _ _ (by exact Q4S.out) (fun hHeld => ?_)
          clear hK K h0
          try simp only [Act.put, List.getElem_toArray, List.getElem_cons_succ, List.getElem_cons_zero, List.setIfInBounds_toArray, List.set_cons_zero, List.set_cons_succ]
          refine wpAnyH_done (by kernel_rfl) ?_ _
          go_wp2_with (fail)
          go_round
          case rel => exact ⟨j + 1, by omega, by omega, by go_num, F2.out.drew.drew.drew⟩
          case measure => simp [intOf]; omega
        · obtain rfl : j = 80 := by omega
          rw [show 80 - 16 = 64 by omega] at hF hlen
          clear hstep hwl
          generalize sched (wordsTo (bn l) 16) 64 = p at *
          have k1 := hF.get (g := w.heap.size + 1) (t := 41) (cs := us p) (by simp)
          obtain ⟨old, ho, k0⟩ := hF.old (g := w.heap.size) (t := 41) (n := 80) (by simp)
          have kS := k0.setRow_same (us p)
          have hB := below_setRow hF.below (Nat.le_refl _) (us p)
          have ho' : old.size = (us p).size := by rw [ho, us_size, hlen]
          have KS := Lib.hid kS
          have HB := Lib.hid hB
          have HO := Lib.hid ho'
          have HI := Lib.hid (info_us (T := 41) size_k80 hlen)
          clear hF kS hB ho ho'
          go_wp2_with (first | (refine wpList_load_row rfl 41 (.tmp 3) rfl (w.heap.size + 1) rfl 41 (us p) (0, 0) _ k1 Tryd.underlying41 rfl HI.out ?_) | (refine wpList_store_row rfl 41 (.tmp 2) (.tmp 47) rfl (w.heap.size) (us p) rfl rfl 41 old k0 HI.out HO.out (us_one _) ?_))
          exact row_end (n0 := 80) rfl size_k80 hlen rfl rfl rfl KS.out HB.out
end Go.Proofs.YtagifgadcbhinaaDoor
