/- Walks of Hex and of the document's Hex. -/
import Derived.Test.YtfjjpepnadcaaaaJoin
import Derived.Test.YtfjjpepnadcaaaaHexPure
namespace Go.Proofs.Ytfjjpepnadcaaaa
set_option linter.unusedVariables false
open Go.RowKit

set_option maxHeartbeats 1000000 in
theorem hex_ok (A : Option Addr) (n c B : Nat) (l : List UInt8) (w : World) (hl : BS w B A n c l) (hB : B ≤ w.heap.size) (hn : n ≤ 1000000) :
    Calls Try.prog 21 #[.slice A n c] w fun e w' => e = .returned (.string (strB (hex l))) ∧ Below w.heap.size w w' := by
  have hmk : ∀ W : World, (Instr.makeSlice 23 (.int .i64 0) (.int .i64 (2 * (n : Int)))).run Try.prog W = .ok (.slice (some ⟨W.heap.size, 0, none⟩) 0 (2 * n)) (W.alloc (.cells (bvs (zeros (2 * n))) 5)) := by
    intro W
    have h := run_mkb0 (P := Try.prog) 23 5 Try.underlying23 info_u8 (2 * n) (by omega) W
    rw [show (((2 * n : Nat)) : Int) = 2 * (n : Int) by omega] at h
    exact h
  go_enter Try.func21, Try.ntmps21
  go_wp2_with (fail)
  clear hmk
  go_loopw [3, 12] (fun v i wr => ∃ j : Nat, j ≤ n ∧ i = .int .i64 j ∧ ∃ m, v = .slice (some ⟨w.heap.size, 0, none⟩) m (2 * n) ∧ Hid (m = (hex (l.take j)).length) ∧ OwnB wr 0 5 v (hex (l.take j)) ∧ Below w.heap.size w wr) (fun _ i _ => n - (intOf i).toNat)
  case atStart =>
    refine ⟨0, Nat.zero_le _, rfl, 0, rfl, Lib.hid rfl, ?_, (Below.refl _ _).alloc (Nat.le_refl _) _⟩
    exact World.ownsRow_made w _ (2 * n) (Nat.zero_le _) (by simp only [maxLen]; omega) (by rw [bvs_size, zeros_len]; omega)
  case round =>
    obtain ⟨j, hj, rfl, m, rfl, hm, hown, hb⟩ := hrel
    by_cases hjn : j < n
    · obtain ⟨b, o, x, rfl, hb', hx, hc⟩ := (hl.below (hb.mono hB)).at' hjn
      have hs := hex_take hx
      have hxb := byte_lt x
      have hlen := hex_len (l.take j)
      rw [List.length_take, hl.len] at hlen
      have hroom : m + 2 ≤ 2 * n := by have := hm.out; omega
      have i1 := fun W => run_dig_hi (P := Try.prog) 9 Try.underlying9 x W
      have i2 := fun W => run_dig_lo (P := Try.prog) 9 Try.underlying9 x W
      have HS := Lib.hid hs
      have HX := Lib.hid hx
      clear hs hx hlen
      go_wp2_with (fail)
      go_region_law (refine step_app_fit rfl (.tmp 16) (.tmp 23) 23 rfl 5 Try.underlying23 info_u8 0 w.heap.size m (2 * n) (hex (l.take j)) rfl hm (by exact (hown.alloc _).drew) (wr.heap.size + 1) 2 2 ⟨wr.heap.size, 0, none⟩ (hex2 x) rfl (by exact (bs_new2 wr 5 _ _).drew) hroom ?_; intro w1 hown1 hg1)
      all_goals
        clear i1 i2
        have hb1 : Below w.heap.size w (wr.alloc (.cells #[.int .u8 ((hexd (x.toNat / 16)).toNat : Int), .int .u8 ((hexd (x.toNat % 16)).toNat : Int)] 5)).drew := (hb.alloc hb.size _).drew
        have hb2 := hb1.grown hg1 hb1.size (by rintro k hk; cases hk; exact Nat.le_refl _)
        clear hg1 hb1
        go_wp2_with (fail)
        go_roundw
        case rel => exact ⟨j + 1, by omega, by go_num, m + 2, rfl, Lib.hid (by rw [HS.out, List.length_append, ← hm.out]; rfl), by rw [HS.out]; exact hown1, hb2⟩
        case measure => simp [intOf]; omega
    · obtain rfl : j = n := by omega
      have e : l.take j = l := List.take_of_length_le (by rw [hl.len]; exact Nat.le_refl _)
      rw [e] at hown
      obtain ⟨A', n', c', e', hbs, _⟩ := hown.form
      injection e' with e1 e2 e3
      subst e1; subst e2; subst e3
      have hv := run_str (P := Try.prog) hbs 23 5 9 Try.underlying23 Try.underlying5 Try.underlying9
      go_wp2_with (fail)
      go_ret
      exact ⟨rfl, hb⟩

set_option maxHeartbeats 1000000 in
theorem rhex_ok (A : Option Addr) (n c B : Nat) (l : List UInt8) (w : World) (hl : BS w B A n c l) (hB : B ≤ w.heap.size) (hn : n ≤ 1000000) :
    Calls Try.prog 22 #[.slice A n c] w fun e w' => e = .returned (.string (strB (hex l))) ∧ Below w.heap.size w w' := by
  go_enter Try.func22, Try.ntmps22
  go_wp2_with (fail)
  go_loopw [4, 5] (fun v i wr => ∃ j : Nat, j ≤ n ∧ i = .int .i64 j ∧ OwnB wr w.heap.size 5 v (hex (l.take j)) ∧ Below w.heap.size w wr) (fun _ i _ => n - (intOf i).toNat)
  case atStart => exact ⟨0, Nat.zero_le _, rfl, OwnB.nil _ _ _, Below.refl _ _⟩
  case round =>
    obtain ⟨j, hj, rfl, hown, hb⟩ := hrel
    by_cases hjn : j < n
    · obtain ⟨b, o, x, rfl, hb', hx, hc⟩ := (hl.below (hb.mono hB)).at' hjn
      obtain ⟨A9, n9, c9, rfl, hbs9, hlo9⟩ := hown.form
      have hs := hex_take hx
      have hxb := byte_lt x
      have hlen := hex_len (l.take j)
      rw [List.length_take, hl.len] at hlen
      have hbig : (hex (l.take j)).length + 2 ≤ 140737488355328 := by omega
      have i1 := fun W => run_dig_hi_w (P := Try.prog) 9 Try.underlying9 x W
      have i2 := fun W => run_dig_rem_t (P := Try.prog) 9 Try.underlying9 x W
      have HS := Lib.hid hs
      have HX := Lib.hid hx
      have HBG := Lib.hid hbig
      clear hs hx hlen hbs9 hbig
      go_wp2_with (fail)
      go_region_law (refine step_app_own rfl (.tmp 12) (.tmp 27) 23 rfl 5 Try.underlying23 info_u8 w.heap.size (.slice A9 n9 c9) (hex (l.take j)) rfl (by exact (hown.alloc _).drew) (wr.heap.size + 1) 2 2 (some ⟨wr.heap.size, 0, none⟩) (hex2 x) rfl (by exact (bs_new2 wr 5 _ _).drew) HBG.out (by have := hb.size; simp; omega) ?_; intro v1 w1 hown1 hg1 hat1)
      all_goals
        clear i1 i2
        have hb1 : Below w.heap.size w (wr.alloc (.cells #[.int .u8 ((hexd (x.toNat / 16)).toNat : Int), .int .u8 ((hexd (x.toNat % 16)).toNat : Int)] 5)).drew := (hb.alloc hb.size _).drew
        have hb2 := hb1.grown hg1 hb1.size hlo9
        clear hg1 hb1 hat1
        go_wp2_with (fail)
        go_roundw
        case rel => exact ⟨j + 1, by omega, by go_num, by rw [HS.out]; exact hown1, hb2⟩
        case measure => simp [intOf]; omega
    · obtain rfl : j = n := by omega
      have e : l.take j = l := List.take_of_length_le (by rw [hl.len]; exact Nat.le_refl _)
      rw [e] at hown
      obtain ⟨A', n', c', rfl, hbs, _⟩ := hown.form
      have hv := run_str (P := Try.prog) hbs 23 5 9 Try.underlying23 Try.underlying5 Try.underlying9
      go_wp2_with (fail)
      go_ret
      exact ⟨rfl, hb⟩
end Go.Proofs.Ytfjjpepnadcaaaa
