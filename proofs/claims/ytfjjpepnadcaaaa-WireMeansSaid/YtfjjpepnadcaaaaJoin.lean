/- Walks of Join, Blob, and the document's Blob. -/
import Derived.Test.YtfjjpepnadcaaaaNum
namespace Go.Proofs.Ytfjjpepnadcaaaa
set_option linter.unusedVariables false
open Go.RowKit

set_option maxHeartbeats 400000 in
theorem join_ok (A : Option Addr) (n c B : Nat) (L : List (List UInt8)) (T : Nat) (w : World) (hL : RS w B A n c L) (hB : B ≤ w.heap.size) (hn : n ≤ 1000000000) (hT : Hid (L.flatten.length = T)) (ht : T ≤ 1000000000) :
    Calls Try.prog 20 #[.slice A n c] w fun e w' => e = .returned (.slice (some ⟨w.heap.size, 0, none⟩) T T) ∧ Blk w' w.heap.size 5 (bvs L.flatten) ∧ Below w.heap.size w w' := by
  have hmk := fun W => run_mkb0 (P := Try.prog) 23 5 Try.underlying23 info_u8 T (by omega) W
  have HM := Lib.hid hmk
  clear hmk
  go_enter Try.func20, Try.ntmps20
  go_wp2_with (fail)
  go_loop [3, 11] (fun a i => ∃ k : Nat, k ≤ n ∧ i = .int .i64 k ∧ a = .int .i64 (flat L k).length) (fun _ i => n - (intOf i).toNat)
  case atStart => exact ⟨0, Nat.zero_le _, rfl, rfl⟩
  case round =>
    obtain ⟨k, hk, rfl, rfl⟩ := hrel
    have hfl := flat_le L k
    rw [hT.out] at hfl
    by_cases hlt : k < n
    · obtain ⟨b, o, l, Aj, nj, cj, rfl, hb, hx, hc, hr⟩ := hL.at' hlt
      have hs := flat_step hx
      have hfl2 := flat_le L (k + 1)
      rw [hT.out] at hfl2
      have hrl := hr.len
      have hsl : (flat L k).length + nj ≤ 1000000000 := by rw [hs, List.length_append] at hfl2; omega
      have HS := Lib.hid hs
      have HX := Lib.hid hx
      have HR := Lib.hid hrl
      clear hs hx hfl2 hrl
      go_wp2_with (fail)
      go_round
      case rel =>
        refine ⟨k + 1, by omega, by go_num, ?_⟩
        rw [HS.out, List.length_append, HR.out]
        go_num
      case measure => simp [intOf]; omega
    · obtain rfl : k = n := by omega
      rw [flat_all hL.len, hT.out]
      have hmk := HM.out
      go_wp2_with (fail)
      clear hmk
      go_loopw [6, 24] (fun v i wr => ∃ j : Nat, j ≤ k ∧ i = .int .i64 j ∧ ∃ m, v = .slice (some ⟨w.heap.size, 0, none⟩) m T ∧ Hid (m = (flat L j).length) ∧ OwnB wr 0 5 v (flat L j) ∧ Below w.heap.size w wr) (fun _ i _ => k - (intOf i).toNat)
      case atStart =>
        refine ⟨0, Nat.zero_le _, rfl, 0, rfl, Lib.hid rfl, ?_, (Below.refl _ _).alloc (Nat.le_refl _) _⟩
        exact World.ownsRow_made w _ T (Nat.zero_le _) (by simp only [maxLen]; omega) (by rw [bvs_size, zeros_len]; omega)
      case round =>
        obtain ⟨j, hj, rfl, m, rfl, hm, hown, hb⟩ := hrel
        by_cases hlt : j < k
        · obtain ⟨b, o, l, Aj, nj, cj, rfl, hb', hx, hc, hr⟩ := (hL.below (hb.mono hB)).at' hlt
          have hs := flat_step hx
          have hfl2 := flat_le L (j + 1)
          rw [hT.out] at hfl2
          have hrl := hr.len
          have hsl : m + nj ≤ T := by rw [hs, List.length_append] at hfl2; have := hm.out; omega
          have HS := Lib.hid hs
          have HX := Lib.hid hx
          have HR := Lib.hid hrl
          clear hs hx hfl2 hrl hfl
          go_wp2_with (at_builtin; refine wpList_app_fit rfl (.tmp 28) (.tmp 29) 23 rfl 5 Try.underlying23 info_u8 0 w.heap.size m T (flat L j) rfl hm hown B nj cj Aj l rfl hr hsl ?_; intro w1 hown1 hg1)
          go_roundw
          case rel =>
            refine ⟨j + 1, by omega, by go_num, m + nj, rfl, ?_, ?_, hb.grown hg1 hb.size (by intro g hg; injection hg with hg; omega)⟩
            · exact Lib.hid (by rw [HS.out, List.length_append, HR.out, hm.out])
            · rw [HS.out]; exact hown1
          case measure => simp [intOf]; omega
        · obtain rfl : j = k := by omega
          rw [flat_all hL.len] at hm hown
          obtain rfl : m = T := by rw [← hT.out, ← hm.out]
          go_wp2_with (fail)
          go_ret
          refine ⟨rfl, ?_, hb⟩
          rcases hown.2 with ⟨h0, _⟩ | ⟨g, cap, cur, h0, _, hh, _, _, hcs, htk⟩
          · cases h0
          · injection h0 with h0 h1 h2
            injection h0 with h0
            injection h0 with h0
            subst h0 h2
            have : cur = bvs L.flatten := by
              apply Array.toList_inj.1
              have h3 : cur.toList.length ≤ L.flatten.length * 1 := by rw [Array.length_toList, hcs, hT.out]; exact Nat.le_refl _
              rw [List.take_of_length_le h3] at htk
              rw [htk]
              simp [bvs]
            rw [← this]
            exact hh

/-! Blob: the length in two bytes, then the bytes. -/
def blob (l : List UInt8) : List UInt8 := be l.length 2 ++ l
theorem blob_len (l : List UInt8) : (blob l).length = 2 + l.length := by simp [blob, be_len]
/-- A call that hands back a slice of bytes of its own. -/
def OutB (e8 : TypeId) (l : List UInt8) (w : World) (e : Ending) (w' : World) : Prop := ∃ v, e = .returned v ∧ OwnB w' w.heap.size e8 v l ∧ Below w.heap.size w w'
theorem size_alloc (w : World) (o : Obj) : (w.alloc o).heap.size = w.heap.size + 1 := by simp
theorem room_two (n : Nat) : roomB n 2 = decide (n < 65536) := rfl

/-- Two slices of bytes in a new block read as a list of two. -/
theorem rs_two {w : World} {B : Nat} {A1 A2 : Option Addr} {n1 n2 c1 c2 : Nat} {l1 l2 : List UInt8} (h1 : BS w B A1 n1 c1 l1) (h2 : BS w B A2 n2 c2 l2) (hB : B ≤ w.heap.size) (t : TypeId) :
    RS (w.alloc (.cells #[.slice A1 n1 c1, .slice A2 n2 c2] t)) (w.heap.size + 1) (some ⟨w.heap.size, 0, none⟩) 2 2 [l1, l2] := by
  have hb := Blk.new w t #[.slice A1 n1 c1, .slice A2 n2 c2]
  refine ⟨rfl, fun _ => ⟨w.heap.size, 0, rfl, by omega, fun j l hl => ?_⟩⟩
  match j, hl with
  | 0, hl =>
    obtain rfl : l1 = l := by simpa using hl
    exact ⟨A1, n1, c1, by rw [hb.cell]; rfl, (h1.alloc hB _).more (by omega)⟩
  | 1, hl =>
    obtain rfl : l2 = l := by simpa using hl
    exact ⟨A2, n2, c2, by rw [hb.cell]; rfl, (h2.alloc hB _).more (by omega)⟩
theorem rs_one {w : World} {B : Nat} {A1 : Option Addr} {n1 c1 : Nat} {l1 : List UInt8} (h1 : BS w B A1 n1 c1 l1) (hB : B ≤ w.heap.size) (t : TypeId) :
    RS (w.alloc (.cells #[.slice A1 n1 c1] t)) (w.heap.size + 1) (some ⟨w.heap.size, 0, none⟩) 1 1 [l1] := by
  have hb := Blk.new w t #[.slice A1 n1 c1]
  refine ⟨rfl, fun _ => ⟨w.heap.size, 0, rfl, by omega, fun j l hl => ?_⟩⟩
  match j, hl with
  | 0, hl =>
    obtain rfl : l1 = l := by simpa using hl
    exact ⟨A1, n1, c1, by rw [hb.cell]; rfl, (h1.alloc hB _).more (by omega)⟩

theorem put2_no (n : Nat) (w : World) (hn : n < 18446744073709551616) (hr : roomB n 2 = false) :
    Calls Try.prog 9 #[.int .u64 n, .int .i64 2] w fun e w' => e = .returned (.tuple #[.slice none 0 0, .int .i64 2]) ∧ w = w' := put_no n 2 w (by omega) (by omega) hn hr
theorem put2_ok (n : Nat) (w : World) (hn : n < 18446744073709551616) (hr : roomB n 2 = true) :
    Calls Try.prog 9 #[.int .u64 n, .int .i64 2] w fun e w' => e = .returned (.tuple #[.slice (some ⟨w.heap.size, 0, none⟩) 2 2, .int .i64 0]) ∧ Blk w' w.heap.size 5 (bvs (be n 2)) ∧ Below w.heap.size w w' := put_ok n 2 w (by omega) (by omega) hn hr
theorem rput2_ok (n : Nat) (w : World) (hn : n < 18446744073709551616) :
    Calls Try.prog 13 #[.int .u64 n, .int .i64 2] w fun e w' => e = .returned (.slice (some ⟨w.heap.size, 0, none⟩) 2 2) ∧ Blk w' w.heap.size 5 (bvs (be n 2)) ∧ Below w.heap.size w w' := rput_ok n 2 w (by omega) hn

set_option maxHeartbeats 400000 in
theorem blob_no (A : Option Addr) (n c : Nat) (w : World) (h1 : 65535 < n) (h2 : n ≤ 1000000000) :
    Calls Try.prog 16 #[.slice A n c] w fun e w' => e = .returned (.tuple #[.slice none 0 0, .int .i64 3]) ∧ w = w' := by
  have hr : roomB n 2 = false := by rw [room_two]; simp; omega
  have HR := Lib.hid hr
  clear hr
  go_enter Try.func16, Try.ntmps16
  go_wp2_with (fail)
  refine (put2_no _ _ (by omega) HR.out).mono ?_
  rintro e w' ⟨rfl, rfl⟩
  go_wp2_with (fail)
  go_ret2
  exact ⟨rfl, rfl⟩
set_option maxHeartbeats 400000 in
theorem blob_ok (A : Option Addr) (n c B : Nat) (l : List UInt8) (w : World) (hl : BS w B A n c l) (hB : B ≤ w.heap.size) (h1 : n ≤ 65535) :
    Calls Try.prog 16 #[.slice A n c] w fun e w' => ∃ g, e = .returned (.tuple #[.slice (some ⟨g, 0, none⟩) (2 + n) (2 + n), .int .i64 0]) ∧ w.heap.size ≤ g ∧ Blk w' g 5 (bvs (blob l)) ∧ Below w.heap.size w w' := by
  have hr : roomB n 2 = true := by rw [room_two]; simp; omega
  have HR := Lib.hid hr
  clear hr
  go_enter Try.func16, Try.ntmps16
  go_wp2_with (fail)
  refine (put2_ok _ _ (by omega) HR.out).mono ?_
  rintro e w1 ⟨rfl, hb1, hw1⟩
  go_wp2_with (fail)
  have hs1 := hb1.lt
  have hrs := rs_two (w := w1) (BS.ofBlk hb1 2 (by rw [be_len]) (w.heap.size + 1) (by omega)) ((hl.below (hw1.mono hB)).more (B' := w.heap.size + 1) (by omega)) (by omega) 23
  refine (join_ok _ 2 2 _ _ (2 + n) _ hrs (by simp) (by omega) (Lib.hid (by simp [be_len, hl.len])) (by omega)).mono ?_
  rintro e w2 ⟨rfl, hb2, hw2⟩
  go_wp2_with (fail)
  go_ret2
  rw [size_alloc] at hb2 hw2
  refine ⟨_, rfl, by omega, ?_, ?_⟩
  · have e : [be n 2, l].flatten = blob l := by simp [blob, hl.len]
    rw [← e]
    exact hb2
  · exact (hw1.alloc (by omega) _).trans (hw2.mono (by omega))
set_option maxHeartbeats 400000 in
theorem rblob_ok (A : Option Addr) (n c B : Nat) (l : List UInt8) (w : World) (hl : BS w B A n c l) (hB : B ≤ w.heap.size) (h1 : n ≤ 65535) :
    Calls Try.prog 19 #[.slice A n c] w fun e w' => OutB 5 (blob l) w e w' := by
  go_enter Try.func19, Try.ntmps19
  go_wp2_with (fail)
  refine (rput2_ok _ _ (by omega)).mono ?_
  rintro e w1 ⟨rfl, hb1, hw1⟩
  have hs1 := hb1.lt
  have hown := OwnB.ofBlk (base := w.heap.size) hb1 2 (by rw [be_len]) (by simp only [maxLen]; omega) (Nat.le_refl _)
  go_wp2_with (at_builtin; refine wpList_app_own rfl (.tmp 6) (.tmp 7) 23 rfl 5 Try.underlying23 info_u8 w.heap.size (.slice (some ⟨w.heap.size, 0, none⟩) 2 2) (be n 2) rfl hown B n c A l rfl (hl.below (hw1.mono hB)) (by rw [be_len]; omega) (by omega) ?_; intro v2 w2 hown2 hg2 hat2)
  go_ret
  have e : be n 2 ++ l = blob l := by simp [blob, hl.len]
  rw [e] at hown2
  exact ⟨v2, rfl, hown2, hw1.grown hg2 hw1.size (by intro g hg; simp [Value.ownBlock] at hg; omega)⟩
end Go.Proofs.Ytfjjpepnadcaaaa
